/- A call that makes a gutter and tells some numbers beside; the answers of a gutter's check. -/
import Derived.Test.YtcdddngdjhjdbaaGutV
namespace Go.Proofs.Ytcdddngdjhjdbaa
open Go.RowKit
def GivesGutT (w : World) (g : Gt) (rest : List Value) (e : Ending) (w' : World) : Prop :=
  ∃ c v, e = .returned (.tuple (.agg c :: rest).toArray) ∧ IsGut c g v ∧ IsList w' w.heap.size v 2 g.m (pipeV g.p) ∧ Below w.heap.size w w'
theorem below_of_eqG {w w' : World} (h : w' = w) : Below w.heap.size w w' := by rw [h]; exact Below.refl _ _

theorem l06Ok_any (k b : Nat) (c : Array Value) (g : Gt) (v : Value) (w : World) (hA : GutAt w k c g v b) (hm : g.m ≤ 2000000) :
    Calls Try.prog 45 #[.pointer (some ⟨k, 0, none⟩)] w fun e w' => e = .returned (.bool g.ok) ∧ Below w.heap.size w w' := by
  by_cases h : 1 ≤ g.n ∧ g.n ≤ 17
  rotate_left
  · rw [Gt.ok_f (fun o => h ⟨o.n1, o.n17⟩)]; exact l06Ok_a k b c g v w hA h
  by_cases h2 : 0 ≤ g.d ∧ g.d ≤ 1000
  rotate_left
  · rw [Gt.ok_f (fun o => h2 ⟨o.d0, o.d1⟩)]; exact l06Ok_b k b c g v w hA h h2
  cases h3 : g.lvB with
  | false => rw [Gt.ok_f (fun o => by rw [o.lv] at h3; cases h3)]; exact l06Ok_c k b c g v w hA h h2 h3
  | true =>
    by_cases h4 : g.m ≤ 4
    · exact l06Ok_e k b c g v w hA h h2 h3 h4
    · rw [Gt.ok_f (fun o => h4 o.m4)]; exact l06Ok_d k b c g v w hA h h2 h3 h4 hm
theorem gutAt_box {b : Nat} {c : Array Value} {g : Gt} {v : Value} {w : World} (hG : IsGut c g v) (hv : IsList w b v 2 g.m (pipeV g.p)) :
    GutAt (w.alloc (.cells c 54)) w.heap.size c g v b :=
  ⟨rowAt_alloc_at _ _ _ _ rfl, hG, hv.below ((Below.refl _ _).alloc (Nat.le_refl _) _) (Nat.le_refl _)⟩

end Go.Proofs.Ytcdddngdjhjdbaa
