/- placesWhere: the places of a roof for which a function value answers true. -/
import Derived.Test.YtgdhfcpmeaeioaaRowT
import Derived.Test.YtgdhfcpmeaeioaaLift
import Derived.Test.YtgdhfcpmeaeioaaGive
namespace Go.Proofs.Ytgdhfcpmeaeioaa
open Go.RowKit Go.Shelf
attribute [local go_sem] Oper.semAt_some

theorem A_infoPw : (Try.prog.info? 65).map (fun i => (i.zero, i.size, i.bytes)) = some (some (.agg #[.int .i8 0, .int .i8 0]), 2, 2) := by kernel_rfl
/-- Of some places those that are as told. -/
def fltW (p : Nat → Nat → Bool) {h w : Nat} (l : List (Pl h w)) : List (Pl h w) := l.filter fun x => p x.1.1 x.1.2
theorem fltW_hit {p : Nat → Nat → Bool} {h w : Nat} {l : List (Pl h w)} {x : Pl h w} (e : p x.1.1 x.1.2 = true) : fltW p (l ++ [x]) = fltW p l ++ [x] := by simp [fltW, e]
theorem fltW_miss {p : Nat → Nat → Bool} {h w : Nat} {l : List (Pl h w)} {x : Pl h w} (e : p x.1.1 x.1.2 = false) : fltW p (l ++ [x]) = fltW p l := by simp [fltW, e]
theorem fltW_len {p : Nat → Nat → Bool} {h w : Nat} (l : List (Pl h w)) : (fltW p l).length ≤ l.length := List.length_filter_le _ _
/-- A predicate on places as a function value, within h courses of w tiles. -/
def PredW (g : FuncId) (la lb : Array Value) (p : Nat → Nat → Bool) (w : World) : Prop :=
  ∀ (i j : Nat) W, i < 8 → j < 8 → Below w.heap.size w W → Calls Try.prog g (la ++ #[.agg #[.int .i8 i, .int .i8 j]] ++ lb) W fun e w' => e = .returned (.bool (p i j)) ∧ Below W.heap.size W w'
theorem PredW.later {g : FuncId} {la lb : Array Value} {p : Nat → Nat → Bool} {w w' : World} (h : PredW g la lb p w) (b : Below w.heap.size w w') : PredW g la lb p w' :=
  fun i j W hi hj B => h i j W hi hj (bnext b B b.size)
/-- A list's room. -/
def CapW (v : Value) (n : Nat) : Prop := ∃ a cap, v = .slice a n cap ∧ n ≤ cap ∧ cap ≤ maxLen
theorem CapW.of_pls {w : World} {base : Nat} {e : TypeId} {v : Value} {n : Nat} {xs : List Value} (o : w.ownsRow base e 2 v n xs) : CapW v n := by
  obtain ⟨hl, h | ⟨g, cap, cur, rfl, hg, hh, hn, hm, hs, ht⟩⟩ := o
  · exact ⟨none, 0, by rw [h.1, h.2], by omega, by unfold maxLen; omega⟩
  · exact ⟨_, cap, rfl, hn, hm⟩
def GivesW (w : World) {h ww : Nat} (l : List (Pl h ww)) (e : Ending) (w' : World) : Prop :=
  ∃ v, e = .returned v ∧ IsList w' w.heap.size v 2 l.length (fun i => .int .i8 (plAt l i)) ∧ Below w.heap.size w w' ∧ CapW v l.length
theorem GivesW.gives {w : World} {h ww : Nat} {l : List (Pl h ww)} {e : Ending} {w' : World} (g : GivesW w l e w') : GivesP w l e w' := let ⟨v, h1, h2, h3, _⟩ := g; ⟨v, h1, h2, h3⟩

end Go.Proofs.Ytgdhfcpmeaeioaa
