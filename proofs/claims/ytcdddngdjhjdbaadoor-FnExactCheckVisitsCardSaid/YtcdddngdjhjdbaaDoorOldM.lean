/- The oldest tile: mathematics; how old a tile is. -/
import Derived.Test.YtcdddngdjhjdbaaDoorAgeM
import Derived.Deep.QuietTactic
import Derived.BigQuiet
namespace Go.Proofs.YtcdddngdjhjdbaaDoor
open Go.RowKit

/-- The first of some places with the greatest number. -/
def oldP (t : Nat → Int) {h w : Nat} (l : List (Pl h w)) : Nat × Nat := l.foldl (fun b x => if t (b.1 * 8 + b.2) < t (ixP x) then x.1 else b) (0, 0)
theorem oldP_snoc {t : Nat → Int} {h w : Nat} {l : List (Pl h w)} {x : Pl h w} : oldP t (l ++ [x]) = if t ((oldP t l).1 * 8 + (oldP t l).2) < t (ixP x) then x.1 else oldP t l := by
  unfold oldP; rw [List.foldl_append]; rfl
theorem oldP_hit {t : Nat → Int} {h w : Nat} {l : List (Pl h w)} {x : Pl h w} (e : t ((oldP t l).1 * 8 + (oldP t l).2) < t (ixP x)) : oldP t (l ++ [x]) = x.1 := by rw [oldP_snoc, if_pos e]
theorem oldP_miss {t : Nat → Int} {h w : Nat} {l : List (Pl h w)} {x : Pl h w} (e : ¬ t ((oldP t l).1 * 8 + (oldP t l).2) < t (ixP x)) : oldP t (l ++ [x]) = oldP t l := by rw [oldP_snoc, if_neg e]
theorem oldP_in {t : Nat → Int} {h w : Nat} (hh : 0 < h) (hw : 0 < w) (l : List (Pl h w)) : (oldP t l).1 < h ∧ (oldP t l).2 < w := by
  refine rev_ind2 (P := fun l => (oldP t l).1 < h ∧ (oldP t l).2 < w) ⟨hh, hw⟩ (fun l x ih => ?_) l
  rw [oldP_snoc]
  split
  · exact x.2
  · exact ih
theorem oldP_one {t : Nat → Int} {h w : Nat} (hh : 0 < h) (hw : 0 < w) : oldP t (plUpto h w 1) = (0, 0) := by
  have e : plUpto h w 1 = [⟨(0, 0), hh, hw⟩] := by
    have := plUpto_succ (h := h) (w := w) (c := 0) (j := 0) hh hw
    simpa [plUpto] using this
  rw [e]
  show (if t (0 * 8 + 0) < t (ixP _) then _ else _) = _
  rw [if_neg (by show ¬ t (0 * 8 + 0) < t (0 * 8 + 0); omega)]
/-- Its number is the greatest. -/
theorem oldP_max {t : Nat → Int} {h w : Nat} (l : List (Pl h w)) : ∀ x ∈ l, t (ixP x) ≤ t ((oldP t l).1 * 8 + (oldP t l).2) := by
  refine rev_ind2 (P := fun l => ∀ x ∈ l, t (ixP x) ≤ t ((oldP t l).1 * 8 + (oldP t l).2)) (fun x hx => by cases hx) (fun l x ih y hy => ?_) l
  by_cases e : t ((oldP t l).1 * 8 + (oldP t l).2) < t (ixP x)
  · rw [oldP_hit e]
    rcases List.mem_append.1 hy with hy | hy
    · have := ih y hy
      exact Int.le_of_lt (Int.lt_of_le_of_lt this e)
    · obtain rfl := List.mem_singleton.1 hy
      exact Int.le_refl _
  · rw [oldP_miss e]
    rcases List.mem_append.1 hy with hy | hy
    · exact ih y hy
    · obtain rfl := List.mem_singleton.1 hy
      omega

set_option maxRecDepth 100000 in
set_option maxHeartbeats 1000000 in
theorem ageOf_any (d : Array Value) (t : Nat → Int) (i j : Nat) (w : World) (hA : IsU8 d 64 t) (hi : i < 8) (hj : j < 8) :
    Calls Tryd.prog 58 #[.agg d, .agg #[.int .i8 i, .int .i8 j]] w fun e w' => e = .returned (.int .i64 (t (i * 8 + j))) ∧ Below w.heap.size w w' := by
  obtain ⟨p0, p1, pB⟩ := two_boxes w d #[.int .i8 i, .int .i8 j] 32 79
  have hi64 : i * 8 + j < 64 := by omega
  have t0 := hA.lo _ hi64
  have t1 := hA.hi _ hi64
  have i0 : (0 : Int) ≤ i := by omega
  have i1 : (i : Int) < 8 := by omega
  have j0 : (0 : Int) ≤ j := by omega
  have j1 : (j : Int) < 8 := by omega
  have e1 : IntKind.i64.wrap (t (i * 8 + j)) = t (i * 8 + j) := IntWalk.i64_in _ (by omega)
  go_enter Tryd.func58, Tryd.ntmps58
  go_wp2_with fail
  refine gen_world fun W hW => ?_
  rw [← hW] at p0 p1 pB
  clear hW
  have c0 : W.cell? ⟨w.heap.size, i * 8 + j, none⟩ = some (.int .u8 (t (i * 8 + j))) := (cell_of_rowAt p0 _).trans (hA.isK.get hi64)
  have c1 := cell_of_rowAt p1 0
  have c2 := cell_of_rowAt p1 1
  simp at c1 c2
  clear p0 p1
  go_quiet (fail)
  go_wp2_with fail
  go_ret
  exact ⟨rfl, below_drewN pB _⟩

/-- A number of places as a function value: what it answers in every later world; it changes nothing old. -/
def NumPl (g : FuncId) (la lb : Array Value) (a : Nat → Int) (w : World) : Prop :=
  ∀ (i j : Nat) W, i < 8 → j < 8 → Below w.heap.size w W → Calls Tryd.prog g (la ++ #[.agg #[.int .i8 i, .int .i8 j]] ++ lb) W fun e w' => e = .returned (.int .i64 (a (i * 8 + j))) ∧ Below W.heap.size W w'
theorem ageOf_num (d : Array Value) (t : Nat → Int) (w : World) (hA : IsU8 d 64 t) : NumPl 58 #[.agg d] #[] t w := fun i j W hi hj _ => by simpa using ageOf_any d t i j W hA hi hj
end Go.Proofs.YtcdddngdjhjdbaaDoor
