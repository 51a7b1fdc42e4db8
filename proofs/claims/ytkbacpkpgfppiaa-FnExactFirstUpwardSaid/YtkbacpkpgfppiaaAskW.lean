/- Chapter 4: checkWork and what calls it. -/
import Derived.Test.YtkbacpkpgfppiaaAskI
import Derived.Test.YtkbacpkpgfppiaaHasA
namespace Go.Proofs.Ytkbacpkpgfppiaa
open Go.RowKit

theorem outB_cell {r : Rf} {x : Int} : outB x 0 (2 * r.w) = false ↔ r.inC x := by unfold outB Rf.inC; simp
theorem Rf.anyC {r : Rf} {g : Nat → Int} {m : Nat} : anyI (fun i => outB (g i) 0 (2 * r.w)) m = !(r.ocB g m) := by
  by_cases h : r.okC g m
  · rw [Rf.ocB_t h]
    exact anyI_f.2 fun j hj => outB_cell.2 (h j hj)
  · rw [Rf.ocB_f h]
    cases hq : anyI (fun i => outB (g i) 0 (2 * r.w)) m with
    | true => rfl
    | false => exact absurd (fun j hj => outB_cell.1 (anyI_f.1 hq j hj)) h

set_option maxHeartbeats 400000 in
theorem cellNumber_any (c : Array Value) (r : Rf) (x : Int) (w : World) (hR : IsRoof c r) :
    Calls Try.prog 91 #[.agg c, .int .i64 x] w fun e w' => e = .returned (.agg #[.int .i64 x, .int .i64 0, .int .i64 (2 * r.w)]) ∧ Below w.heap.size w w' := by
  have w0 := hR.w0
  have w1 := hR.w1
  have hc := hR.size
  go_enter Try.func91, Try.ntmps91
  go_wp2_with fail
  refine (across_any c r _ hR).mono ?_
  rintro e w1 ⟨rfl, b1⟩
  have q1 := brow b1 (rowAt_alloc_at _ #[.int .i64 0, .int .i64 0, .int .i64 0] 75 _ rfl)
  obtain ⟨v1, v2, v3, v4⟩ := bview b1
  have B1 : Below w.heap.size w w1 := (((Below.refl _ _).alloc (Nat.le_refl _) _).alloc (by simp) _).trans (b1.mono (by simp <;> omega))
  clear b1
  go_wp2_with fail
  refine bodyPost_ret (v := .agg #[.int .i64 x, .int .i64 0, .int .i64 (2 * r.w)]) (by simp [results, Try.results91, go_sem, v2]) rfl ⟨rfl, ?_⟩
  exact ((B1.setCell (p := ⟨_, _, none⟩) (by simp <;> omega) _).setCell (p := ⟨_, _, none⟩) (by simp <;> omega) _).setCell (p := ⟨_, _, none⟩) (by simp <;> omega) _

/-- Whether a number is no cell, as checkWork's closure asks. -/
theorem noCell_pred (B : Nat) (c : Array Value) (r : Rf) (w : World) (hr : rowAt w B = some c) (hR : IsRoof c r) :
    PredI 90 #[.pointer (some ⟨B, 0, none⟩)] (fun x => outB x 0 (2 * r.w)) w := fun x W hb => by
  have q := brow hb hr
  have hc := hR.size
  show Calls Try.prog 90 #[.int .i64 x, .pointer (some ⟨B, 0, none⟩)] W _
  go_enter Try.func90, Try.ntmps90
  go_wp2_with fail
  refine (cellNumber_any c r x _ hR).mono ?_
  rintro e w1 ⟨rfl, b1⟩
  go_wp2_with fail
  refine (isOutside_any _ _ _ _).mono ?_
  rintro e w2 ⟨rfl, b2⟩
  have B2 := bnext b1 b2 b1.size
  clear b1 b2
  go_wp2_with fail
  go_ret
  exact ⟨rfl, B2⟩

end Go.Proofs.Ytkbacpkpgfppiaa
