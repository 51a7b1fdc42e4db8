/- Contracts on replacing a tile. -/
import Derived.Test.YtoibolmippfcgaaCourse
import Derived.Test.YtoibolmippfcgaaEnd
import Derived.Test.YtoibolmippfcgaaRset
import Derived.Deep.RegionHeld3
import Derived.StillTailTactics
namespace Go.Proofs.Ytoibolmippfcgaa
open Go.RowKit

theorem l01Kind_q (k : Int) (w : World) :
    Calls Try.prog 40 #[.int .i64 k] w fun e w' => e = .returned (.bool (inB k 0 3)) ∧ w = w' := l01Kind_any k w

set_option maxHeartbeats 400000 in
theorem checkKind_any (c : Array Value) (r : Rf) (k : Int) (w : World) (hR : IsRoof c r) :
    Calls Try.prog 43 #[.agg c, .int .i64 k] w fun e w' => e = .returned (.int .i64 (r.told (inB k 0 3))) ∧ Below w.heap.size w w' := by
  have hc := hR.size
  by_cases ho : r.Ok
  · by_cases x0 : k < 0
    · rw [inB_false (by omega), Rf.told_out ho]
      go_enter Try.func43, Try.ntmps43
      go_wp2_with fail
      refine (implValid_t c r _ hR ho).mono ?_
      rintro e w1 ⟨rfl, b1⟩
      have B1 : Below w.heap.size w w1 := ((Below.refl _ _).alloc (Nat.le_refl _) _).trans (b1.mono (by simp))
      clear b1
      go_wp2_with fail
      go_ret
      exact ⟨rfl, B1⟩
    · by_cases x1 : 3 < k
      · rw [inB_false (by omega), Rf.told_out ho]
        go_enter Try.func43, Try.ntmps43
        go_wp2_with fail
        refine (implValid_t c r _ hR ho).mono ?_
        rintro e w1 ⟨rfl, b1⟩
        have B1 : Below w.heap.size w w1 := ((Below.refl _ _).alloc (Nat.le_refl _) _).trans (b1.mono (by simp))
        clear b1
        go_wp2_with fail
        go_ret
        exact ⟨rfl, B1⟩
      · rw [inB_true (by omega), Rf.told_in ho]
        go_enter Try.func43, Try.ntmps43
        go_wp2_with fail
        refine (implValid_t c r _ hR ho).mono ?_
        rintro e w1 ⟨rfl, b1⟩
        have B1 : Below w.heap.size w w1 := ((Below.refl _ _).alloc (Nat.le_refl _) _).trans (b1.mono (by simp))
        clear b1
        go_wp2_with fail
        go_ret
        exact ⟨rfl, B1⟩
  · rw [Rf.told_no ho]
    go_enter Try.func43, Try.ntmps43
    go_wp2_with fail
    refine (implValid_f c r _ hR ho).mono ?_
    rintro e w1 ⟨rfl, b1⟩
    have B1 : Below w.heap.size w w1 := ((Below.refl _ _).alloc (Nat.le_refl _) _).trans (b1.mono (by simp))
    clear b1
    go_wp2_with fail
    go_ret
    exact ⟨rfl, B1⟩

theorem ask_split {r : Rf} {a b : Int} {fine : Bool} : r.ask a b fine = if r.ask a b true = 0 then r.told fine else r.ask a b true := by
  unfold Rf.ask Rf.told
  by_cases h : r.ok = true
  · by_cases h2 : r.isB a b = true
    · simp [h, h2]
    · simp [h, h2]
  · simp [h]

end Go.Proofs.Ytoibolmippfcgaa
