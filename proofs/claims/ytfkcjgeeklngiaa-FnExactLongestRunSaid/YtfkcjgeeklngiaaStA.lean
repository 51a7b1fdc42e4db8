/- SetTile: both sides by one answer. -/
import Derived.Test.YtfkcjgeeklngiaaSetTile
namespace Go.Proofs.Ytfkcjgeeklngiaa
open Go.RowKit

noncomputable def stA (c : Array Value) (r : Rf) (a b k : Int) : Array Value := if r.ask a b (inB k 0 3) = 0 then c.setIfInBounds (3 + (a.toNat * 8 + b.toNat)) (.int .u8 k) else Try.zeroCells33
noncomputable def stR (r : Rf) (a b k : Int) : Rf := if r.ask a b (inB k 0 3) = 0 then r.set (a.toNat * 8 + b.toNat) k else ⟨0, 0, 0, fun _ => 0⟩
theorem inB_of {n lo hi : Int} (h : inB n lo hi = true) : lo ≤ n ∧ n ≤ hi := by simpa [inB] using h
theorem stA_is {c : Array Value} {r : Rf} (hR : IsRoof c r) (a b k : Int) : IsRoof (stA c r a b k) (stR r a b k) := by
  unfold stA stR
  split
  · rename_i h
    obtain ⟨ho, hp, hf⟩ := Rf.ask_zero h
    have := inB_of hf
    have h8 := ho.2.2.2.1
    have w8 := ho.2.1
    exact hR.set _ (by omega) k (by omega)
  · exact zroof_is

theorem specSetTile_any (c : Array Value) (r : Rf) (a b k : Int) (w : World) (hR : IsRoof c r) (ha : -128 ≤ a ∧ a ≤ 127) (hb : -128 ≤ b ∧ b ≤ 127) :
    Calls Try.prog 26 #[.agg c, .agg #[.int .i8 a, .int .i8 b], .int .i64 k] w fun e w' => e = .returned (.tuple #[.agg (stA c r a b k), .int .i64 (r.ask a b (inB k 0 3))]) ∧ Below w.heap.size w w' := by
  by_cases h : r.ask a b (inB k 0 3) = 0
  · obtain ⟨ho, hp, hf⟩ := Rf.ask_zero h
    have hk := inB_of hf
    obtain ⟨i, hi⟩ := Int.eq_ofNat_of_zero_le hp.1
    obtain ⟨j, hj⟩ := Int.eq_ofNat_of_zero_le hp.2.2.1
    have h8 := ho.2.2.2.1
    have w8 := ho.2.1
    have e : stA c r a b k = c.setIfInBounds (3 + (a.toNat * 8 + b.toNat)) (.int .u8 k) := by unfold stA; rw [if_pos h]
    rw [e, h]
    rw [hf] at h
    subst hi hj
    exact specSetTile_yes c r i j k w hR (by omega) (by omega) hk h
  · have e : stA c r a b k = Try.zeroCells33 := by unfold stA; rw [if_neg h]
    rw [e]
    exact specSetTile_no c r a b k w hR ha hb h

theorem implSetTile_any (c : Array Value) (r : Rf) (a b k : Int) (w : World) (hR : IsRoof c r) :
    Calls Try.prog 27 #[.agg c, .agg #[.int .i8 a, .int .i8 b], .int .i64 k] w fun e w' => e = .returned (.tuple #[.agg (stA c r a b k), .int .i64 (r.ask a b (inB k 0 3))]) ∧ Below w.heap.size w w' := by
  by_cases h : r.ask a b (inB k 0 3) = 0
  · obtain ⟨ho, hp, hf⟩ := Rf.ask_zero h
    have hk := inB_of hf
    obtain ⟨i, hi⟩ := Int.eq_ofNat_of_zero_le hp.1
    obtain ⟨j, hj⟩ := Int.eq_ofNat_of_zero_le hp.2.2.1
    have h8 := ho.2.2.2.1
    have w8 := ho.2.1
    have e : stA c r a b k = c.setIfInBounds (3 + (a.toNat * 8 + b.toNat)) (.int .u8 k) := by unfold stA; rw [if_pos h]
    rw [e, h]
    rw [hf] at h
    subst hi hj
    exact implSetTile_yes c r i j k w hR (by omega) (by omega) hk h
  · have e : stA c r a b k = Try.zeroCells33 := by unfold stA; rw [if_neg h]
    rw [e]
    exact implSetTile_no c r a b k w hR h
end Go.Proofs.Ytfkcjgeeklngiaa
