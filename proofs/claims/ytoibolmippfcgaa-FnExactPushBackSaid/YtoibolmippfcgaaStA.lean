/- SetTile: both sides by one answer. -/
import Derived.Test.YtoibolmippfcgaaSetTile
namespace Go.Proofs.Ytoibolmippfcgaa
open Go.RowKit

noncomputable def stA (c : Array Value) (r : Rf) (a b k : Int) : Array Value := if r.ask a b (inB k 0 3) = 0 then c.setIfInBounds (3 + (a.toNat * 8 + b.toNat)) (.int .u8 k) else Try.zeroCells29
noncomputable def stR (r : Rf) (a b k : Int) : Rf := if r.ask a b (inB k 0 3) = 0 then r.set (a.toNat * 8 + b.toNat) k else ⟨0, 0, 0, fun _ => 0⟩
theorem inB_of {n lo hi : Int} (h : inB n lo hi = true) : lo ≤ n ∧ n ≤ hi := by simpa [inB] using h
theorem stA_is {c : Array Value} {r : Rf} (hR : IsRoof c r) (a b k : Int) : IsRoof (stA c r a b k) (stR r a b k) := by
  unfold stA stR
  split
  · rename_i h
    obtain ⟨ho, hp, hf⟩ := Rf.ask_zero h
    have := inB_of hf
    have h8 := ho.2.2.2.1
    have w8 := ho.2.1
    exact hR.set _ (by omega) k (by omega)
  · exact zroof_is

end Go.Proofs.Ytoibolmippfcgaa
