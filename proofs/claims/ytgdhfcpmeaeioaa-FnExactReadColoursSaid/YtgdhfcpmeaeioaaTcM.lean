/- Colours read from a text: what is read, and when. -/
import Derived.Test.YtgdhfcpmeaeioaaColV
import Derived.Test.YtgdhfcpmeaeioaaTxt
namespace Go.Proofs.Ytgdhfcpmeaeioaa
open Go.RowKit

def txB (T : List UInt8) (ww i j : Nat) : Bool := decide (T.getD (i * (ww + 1) + j) 0 = 114)
def Rf.txG (r : Rf) (T : List UInt8) : Nat → Nat := colL (txB T r.w.toNat) (plUpto r.h.toNat r.w.toNat (r.h.toNat * r.w.toNat))
def Rf.goodT (r : Rf) (T : List UInt8) : Prop := colTx (r.txG T) r.w.toNat r.h.toNat = T
open Classical in
noncomputable def Rf.rcC (r : Rf) (T : List UInt8) : Int := if r.ok = true then (if r.goodT T then 0 else 5) else 1
noncomputable def Rf.rcG (r : Rf) (T : List UInt8) : Nat → Nat := if r.rcC T = 0 then r.txG T else fun _ => 0
theorem rcC_ok {r : Rf} {T : List UInt8} (h : r.Ok) (g : r.goodT T) : r.rcC T = 0 := by unfold Rf.rcC; rw [if_pos (Rf.ok_true h), if_pos g]
theorem rcC_syn {r : Rf} {T : List UInt8} (h : r.Ok) (g : ¬ r.goodT T) : r.rcC T = 5 := by unfold Rf.rcC; rw [if_pos (Rf.ok_true h), if_neg g]
theorem rcC_bad {r : Rf} {T : List UInt8} (h : ¬ r.Ok) : r.rcC T = 1 := by unfold Rf.rcC; rw [if_neg (by rw [Rf.ok_false h]; decide)]
theorem rcG_ok {r : Rf} {T : List UInt8} (h : r.rcC T = 0) : r.rcG T = r.txG T := if_pos h
theorem rcG_no {r : Rf} {T : List UInt8} (h : r.rcC T ≠ 0) : r.rcG T = fun _ => 0 := if_neg h
theorem txG_lt {r : Rf} {T : List UInt8} (h : r.Ok) (i : Nat) : r.txG T i < 256 := colL_lt (by have := h.2.1; omega) _ i
theorem txG_cols {r : Rf} {T : List UInt8} (h : r.Ok) : r.Cols (r.txG T) := by
  refine ⟨h, fun i _ j hb => ?_⟩
  unfold Rf.txG at hb
  rw [colL_all] at hb
  simp only [Bool.and_eq_true, decide_eq_true_eq] at hb
  have := h.1; have := h.2.2.1
  omega
theorem rcG_lt {r : Rf} {T : List UInt8} : ∀ i, i < 8 → r.rcG T i < 256 := fun i _ => by
  by_cases h : r.rcC T = 0
  · rw [rcG_ok h]
    by_cases ho : r.Ok
    · exact txG_lt ho i
    · rw [rcC_bad ho] at h; cases h
  · rw [rcG_no h]; show 0 < 256; omega
theorem goodT_len {r : Rf} {T : List UInt8} (g : r.goodT T) : T.length = r.h.toNat * (r.w.toNat + 1) := by
  unfold Rf.goodT at g
  rw [← g, colTx_len]
theorem bytes_toList (s : ByteArray) : s.toList = s.data.toList := ByteArray.toList_eq s
end Go.Proofs.Ytgdhfcpmeaeioaa
