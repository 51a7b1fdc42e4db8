/- Texts of colours: rows of letters, each with its line's end. -/
import Derived.Test.YtgdhfcpmeaeioaaBits
import Derived.Test.YtgdhfcpmeaeioaaNums
import Derived.Test.YtgdhfcpmeaeioaaProg
namespace Go.Proofs.Ytgdhfcpmeaeioaa
open Go.RowKit

def bitB (n j : Nat) : UInt8 := if n.testBit j then 114 else 98
def rowTx (n : Nat) : Nat → List UInt8
  | 0 => []
  | k + 1 => rowTx n k ++ [bitB n k]
def colTx (g : Nat → Nat) (w : Nat) : Nat → List UInt8
  | 0 => []
  | i + 1 => colTx g w i ++ rowTx (g i) w ++ [10]
theorem rowTx_len (n : Nat) : ∀ k, (rowTx n k).length = k
  | 0 => rfl
  | k + 1 => by simp [rowTx, rowTx_len n k]
theorem colTx_len (g : Nat → Nat) (w : Nat) : ∀ i, (colTx g w i).length = i * (w + 1)
  | 0 => by simp [colTx]
  | i + 1 => by simp only [colTx, List.length_append, List.length_singleton, colTx_len g w i, rowTx_len]; rw [Nat.add_mul]; omega
theorem and8_num : ∀ (s : Fin 256) (k : Fin 8), bits BinOp.and IntKind.u8 (((s.val : Nat) : Int) / 2 ^ k.val) 1 = if s.val.testBit k.val then 1 else 0 := by decide +kernel
theorem bit_tm (n k : Nat) : (((n : Int) / 2 ^ k).tmod 2 == 1) = n.testBit k := by
  have e : ((n : Int) / 2 ^ k).tmod 2 = ((n / 2 ^ k % 2 : Nat) : Int) := by
    rw [Int.tmod_eq_emod_of_nonneg (Int.ediv_nonneg (by omega) (Int.pow_nonneg (by omega)))]
    push_cast; rfl
  rw [e, Nat.testBit_eq_decide_div_mod_eq, Bool.eq_iff_iff, beq_iff_eq, decide_eq_true_eq]
  omega
theorem add_one {W : World} (l : List UInt8) (b : UInt8) (h : l.length ≤ 1000000) : (Op.stringOp .add (⟨l.toArray⟩ : ByteArray) ⟨#[b]⟩).run Try.prog W = .ok (.string ⟨(l ++ [b]).toArray⟩) W :=
  run_string_add_lists (P := Try.prog) W l [b] (by omega) (by simp)
/-- A text that is nowhere longer than some. -/
theorem txt_size (l : List UInt8) : (⟨l.toArray⟩ : ByteArray).size = l.length := by simp [ByteArray.size]
theorem txt_add (l m : List UInt8) : (⟨l.toArray⟩ : ByteArray) ++ ⟨m.toArray⟩ = ⟨(l ++ m).toArray⟩ := by
  apply ByteArray.ext
  simp
end Go.Proofs.Ytgdhfcpmeaeioaa
