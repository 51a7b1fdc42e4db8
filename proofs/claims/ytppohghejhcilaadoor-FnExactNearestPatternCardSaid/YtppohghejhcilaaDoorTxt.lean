/- Texts of colours: rows of letters, each with its line's end. -/
import Derived.Test.YtppohghejhcilaaDoorBits
import Derived.Test.YtppohghejhcilaaDoorNums
import Derived.Test.YtppohghejhcilaaDoorProg
namespace Go.Proofs.YtppohghejhcilaaDoor
open Go.RowKit

def bitB (n j : Nat) : UInt8 := if n.testBit j then 114 else 98
def rowTx (n : Nat) : Nat → List UInt8
  | 0 => []
  | k + 1 => rowTx n k ++ [bitB n k]
def colTx (g : Nat → Nat) (w : Nat) : Nat → List UInt8
  | 0 => []
  | i + 1 => colTx g w i ++ rowTx (g i) w ++ [10]
theorem rowTx_len (n : Nat) : ∀ k, (rowTx n k).length = k
  | 0 => rfl
  | k + 1 => by simp [rowTx, rowTx_len n k]
theorem colTx_len (g : Nat → Nat) (w : Nat) : ∀ i, (colTx g w i).length = i * (w + 1)
  | 0 => by simp [colTx]
  | i + 1 => by simp only [colTx, List.length_append, List.length_singleton, colTx_len g w i, rowTx_len]; rw [Nat.add_mul]; omega
theorem and8_num : ∀ (s : Fin 256) (k : Fin 8), bits BinOp.and IntKind.u8 (((s.val : Nat) : Int) / 2 ^ k.val) 1 = if s.val.testBit k.val then 1 else 0 := by decide +kernel
theorem bit_tm (n k : Nat) : (((n : Int) / 2 ^ k).tmod 2 == 1) = n.testBit k := by
  have e : ((n : Int) / 2 ^ k).tmod 2 = ((n / 2 ^ k % 2 : Nat) : Int) := by
    rw [Int.tmod_eq_emod_of_nonneg (Int.ediv_nonneg (by omega) (Int.pow_nonneg (by omega)))]
    push_cast; rfl
  rw [e, Nat.testBit_eq_decide_div_mod_eq, Bool.eq_iff_iff, beq_iff_eq, decide_eq_true_eq]
  omega
theorem add_one {W : World} (l : List UInt8) (b : UInt8) (h : l.length ≤ 1000000) : (Op.stringOp .add (⟨l.toArray⟩ : ByteArray) ⟨#[b]⟩).run Tryd.prog W = .ok (.string ⟨(l ++ [b]).toArray⟩) W :=
  run_string_add_lists (P := Tryd.prog) W l [b] (by omega) (by simp)
/-- A text that is nowhere longer than some. -/
theorem txt_size (l : List UInt8) : (⟨l.toArray⟩ : ByteArray).size = l.length := by simp [ByteArray.size]
theorem txt_add (l m : List UInt8) : (⟨l.toArray⟩ : ByteArray) ++ ⟨m.toArray⟩ = ⟨(l ++ m).toArray⟩ := by
  apply ByteArray.ext
  simp
/-- The mark of a kind; the marks of a row. -/
def mark (k : Nat) : UInt8 := if k = 0 then 46 else if k = 1 then 120 else if k = 2 then 115 else 111
def kindTx (K : Nat → Nat) : Nat → List UInt8
  | 0 => []
  | k + 1 => kindTx K k ++ [mark (K k)]
theorem kindTx_len (K : Nat → Nat) : ∀ k, (kindTx K k).length = k
  | 0 => rfl
  | k + 1 => by simp [kindTx, kindTx_len K k]
theorem kindTx_get (K : Nat → Nat) : ∀ n j (h : j < (kindTx K n).length), (kindTx K n)[j] = mark (K j)
  | 0, j, h => by simp [kindTx] at h
  | n + 1, j, h => by
    have hl := kindTx_len K n
    have h' : j < n + 1 := by rw [kindTx_len] at h; exact h
    by_cases e : j < n
    · simp only [kindTx, List.getElem_append_left (show j < (kindTx K n).length by omega)]
      exact kindTx_get K n j (by omega)
    · obtain rfl : j = n := by omega
      simp only [kindTx]
      rw [List.getElem_append_right (by omega)]
      simp [hl]
theorem mark_cases {k : Nat} (h : k ≤ 3) : k = 0 ∧ mark k = 46 ∨ k = 1 ∧ mark k = 120 ∨ k = 2 ∧ mark k = 115 ∨ k = 3 ∧ mark k = 111 := by
  have : k = 0 ∨ k = 1 ∨ k = 2 ∨ k = 3 := by omega
  rcases this with rfl | rfl | rfl | rfl
  · exact .inl ⟨rfl, rfl⟩
  · exact .inr (.inl ⟨rfl, rfl⟩)
  · exact .inr (.inr (.inl ⟨rfl, rfl⟩))
  · exact .inr (.inr (.inr ⟨rfl, rfl⟩))
end Go.Proofs.YtppohghejhcilaaDoor
