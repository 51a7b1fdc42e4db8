/- Colours read from a text: the lines of a good text. -/
import Derived.Test.YtgdhfcpmeaeioaaTcM
import Derived.Test.YtgdhfcpmeaeioaaSplt
namespace Go.Proofs.Ytgdhfcpmeaeioaa
open Go.RowKit

def bitsUp (l : List UInt8) : Nat → Nat
  | 0 => 0
  | k + 1 => if l.getD k 0 = 114 then bitsUp l k ||| 2 ^ k else bitsUp l k
theorem bitsUp_bit (l : List UInt8) (j : Nat) : ∀ k, (bitsUp l k).testBit j = (decide (j < k) && decide (l.getD j 0 = 114))
  | 0 => by simp [bitsUp]
  | k + 1 => by
    unfold bitsUp
    by_cases h : l.getD k 0 = 114
    · rw [if_pos h, bit8_or, bitsUp_bit l j k, Bool.eq_iff_iff]
      simp only [Bool.or_eq_true, Bool.and_eq_true, decide_eq_true_eq]
      constructor
      · rintro (⟨a, b⟩ | rfl)
        · exact ⟨by omega, b⟩
        · exact ⟨by omega, h⟩
      · rintro ⟨a, b⟩
        by_cases e : k = j
        · exact .inr e
        · exact .inl ⟨by omega, b⟩
    · rw [if_neg h, bitsUp_bit l j k, Bool.eq_iff_iff]
      simp only [Bool.and_eq_true, decide_eq_true_eq]
      constructor
      · rintro ⟨a, b⟩; exact ⟨by omega, b⟩
      · rintro ⟨a, b⟩
        refine ⟨?_, b⟩
        rcases Nat.lt_or_ge j k with e | e
        · exact e
        · obtain rfl : j = k := by omega
          exact absurd b h
theorem bitsUp_lt (l : List UInt8) {k : Nat} (hk : k ≤ 8) : bitsUp l k < 256 := by
  refine Nat.lt_pow_two_of_testBit (n := 8) _ fun i hi => ?_
  rw [bitsUp_bit]
  simp; omega
theorem rowTx_get (n : Nat) : ∀ k j (h : j < (rowTx n k).length), (rowTx n k)[j] = bitB n j
  | 0, j, h => by simp [rowTx] at h
  | k + 1, j, h => by
    have hl := rowTx_len n k
    have h' : j < k + 1 := by rw [rowTx_len] at h; exact h
    by_cases e : j < k
    · simp only [rowTx, List.getElem_append_left (show j < (rowTx n k).length by omega)]
      exact rowTx_get n k j (by omega)
    · obtain rfl : j = k := by omega
      simp only [rowTx]
      rw [List.getElem_append_right (by omega)]
      simp [hl]
def rowsTx (g : Nat → Nat) (w i : Nat) : List (List UInt8) := (List.range i).map fun a => rowTx (g a) w
theorem colTx_join (g : Nat → Nat) (w : Nat) : ∀ i, colTx g w i = joinL 10 (rowsTx g w i) []
  | 0 => by simp [colTx, rowsTx, joinL]
  | i + 1 => by
    have e : rowsTx g w (i + 1) = rowsTx g w i ++ [rowTx (g i) w] := by simp [rowsTx, List.range_succ]
    rw [e, joinL_next, colTx, colTx_join g w i]
    simp [joinL]
theorem bitB_cases (n j : Nat) : bitB n j = 114 ∨ bitB n j = 98 := by
  unfold bitB; split
  · exact .inl rfl
  · exact .inr rfl
theorem rowTx_no (n k : Nat) : (10 : UInt8) ∉ rowTx n k := by
  intro h
  obtain ⟨j, hj, e⟩ := List.getElem_of_mem h
  rw [rowTx_get] at e
  rcases bitB_cases n j with h | h <;> rw [h] at e <;> cases e
theorem split_col (g : Nat → Nat) (w i : Nat) : IsSplit 10 (colTx g w i) (rowsTx g w i) [] := by
  refine ⟨fun l hl => ?_, by simp, (colTx_join g w i).symm⟩
  obtain ⟨a, _, rfl⟩ := List.mem_map.1 hl
  exact rowTx_no _ _
/-- A line as it should be. -/
def lineOk (ww : Nat) (l : List UInt8) : Prop := l.length = ww ∧ ∀ j, j < ww → l.getD j 0 = 114 ∨ l.getD j 0 = 98
theorem lineOk_row (n k : Nat) : lineOk k (rowTx n k) := by
  refine ⟨rowTx_len n k, fun j hj => ?_⟩
  rw [List.getD_eq_getElem?_getD, List.getElem?_eq_getElem (by rw [rowTx_len]; exact hj), Option.getD_some, rowTx_get]
  exact bitB_cases n j
theorem flat_get {ww : Nat} : ∀ {ls : List (List UInt8)} {i j : Nat}, (∀ l ∈ ls, l.length = ww) → i < ls.length → j ≤ ww → (ls.flatMap fun l => l ++ [10]).getD (i * (ww + 1) + j) 0 = (ls.getD i [] ++ [10]).getD j 0
  | [], _, _, _, h, _ => by simp at h
  | l :: ls, 0, j, hl, _, hj => by
    have := hl l (List.mem_cons_self ..)
    simp only [List.flatMap_cons, Nat.zero_mul, Nat.zero_add, List.getD_eq_getElem?_getD]
    rw [List.getElem?_append_left (by simp; omega)]
    rfl
  | l :: ls, i + 1, j, hl, hi, hj => by
    have := hl l (List.mem_cons_self ..)
    have ih := flat_get (ls := ls) (i := i) (j := j) (fun a ha => hl a (List.mem_cons_of_mem _ ha)) (by simp at hi; omega) hj
    rw [List.getD_cons_succ, ← ih]
    simp only [List.flatMap_cons, List.getD_eq_getElem?_getD]
    rw [List.getElem?_append_right (by simp; rw [Nat.add_mul]; omega)]
    have e : (i + 1) * (ww + 1) + j - (l ++ [10]).length = i * (ww + 1) + j := by simp; rw [Nat.add_mul]; omega
    rw [e]
theorem good_lines {r : Rf} {T : List UInt8} {ls : List (List UInt8)} {last : List UInt8} (hS : IsSplit 10 T ls last) (g : r.goodT T) : last = [] ∧ ls.length = r.h.toNat ∧ ∀ i, i < ls.length → lineOk r.w.toNat (ls.getD i []) := by
  unfold Rf.goodT at g
  have k := split_col (r.txG T) r.w.toNat r.h.toNat
  rw [g] at k
  obtain ⟨rfl, rfl⟩ := hS.uniq k
  refine ⟨rfl, by simp [rowsTx], fun i hi => ?_⟩
  have e : (rowsTx (r.txG T) r.w.toNat r.h.toNat).getD i [] = rowTx (r.txG T i) r.w.toNat := by
    have hi' : i < r.h.toNat := by simpa [rowsTx] using hi
    simp [rowsTx, hi']
  rw [e]
  exact lineOk_row _ _
theorem lines_bits {r : Rf} {T : List UInt8} {ls : List (List UInt8)} (hS : IsSplit 10 T ls []) (hl : ls.length = r.h.toNat) (ho : ∀ i, i < ls.length → lineOk r.w.toNat (ls.getD i [])) {i : Nat} : r.txG T i = if i < r.h.toNat then bitsUp (ls.getD i []) r.w.toNat else 0 := by
  have hlen : ∀ l ∈ ls, l.length = r.w.toNat := fun l h => by
    obtain ⟨a, ha, rfl⟩ := List.getElem_of_mem h
    have := (ho a ha).1
    simpa [List.getD_eq_getElem?_getD, List.getElem?_eq_getElem ha] using this
  refine Nat.eq_of_testBit_eq fun j => ?_
  unfold Rf.txG
  rw [colL_all]
  by_cases hi : i < r.h.toNat
  · rw [if_pos hi, bitsUp_bit]
    by_cases hj : j < r.w.toNat
    · have hT : T = ls.flatMap fun l => l ++ [10] := by rw [← hS.eq]; simp [joinL]
      have e := flat_get hlen (i := i) (j := j) (by omega) (by omega)
      rw [← hT] at e
      have e2 : (ls.getD i [] ++ [10]).getD j 0 = (ls.getD i []).getD j 0 := by
        rw [List.getD_eq_getElem?_getD, List.getElem?_append_left (by rw [(ho i (by omega)).1]; exact hj), ← List.getD_eq_getElem?_getD]
      unfold txB
      rw [e, e2]
      simp [hi, hj]
    · simp [hj]
  · simp [hi]
theorem lines_good {r : Rf} {T : List UInt8} {ls : List (List UInt8)} (hS : IsSplit 10 T ls []) (hl : ls.length = r.h.toNat) (ho : ∀ i, i < ls.length → lineOk r.w.toNat (ls.getD i [])) : r.goodT T := by
  unfold Rf.goodT
  rw [colTx_join, ← hS.eq]
  congr 1
  refine List.ext_getElem (by simp [rowsTx, hl]) fun i h1 h2 => ?_
  have hi : i < r.h.toNat := by omega
  have e0 : ls.getD i [] = ls[i] := by simp [List.getD_eq_getElem?_getD, List.getElem?_eq_getElem h2]
  have hk := ho i h2
  rw [e0] at hk
  have hb := lines_bits hS hl ho (i := i)
  rw [if_pos hi, e0] at hb
  simp only [rowsTx, List.getElem_map, List.getElem_range]
  rw [hS.eq, hb]
  refine List.ext_getElem (by rw [rowTx_len, hk.1]) fun j g1 g2 => ?_
  have hj : j < r.w.toNat := by rw [← hk.1]; exact g2
  have ej : (ls[i]).getD j 0 = (ls[i])[j] := by simp [List.getD_eq_getElem?_getD, List.getElem?_eq_getElem g2]
  rw [rowTx_get]
  unfold bitB
  rw [bitsUp_bit, ej]
  rcases hk.2 j hj with h | h <;> rw [ej] at h <;> rw [h] <;> simp [hj]
end Go.Proofs.Ytgdhfcpmeaeioaa
