/- How high a cell of a slope is. -/
import Derived.Test.YtfdoehakpeddnaaCln
import Derived.Test.YtfdoehakpeddnaaOuts
namespace Go.Proofs.Ytfdoehakpeddnaa
open Go.RowKit

/-- How far two cells are from each other. -/
def farC (a b : Int) : Int := if a - b < b - a then b - a else a - b
/-- How high cell i is behind k pipes. -/
def sloK (p : Nat → Int) (i : Int) : Nat → Int
  | 0 => 9
  | k + 1 => if farC (p (k * 2)) i < sloK p i k then farC (p (k * 2)) i else sloK p i k
theorem farC_bd {a b : Int} (ha : 0 ≤ a ∧ a < 17) (hb : 0 ≤ b ∧ b < 17) : 0 ≤ farC a b ∧ farC a b ≤ 16 := by unfold farC; split <;> omega
theorem sloK_bd {p : Nat → Int} {i : Int} (hi : 0 ≤ i ∧ i < 17) : ∀ k : Nat, (∀ q, q < k → 0 ≤ p (q * 2) ∧ p (q * 2) < 17) → 0 ≤ sloK p i k ∧ sloK p i k ≤ 9
  | 0, _ => by unfold sloK; omega
  | k + 1, h => by
    have h1 := sloK_bd hi k fun q hq => h q (by omega)
    have h2 := farC_bd (h k (by omega)) hi
    unfold sloK
    split <;> omega

theorem l00MinS_any (a R : Int) (w : World) :
    Calls Try.prog 84 #[.int .i64 a, .int .i64 R] w fun e w' => e = .returned (.int .i64 (if R < a then R else a)) ∧ w = w' := by
  by_cases h : R < a
  · rw [if_pos h]
    have hd : decide (a < R) = false := by simp; omega
    clear h
    go_enter Try.func84, Try.ntmps84
    go_wp2_with fail
    go_ret
    exact ⟨rfl, rfl⟩
  · rw [if_neg h]
    by_cases e : a = R
    · subst e
      have hd : decide (a < a) = false := by simp
      clear h
      go_enter Try.func84, Try.ntmps84
      go_wp2_with fail
      go_ret
      exact ⟨rfl, rfl⟩
    · have hd : decide (a < R) = true := by simp; omega
      clear h e
      go_enter Try.func84, Try.ntmps84
      go_wp2_with fail
      go_ret
      exact ⟨rfl, rfl⟩

/-- A gutter with pipes, whose first k cells have their slope. -/
def sloT (y z : Int) (m : Nat) (p : Nat → Int) (k : Nat) : Gt := ⟨y, z, fun i => if i < k then sloK p i m else 0, 0, m, p⟩
theorem sloT_m (y z : Int) (m : Nat) (p : Nat → Int) (k : Nat) : (sloT y z m p k).m = m := rfl
def sloL (y z : Int) (v : Value) : Array Value := #[.int .i8 y, .int .i16 z, .int .i8 0, .int .i8 0, .int .i8 0, .int .i8 0, .int .i8 0, .int .i8 0, .int .i8 0, .int .i8 0, .int .i8 0, .int .i8 0, .int .i8 0, .int .i8 0, .int .i8 0, .int .i8 0, .int .i8 0, .int .i8 0, .int .i8 0, .int .u32 0, v]
theorem sloL_is {y z : Int} {m : Nat} {p : Nat → Int} {v : Value} (hy : 1 ≤ y ∧ y ≤ 17) (hz : 0 ≤ z ∧ z ≤ 1000) (hb : pipeB p m) (hv : ∃ a cap, v = .slice a m cap) : IsGut (sloL y z v) (sloT y z m p 0) v := by
  refine IsGut.of_get rfl rfl rfl (fun i hi => ?_) rfl rfl ⟨by show (-128 : Int) ≤ y; omega, by show y ≤ 127; omega⟩ ⟨by show (-32768 : Int) ≤ z; omega, by show z ≤ 32767; omega⟩ (fun i hi => ⟨by simp [sloT], by simp [sloT]⟩) ⟨by show (0 : Int) ≤ 0; omega, by show (0 : Int) ≤ 4294967295; omega⟩ hb hv
  match i with
  | 0 => rfl
  | 1 => rfl
  | 2 => rfl
  | 3 => rfl
  | 4 => rfl
  | 5 => rfl
  | 6 => rfl
  | 7 => rfl
  | 8 => rfl
  | 9 => rfl
  | 10 => rfl
  | 11 => rfl
  | 12 => rfl
  | 13 => rfl
  | 14 => rfl
  | 15 => rfl
  | 16 => rfl
  | n + 17 => omega
theorem IsGut.sloH {c : Array Value} {y z : Int} {m : Nat} {p : Nat → Int} {k : Nat} {v : Value} (h : IsGut c (sloT y z m p k) v) (hk : k < 17) (hs : 0 ≤ sloK p k m ∧ sloK p k m ≤ 9) : IsGut (c.setIfInBounds (2 + k) (.int .i8 (sloK p k m))) (sloT y z m p (k + 1)) v := by
  have hz := h.size
  refine IsGut.of_get (by simpa using hz) ?_ ?_ (fun i hi => ?_) ?_ ?_ ⟨h.n0, h.n1⟩ ⟨h.d0, h.d1⟩ (fun i hi => ?_) ⟨h.l0, h.l1⟩ h.p0 h.vs
  · rw [Array.getElem?_setIfInBounds_ne (by omega)]; exact h.get0
  · rw [Array.getElem?_setIfInBounds_ne (by omega)]; exact h.get1
  · by_cases e : i = k
    · subst e
      rw [Array.getElem?_setIfInBounds_self_of_lt (by omega)]
      simp [sloT]
    · rw [Array.getElem?_setIfInBounds_ne (by omega), h.getH hi]
      simp only [sloT]
      congr 2
      by_cases e2 : i < k
      · rw [if_pos e2, if_pos (by omega)]
      · rw [if_neg e2, if_neg (by omega)]
  · rw [Array.getElem?_setIfInBounds_ne (by omega)]; exact h.getL
  · rw [Array.getElem?_setIfInBounds_ne (by omega)]; exact h.getP
  · have a := h.h0 i hi
    have b := h.h1 i hi
    simp only [sloT] at a b ⊢
    by_cases e : i = k
    · subst e; rw [if_pos (by omega)]; omega
    · by_cases e2 : i < k
      · rw [if_pos e2] at a b; rw [if_pos (by omega)]; exact ⟨a, b⟩
      · rw [if_neg (by omega)]; omega
/-- The answer of SlopeTo. -/
noncomputable def sloC (y z : Int) (m : Nat) (p : Nat → Int) : Int :=
  if (1 ≤ y ∧ y ≤ 17) ∧ (0 ≤ z ∧ z ≤ 1000) then (if (sloT y z m p 0).ok = true then (if m = 0 then 6 else 0) else 2) else 2
noncomputable def sloR (y z : Int) (m : Nat) (p : Nat → Int) : Gt := if sloC y z m p = 0 then sloT y z m p y.toNat else Gt.zero
theorem slo_a {y z : Int} {m : Nat} {p : Nat → Int} (h : ¬ ((1 ≤ y ∧ y ≤ 17) ∧ (0 ≤ z ∧ z ≤ 1000))) : sloC y z m p = 2 ∧ sloR y z m p = Gt.zero := by
  have e : sloC y z m p = 2 := if_neg h
  exact ⟨e, by unfold sloR; rw [e]; rfl⟩
theorem slo_b {y z : Int} {m : Nat} {p : Nat → Int} (h : (1 ≤ y ∧ y ≤ 17) ∧ (0 ≤ z ∧ z ≤ 1000)) (k : (sloT y z m p 0).ok = false) : sloC y z m p = 2 ∧ sloR y z m p = Gt.zero := by
  have e : sloC y z m p = 2 := by unfold sloC; rw [if_pos h, k]; rfl
  exact ⟨e, by unfold sloR; rw [e]; rfl⟩
theorem slo_c {y z : Int} {m : Nat} {p : Nat → Int} (h : (1 ≤ y ∧ y ≤ 17) ∧ (0 ≤ z ∧ z ≤ 1000)) (k : (sloT y z m p 0).ok = true) (hm : m = 0) : sloC y z m p = 6 ∧ sloR y z m p = Gt.zero := by
  have e : sloC y z m p = 6 := by unfold sloC; rw [if_pos h, k, if_pos rfl, if_pos hm]
  exact ⟨e, by unfold sloR; rw [e]; rfl⟩
theorem slo_d {y z : Int} {m : Nat} {p : Nat → Int} (h : (1 ≤ y ∧ y ≤ 17) ∧ (0 ≤ z ∧ z ≤ 1000)) (k : (sloT y z m p 0).ok = true) (hm : m ≠ 0) : sloC y z m p = 0 ∧ sloR y z m p = sloT y z m p y.toNat := by
  have e : sloC y z m p = 0 := by unfold sloC; rw [if_pos h, k, if_pos rfl, if_neg hm]
  exact ⟨e, by unfold sloR; rw [e]; rfl⟩
theorem sloR_le {y z : Int} {m : Nat} {p : Nat → Int} (h : m ≤ 2000000) : (sloR y z m p).m ≤ 2000000 := by
  unfold sloR
  split
  · exact h
  · exact Nat.zero_le _
end Go.Proofs.Ytfdoehakpeddnaa
