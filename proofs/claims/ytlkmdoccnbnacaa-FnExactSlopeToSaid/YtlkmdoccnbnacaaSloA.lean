/- How high a cell of a slope is. -/
import Derived.Test.YtlkmdoccnbnacaaCln
import Derived.Test.YtlkmdoccnbnacaaOuts
namespace Go.Proofs.Ytlkmdoccnbnacaa
open Go.RowKit

/-- How far two cells are from each other. -/
def farC (a b : Int) : Int := if a - b < b - a then b - a else a - b
/-- How high cell i is behind k pipes. -/
def sloK (p : Nat → Int) (i : Int) : Nat → Int
  | 0 => 9
  | k + 1 => if farC (p (k * 2)) i < sloK p i k then farC (p (k * 2)) i else sloK p i k
theorem farC_bd {a b : Int} (ha : 0 ≤ a ∧ a < 17) (hb : 0 ≤ b ∧ b < 17) : 0 ≤ farC a b ∧ farC a b ≤ 16 := by unfold farC; split <;> omega
theorem sloK_bd {p : Nat → Int} {i : Int} (hi : 0 ≤ i ∧ i < 17) : ∀ k : Nat, (∀ q, q < k → 0 ≤ p (q * 2) ∧ p (q * 2) < 17) → 0 ≤ sloK p i k ∧ sloK p i k ≤ 9
  | 0, _ => by unfold sloK; omega
  | k + 1, h => by
    have h1 := sloK_bd hi k fun q hq => h q (by omega)
    have h2 := farC_bd (h k (by omega)) hi
    unfold sloK
    split <;> omega

set_option maxRecDepth 100000 in
set_option maxHeartbeats 1000000 in
theorem slopeAt_any (b : Nat) (c : Array Value) (g : Gt) (v : Value) (i : Nat) (w : World) (hG : IsGut c g v) (hv : IsList w b v 2 g.m (pipeV g.p)) (hi : i < 17) (hp : ∀ q, q < g.m → 0 ≤ g.p (q * 2) ∧ g.p (q * 2) < 17) (hm : g.m ≤ 2000000) :
    Calls Try.prog 100 #[.agg c, .int .i8 i] w fun e w' => e = .returned (.int .i8 (sloK g.p i g.m)) ∧ Below w.heap.size w w' := by
  have hc := hG.size
  have k20 := hG.pipes
  have HV := Lib.hid hv
  obtain ⟨a, cap, rfl⟩ := hv.shape
  have hBA : Below w.heap.size w (w.alloc (.cells c 33)) := (Below.refl _ _).alloc (Nat.le_refl _) _
  have HP := Lib.hid hp
  have i0 : 0 ≤ (i : Int) := by omega
  have i1 : (i : Int) < 17 := by omega
  have hm0 : 0 ≤ (g.m : Int) := by omega
  clear hG hv hp
  go_enter Try.func100, Try.ntmps100
  go_wp2_with fail
  go_loopw [5, 7, 11] (fun h _ x W => ∃ k : Nat, k ≤ g.m ∧ x = .int .i64 k ∧ h = .int .i8 (sloK g.p i k) ∧ Below w.heap.size w W) (fun _ _ x _ => g.m - (intOf x).toNat)
  case atStart => exact ⟨0, by omega, rfl, rfl, hBA⟩
  case round =>
    obtain ⟨k, hk, rfl, rfl, hB⟩ := hrel
    by_cases hlt : k < g.m
    · obtain ⟨g', rfl, hg', hcs⟩ := (HV.out.below hB (Nat.le_refl _)).pipe hlt
      have c0 := (hcs k hlt).1
      have c1 := (hcs k hlt).2
      have j0 : 0 ≤ (k : Int) := by omega
      have j1 : (k : Int) < g.m := by omega
      have hpk := HP.out k hlt
      have hs := sloK_bd (p := g.p) (i := i) ⟨i0, i1⟩ k fun q hq => HP.out q (by omega)
      have HB := Lib.hid hB
      have HX := Lib.hid (show sloK g.p i (k + 1) = if farC (g.p (k * 2)) i < sloK g.p i k then farC (g.p (k * 2)) i else sloK g.p i k from rfl)
      have x1 : IntKind.i8.wrap (g.p (k * 2) - i) = g.p (k * 2) - i := IntWalk.i8_in _ (by omega)
      have x2 : IntKind.i8.wrap (i - g.p (k * 2)) = i - g.p (k * 2) := IntWalk.i8_in _ (by omega)
      clear hcs hB
      generalize g.p (k * 2) = y at *
      generalize sloK g.p i k = s at *
      go_wp2_with fail
      refine ⟨⟨k + 1, by omega, by go_num, by rw [HX.out]; rfl, HB.out.alloc HB.out.size _⟩, by simp [intOf]; omega⟩
    · obtain rfl : k = g.m := by omega
      go_wp2_with fail
      go_ret
      exact ⟨rfl, hB⟩

theorem l00MaxS_any (a b : Int) (w : World) :
    Calls Try.prog 113 #[.int .i64 a, .int .i64 b] w fun e w' => e = .returned (.int .i64 (if b < a then a else b)) ∧ w = w' := by
  by_cases h : b < a
  · rw [if_pos h]
    go_enter Try.func113, Try.ntmps113
    go_wp2
    go_ret
    exact ⟨rfl, rfl⟩
  · rw [if_neg h]
    go_enter Try.func113, Try.ntmps113
    go_wp2
    go_ret
    exact ⟨rfl, rfl⟩
theorem l04FarS_any (a b : Int) (w : World) (ha : 0 ≤ a ∧ a ≤ 1000) (hb : 0 ≤ b ∧ b ≤ 1000) :
    Calls Try.prog 95 #[.int .i64 a, .int .i64 b] w fun e w' => e = .returned (.int .i64 (farC b a)) ∧ w = w' := by
  have hv : (if b - a < a - b then a - b else b - a) = farC b a := rfl
  go_enter Try.func95, Try.ntmps95
  go_wp2_with fail
  refine (l00MaxS_any _ _ _).mono ?_
  rintro e w' ⟨rfl, rfl⟩
  rw [hv]
  clear hv
  go_wp2_with fail
  go_ret
  exact ⟨rfl, rfl⟩
theorem l00MinS_any (a R : Int) (w : World) :
    Calls Try.prog 94 #[.int .i64 a, .int .i64 R] w fun e w' => e = .returned (.int .i64 (if R < a then R else a)) ∧ w = w' := by
  by_cases h : R < a
  · rw [if_pos h]
    have hd : decide (a < R) = false := by simp; omega
    clear h
    go_enter Try.func94, Try.ntmps94
    go_wp2_with fail
    go_ret
    exact ⟨rfl, rfl⟩
  · rw [if_neg h]
    by_cases e : a = R
    · subst e
      have hd : decide (a < a) = false := by simp
      clear h
      go_enter Try.func94, Try.ntmps94
      go_wp2_with fail
      go_ret
      exact ⟨rfl, rfl⟩
    · have hd : decide (a < R) = true := by simp; omega
      clear h e
      go_enter Try.func94, Try.ntmps94
      go_wp2_with fail
      go_ret
      exact ⟨rfl, rfl⟩

/-- A gutter with pipes, whose first k cells have their slope. -/
def sloT (y z : Int) (m : Nat) (p : Nat → Int) (k : Nat) : Gt := ⟨y, z, fun i => if i < k then sloK p i m else 0, 0, m, p⟩
theorem sloT_m (y z : Int) (m : Nat) (p : Nat → Int) (k : Nat) : (sloT y z m p k).m = m := rfl
def sloL (y z : Int) (v : Value) : Array Value := #[.int .i8 y, .int .i16 z, .int .i8 0, .int .i8 0, .int .i8 0, .int .i8 0, .int .i8 0, .int .i8 0, .int .i8 0, .int .i8 0, .int .i8 0, .int .i8 0, .int .i8 0, .int .i8 0, .int .i8 0, .int .i8 0, .int .i8 0, .int .i8 0, .int .i8 0, .int .u32 0, v]
theorem sloL_is {y z : Int} {m : Nat} {p : Nat → Int} {v : Value} (hy : 1 ≤ y ∧ y ≤ 17) (hz : 0 ≤ z ∧ z ≤ 1000) (hb : pipeB p m) (hv : ∃ a cap, v = .slice a m cap) : IsGut (sloL y z v) (sloT y z m p 0) v := by
  refine IsGut.of_get rfl rfl rfl (fun i hi => ?_) rfl rfl ⟨by show (-128 : Int) ≤ y; omega, by show y ≤ 127; omega⟩ ⟨by show (-32768 : Int) ≤ z; omega, by show z ≤ 32767; omega⟩ (fun i hi => ⟨by simp [sloT], by simp [sloT]⟩) ⟨by show (0 : Int) ≤ 0; omega, by show (0 : Int) ≤ 4294967295; omega⟩ hb hv
  match i with
  | 0 => rfl
  | 1 => rfl
  | 2 => rfl
  | 3 => rfl
  | 4 => rfl
  | 5 => rfl
  | 6 => rfl
  | 7 => rfl
  | 8 => rfl
  | 9 => rfl
  | 10 => rfl
  | 11 => rfl
  | 12 => rfl
  | 13 => rfl
  | 14 => rfl
  | 15 => rfl
  | 16 => rfl
  | n + 17 => omega
theorem IsGut.sloH {c : Array Value} {y z : Int} {m : Nat} {p : Nat → Int} {k : Nat} {v : Value} (h : IsGut c (sloT y z m p k) v) (hk : k < 17) (hs : 0 ≤ sloK p k m ∧ sloK p k m ≤ 9) : IsGut (c.setIfInBounds (2 + k) (.int .i8 (sloK p k m))) (sloT y z m p (k + 1)) v := by
  have hz := h.size
  refine IsGut.of_get (by simpa using hz) ?_ ?_ (fun i hi => ?_) ?_ ?_ ⟨h.n0, h.n1⟩ ⟨h.d0, h.d1⟩ (fun i hi => ?_) ⟨h.l0, h.l1⟩ h.p0 h.vs
  · rw [Array.getElem?_setIfInBounds_ne (by omega)]; exact h.get0
  · rw [Array.getElem?_setIfInBounds_ne (by omega)]; exact h.get1
  · by_cases e : i = k
    · subst e
      rw [Array.getElem?_setIfInBounds_self_of_lt (by omega)]
      simp [sloT]
    · rw [Array.getElem?_setIfInBounds_ne (by omega), h.getH hi]
      simp only [sloT]
      congr 2
      by_cases e2 : i < k
      · rw [if_pos e2, if_pos (by omega)]
      · rw [if_neg e2, if_neg (by omega)]
  · rw [Array.getElem?_setIfInBounds_ne (by omega)]; exact h.getL
  · rw [Array.getElem?_setIfInBounds_ne (by omega)]; exact h.getP
  · have a := h.h0 i hi
    have b := h.h1 i hi
    simp only [sloT] at a b ⊢
    by_cases e : i = k
    · subst e; rw [if_pos (by omega)]; omega
    · by_cases e2 : i < k
      · rw [if_pos e2] at a b; rw [if_pos (by omega)]; exact ⟨a, b⟩
      · rw [if_neg (by omega)]; omega
/-- The answer of SlopeTo. -/
noncomputable def sloC (y z : Int) (m : Nat) (p : Nat → Int) : Int :=
  if (1 ≤ y ∧ y ≤ 17) ∧ (0 ≤ z ∧ z ≤ 1000) then (if (sloT y z m p 0).ok = true then (if m = 0 then 6 else 0) else 2) else 2
noncomputable def sloR (y z : Int) (m : Nat) (p : Nat → Int) : Gt := if sloC y z m p = 0 then sloT y z m p y.toNat else Gt.zero
theorem slo_a {y z : Int} {m : Nat} {p : Nat → Int} (h : ¬ ((1 ≤ y ∧ y ≤ 17) ∧ (0 ≤ z ∧ z ≤ 1000))) : sloC y z m p = 2 ∧ sloR y z m p = Gt.zero := by
  have e : sloC y z m p = 2 := if_neg h
  exact ⟨e, by unfold sloR; rw [e]; rfl⟩
theorem slo_b {y z : Int} {m : Nat} {p : Nat → Int} (h : (1 ≤ y ∧ y ≤ 17) ∧ (0 ≤ z ∧ z ≤ 1000)) (k : (sloT y z m p 0).ok = false) : sloC y z m p = 2 ∧ sloR y z m p = Gt.zero := by
  have e : sloC y z m p = 2 := by unfold sloC; rw [if_pos h, k]; rfl
  exact ⟨e, by unfold sloR; rw [e]; rfl⟩
theorem slo_c {y z : Int} {m : Nat} {p : Nat → Int} (h : (1 ≤ y ∧ y ≤ 17) ∧ (0 ≤ z ∧ z ≤ 1000)) (k : (sloT y z m p 0).ok = true) (hm : m = 0) : sloC y z m p = 6 ∧ sloR y z m p = Gt.zero := by
  have e : sloC y z m p = 6 := by unfold sloC; rw [if_pos h, k, if_pos rfl, if_pos hm]
  exact ⟨e, by unfold sloR; rw [e]; rfl⟩
theorem slo_d {y z : Int} {m : Nat} {p : Nat → Int} (h : (1 ≤ y ∧ y ≤ 17) ∧ (0 ≤ z ∧ z ≤ 1000)) (k : (sloT y z m p 0).ok = true) (hm : m ≠ 0) : sloC y z m p = 0 ∧ sloR y z m p = sloT y z m p y.toNat := by
  have e : sloC y z m p = 0 := by unfold sloC; rw [if_pos h, k, if_pos rfl, if_neg hm]
  exact ⟨e, by unfold sloR; rw [e]; rfl⟩
theorem sloR_le {y z : Int} {m : Nat} {p : Nat → Int} (h : m ≤ 2000000) : (sloR y z m p).m ≤ 2000000 := by
  unfold sloR
  split
  · exact h
  · exact Nat.zero_le _
end Go.Proofs.Ytlkmdoccnbnacaa
