/- The times of jobs: mathematics; their checks: both sides. -/
import Derived.Test.YtcdddngdjhjdbaaAskI
import Derived.Test.YtcdddngdjhjdbaaSpecA
import Derived.Test.YtcdddngdjhjdbaaGive
namespace Go.Proofs.Ytcdddngdjhjdbaa
open Go.RowKit

def mxD (a b : Int) : Int := if a < b then b else a
/-- The greatest of 0 and the first k; the greatest of the first k + 1. -/
def mxZ (g : Nat → Int) : Nat → Int
  | 0 => 0
  | k + 1 => mxD (mxZ g k) (g k)
def mxN (g : Nat → Int) : Nat → Int
  | 0 => g 0
  | k + 1 => mxD (mxN g k) (g (k + 1))
theorem mxZ_lt {g : Nat → Int} {y : Int} (hy : 0 ≤ y) : ∀ k, y < mxZ g k ↔ ∃ i, i < k ∧ y < g i
  | 0 => by unfold mxZ; constructor <;> intro h; omega; obtain ⟨i, hi, _⟩ := h; omega
  | k + 1 => by
    have ih := mxZ_lt (g := g) hy k
    show y < mxD (mxZ g k) (g k) ↔ _
    unfold mxD
    constructor
    · intro h
      split at h
      · exact ⟨k, by omega, h⟩
      · obtain ⟨i, hi, h2⟩ := ih.1 h; exact ⟨i, by omega, h2⟩
    · rintro ⟨i, hi, h⟩
      by_cases e : i = k
      · subst e; split <;> omega
      · have := ih.2 ⟨i, by omega, h⟩; split <;> omega
theorem mxN_lt {g : Nat → Int} {y : Int} : ∀ k, y < mxN g k ↔ ∃ i, i < k + 1 ∧ y < g i
  | 0 => by
    unfold mxN
    constructor
    · intro h; exact ⟨0, by omega, h⟩
    · rintro ⟨i, hi, h⟩; obtain rfl : i = 0 := by omega
      exact h
  | k + 1 => by
    have ih := mxN_lt (g := g) (y := y) k
    show y < mxD (mxN g k) (g (k + 1)) ↔ _
    unfold mxD
    constructor
    · intro h
      split at h
      · exact ⟨k + 1, by omega, h⟩
      · obtain ⟨i, hi, h2⟩ := ih.1 h; exact ⟨i, by omega, h2⟩
    · rintro ⟨i, hi, h⟩
      by_cases e : i = k + 1
      · subst e; split <;> omega
      · have := ih.2 ⟨i, by omega, h⟩; split <;> omega
/-- Times and a shift that are as told. -/
def timF (y : Int) (g : Nat → Int) : Nat → Bool
  | 0 => inB y 1 1000
  | k + 1 => timF y g k && inB (g k) 0 1000
theorem timF_iff {y : Int} {g : Nat → Int} : ∀ k, timF y g k = true ↔ (1 ≤ y ∧ y ≤ 1000) ∧ ∀ i, i < k → 0 ≤ g i ∧ g i ≤ 1000
  | 0 => by unfold timF; simp [inB]
  | k + 1 => by
    unfold timF
    rw [Bool.and_eq_true, timF_iff k]
    constructor
    · rintro ⟨⟨h1, h2⟩, h3⟩
      refine ⟨h1, fun i hi => ?_⟩
      by_cases e : i = k
      · subst e; simpa [inB] using h3
      · exact h2 i (by omega)
    · rintro ⟨h1, h2⟩
      exact ⟨⟨h1, fun i hi => h2 i (by omega)⟩, by simpa [inB] using h2 k (by omega)⟩
/-- The code of times and a shift. -/
def timC (m : Nat) (g : Nat → Int) (y : Int) : Int := if timF y g m = true then (if 8 < m then 3 else (if y < mxZ g m then 6 else 0)) else 2
theorem timC_2 {m : Nat} {g : Nat → Int} {y : Int} (h : ¬ timF y g m = true) : timC m g y = 2 := if_neg h
theorem timC_3 {m : Nat} {g : Nat → Int} {y : Int} (h : timF y g m = true) (h2 : 8 < m) : timC m g y = 3 := by unfold timC; rw [if_pos h, if_pos h2]
theorem timC_6 {m : Nat} {g : Nat → Int} {y : Int} (h : timF y g m = true) (h2 : ¬ 8 < m) (h3 : y < mxZ g m) : timC m g y = 6 := by unfold timC; rw [if_pos h, if_neg h2, if_pos h3]
theorem timC_0 {m : Nat} {g : Nat → Int} {y : Int} (h : timF y g m = true) (h2 : ¬ 8 < m) (h3 : ¬ y < mxZ g m) : timC m g y = 0 := by unfold timC; rw [if_pos h, if_neg h2, if_neg h3]
theorem timC_ok {m : Nat} {g : Nat → Int} {y : Int} (h : timC m g y = 0) : ((1 ≤ y ∧ y ≤ 1000) ∧ ∀ i, i < m → 0 ≤ g i ∧ g i ≤ y) ∧ m ≤ 8 := by
  by_cases h1 : timF y g m = true
  · by_cases h2 : 8 < m
    · rw [timC_3 h1 h2] at h; cases h
    · obtain ⟨hy, hg⟩ := (timF_iff m).1 h1
      by_cases h3 : y < mxZ g m
      · rw [timC_6 h1 h2 h3] at h; cases h
      · refine ⟨⟨hy, fun i hi => ⟨(hg i hi).1, ?_⟩⟩, by omega⟩
        rcases Int.lt_or_le y (g i) with e | e
        · exact absurd ((mxZ_lt (by omega) m).2 ⟨i, hi, e⟩) h3
        · exact e
  · rw [timC_2 h1] at h; cases h

theorem noTime_any (x : Int) (w : World) :
    Calls Try.prog 73 #[.int .i64 x] w fun e w' => e = .returned (.bool (outB x 0 1000)) ∧ Below w.heap.size w w' := by
  go_enter Try.func73, Try.ntmps73
  go_wp2_with fail
  refine (isOutside_any x 0 1000 _).mono ?_
  rintro e w1 ⟨rfl, b1⟩
  go_wp2_with fail
  go_ret
  exact ⟨rfl, b1⟩
theorem noTime_pred (w : World) : PredI 73 #[] (fun x => outB x 0 1000) w := fun x W _ => by simpa using noTime_any x W
set_option maxRecDepth 100000 in
set_option maxHeartbeats 1000000 in
theorem maxI64_any (b m : Nat) (v : Value) (g : Nat → Int) (w : World) (hv : IsList w b v 1 m (fun i => .int .i64 (g i))) (hm : 1 ≤ m ∧ m ≤ 8) :
    Calls Try.prog 76 #[v] w fun e w' => e = .returned (.int .i64 (mxN g (m - 1))) ∧ w = w' := by
  obtain ⟨h0, _⟩ | ⟨gv, cap, cur, rfl, hg, hr, hs, hf⟩ := hv
  · omega
  have c0 : w.cell? ⟨gv, 0, none⟩ = some (.int .i64 (g 0)) := (cell_of_rowAt hr _).trans (hf 0 (by omega))
  have HC := Lib.hid (fun i (hi : i < m) => (show w.cell? ⟨gv, i, none⟩ = some (.int .i64 (g i)) from (cell_of_rowAt hr _).trans (hf i (by omega))))
  have m1 : ¬ (m : Int) < 1 := by omega
  clear hf hs hr
  have HE := Lib.hid (show mxN g 0 = g 0 from rfl)
  go_enter Try.func76, Try.ntmps76
  go_wp2_with fail
  clear c0
  go_loop [3, 4] (fun x i => ∃ k : Nat, 1 ≤ k ∧ k ≤ m ∧ i = .int .i64 k ∧ x = .int .i64 (mxN g (k - 1))) (fun _ i => m - (intOf i).toNat)
  case atStart => exact ⟨1, by omega, by omega, rfl, by rw [HE.out]⟩
  case round =>
    obtain ⟨k, hk1, hk, rfl, rfl⟩ := hrel
    by_cases hlt : k < m
    · have ck := HC.out k hlt
      have k0 : 0 ≤ (k : Int) := by omega
      have k2 : (k : Int) < m := by omega
      have HN := Lib.hid (show mxN g (k + 1 - 1) = if mxN g (k - 1) < g k then g k else mxN g (k - 1) by
        obtain ⟨j, rfl⟩ : ∃ j, k = j + 1 := ⟨k - 1, by omega⟩
        rfl)
      generalize mxN g (k - 1) = x at *
      generalize g k = z at *
      by_cases hx : x < z
      · have HN2 := Lib.hid (HN.out.trans (if_pos hx))
        go_wp2_with fail
        refine ⟨⟨k + 1, by omega, by omega, by go_num, by rw [HN2.out]⟩, by simp [intOf]; omega⟩
      · have HN2 := Lib.hid (HN.out.trans (if_neg hx))
        go_wp2_with fail
        refine ⟨⟨k + 1, by omega, by omega, by go_num, by rw [HN2.out]⟩, by simp [intOf]; omega⟩
    · obtain rfl : k = m := by omega
      go_wp2_with fail
      go_ret
      exact ⟨rfl, rfl⟩

set_option maxRecDepth 100000 in
set_option maxHeartbeats 1000000 in
theorem checkTimes_any (b m : Nat) (v : Value) (g : Nat → Int) (y : Int) (w : World) (hv : IsList w b v 1 m (fun i => .int .i64 (g i))) (hm : m ≤ 2000000) :
    Calls Try.prog 35 #[v, .int .i64 y] w fun e w' => e = .returned (.int .i64 (timC m g y)) ∧ Below w.heap.size w w' := by
  have CO := fun W => isOutside_any y 1 1000 W
  have HV := Lib.hid hv
  have CF := fun W (hB : Below w.heap.size w W) => hasFuncI_any 73 #[] (fun x => outB x 0 1000) (enters_of Try.func73 (by kernel_rfl) rfl) v m g W (noTime_pred W) ((HV.out.below hB (Nat.le_refl _)).nums) hm
  obtain ⟨av, cv, rfl⟩ := hv.shape
  clear hv
  have hP : anyI (fun i => outB (g i) 0 1000) m = false ↔ ∀ i, i < m → 0 ≤ g i ∧ g i ≤ 1000 := by
    rw [anyI_f]
    constructor
    · intro h i hi; have := h i hi; simp [outB] at this; omega
    · intro h i hi; have := h i hi; simp [outB]; omega
  by_cases hy : 1 ≤ y ∧ y ≤ 1000
  · have ho : outB y 1 1000 = false := by simp [outB]; omega
    rw [ho] at CO
    cases ha : anyI (fun i => outB (g i) 0 1000) m with
    | true =>
      have hc : timC m g y = 2 := timC_2 (fun h => by have := hP.2 ((timF_iff m).1 h).2; rw [ha] at this; cases this)
      rw [hc]
      simp only [ha] at CF
      clear hc ha hP hy ho
      go_enter Try.func35, Try.ntmps35
      go_wp2_with fail
      refine (CO _).mono ?_
      rintro e w1 ⟨rfl, b1⟩
      go_wp2_with fail
      refine (CF _ b1).mono ?_
      rintro e w2 ⟨rfl, b2⟩
      have B2 := bnext b1 b2 b1.size
      clear b1 b2 CF CO
      go_wp2_with fail
      go_ret
      exact ⟨rfl, B2⟩
    | false =>
      have ht : timF y g m = true := (timF_iff m).2 ⟨hy, hP.1 ha⟩
      simp only [ha] at CF
      clear ha hP ho
      by_cases h8 : 8 < m
      · rw [timC_3 ht h8]
        have h8i : (8 : Int) < m := by omega
        clear ht hy
        go_enter Try.func35, Try.ntmps35
        go_wp2_with fail
        refine (CO _).mono ?_
        rintro e w1 ⟨rfl, b1⟩
        go_wp2_with fail
        refine (CF _ b1).mono ?_
        rintro e w2 ⟨rfl, b2⟩
        have B2 := bnext b1 b2 b1.size
        clear b1 b2 CF CO
        go_wp2_with fail
        go_ret
        exact ⟨rfl, B2⟩
      · have h8i : ¬ (8 : Int) < m := by omega
        rcases Nat.eq_zero_or_pos m with h0 | h0
        · have hz : ¬ y < mxZ g m := by rw [h0]; unfold mxZ; omega
          rw [timC_0 ht h8 hz]
          have h0d : decide ((0 : Int) < m) = false := by simp; omega
          have h0i : ¬ (0 : Int) < m := by omega
          clear ht hy hz h0
          go_enter Try.func35, Try.ntmps35
          go_wp2_with fail
          refine (CO _).mono ?_
          rintro e w1 ⟨rfl, b1⟩
          go_wp2_with fail
          refine (CF _ b1).mono ?_
          rintro e w2 ⟨rfl, b2⟩
          have B2 := bnext b1 b2 b1.size
          clear b1 b2 CF CO
          go_wp2_with fail
          go_ret
          exact ⟨rfl, B2⟩
        · have h0i : (0 : Int) < m := by omega
          have h0d : decide ((0 : Int) < m) = true := by simp; omega
          have CM := fun W (hB : Below w.heap.size w W) => maxI64_any b m (.slice av m cv) g W (HV.out.below hB (Nat.le_refl _)) (by omega)
          have hmz : y < mxN g (m - 1) ↔ y < mxZ g m := by
            rw [mxN_lt, mxZ_lt (by omega), show m - 1 + 1 = m by omega]
          by_cases hx : y < mxN g (m - 1)
          · rw [timC_6 ht h8 (hmz.1 hx)]
            clear ht hy hmz h0
            generalize mxN g (m - 1) = z at *
            have hd : decide (y < z) = true := by simpa using hx
            go_enter Try.func35, Try.ntmps35
            go_wp2_with fail
            refine (CO _).mono ?_
            rintro e w1 ⟨rfl, b1⟩
            go_wp2_with fail
            refine (CF _ b1).mono ?_
            rintro e w2 ⟨rfl, b2⟩
            have B2 := bnext b1 b2 b1.size
            clear b1 b2 CF CO
            go_wp2_with fail
            refine (CM _ B2).mono ?_
            rintro e w3 ⟨rfl, rfl⟩
            go_wp2_with fail
            go_ret
            exact ⟨rfl, B2⟩
          · rw [timC_0 ht h8 (fun h => hx (hmz.2 h))]
            clear ht hy hmz h0
            generalize mxN g (m - 1) = z at *
            have hd : decide (y < z) = false := by simpa using hx
            go_enter Try.func35, Try.ntmps35
            go_wp2_with fail
            refine (CO _).mono ?_
            rintro e w1 ⟨rfl, b1⟩
            go_wp2_with fail
            refine (CF _ b1).mono ?_
            rintro e w2 ⟨rfl, b2⟩
            have B2 := bnext b1 b2 b1.size
            clear b1 b2 CF CO
            go_wp2_with fail
            refine (CM _ B2).mono ?_
            rintro e w3 ⟨rfl, rfl⟩
            go_wp2_with fail
            go_ret
            exact ⟨rfl, B2⟩
  · have ho : outB y 1 1000 = true := by simp [outB]; omega
    rw [ho] at CO
    rw [timC_2 (fun h => hy ((timF_iff m).1 h).1)]
    clear hP hy ho CF
    go_enter Try.func35, Try.ntmps35
    go_wp2_with fail
    refine (CO _).mono ?_
    rintro e w1 ⟨rfl, b1⟩
    go_wp2_with fail
    go_ret
    exact ⟨rfl, b1⟩

theorem l00MaxD (a b : Int) (w : World) :
    Calls Try.prog 72 #[.int .i64 a, .int .i64 b] w fun e w' => e = .returned (.int .i64 (mxD a b)) ∧ w = w' := by
  by_cases h : b < a
  · rw [show mxD a b = a from if_neg (by omega)]
    go_enter Try.func72, Try.ntmps72
    go_wp2
    go_ret
    exact ⟨rfl, rfl⟩
  · rw [show mxD a b = b by unfold mxD; split <;> omega]
    go_enter Try.func72, Try.ntmps72
    go_wp2
    go_ret
    exact ⟨rfl, rfl⟩
theorem l04Each_any (x : Int) (w : World) :
    Calls Try.prog 71 #[.int .i64 x] w fun e w' => e = .returned (.bool (inB x 0 1000)) ∧ w = w' := by
  go_enter Try.func71, Try.ntmps71
  go_wp2_with fail
  refine (l00In_any _ _ _ _).mono ?_
  rintro e w1 ⟨rfl, rfl⟩
  go_wp2_with fail
  go_ret
  exact ⟨rfl, rfl⟩
set_option maxRecDepth 100000 in
set_option maxHeartbeats 1000000 in
theorem l04Times_any (b m : Nat) (v : Value) (g : Nat → Int) (y : Int) (w : World) (hv : IsList w b v 1 m (fun i => .int .i64 (g i))) (hm : m ≤ 2000000) :
    Calls Try.prog 34 #[v, .int .i64 y] w fun e w' => e = .returned (.int .i64 (timC m g y)) ∧ w = w' := by
  have HV := Lib.hid hv
  obtain ⟨av, cv, rfl⟩ := hv.shape
  clear hv
  have HZ := Lib.hid (show timF y g 0 = inB y 1 1000 from rfl)
  have HMZ := Lib.hid (show mxZ g 0 = 0 from rfl)
  go_enter Try.func34, Try.ntmps34
  go_wp2_with fail
  refine (l00In_any _ _ _ _).mono ?_
  rintro e w1 ⟨rfl, rfl⟩
  go_wp2_with fail
  go_loop [5, 6, 7] (fun q x i => ∃ k : Nat, k ≤ m ∧ i = .int .i64 k ∧ q = .bool (timF y g k) ∧ x = .int .i64 (mxZ g k)) (fun _ _ i => m - (intOf i).toNat)
  case atStart => exact ⟨0, by omega, rfl, by rw [HZ.out], by rw [HMZ.out]⟩
  case round =>
    obtain ⟨k, hk, rfl, rfl, rfl⟩ := hrel
    by_cases hlt : k < m
    · obtain ⟨h0, _⟩ | ⟨gv, cap, cur, e1, hg, hr, hs, hf⟩ := HV.out
      · omega
      cases e1
      have ck : w.cell? ⟨gv, k, none⟩ = some (.int .i64 (g k)) := (cell_of_rowAt hr _).trans (hf k (by omega))
      have k0 : 0 ≤ (k : Int) := by omega
      have k2 : (k : Int) < m := by omega
      have HN := Lib.hid (show timF y g (k + 1) = (timF y g k && inB (g k) 0 1000) from rfl)
      have HX := Lib.hid (show mxZ g (k + 1) = mxD (mxZ g k) (g k) from rfl)
      clear hf hs hr
      cases hq : timF y g k with
      | true =>
        rw [hq, Bool.true_and] at HN
        clear hq
        generalize g k = z at *
        generalize mxZ g k = x at *
        go_wp2_with fail
        refine (l04Each_any _ _).mono ?_
        rintro e w2 ⟨rfl, rfl⟩
        go_wp2_with fail
        refine (l00MaxD _ _ _).mono ?_
        rintro e w2 ⟨rfl, rfl⟩
        go_wp2_with fail
        refine ⟨⟨k + 1, by omega, by go_num, by rw [HN.out], by rw [HX.out]⟩, by simp [intOf]; omega⟩
      | false =>
        rw [hq, Bool.false_and] at HN
        clear hq
        generalize g k = z at *
        generalize mxZ g k = x at *
        go_wp2_with fail
        refine (l00MaxD _ _ _).mono ?_
        rintro e w2 ⟨rfl, rfl⟩
        go_wp2_with fail
        refine ⟨⟨k + 1, by omega, by go_num, by rw [HN.out], by rw [HX.out]⟩, by simp [intOf]; omega⟩
    · obtain rfl : k = m := by omega
      cases hq : timF y g k with
      | false =>
        have HE := Lib.hid (timC_2 (m := k) (g := g) (y := y) (by rw [hq]; decide))
        clear hq
        go_wp2_with fail
        go_ret
        exact ⟨by rw [HE.out]; rfl, rfl⟩
      | true =>
        by_cases h8 : 8 < k
        · have HE := Lib.hid (timC_3 (m := k) (g := g) (y := y) hq h8)
          have h8i : (8 : Int) < k := by omega
          clear hq
          go_wp2_with fail
          go_ret
          exact ⟨by rw [HE.out]; rfl, rfl⟩
        · have h8i : ¬ (8 : Int) < k := by omega
          by_cases hx : y < mxZ g k
          · have HE := Lib.hid (timC_6 (m := k) (g := g) (y := y) hq h8 hx)
            clear hq
            generalize mxZ g k = z at *
            go_wp2_with fail
            go_ret
            exact ⟨by rw [HE.out]; rfl, rfl⟩
          · have HE := Lib.hid (timC_0 (m := k) (g := g) (y := y) hq h8 hx)
            clear hq
            generalize mxZ g k = z at *
            go_wp2_with fail
            go_ret
            exact ⟨by rw [HE.out]; rfl, rfl⟩
end Go.Proofs.Ytcdddngdjhjdbaa
