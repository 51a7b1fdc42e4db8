/- Pails: contracts of both sides. -/
import Derived.Test.YtnjodicaehiadaaCellS
namespace Go.Proofs.Ytnjodicaehiadaa
open Go.RowKit

noncomputable def Rf.pcode (r : Rf) (t : Nat → Int) (s : Int) : Int := if r.rok t = true then (if 1 ≤ s ∧ s ≤ 10000 then 0 else 2) else 1
noncomputable def Rf.pval (r : Rf) (t : Nat → Int) (s x : Int) : Int := if r.pcode t s = 0 then x else 0
theorem Rf.pcode_t {r : Rf} {t : Nat → Int} {s : Int} (h : r.Rains t) (hs : 1 ≤ s ∧ s ≤ 10000) : r.pcode t s = 0 := by rw [Rf.pcode, if_pos (Rf.rok_true h), if_pos hs]
theorem Rf.pcode_r {r : Rf} {t : Nat → Int} {s : Int} (h : r.Rains t) (hs : ¬ (1 ≤ s ∧ s ≤ 10000)) : r.pcode t s = 2 := by rw [Rf.pcode, if_pos (Rf.rok_true h), if_neg hs]
theorem Rf.pcode_f {r : Rf} {t : Nat → Int} {s : Int} (h : ¬ r.Rains t) : r.pcode t s = 1 := by simp [Rf.pcode, Rf.rok_false h]
theorem Rf.pcode_zero {r : Rf} {t : Nat → Int} {s : Int} (h : r.pcode t s = 0) : r.Rains t ∧ 1 ≤ s ∧ s ≤ 10000 := by
  by_cases h1 : r.Rains t
  · by_cases h2 : 1 ≤ s ∧ s ≤ 10000
    · exact ⟨h1, h2⟩
    · rw [Rf.pcode_r h1 h2] at h; omega
  · rw [Rf.pcode_f h1] at h; omega

set_option maxRecDepth 100000 in
set_option maxHeartbeats 1000000 in
theorem l02Pails_any (n m : Nat) (c d : Array Value) (r : Rf) (t : Nat → Int) (s : Int) (w : World) (hr : rowAt w n = some c) (hR : IsRoof c r) (hdd : rowAt w m = some d) (hT : IsRain d t) :
    Calls Try.prog 72 #[.pointer (some ⟨n, 0, none⟩), .pointer (some ⟨m, 0, none⟩), .int .i64 s] w fun e w' => e = .returned (.int .i64 (r.pcode t s)) ∧ Below w.heap.size w w' := by
  by_cases h1 : r.Rains t
  · by_cases h2 : 1 ≤ s ∧ s ≤ 10000
    · rw [Rf.pcode_t h1 h2]
      go_enter Try.func72, Try.ntmps72
      go_wp2_with fail
      refine (l02Ok_t n m c d r t _ hr hR hdd hT h1).mono ?_
      rintro e w1 ⟨rfl, b1⟩
      go_wp2_with fail
      refine (l00In_t _ _ _ _ h2).mono ?_
      rintro e w2 ⟨rfl, rfl⟩
      go_wp2_with fail
      go_ret
      exact ⟨rfl, b1⟩
    · rw [Rf.pcode_r h1 h2]
      go_enter Try.func72, Try.ntmps72
      go_wp2_with fail
      refine (l02Ok_t n m c d r t _ hr hR hdd hT h1).mono ?_
      rintro e w1 ⟨rfl, b1⟩
      go_wp2_with fail
      refine (l00In_f _ _ _ _ h2).mono ?_
      rintro e w2 ⟨rfl, rfl⟩
      go_wp2_with fail
      go_ret
      exact ⟨rfl, b1⟩
  · rw [Rf.pcode_f h1]
    go_enter Try.func72, Try.ntmps72
    go_wp2_with fail
    refine (l02Ok_f n m c d r t _ hr hR hdd hT h1).mono ?_
    rintro e w1 ⟨rfl, b1⟩
    go_wp2_with fail
    go_ret
    exact ⟨rfl, b1⟩

set_option maxRecDepth 100000 in
set_option maxHeartbeats 1000000 in
theorem checkPail_any (c d : Array Value) (r : Rf) (t : Nat → Int) (s : Int) (w : World) (hR : IsRoof c r) (hT : IsRain d t) :
    Calls Try.prog 73 #[.agg c, .agg d, .int .i64 s] w fun e w' => e = .returned (.int .i64 (r.pcode t s)) ∧ Below w.heap.size w w' := by
  have hc := hR.size
  have hd := hT.size
  obtain ⟨p0, p1, pB⟩ := two_boxes w c d 30 32
  by_cases h1 : r.Rains t
  · by_cases h2 : 1 ≤ s
    · by_cases h3 : s ≤ 10000
      · rw [Rf.pcode_t h1 ⟨h2, h3⟩]
        go_enter Try.func73, Try.ntmps73
        go_wp2_with fail
        refine (implValidRain_t c d r t _ hR hT h1).mono ?_
        rintro e w1 ⟨rfl, b1⟩
        have B1 := bnext pB b1 pB.size
        clear b1 p0 p1 pB
        go_wp2_with fail
        go_ret
        exact ⟨rfl, B1⟩
      · rw [Rf.pcode_r h1 (by omega)]
        go_enter Try.func73, Try.ntmps73
        go_wp2_with fail
        refine (implValidRain_t c d r t _ hR hT h1).mono ?_
        rintro e w1 ⟨rfl, b1⟩
        have B1 := bnext pB b1 pB.size
        clear b1 p0 p1 pB
        go_wp2_with fail
        go_ret
        exact ⟨rfl, B1⟩
    · rw [Rf.pcode_r h1 (by omega)]
      go_enter Try.func73, Try.ntmps73
      go_wp2_with fail
      refine (implValidRain_t c d r t _ hR hT h1).mono ?_
      rintro e w1 ⟨rfl, b1⟩
      have B1 := bnext pB b1 pB.size
      clear b1 p0 p1 pB
      go_wp2_with fail
      go_ret
      exact ⟨rfl, B1⟩
  · rw [Rf.pcode_f h1]
    go_enter Try.func73, Try.ntmps73
    go_wp2_with fail
    refine (implValidRain_f c d r t _ hR hT h1).mono ?_
    rintro e w1 ⟨rfl, b1⟩
    have B1 := bnext pB b1 pB.size
    clear b1 p0 p1 pB
    go_wp2_with fail
    go_ret
    exact ⟨rfl, B1⟩

/-- How many pails one cell wants. -/
def pails (D : Nat → Int) (s : Int) (k : Nat) : Int := (colTo D k 8 + s - 1) / s
theorem pails_bd {D : Nat → Int} (hb : ∀ i, i < 136 → 0 ≤ D i ∧ D i ≤ 1000) {s : Int} (hs : 1 ≤ s) {k : Nat} (hk : k < 17) : 0 ≤ pails D s k ∧ pails D s k ≤ 8000 := by
  have h := colTo_bd hb (k := k) (n := 8) hk (by omega)
  unfold pails
  constructor
  · exact Int.ediv_nonneg (by omega) (by omega)
  · have h2 : (colTo D k 8 + s - 1) / s ≤ (8000 * s) / s := Int.ediv_le_ediv (by omega) (by
      have : 8000 * s = 8000 + 8000 * (s - 1) := by omega
      rw [this]
      have h3 : s - 1 ≤ 8000 * (s - 1) := by omega
      omega)
    rwa [Int.mul_ediv_cancel _ (by omega)] at h2

/-- The cell of a list that a loop reads. -/
theorem IsList.cell {w : World} {base n : Nat} {a : Option Addr} {cap : Nat} {f : Nat → Value} (h : IsList w base (.slice a n cap) 1 n f) {k : Nat} (hk : k < n) : ∃ g, a = some ⟨g, 0, none⟩ ∧ base ≤ g ∧ w.cell? ⟨g, k, none⟩ = some (f k) ∧ rowAt w g ≠ none := by
  rcases h with ⟨h0, _⟩ | ⟨g, cap', cur, e, hg, hr, hs, hf⟩
  · omega
  · cases e
    exact ⟨g, rfl, hg, by rw [cell_of_rowAt hr]; exact hf k (by omega), by rw [hr]; simp⟩

set_option maxRecDepth 100000 in
set_option maxHeartbeats 1000000 in
theorem specPailsFor_any (c d : Array Value) (r : Rf) (t : Nat → Int) (s : Int) (w : World) (hR : IsRoof c r) (hT : IsRain d t) :
    Calls Try.prog 47 #[.agg c, .agg d, .int .i64 s] w fun e w' => e = .returned (.tuple #[.int .i64 (r.pval t s (sumTo (pails (r.drips t) s) (2 * r.w + 1).toNat)), .int .i64 (r.pcode t s)]) ∧ Below w.heap.size w w' := by
  obtain ⟨p0, p1, pB⟩ := two_boxes w c d 30 32
  by_cases hz : r.pcode t s = 0
  · obtain ⟨ho, s0, s1⟩ := Rf.pcode_zero hz
    have hV : ∀ x, r.pval t s x = x := fun x => if_pos hz
    rw [hV, hz]
    have hbb : (r.pcode t s != 0) = false := by simp [hz]
    have HB := Lib.hid fun i (_ : i < 136) => ho.drips_bd i
    have hw8 := ho.1.2.1
    obtain ⟨q, hq⟩ : ∃ q, q = (2 * r.w + 1).toNat := ⟨_, rfl⟩
    have q17 : q ≤ 17 := by omega
    rw [← hq]
    have HQ := Lib.hid hq
    clear hz hV hq
    go_enter Try.func47, Try.ntmps47
    go_wp2_with fail
    refine (l02Pails_any w.heap.size (w.heap.size + 1) c d r t s _ p0 hR p1 hT).mono ?_
    rintro e w1 ⟨rfl, b1⟩
    have q0 := brow b1 p0
    have q1 := brow b1 p1
    have B1 := bnext pB b1 pB.size
    clear b1 p0 p1 pB
    go_wp2_with fail
    refine (l02Across_any w.heap.size (w.heap.size + 1) c d r t _ q0 hR q1 hT ho).mono ?_
    rintro e w2 ⟨v, rfl, l2, b2⟩
    rw [← HQ.out] at l2
    have B2 := bnext B1 b2 B1.size
    obtain ⟨a, cap, rfl⟩ := l2.shape
    have L2 := Lib.hid l2
    clear b2 l2 q0 q1 B1
    go_wp2_with fail
    go_loop [9, 11] (fun x i => ∃ k : Nat, k ≤ q ∧ i = .int .i64 k ∧ x = .int .i64 (sumTo (pails (r.drips t) s) k)) (fun _ i => q - (intOf i).toNat)
    case atStart => exact ⟨0, by omega, rfl, rfl⟩
    case round =>
      obtain ⟨k, hk, rfl, rfl⟩ := hrel
      by_cases hlt : k < q
      · obtain ⟨g, rfl, hg, hcell, _⟩ := L2.out.cell hlt
        have k0 : (0 : Int) ≤ k := by omega
        have k1 : (k : Int) < q := by omega
        have x1 := sumTo_bd (t := pails (r.drips t) s) (B := 8000) (n := k) fun i hi => pails_bd HB.out s0 (by omega)
        have x2 := pails_bd HB.out s0 (k := k) (by omega)
        have x3 := colTo_bd HB.out (k := k) (n := 8) (by omega) (by omega)
        have hpd : (colTo (r.drips t) k 8 + s - 1) / s = pails (r.drips t) s k := rfl
        have hps : sumTo (pails (r.drips t) s) k + pails (r.drips t) s k = sumTo (pails (r.drips t) s) (k + 1) := rfl
        have HPS := Lib.hid hps
        clear hps
        go_wp2_with fail
        refine ⟨⟨k + 1, by omega, by go_num, by rw [HPS.out]⟩, by simp [intOf]; omega⟩
      · obtain rfl : k = q := by omega
        go_wp2_with fail
        go_ret2
        exact ⟨rfl, B2⟩
  · have hV : ∀ x, r.pval t s x = 0 := fun x => if_neg hz
    rw [hV]
    have hbb : (r.pcode t s != 0) = true := by simp [hz]
    clear hz hV
    go_enter Try.func47, Try.ntmps47
    go_wp2_with fail
    refine (l02Pails_any w.heap.size (w.heap.size + 1) c d r t s _ p0 hR p1 hT).mono ?_
    rintro e w1 ⟨rfl, b1⟩
    have B1 := bnext pB b1 pB.size
    clear b1 p0 p1 pB
    go_wp2_with fail
    go_ret2
    exact ⟨rfl, B1⟩

theorem dividedUp_p (D : Nat → Int) (s : Int) (k : Nat) (w : World) (x0 : 0 ≤ colTo D k 8) (x1 : colTo D k 8 ≤ 8000) (k0 : 1 ≤ s) (k1 : s ≤ 10000) :
    Calls Try.prog 74 #[.int .i64 (colTo D k 8), .int .i64 s] w fun e w' => e = .returned (.int .i64 (pails D s k)) ∧ w = w' :=
  dividedUp_any _ _ w x0 (by omega) k0 (by omega)

set_option maxRecDepth 100000 in
set_option maxHeartbeats 1000000 in
theorem implPailsFor_any (c d : Array Value) (r : Rf) (t : Nat → Int) (s : Int) (w : World) (hR : IsRoof c r) (hT : IsRain d t) :
    Calls Try.prog 48 #[.agg c, .agg d, .int .i64 s] w fun e w' => e = .returned (.tuple #[.int .i64 (r.pval t s (sumTo (pails (r.drips t) s) (2 * r.w + 1).toNat)), .int .i64 (r.pcode t s)]) ∧ Below w.heap.size w w' := by
  have hc := hR.size
  have hd := hT.size
  obtain ⟨p0, p1, pB⟩ := two_boxes w c d 30 32
  by_cases hz : r.pcode t s = 0
  · obtain ⟨ho, s0, s1⟩ := Rf.pcode_zero hz
    have hV : ∀ x, r.pval t s x = x := fun x => if_pos hz
    rw [hV, hz]
    have hbb : (r.pcode t s != 0) = false := by simp [hz]
    have HB := Lib.hid fun i (_ : i < 136) => ho.drips_bd i
    have hw8 := ho.1.2.1
    obtain ⟨q, hq⟩ : ∃ q, q = (2 * r.w + 1).toNat := ⟨_, rfl⟩
    have q17 : q ≤ 17 := by omega
    rw [← hq]
    have HQ := Lib.hid hq
    clear hz hV hq
    go_enter Try.func48, Try.ntmps48
    go_wp2_with fail
    refine (checkPail_any c d r t s _ hR hT).mono ?_
    rintro e w1 ⟨rfl, b1⟩
    have q0 := brow b1 p0
    have q1 := brow b1 p1
    have B1 := bnext pB b1 pB.size
    clear b1 p0 p1 pB
    go_wp2_with fail
    refine (cellDrips_any c d r t _ hR hT ho).mono ?_
    rintro e w2 ⟨v, rfl, l2, b2⟩
    rw [← HQ.out] at l2
    have B2 := bnext B1 b2 B1.size
    obtain ⟨a, cap, rfl⟩ := l2.shape
    have L2 := Lib.hid l2
    clear b2 l2 q0 q1 B1
    go_wp2_with fail
    go_loop [9, 23] (fun x i => ∃ k : Nat, k ≤ q ∧ i = .int .i64 k ∧ x = .int .i64 (sumTo (pails (r.drips t) s) k)) (fun _ i => q - (intOf i).toNat)
    case atStart => exact ⟨0, by omega, rfl, rfl⟩
    case round =>
      obtain ⟨k, hk, rfl, rfl⟩ := hrel
      by_cases hlt : k < q
      · obtain ⟨g, rfl, hg, hcell, _⟩ := L2.out.cell hlt
        have k0 : (0 : Int) ≤ k := by omega
        have k1 : (k : Int) < q := by omega
        have x1 := sumTo_bd (t := pails (r.drips t) s) (B := 8000) (n := k) fun i hi => pails_bd HB.out s0 (by omega)
        have x2 := pails_bd HB.out s0 (k := k) (by omega)
        have x3 := colTo_bd HB.out (k := k) (n := 8) (by omega) (by omega)
        have hps : sumTo (pails (r.drips t) s) k + pails (r.drips t) s k = sumTo (pails (r.drips t) s) (k + 1) := rfl
        have HPS := Lib.hid hps
        clear hps
        go_wp2_with fail
        refine (dividedUp_p _ s k _ x3.1 x3.2 s0 s1).mono ?_
        rintro e w3 ⟨rfl, rfl⟩
        go_wp2_with fail
        refine ⟨⟨k + 1, by omega, by go_num, by rw [HPS.out]⟩, by simp [intOf]; omega⟩
      · obtain rfl : k = q := by omega
        go_wp2_with fail
        go_ret2
        exact ⟨rfl, B2⟩
  · have hV : ∀ x, r.pval t s x = 0 := fun x => if_neg hz
    rw [hV]
    have hbb : (r.pcode t s != 0) = true := by simp [hz]
    clear hz hV
    go_enter Try.func48, Try.ntmps48
    go_wp2_with fail
    refine (checkPail_any c d r t s _ hR hT).mono ?_
    rintro e w1 ⟨rfl, b1⟩
    have B1 := bnext pB b1 pB.size
    clear b1 p0 p1 pB
    go_wp2_with fail
    go_ret2
    exact ⟨rfl, B1⟩
end Go.Proofs.Ytnjodicaehiadaa
