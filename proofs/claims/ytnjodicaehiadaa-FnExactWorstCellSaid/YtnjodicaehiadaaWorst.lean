/- The cell in which most drips: contracts of both sides. -/
import Derived.Test.YtnjodicaehiadaaPails
namespace Go.Proofs.Ytnjodicaehiadaa
open Go.RowKit

/-- The first of the greatest among the first n. -/
def wst (f : Nat → Int) : Nat → Nat
  | 0 => 0
  | n + 1 => if f (wst f n) < f n then n else wst f n
theorem wst_lt (f : Nat → Int) : ∀ {n : Nat}, 0 < n → wst f n < n
  | n + 1, _ => by
    unfold wst
    split
    · omega
    · cases n with
      | zero => simp [wst]
      | succ m => have := wst_lt f (n := m + 1) (by omega); omega
theorem wst_one (f : Nat → Int) : wst f 1 = 0 := by simp [wst]
theorem wst_yes {f : Nat → Int} {n : Nat} (h : f (wst f n) < f n) : wst f (n + 1) = n := by rw [wst, if_pos h]
theorem wst_no {f : Nat → Int} {n : Nat} (h : ¬ f (wst f n) < f n) : wst f (n + 1) = wst f n := by rw [wst, if_neg h]
/-- What the program keeps beside it. -/
def mst (f : Nat → Int) (n : Nat) : Int := if n = 0 then 0 else f (wst f n)
theorem mst_pos {f : Nat → Int} {n : Nat} (h : 0 < n) : mst f n = f (wst f n) := if_neg (by omega)
theorem mst_yes {f : Nat → Int} {n : Nat} (h : mst f n < f n) : wst f (n + 1) = n ∧ mst f (n + 1) = f n := by
  by_cases h0 : n = 0
  · subst h0; exact ⟨wst_one f, by rw [mst_pos (by omega), wst_one]⟩
  · rw [mst_pos (by omega)] at h
    exact ⟨wst_yes h, by rw [mst_pos (by omega), wst_yes h]⟩
theorem mst_no {f : Nat → Int} {n : Nat} (h0 : 0 ≤ f n) (h : ¬ mst f n < f n) : wst f (n + 1) = wst f n ∧ mst f (n + 1) = mst f n := by
  by_cases hn : n = 0
  · subst hn
    have h1 : ¬ (0 : Int) < f 0 := h
    refine ⟨wst_one f, ?_⟩
    rw [mst_pos (by omega), wst_one]
    show f 0 = 0
    omega
  · rw [mst_pos (by omega)] at h
    exact ⟨wst_no h, by rw [mst_pos (by omega), wst_no h, mst_pos (by omega)]⟩

noncomputable def Rf.wc (r : Rf) (t : Nat → Int) (x : Int) : Int := if r.rok t = true then (if x = 0 then 6 else 0) else 1
noncomputable def Rf.wv (r : Rf) (t : Nat → Int) (x y : Int) : Int := if r.wc t x = 0 then y else 0
theorem Rf.wc_f {r : Rf} {t : Nat → Int} {x : Int} (h : ¬ r.Rains t) : r.wc t x = 1 := by simp [Rf.wc, Rf.rok_false h]
theorem Rf.wc_z {r : Rf} {t : Nat → Int} {x : Int} (h : r.Rains t) (hx : x = 0) : r.wc t x = 6 := by rw [Rf.wc, if_pos (Rf.rok_true h), if_pos hx]
theorem Rf.wc_n {r : Rf} {t : Nat → Int} {x : Int} (h : r.Rains t) (hx : x ≠ 0) : r.wc t x = 0 := by rw [Rf.wc, if_pos (Rf.rok_true h), if_neg hx]

def Rf.cellF (r : Rf) (t : Nat → Int) (k : Nat) : Int := colTo (r.drips t) k 8
def Rf.wIx (r : Rf) (t : Nat → Int) : Nat := wst (r.cellF t) (2 * r.w + 1).toNat

set_option maxRecDepth 100000 in
set_option maxHeartbeats 1000000 in
theorem specWorstCell_any (c d : Array Value) (r : Rf) (t : Nat → Int) (w : World) (hR : IsRoof c r) (hT : IsRain d t) :
    Calls Try.prog 38 #[.agg c, .agg d] w fun e w' => e = .returned (.tuple #[.int .i64 (r.wv t (r.cellF t (r.wIx t)) (r.wIx t)), .int .i64 (r.wv t (r.cellF t (r.wIx t)) (r.cellF t (r.wIx t))), .int .i64 (r.wc t (r.cellF t (r.wIx t)))]) ∧ Below w.heap.size w w' := by
  obtain ⟨p0, p1, pB⟩ := two_boxes w c d 30 32
  by_cases ho : r.Rains t
  · have HB := Lib.hid fun i (_ : i < 136) => ho.drips_bd i
    have hw1 := ho.1.1
    have hw8 := ho.1.2.1
    obtain ⟨q, hq⟩ : ∃ q, q = (2 * r.w + 1).toNat := ⟨_, rfl⟩
    have q17 : q ≤ 17 := by omega
    have q1 : 1 ≤ q := by omega
    have hix : r.wIx t = wst (r.cellF t) q := by unfold Rf.wIx; rw [← hq]
    rw [hix]
    have HQ := Lib.hid hq
    have hF : ∀ k, k < 17 → 0 ≤ r.cellF t k ∧ r.cellF t k ≤ 8000 := fun k hk => colTo_bd HB.out hk (by omega)
    have HF := Lib.hid hF
    have hlq := wst_lt (r.cellF t) (n := q) (by omega)
    clear hq hix hF
    go_enter Try.func38, Try.ntmps38
    go_wp2_with fail
    refine (l02Ok_t w.heap.size (w.heap.size + 1) c d r t _ p0 hR p1 hT ho).mono ?_
    rintro e w1 ⟨rfl, b1⟩
    have s0 := brow b1 p0
    have s1 := brow b1 p1
    have B1 := bnext pB b1 pB.size
    clear b1 p0 p1 pB
    go_wp2_with fail
    refine (l02Across_any w.heap.size (w.heap.size + 1) c d r t _ s0 hR s1 hT ho).mono ?_
    rintro e w2 ⟨v, rfl, l2, b2⟩
    rw [← HQ.out] at l2
    have B2 := bnext B1 b2 B1.size
    obtain ⟨a, cap, rfl⟩ := l2.shape
    have L2 := Lib.hid l2
    clear b2 l2 s0 s1 B1
    go_wp2_with fail
    go_loopw [8, 9] (fun x i W => ∃ k : Nat, 1 ≤ k ∧ k ≤ q ∧ i = .int .i64 k ∧ x = .int .i64 ((wst (r.cellF t) k : Nat) : Int) ∧ Below w2.heap.size w2 W) (fun _ i _ => q - (intOf i).toNat)
    case atStart => exact ⟨1, by omega, by omega, rfl, by rw [wst_one]; rfl, Below.refl _ _⟩
    case round =>
      obtain ⟨k, hk1, hk, rfl, rfl, hB⟩ := hrel
      have LW := L2.out.below hB (Nat.le_refl _)
      by_cases hlt : k < q
      · obtain ⟨g, rfl, hg, hcell, _⟩ := LW.cell hlt
        have hwl := wst_lt (r.cellF t) (n := k) (by omega)
        obtain ⟨g', e2, hg', hcell', _⟩ := LW.cell (k := wst (r.cellF t) k) (by omega)
        cases e2
        have k0 : (0 : Int) ≤ k := by omega
        have k1 : (k : Int) < q := by omega
        obtain ⟨x0, x1⟩ := HF.out k (by omega)
        obtain ⟨y0, y1⟩ := HF.out (wst (r.cellF t) k) (by omega)
        have h1 : wr.cell? ⟨g, k, none⟩ = some (.int .i64 (r.cellF t k)) := hcell
        have h2 : wr.cell? ⟨g, wst (r.cellF t) k, none⟩ = some (.int .i64 (r.cellF t (wst (r.cellF t) k))) := hcell'
        have HY := Lib.hid (⟨@wst_yes (r.cellF t) k, @wst_no (r.cellF t) k⟩ : _ ∧ _)
        clear hcell hcell' LW
        generalize hj : wst (r.cellF t) k = j at *
        have j0 : (0 : Int) ≤ j := by omega
        have j1 : (j : Int) < q := by omega
        have HJ := Lib.hid hj
        clear hj
        by_cases hx : r.cellF t j < r.cellF t k
        · have hd : decide (r.cellF t j < r.cellF t k) = true := by simp [hx]
          have HY2 := Lib.hid (HY.out.1 hx)
          go_wp2_with fail
          go_quiet (fail)
          go_wp2_with fail
          refine ⟨⟨k + 1, by omega, by omega, by go_num, by rw [HY2.out], below_drewN hB _⟩, by simp [intOf]; omega⟩
        · have hd : decide (r.cellF t j < r.cellF t k) = false := by simp; omega
          have HY2 := Lib.hid (HY.out.2 hx)
          go_wp2_with fail
          go_quiet (fail)
          go_wp2_with fail
          refine ⟨⟨k + 1, by omega, by omega, by go_num, by rw [HY2.out], below_drewN hB _⟩, by simp [intOf]; omega⟩
      · obtain rfl : k = q := by omega
        obtain ⟨g, rfl, hg, hcell, _⟩ := LW.cell hlq
        have h1 : wr.cell? ⟨g, wst (r.cellF t) k, none⟩ = some (.int .i64 (r.cellF t (wst (r.cellF t) k))) := hcell
        have BW := bnext B2 hB B2.size
        obtain ⟨y0, y1⟩ := HF.out (wst (r.cellF t) k) (by omega)
        clear hcell LW
        generalize hj : wst (r.cellF t) k = j at *
        have j0 : (0 : Int) ≤ j := by omega
        have j1 : (j : Int) < k := by omega
        have HJ := Lib.hid hj
        clear hj
        by_cases hz : r.cellF t j = 0
        · have hc6 := Rf.wc_z ho hz
          have hv0 : ∀ y, r.wv t (r.cellF t j) y = 0 := fun y => if_neg (by rw [hc6]; omega)
          have E : (Ending.returned (.tuple #[.int .i64 0, .int .i64 0, .int .i64 6])) = .returned (.tuple #[.int .i64 (r.wv t (r.cellF t j) j), .int .i64 (r.wv t (r.cellF t j) (r.cellF t j)), .int .i64 (r.wc t (r.cellF t j))]) := by rw [hv0, hv0, hc6]
          have HE := Lib.hid E
          clear hc6 hv0 E
          rw [hz] at h1
          clear hz
          go_wp2_with fail
          go_ret3
          exact ⟨by rw [HJ.out]; exact HE.out, BW⟩
        · have hc6 := Rf.wc_n ho hz
          have hv0 : ∀ y, r.wv t (r.cellF t j) y = y := fun y => if_pos hc6
          have E : (Ending.returned (.tuple #[.int .i64 j, .int .i64 (r.cellF t j), .int .i64 0])) = .returned (.tuple #[.int .i64 (r.wv t (r.cellF t j) j), .int .i64 (r.wv t (r.cellF t j) (r.cellF t j)), .int .i64 (r.wc t (r.cellF t j))]) := by rw [hv0, hv0, hc6]
          have HE := Lib.hid E
          have hb : (r.cellF t j == 0) = false := by simp [hz]
          clear hc6 hv0 E hz
          go_wp2_with fail
          go_quiet (fail)
          go_wp2_with fail
          go_ret3
          exact ⟨by rw [HJ.out]; exact HE.out, below_drewN BW _⟩
  · have hc6 := Rf.wc_f (x := r.cellF t (r.wIx t)) ho
    have hv0 : ∀ y, r.wv t (r.cellF t (r.wIx t)) y = 0 := fun y => if_neg (by rw [hc6]; omega)
    rw [hv0, hv0, hc6]
    clear hc6 hv0
    go_enter Try.func38, Try.ntmps38
    go_wp2_with fail
    refine (l02Ok_f w.heap.size (w.heap.size + 1) c d r t _ p0 hR p1 hT ho).mono ?_
    rintro e w1 ⟨rfl, b1⟩
    have B1 := bnext pB b1 pB.size
    clear b1 p0 p1 pB
    go_wp2_with fail
    go_ret3
    exact ⟨rfl, B1⟩

set_option maxRecDepth 100000 in
set_option maxHeartbeats 1000000 in
theorem implWorstCell_any (c d : Array Value) (r : Rf) (t : Nat → Int) (w : World) (hR : IsRoof c r) (hT : IsRain d t) :
    Calls Try.prog 39 #[.agg c, .agg d] w fun e w' => e = .returned (.tuple #[.int .i64 (r.wv t (r.cellF t (r.wIx t)) (r.wIx t)), .int .i64 (r.wv t (r.cellF t (r.wIx t)) (r.cellF t (r.wIx t))), .int .i64 (r.wc t (r.cellF t (r.wIx t)))]) ∧ Below w.heap.size w w' := by
  have hc := hR.size
  have hd := hT.size
  obtain ⟨p0, p1, pB⟩ := two_boxes w c d 30 32
  by_cases ho : r.Rains t
  · have HB := Lib.hid fun i (_ : i < 136) => ho.drips_bd i
    have hw1 := ho.1.1
    have hw8 := ho.1.2.1
    obtain ⟨q, hq⟩ : ∃ q, q = (2 * r.w + 1).toNat := ⟨_, rfl⟩
    have q17 : q ≤ 17 := by omega
    have q1 : 1 ≤ q := by omega
    have hix : r.wIx t = wst (r.cellF t) q := by unfold Rf.wIx; rw [← hq]
    rw [hix]
    have HQ := Lib.hid hq
    have hF : ∀ k, k < 17 → 0 ≤ r.cellF t k ∧ r.cellF t k ≤ 8000 := fun k hk => colTo_bd HB.out hk (by omega)
    have HF := Lib.hid hF
    clear hq hix hF
    go_enter Try.func39, Try.ntmps39
    go_wp2_with fail
    refine (implValidRain_t c d r t _ hR hT ho).mono ?_
    rintro e w1 ⟨rfl, b1⟩
    have s0 := brow b1 p0
    have s1 := brow b1 p1
    have B1 := bnext pB b1 pB.size
    clear b1 p0 p1 pB
    go_wp2_with fail
    refine (cellDrips_any c d r t _ hR hT ho).mono ?_
    rintro e w2 ⟨v, rfl, l2, b2⟩
    rw [← HQ.out] at l2
    have B2 := bnext B1 b2 B1.size
    obtain ⟨a, cap, rfl⟩ := l2.shape
    have L2 := Lib.hid l2
    clear b2 l2 s0 s1 B1
    go_wp2_with fail
    go_loop [7, 8, 19] (fun x y i => ∃ k : Nat, k ≤ q ∧ i = .int .i64 k ∧ x = .int .i64 ((wst (r.cellF t) k : Nat) : Int) ∧ y = .int .i64 (mst (r.cellF t) k)) (fun _ _ i => q - (intOf i).toNat)
    case atStart => exact ⟨0, by omega, rfl, rfl, rfl⟩
    case round =>
      obtain ⟨k, hk, rfl, rfl, rfl⟩ := hrel
      by_cases hlt : k < q
      · obtain ⟨g, rfl, hg, hcell, _⟩ := L2.out.cell hlt
        have k0 : (0 : Int) ≤ k := by omega
        have k1 : (k : Int) < q := by omega
        obtain ⟨x0, x1⟩ := HF.out k (by omega)
        have h1 : w2.cell? ⟨g, k, none⟩ = some (.int .i64 (r.cellF t k)) := hcell
        clear hcell
        by_cases hx : mst (r.cellF t) k < r.cellF t k
        · have hd : decide (mst (r.cellF t) k < r.cellF t k) = true := by simp [hx]
          have HY := Lib.hid (mst_yes hx)
          go_wp2_with fail
          refine ⟨⟨k + 1, by omega, by go_num, by rw [HY.out.1], by rw [HY.out.2]⟩, by simp [intOf]; omega⟩
        · have hd : decide (mst (r.cellF t) k < r.cellF t k) = false := by simp; omega
          have HY := Lib.hid (mst_no x0 hx)
          go_wp2_with fail
          refine ⟨⟨k + 1, by omega, by go_num, by rw [HY.out.1], by rw [HY.out.2]⟩, by simp [intOf]; omega⟩
      · obtain rfl : k = q := by omega
        have hm : mst (r.cellF t) k = r.cellF t (wst (r.cellF t) k) := mst_pos (by omega)
        rw [hm]
        clear hm
        generalize hj : wst (r.cellF t) k = j at *
        have HJ := Lib.hid hj
        clear hj
        by_cases hz : r.cellF t j = 0
        · have hc6 := Rf.wc_z ho hz
          have hv0 : ∀ y, r.wv t (r.cellF t j) y = 0 := fun y => if_neg (by rw [hc6]; omega)
          have E : (Ending.returned (.tuple #[.int .i64 0, .int .i64 0, .int .i64 6])) = .returned (.tuple #[.int .i64 (r.wv t (r.cellF t j) j), .int .i64 (r.wv t (r.cellF t j) (r.cellF t j)), .int .i64 (r.wc t (r.cellF t j))]) := by rw [hv0, hv0, hc6]
          have HE := Lib.hid E
          have hb : (r.cellF t j == 0) = true := by simp [hz]
          clear hc6 hv0 E hz
          go_wp2_with fail
          go_ret3
          exact ⟨by rw [HJ.out]; exact HE.out, B2⟩
        · have hc6 := Rf.wc_n ho hz
          have hv0 : ∀ y, r.wv t (r.cellF t j) y = y := fun y => if_pos hc6
          have E : (Ending.returned (.tuple #[.int .i64 j, .int .i64 (r.cellF t j), .int .i64 0])) = .returned (.tuple #[.int .i64 (r.wv t (r.cellF t j) j), .int .i64 (r.wv t (r.cellF t j) (r.cellF t j)), .int .i64 (r.wc t (r.cellF t j))]) := by rw [hv0, hv0, hc6]
          have HE := Lib.hid E
          have hb : (r.cellF t j == 0) = false := by simp [hz]
          clear hc6 hv0 E hz
          go_wp2_with fail
          go_ret3
          exact ⟨by rw [HJ.out]; exact HE.out, B2⟩
  · have hc6 := Rf.wc_f (x := r.cellF t (r.wIx t)) ho
    have hv0 : ∀ y, r.wv t (r.cellF t (r.wIx t)) y = 0 := fun y => if_neg (by rw [hc6]; omega)
    rw [hv0, hv0, hc6]
    clear hc6 hv0
    go_enter Try.func39, Try.ntmps39
    go_wp2_with fail
    refine (implValidRain_f c d r t _ hR hT ho).mono ?_
    rintro e w1 ⟨rfl, b1⟩
    have B1 := bnext pB b1 pB.size
    clear b1 p0 p1 pB
    go_wp2_with fail
    go_ret3
    exact ⟨rfl, B1⟩
end Go.Proofs.Ytnjodicaehiadaa
