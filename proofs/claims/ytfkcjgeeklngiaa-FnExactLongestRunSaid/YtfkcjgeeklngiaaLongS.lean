/- LongestRun: the model's side. -/
import Derived.Test.YtfkcjgeeklngiaaLongI
namespace Go.Proofs.Ytfkcjgeeklngiaa
open Go.RowKit

/-- What the walk over the list of places keeps: the place so far in the block that w1 lacked first; what lies between it and w3 stays. -/
structure LKeep (w1 w3 W : World) (X : Array Value) : Prop where
  first : rowAt W w1.heap.size = some X
  rows : ∀ g, w1.heap.size < g → g < w3.heap.size → rowAt W g = rowAt w3 g
  size : w3.heap.size ≤ W.heap.size
  bel : Below w1.heap.size w1 W
section
variable {w1 w3 W W' : World} {X : Array Value}
theorem LKeep.call (h : LKeep w1 w3 W X) (b : Below W.heap.size W W') : LKeep w1 w3 W' X :=
  ⟨brow b h.first, fun g h1 h2 => (rowAt_below b g (Nat.lt_of_lt_of_le h2 h.size)).trans (h.rows g h1 h2), Nat.le_trans h.size b.size, bnext h.bel b h.bel.size⟩
theorem LKeep.alloc (h : LKeep w1 w3 W X) (o : Obj) : LKeep w1 w3 (W.alloc o) X := h.call ((Below.refl _ _).alloc (Nat.le_refl _) o)
theorem LKeep.setCell (h : LKeep w1 w3 W X) (h13 : w1.heap.size < w3.heap.size) {n o : Nat} (hn : w3.heap.size ≤ n) (v : Value) : LKeep w1 w3 (W.setCell ⟨n, o, none⟩ v) X :=
  ⟨(rowAt_setCell_ne _ _ _ _ _ (by omega)).trans h.first, fun g h1 h2 => (rowAt_setCell_ne _ _ _ _ _ (by omega)).trans (h.rows g h1 h2), by simpa using h.size, h.bel.setCell (p := ⟨n, o, none⟩) (by show _ ≤ n; omega) v⟩
theorem LKeep.firstCell (h : LKeep w1 w3 W X) (o : Nat) (v : Value) : LKeep w1 w3 (W.setCell ⟨w1.heap.size, o, none⟩ v) (X.setIfInBounds o v) :=
  ⟨by have := rowAt_setCell_at W w1.heap.size o v (by rw [h.first]; rfl); rwa [h.first, Option.getD_some] at this, fun g h1 h2 => (rowAt_setCell_ne _ _ _ _ _ (by omega)).trans (h.rows g h1 h2), by simpa using h.size, h.bel.setCell (p := ⟨w1.heap.size, o, none⟩) (Nat.le_refl _) v⟩
end

set_option maxRecDepth 100000 in
set_option maxHeartbeats 4000000 in
theorem specLong_go (c : Array Value) (r : Rf) (k : Int) (hh ww : Nat) (hhe : r.h = hh) (hwe : r.w = ww) (h8 : hh ≤ 8) (w8 : ww ≤ 8) (w : World) (hR : IsRoof c r) (hk : r.told (inB k 0 3) = 0) :
    Calls Try.prog 46 #[.agg c, .int .i64 k] w fun e w' => e = .returned (r.longV k (plUpto hh ww (hh * ww))) ∧ Below w.heap.size w w' := by
  have hc := hR.size
  have hsz : hh * ww ≤ 64 := Nat.mul_le_mul h8 w8
  have p0 : rowAt ((w.alloc (.cells c 33)).alloc (.cells #[.int .i8 0, .int .i8 0] 37)) w.heap.size = some c := (rowAt_alloc_past _ _ _ (by simp)).trans (rowAt_alloc_at _ _ _ _ rfl)
  have p1 : rowAt ((w.alloc (.cells c 33)).alloc (.cells #[.int .i8 0, .int .i8 0] 37)) (w.heap.size + 1) = some #[.int .i8 0, .int .i8 0] := rowAt_alloc_at _ _ _ _ (by simp)
  have pB : Below w.heap.size w ((w.alloc (.cells c 33)).alloc (.cells #[.int .i8 0, .int .i8 0] 37)) := ((Below.refl _ _).alloc (Nat.le_refl _) _).alloc (by simp) _
  have CA := fun W h => l01All_any w.heap.size c r hh ww hhe hwe h8 w8 W h hR
  have CI := fun i p W (h : rowAt W w.heap.size = some c) (hi : i < hh) (hp : p < ww) => l01Is_t w.heap.size c r (i : Nat) (p : Nat) W h hR (by omega) (by omega) (by omega)
  have CF := fun i W (h : rowAt W w.heap.size = some c) (hi : i < hh) => l01Is_f w.heap.size c r (i : Nat) (ww : Nat) W h hR (by omega) (by omega) (by omega)
  have CK := fun i p W (h : rowAt W w.heap.size = some c) (hi : i < hh) (hp : p < ww) => l01At_any w.heap.size c r i p W h hR (by omega) (by omega)
  have HI := Lib.hid CI
  have HFF := Lib.hid CF
  have HK := Lib.hid CK
  have HKK := Lib.hid hk
  have HR := Lib.hid hR
  clear CI CF CK hhe hwe
  go_enter Try.func46, Try.ntmps46
  go_wp2_with fail
  refine (l01Kind_any k _).mono ?_
  rintro e w0 ⟨rfl, rfl⟩
  go_wp2_with fail
  refine (l01Told_any w.heap.size c r _ _ p0 hR).mono ?_
  rw [hk]
  rintro e w1 ⟨rfl, b1⟩
  have q0 := brow b1 p0
  have q1 := brow b1 p1
  have B1 := bnext pB b1 pB.size
  have lt0 := rowAt_lt q0
  clear b1 p0 p1 pB hk hR
  go_wp2_with fail
  have r0 : rowAt (w1.alloc (.cells #[.int .i8 0, .int .i8 0] 37)) w.heap.size = some c := (rowAt_alloc_past _ _ _ lt0).trans q0
  refine (CA _ r0).mono ?_
  rintro x w3 ⟨va, rfl, la, b3⟩
  have K0 : LKeep w1 w3 w3 #[.int .i8 0, .int .i8 0] := ⟨brow b3 (rowAt_alloc_at _ _ _ _ rfl), fun _ _ _ => rfl, Nat.le_refl _, ((Below.refl _ w1).alloc (Nat.le_refl _) _).trans (b3.mono (by simp))⟩
  have h13 : w1.heap.size < w3.heap.size := by have := b3.size; simp at this; omega
  rw [plUpto_size (Nat.le_refl _)] at la
  replace la := la.mono (show w1.heap.size + 1 ≤ _ by simp)
  obtain ⟨aa, ca, rfl⟩ := la.shape
  have LA := Lib.hid la
  have Q0 := Lib.hid q0
  have Q1 := Lib.hid q1
  have HB1 := Lib.hid B1
  have ls := B1.size
  have lt1 := rowAt_lt q1
  clear b3 la r0 q0 q1 B1 CA
  go_wp2_with fail
  go_loopw [9, 11] (fun v i W => ∃ m : Nat, m ≤ hh * ww ∧ i = .int .i64 m ∧ v = .int .i64 (r.bestN k (plUpto hh ww m)) ∧ LKeep w1 w3 W (r.bestP k (plUpto hh ww m))) (fun _ i _ => hh * ww - (intOf i).toNat)
  case atStart => exact ⟨0, by omega, rfl, rfl, K0⟩
  case round =>
    clear K0
    obtain ⟨m, hm, rfl, rfl, hL⟩ := hrel
    by_cases hlt : m < hh * ww
    · have hp' := pl_in hlt
      have i8 : m / ww < hh := hp'.1
      have j8 : m % ww < ww := hp'.2
      obtain ⟨h0, _⟩ | ⟨g, cap, cur, e1, hg, hgr, hgs, hgf⟩ := LA.out
      · omega
      cases e1
      have hgl := rowAt_lt hgr
      have c0 : ∀ W X, LKeep w1 w3 W X → W.cell? ⟨g, m * 2, none⟩ = some (.int .i8 ((m / ww : Nat) : Int)) := fun W X h => (cell_of_rowAt ((h.rows g (by omega) hgl).trans hgr) _).trans ((hgf _ (by omega)).trans (congrArg (fun z => some (Value.int .i8 z)) (plAt_even (Nat.le_refl _) hlt)))
      have c1 : ∀ W X, LKeep w1 w3 W X → W.cell? ⟨g, m * 2 + 1, none⟩ = some (.int .i8 ((m % ww : Nat) : Int)) := fun W X h => (cell_of_rowAt ((h.rows g (by omega) hgl).trans hgr) _).trans ((hgf _ (by omega)).trans (congrArg (fun z => some (Value.int .i8 z)) (plAt_odd (Nat.le_refl _) hlt)))
      have m0 : 0 ≤ (m : Int) := by omega
      have m1 : (m : Int) < ((hh * ww : Nat) : Int) := by omega
      have HL2 := Lib.hid hlt
      obtain ⟨i, hi⟩ : ∃ i, m / ww = i := ⟨_, rfl⟩
      obtain ⟨j, hj⟩ : ∃ j, m % ww = j := ⟨_, rfl⟩
      rw [hi] at i8 c0
      rw [hj] at j8 c1
      have HC0 := Lib.hid c0
      have HC1 := Lib.hid c1
      have HDi := Lib.hid hi
      have HDj := Lib.hid hj
      have d0 := c0 _ _ hL
      have d1 := c1 _ _ hL
      clear c0 c1 hi hj hp' hgf hgs hlt LA
      obtain ⟨N, hN⟩ : ∃ N, N = hh * ww := ⟨_, rfl⟩
      rw [← hN] at m1 hm hsz
      have hnew : rowAt (wr.alloc (.cells #[.int .i8 i, .int .i8 j] 37)) wr.heap.size = some #[.int .i8 i, .int .i8 j] := rowAt_alloc_at _ _ _ _ rfl
      have hLn := hL.alloc (.cells #[.int .i8 i, .int .i8 j] 37)
      have hs3 := hL.size
      have hmd : decide ((m : Int) < (hh : Int) * (ww : Int)) = true := decide_eq_true (by rw [← Int.natCast_mul]; exact Int.ofNat_lt.2 HL2.out)
      go_wp2_with fail
      go_loopw [12, 13] (fun q t W => ∃ y p n : Nat, p ≤ ww ∧ Hid (p = j + y) ∧ q = .int .i64 y ∧ t = .pointer (some ⟨n, 0, none⟩) ∧ w3.heap.size ≤ n ∧ rowAt W n = some #[.int .i8 i, .int .i8 p] ∧ Hid (∀ t, t < y → (r.t (i * 8 + (j + t)) == k) = true) ∧ LKeep w1 w3 W (r.bestP k (plUpto hh ww m))) (fun q _ _ => ww - j - (intOf q).toNat)
      case atStart => exact ⟨0, j, _, by omega, Lib.hid rfl, rfl, rfl, hs3, hnew, Lib.hid (by omega), hLn⟩
      case round =>
        clear hnew hLn hL d0 d1 hs3
        obtain ⟨y, p, n, hp, hpy, rfl, rfl, hn, rn, hall, hz⟩ := hrel
        have hy8 : y ≤ 8 := by have := hpy.out; omega
        have rW := brow hz.bel Q0.out
        have k0 := cell_of_rowAt rn 0
        have k1 := cell_of_rowAt rn 1
        simp at k0 k1
        by_cases hml : p < ww
        · go_wp2_with fail
          refine (HI.out i p _ rW i8 hml).mono ?_
          rintro e w4 ⟨rfl, b4⟩
          replace hz := hz.call b4
          replace rn := brow b4 rn
          replace rW := brow b4 rW
          have k0 := cell_of_rowAt rn 0
          have k1 := cell_of_rowAt rn 1
          simp at k0 k1
          clear b4
          go_wp2_with fail
          refine (HK.out i p _ rW i8 hml).mono ?_
          rintro e w5 ⟨rfl, b5⟩
          replace hz := hz.call b5
          replace rn := brow b5 rn
          have k0 := cell_of_rowAt rn 0
          have k1 := cell_of_rowAt rn 1
          have ltn := rowAt_lt rn
          simp at k0 k1
          clear b5 rW
          have e1 : IntKind.i8.wrap ((p : Int) + 1) = (p : Int) + 1 := IntWalk.i8_in _ (by omega)
          by_cases hx : (r.t (i * 8 + p) == k) = true
          · have HX := Lib.hid hx
            have hs5 := hz.size
            have hz6 := hz.alloc (.cells #[.int .i8 i, .int .i8 ((p : Int) + 1)] 37)
            have rn6 : rowAt (w5.alloc (.cells #[.int .i8 i, .int .i8 ((p : Int) + 1)] 37)) w5.heap.size = some #[.int .i8 i, .int .i8 ((p : Int) + 1)] := rowAt_alloc_at _ _ _ _ rfl
            go_wp2_with fail
            refine ⟨⟨y + 1, p + 1, w5.heap.size, by omega, Lib.hid (by have := hpy.out; omega), by go_num, rfl, hs5, rn6, Lib.hid (fun t ht => ?_), hz6⟩, by have := hpy.out; simp [intOf]; omega⟩
            by_cases e : t = y
            · subst e; rw [← hpy.out]; exact HX.out
            · exact hall.out t (by omega)
          · replace hx : (r.t (i * 8 + p) == k) = false := by simpa using hx
            have HX := Lib.hid hx
            have hr : r.run k i j ww = y := Rf.run_of (by rw [← hpy.out]; exact hp) hall.out (fun _ => by rw [← hpy.out]; exact HX.out)
            have HRn := Lib.hid hr
            clear hr
            have hyw : y ≤ 8 := by have := hpy.out; omega
            have d0 := HC0.out _ _ hz
            have d1 := HC1.out _ _ hz
            have kpf := frozen_of_rowAt hz.first
            obtain ⟨pa, pb, hab⟩ : ∃ pa pb : Nat, r.bestP k (plUpto hh ww m) = #[.int .i8 pa, .int .i8 pb] := ⟨_, _, rfl⟩
            have kp := hz.first
            rw [hab] at kp
            have kp0 := cell_of_rowAt kp 0
            have kp1 := cell_of_rowAt kp 1
            simp at kp0 kp1
            by_cases hb : r.bestN k (plUpto hh ww m) < y
            · have hxb : decide (((r.bestN k (plUpto hh ww m) : Nat) : Int) < (y : Int)) = true := by simpa using hb
              have hz2 := (hz.firstCell 0 (.int .i8 i)).firstCell 1 (.int .i8 j)
              rw [hab] at hz2
              have HN := Lib.hid hb
              clear hb
              go_wp2_with fail
              have hlt2 : r.bestN k (plUpto hh ww m) < r.run k i j ww := by rw [HRn.out]; exact HN.out
              have hit := Rf.best_hit (l := plUpto hh ww m) (x := ⟨(m / ww, m % ww), pl_in (HL2.out)⟩) (by simp only [HDi.out, HDj.out]; exact hlt2)
              rw [← plUpto_next HL2.out] at hit
              simp only [HDi.out, HDj.out, HRn.out] at hit
              refine ⟨⟨m + 1, by have := HL2.out; omega, by go_num, by rw [hit.1], by rw [hit.2]; exact hz2⟩, by have := HL2.out; simp [intOf]; omega⟩
            · have hxb : decide (((r.bestN k (plUpto hh ww m) : Nat) : Int) < (y : Int)) = false := by simpa using hb
              have HN := Lib.hid hb
              clear hb
              go_wp2_with fail
              have hlt2 : ¬ r.bestN k (plUpto hh ww m) < r.run k i j ww := by rw [HRn.out]; exact HN.out
              have mis := Rf.best_miss (l := plUpto hh ww m) (x := ⟨(m / ww, m % ww), pl_in (HL2.out)⟩) (by simp only [HDi.out, HDj.out]; exact hlt2)
              rw [← plUpto_next HL2.out] at mis
              refine ⟨⟨m + 1, by have := HL2.out; omega, by go_num, by rw [mis.1], by rw [mis.2]; exact hz⟩, by have := HL2.out; simp [intOf]; omega⟩
        · obtain rfl : p = ww := by omega
          have hr : r.run k i j p = y := Rf.run_of (by rw [← hpy.out]; exact hp) hall.out (fun h => by rw [← hpy.out] at h; omega)
          have HRn := Lib.hid hr
          clear hr
          go_wp2_with fail
          refine (HFF.out i _ rW i8).mono ?_
          rintro e w4 ⟨rfl, b4⟩
          replace hz := hz.call b4
          clear b4 rW rn k0 k1
          have hyw : y ≤ 8 := by have := hpy.out; omega
          have d0 := HC0.out _ _ hz
          have d1 := HC1.out _ _ hz
          have kpf := frozen_of_rowAt hz.first
          obtain ⟨pa, pb, hab⟩ : ∃ pa pb : Nat, r.bestP k (plUpto hh p m) = #[.int .i8 pa, .int .i8 pb] := ⟨_, _, rfl⟩
          have kp := hz.first
          rw [hab] at kp
          have kp0 := cell_of_rowAt kp 0
          have kp1 := cell_of_rowAt kp 1
          simp at kp0 kp1
          by_cases hb : r.bestN k (plUpto hh p m) < y
          · have hxb : decide (((r.bestN k (plUpto hh p m) : Nat) : Int) < (y : Int)) = true := by simpa using hb
            have hz2 := (hz.firstCell 0 (.int .i8 i)).firstCell 1 (.int .i8 j)
            rw [hab] at hz2
            have HN := Lib.hid hb
            clear hb
            go_wp2_with fail
            have hlt2 : r.bestN k (plUpto hh p m) < r.run k i j p := by rw [HRn.out]; exact HN.out
            have hit := Rf.best_hit (l := plUpto hh p m) (x := ⟨(m / p, m % p), pl_in (HL2.out)⟩) (by simp only [HDi.out, HDj.out]; exact hlt2)
            rw [← plUpto_next HL2.out] at hit
            simp only [HDi.out, HDj.out, HRn.out] at hit
            refine ⟨⟨m + 1, by have := HL2.out; omega, by go_num, by rw [hit.1], by rw [hit.2]; exact hz2⟩, by have := HL2.out; simp [intOf]; omega⟩
          · have hxb : decide (((r.bestN k (plUpto hh p m) : Nat) : Int) < (y : Int)) = false := by simpa using hb
            have HN := Lib.hid hb
            clear hb
            go_wp2_with fail
            have hlt2 : ¬ r.bestN k (plUpto hh p m) < r.run k i j p := by rw [HRn.out]; exact HN.out
            have mis := Rf.best_miss (l := plUpto hh p m) (x := ⟨(m / p, m % p), pl_in (HL2.out)⟩) (by simp only [HDi.out, HDj.out]; exact hlt2)
            rw [← plUpto_next HL2.out] at mis
            refine ⟨⟨m + 1, by have := HL2.out; omega, by go_num, by rw [mis.1], by rw [mis.2]; exact hz⟩, by have := HL2.out; simp [intOf]; omega⟩
    · obtain rfl : m = hh * ww := by omega
      have z0 := brow hL.bel Q1.out
      have zf := frozen_of_rowAt z0
      have zc0 := cell_of_rowAt z0 0
      have zc1 := cell_of_rowAt z0 1
      obtain ⟨pa, pb, hab⟩ : ∃ pa pb : Nat, r.bestP k (plUpto hh ww (hh * ww)) = #[.int .i8 pa, .int .i8 pb] := ⟨_, _, rfl⟩
      have kp := hL.first
      rw [hab] at kp
      have kp0 := cell_of_rowAt kp 0
      have kp1 := cell_of_rowAt kp 1
      simp at zc0 zc1 kp0 kp1
      have hbel : Below w.heap.size w wr := HB1.out.trans (hL.bel.mono HB1.out.size)
      by_cases h0 : r.bestN k (plUpto hh ww (hh * ww)) = 0
      · have hv : r.longV k (plUpto hh ww (hh * ww)) = .tuple #[.agg #[.int .i8 0, .int .i8 0], .int .i64 0, .int .i64 6] := if_pos h0
        have HV := Lib.hid hv
        have hxb : (((r.bestN k (plUpto hh ww (hh * ww)) : Nat) : Int) == 0) = true := by simpa using h0
        clear hv
        go_wp2_with fail
        have y1 := rowAt_setCell_at wr (w.heap.size + 1) 0 (.int .i8 0) (by rw [z0]; rfl)
        rw [z0, Option.getD_some] at y1
        have zz := rowAt_setCell_at (wr.setCell ⟨w.heap.size + 1, 0, none⟩ (.int .i8 0)) (w.heap.size + 1) 1 (.int .i8 0) (by rw [y1]; rfl)
        rw [y1, Option.getD_some] at zz
        refine bodyPost_ret (v := .tuple #[.agg #[.int .i8 0, .int .i8 0], .int .i64 0, .int .i64 6]) (results_row3 (m := 2) rfl _ _ (w.heap.size + 1) _ _ _ rfl rfl rfl zz Try.underlying37 rfl (by kernel_rfl) rfl) rfl ⟨by rw [HV.out], ?_⟩
        exact (hbel.setCell (p := ⟨w.heap.size + 1, 0, none⟩) (Nat.le_succ _) (.int .i8 0)).setCell (p := ⟨w.heap.size + 1, 1, none⟩) (Nat.le_succ _) (.int .i8 0)
      · have hv : r.longV k (plUpto hh ww (hh * ww)) = .tuple #[.agg (r.bestP k (plUpto hh ww (hh * ww))), .int .i64 (r.bestN k (plUpto hh ww (hh * ww))), .int .i64 0] := if_neg h0
        rw [hab] at hv
        have HV := Lib.hid hv
        have hxb : (((r.bestN k (plUpto hh ww (hh * ww)) : Nat) : Int) == 0) = false := by simpa using h0
        clear hv
        go_wp2_with fail
        have y1 := rowAt_setCell_at wr (w.heap.size + 1) 0 (.int .i8 pa) (by rw [z0]; rfl)
        rw [z0, Option.getD_some] at y1
        have zz := rowAt_setCell_at (wr.setCell ⟨w.heap.size + 1, 0, none⟩ (.int .i8 pa)) (w.heap.size + 1) 1 (.int .i8 pb) (by rw [y1]; rfl)
        rw [y1, Option.getD_some] at zz
        refine bodyPost_ret (v := .tuple #[.agg #[.int .i8 pa, .int .i8 pb], .int .i64 (r.bestN k (plUpto hh ww (hh * ww))), .int .i64 0]) (results_row3 (m := 2) rfl _ _ (w.heap.size + 1) _ _ _ rfl rfl rfl zz Try.underlying37 rfl (by kernel_rfl) rfl) rfl ⟨by rw [HV.out], ?_⟩
        exact (hbel.setCell (p := ⟨w.heap.size + 1, 0, none⟩) (Nat.le_succ _) (.int .i8 pa)).setCell (p := ⟨w.heap.size + 1, 1, none⟩) (Nat.le_succ _) (.int .i8 pb)
end Go.Proofs.Ytfkcjgeeklngiaa
