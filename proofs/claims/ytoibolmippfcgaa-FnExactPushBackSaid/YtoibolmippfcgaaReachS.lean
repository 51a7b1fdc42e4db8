/- ReachFrom: the model's side. -/
import Derived.Test.YtoibolmippfcgaaFlt
import Derived.Test.YtoibolmippfcgaaTiles
import Derived.Test.YtoibolmippfcgaaGive
namespace Go.Proofs.Ytoibolmippfcgaa
open Go.RowKit

noncomputable def Rf.rcode (r : Rf) (x y : Int) : Int := r.told (inB x 0 (2 * r.w) && inB y 0 8)
noncomputable def Rf.rL (r : Rf) (x y : Int) : List (Pl r.h.toNat r.w.toNat) := if r.rcode x y = 0 then fltP (fun i j => r.can y i j x) r.all else []
theorem Rf.rL_le (r : Rf) (x y : Int) : (r.rL x y).length ≤ 2000000 := by
  unfold Rf.rL
  split
  · rename_i h
    have h1 := Rf.all_le (Rf.told_zero h).1
    have h2 := fltP_len (p := fun i j => r.can y i j x) r.all
    omega
  · simp

set_option maxRecDepth 100000 in
set_option maxHeartbeats 2000000 in
theorem specReach_in (c : Array Value) (r : Rf) (x y : Int) (H V : Nat) (hhe : r.h = H) (hwe : r.w = V) (h8 : H ≤ 8) (w8 : V ≤ 8) (w : World) (hR : IsRoof c r) (hk : r.rcode x y = 0) :
    Calls Try.prog 30 #[.agg c, .int .i64 x, .int .i64 y] w (GivesT w 2 .i8 (fltP (fun i j => r.can y i j x) (plUpto H V (H * V))).length (plAt (fltP (fun i j => r.can y i j x) (plUpto H V (H * V)))) [.int .i64 (r.rcode x y)]) := by
  obtain ⟨i0, hi0, hz0, hz1, hz2⟩ := info_parts A_infoPc
  have p0 := rowAt_alloc_at w c 29 w.heap.size rfl
  obtain ⟨Wb, hWb⟩ : ∃ Wb, Wb = w.alloc (.cells c 29) := ⟨_, rfl⟩
  have pB : Hid (Below w.heap.size w Wb) := Lib.hid (by rw [hWb]; exact (Below.refl _ _).alloc (Nat.le_refl _) _)
  have hsz0 : Wb.heap.size = w.heap.size + 1 := by rw [hWb]; simp
  rw [← hWb] at p0
  have hB0 : Below Wb.heap.size Wb (Wb.alloc (.cells #[] 68)) := (Below.refl _ _).alloc (Nat.le_refl _) _
  have r0 := brow hB0 p0
  obtain ⟨ho, hxy⟩ := Rf.told_zero hk
  rw [Bool.and_eq_true] at hxy
  obtain ⟨hx, hy⟩ := hxy
  have hyb : 0 ≤ y ∧ y ≤ 8 := by simpa [inB] using hy
  have hb : (r.rcode x y != 0) = false := by simp [hk]
  have HK := Lib.hid hk
  have HR0 := Lib.hid p0
  have CT := fun W H => l01Told_any w.heap.size c r true W H hR
  have hT0 : r.told true = r.rcode x y := by unfold Rf.rcode; rw [hx, hy]; rfl
  rw [hT0] at CT
  have CC := fun W H => l04Cell_any w.heap.size c r x W H hR
  rw [hx] at CC
  have CR := fun W => l04Reach_any y W
  rw [hy] at CR
  have CA := fun W hr => l01All_any w.heap.size c r H V hhe hwe h8 w8 W hr hR
  have CN := fun W i j hr hi hj => l04Can_any w.heap.size c r x y i j W hr hR hi hj hyb
  have hsz : H * V ≤ 64 := Nat.mul_le_mul h8 w8
  have ow := owns_empty Wb 68 2
  clear hk hx hy hT0 p0 hhe hwe
  obtain ⟨p, hp⟩ : ∃ p : Nat → Nat → Bool, p = fun i j => r.can y i j x := ⟨_, rfl⟩
  rw [← hp]
  have HP : Hid (∀ i j, p i j = r.can y i j x) := Lib.hid (fun i j => by rw [hp])
  clear hp
  go_enter Try.func30, Try.ntmps30
  go_wp2_with fail
  rw [← hWb, ← hsz0]
  have HWB := Lib.hid hsz0
  clear hWb hsz0
  refine (CC _ r0).mono ?_
  rintro e w1 ⟨rfl, b1⟩
  have ow1 := owns_below ow b1
  have r1 := brow b1 r0
  have B1 := bnext hB0 b1 hB0.size
  have hs1 : Wb.heap.size < w1.heap.size := by have := b1.size; simp at this; omega
  clear b1 ow hB0 r0 CC
  go_wp2_with fail
  refine (CR _).mono ?_
  rintro e w2 ⟨rfl, rfl⟩
  go_wp2_with fail
  refine (CT _ r1).mono ?_
  rintro e w2 ⟨rfl, b2⟩
  have ow2 := owns_below ow1 b2
  have r2 := brow b2 r1
  have B2 := bnext B1 b2 B1.size
  have hs2 : Wb.heap.size < w2.heap.size := Nat.lt_of_lt_of_le hs1 b2.size
  clear b2 ow1 r1 B1 CT hs1
  go_wp2_with fail
  refine (CA _ r2).mono ?_
  rintro e w3 ⟨va, rfl, la, b3⟩
  have ow3 := owns_below ow2 b3
  have B3 := bnext B2 b3 B2.size
  have hs3 : Wb.heap.size < w3.heap.size := Nat.lt_of_lt_of_le hs2 b3.size
  rw [plUpto_size (Nat.le_refl _)] at la
  replace la := la.mono (show Wb.heap.size + 1 ≤ _ from hs2)
  obtain ⟨aa, ca, rfl⟩ := la.shape
  have LA := Lib.hid la
  have cs := Coll.start B3 0 0
  clear b3 ow2 r2 la B2 B3 CA hs2
  go_wp2_with fail
  go_loopw [8, 11] (fun v i W => ∃ m : Nat, m ≤ H * V ∧ i = .int .i64 m ∧ W.ownsRow Wb.heap.size 68 2 v (fltP p (plUpto H V m)).length (plCells (fltP p (plUpto H V m))) ∧ Coll Wb w3 W v) (fun _ i _ => H * V - (intOf i).toNat)
  case atStart => exact ⟨0, by omega, rfl, ow3, cs⟩
  case round =>
    clear ow3 cs
    obtain ⟨m, hm, rfl, hv, hC⟩ := hrel
    by_cases hlt : m < H * V
    · have hp := pl_in hlt
      have i8 : m / V < 8 := by omega
      have j8 : m % V < 8 := by omega
      have rW := brow hC.bel HR0.out
      obtain ⟨h0, _⟩ | ⟨g, cap, cur, e1, hg, hgr, hgs, hgf⟩ := LA.out.by_rows (fun g h1 h2 => hC.rows g (by omega) h2)
      · omega
      cases e1
      have c0 : wr.cell? ⟨g, m * 2, none⟩ = some (.int .i8 ((m / V : Nat) : Int)) := (cell_of_rowAt hgr _).trans ((hgf _ (by omega)).trans (congrArg (fun z => some (Value.int .i8 z)) (plAt_even (Nat.le_refl _) hlt)))
      have c1 : wr.cell? ⟨g, m * 2 + 1, none⟩ = some (.int .i8 ((m % V : Nat) : Int)) := (cell_of_rowAt hgr _).trans ((hgf _ (by omega)).trans (congrArg (fun z => some (Value.int .i8 z)) (plAt_odd (Nat.le_refl _) hlt)))
      have m0 : 0 ≤ (m : Int) := by omega
      have m1 : (m : Int) < ((H * V : Nat) : Int) := by omega
      have hpl := fltP_len (p := p) (plUpto H V m)
      have hpl2 := plUpto_len H V m
      clear hgf hgs
      obtain ⟨N, hN⟩ : ∃ N, N = H * V := ⟨_, rfl⟩
      have HN := Lib.hid hN
      rw [← hN] at m1 hlt hm hsz
      generalize hi : m / V = i at *
      generalize hj : m % V = j at *
      have HI := Lib.hid hi
      have HJ := Lib.hid hj
      clear hi hj
      have CN1 := fun W hr => CN W i j hr i8 j8
      cases hx : r.can y i j x with
      | true =>
        rw [hx] at CN1
        have HX : Hid (p i j = true) := Lib.hid ((HP.out i j).trans hx)
        clear hx
        go_wp2_with fail
        refine (CN1 _ rW).mono ?_
        rintro e w4 ⟨rfl, b2⟩
        have hv2 := owns_below hv b2
        have hC2 := hC.call b2
        have d0 : w4.cell? ⟨g, m * 2, none⟩ = some (.int .i8 (i : Int)) := (b2.cell (p := ⟨g, m * 2, none⟩) (rowAt_lt hgr)).trans c0
        have d1 : w4.cell? ⟨g, m * 2 + 1, none⟩ = some (.int .i8 (j : Int)) := (b2.cell (p := ⟨g, m * 2 + 1, none⟩) (rowAt_lt hgr)).trans c1
        have hgw2 : g < w4.heap.size := Nat.lt_of_lt_of_le (rowAt_lt hgr) b2.size
        clear hv hC b2 c0 c1 hgr rW CN1
        have hsC := hC2.bel.size
        go_wp2_with (at_builtin; refine wpList_append_own_at _ rfl _ _ 32 rfl Wb.heap.size 68 i0 (.agg #[.int .i8 0, .int .i8 0]) 2 2 Try.underlying32 hi0 hz0 hz1 hz2 rfl (by decide) _ _ _ rfl (hv2.alloc _) ⟨w4.heap.size, 0, none⟩ 1 1 [.int .i8 i, .int .i8 j] rfl rfl (cell_two_new _ _ _ _) (by simp [Value.oneCell']) (by unfold maxLen; omega) (by omega) (by simp; omega) ?_; intro v' w5 own3 grow3 _ at3)
        have hC3 := hC2.append hs3 grow3 (at3.imp (fun h => h) (fun h => h.trans (by simp)))
        clear hv2 hC2 d0 d1 grow3 at3
        go_wp2_with fail
        refine ⟨⟨m + 1, by omega, by go_num, ?_, hC3⟩, by simp [intOf]; omega⟩
        rw [plUpto_next (by rw [← HN.out]; exact hlt), fltP_hit (by simp only [HI.out, HJ.out]; exact HX.out), plCells_snoc]
        simp only [HI.out, HJ.out]
        simpa using own3
      | false =>
        rw [hx] at CN1
        have HX : Hid (p i j = false) := Lib.hid ((HP.out i j).trans hx)
        clear hx
        go_wp2_with fail
        refine (CN1 _ rW).mono ?_
        rintro e w4 ⟨rfl, b2⟩
        have hv2 := owns_below hv b2
        have hC2 := hC.call b2
        clear hv hC b2 c0 c1 hgr rW CN1
        go_wp2_with fail
        refine ⟨⟨m + 1, by omega, by go_num, ?_, hC2⟩, by simp [intOf]; omega⟩
        rw [plUpto_next (by rw [← HN.out]; exact hlt), fltP_miss (by simp only [HI.out, HJ.out]; exact HX.out)]
        exact hv2
    · obtain rfl : m = H * V := by omega
      go_wp2_with fail
      go_ret2
      refine ⟨_, by rw [HK.out]; rfl, (IsList.of_pls hv).mono (by rw [HWB.out]; omega), pB.out.trans (hC.bel.mono pB.out.size)⟩

set_option maxRecDepth 100000 in
set_option maxHeartbeats 2000000 in
theorem specReachFrom_any (c : Array Value) (r : Rf) (x y : Int) (w : World) (hR : IsRoof c r) :
    Calls Try.prog 30 #[.agg c, .int .i64 x, .int .i64 y] w (GivesT w 2 .i8 (r.rL x y).length (plAt (r.rL x y)) [.int .i64 (r.rcode x y)]) := by
  by_cases hk : r.rcode x y = 0
  · have ho := (Rf.told_zero hk).1
    have e : r.rL x y = fltP (fun i j => r.can y i j x) r.all := if_pos hk
    rw [e]
    exact specReach_in c r x y r.h.toNat r.w.toNat (by have := ho.2.2.1; omega) (by have := ho.1; omega) (by have := ho.2.2.2.1; omega) (by have := ho.2.1; omega) w hR hk
  · have e : r.rL x y = [] := if_neg hk
    rw [e]
    have hb : (r.rcode x y != 0) = true := by simp [hk]
    have p0 : rowAt ((w.alloc (.cells c 29)).alloc (.cells #[] 68)) w.heap.size = some c := (rowAt_alloc_past _ _ _ (by simp)).trans (rowAt_alloc_at w c _ _ rfl)
    have pB : Below w.heap.size w ((w.alloc (.cells c 29)).alloc (.cells #[] 68)) := ((Below.refl _ _).alloc (Nat.le_refl _) _).alloc (by simp) _
    have CC := fun W H => l04Cell_any w.heap.size c r x W H hR
    clear hk e
    cases hx : inB x 0 (2 * r.w) with
    | true =>
      rw [hx] at CC
      have CT := fun W H => l01Told_any w.heap.size c r (inB y 0 8) W H hR
      have hT0 : r.told (inB y 0 8) = r.rcode x y := by unfold Rf.rcode; rw [hx]; rfl
      rw [hT0] at CT
      clear hx hT0
      go_enter Try.func30, Try.ntmps30
      go_wp2_with fail
      refine (CC _ p0).mono ?_
      rintro e w1 ⟨rfl, b1⟩
      have r1 := brow b1 p0
      have B1 := bnext pB b1 pB.size
      clear b1 CC p0 pB
      go_wp2_with fail
      refine (l04Reach_any y _).mono ?_
      rintro e w2 ⟨rfl, rfl⟩
      go_wp2_with fail
      refine (CT _ r1).mono ?_
      rintro e w2 ⟨rfl, b2⟩
      have B2 := bnext B1 b2 B1.size
      clear b2 CT r1 B1
      go_wp2_with fail
      go_ret2
      exact ⟨_, rfl, .inl ⟨rfl, _, _, rfl⟩, B2⟩
    | false =>
      rw [hx] at CC
      have CT := fun W H => l01Told_any w.heap.size c r false W H hR
      have hT0 : r.told false = r.rcode x y := by unfold Rf.rcode; rw [hx]; rfl
      rw [hT0] at CT
      clear hx hT0
      go_enter Try.func30, Try.ntmps30
      go_wp2_with fail
      refine (CC _ p0).mono ?_
      rintro e w1 ⟨rfl, b1⟩
      have r1 := brow b1 p0
      have B1 := bnext pB b1 pB.size
      clear b1 CC p0 pB
      go_wp2_with fail
      refine (CT _ r1).mono ?_
      rintro e w2 ⟨rfl, b2⟩
      have B2 := bnext B1 b2 B1.size
      clear b2 CT r1 B1
      go_wp2_with fail
      go_ret2
      exact ⟨_, rfl, .inl ⟨rfl, _, _, rfl⟩, B2⟩
end Go.Proofs.Ytoibolmippfcgaa
