/- DifferIn: the model's side. -/
import Derived.Test.YtoibolmippfcgaaDiffer
namespace Go.Proofs.Ytoibolmippfcgaa
open Go.RowKit

theorem spKeep {A B g m : Nat} {i j : Value} {c e : Array Value} {wr x y : World} (hg : g < wr.heap.size) (h : (rowAt x A = some c ∧ rowAt x B = some e ∧ x.cell? ⟨g, m * 2, none⟩ = some i ∧ x.cell? ⟨g, m * 2 + 1, none⟩ = some j) ∧ Below wr.heap.size wr x) (b : Below x.heap.size x y) : (rowAt y A = some c ∧ rowAt y B = some e ∧ y.cell? ⟨g, m * 2, none⟩ = some i ∧ y.cell? ⟨g, m * 2 + 1, none⟩ = some j) ∧ Below wr.heap.size wr y :=
  have hx : g < x.heap.size := Nat.lt_of_lt_of_le hg h.2.size
  ⟨⟨brow b h.1.1, brow b h.1.2.1, (b.cell (p := ⟨g, m * 2, none⟩) hx).trans h.1.2.2.1, (b.cell (p := ⟨g, m * 2 + 1, none⟩) hx).trans h.1.2.2.2⟩, h.2.trans (b.mono h.2.size)⟩

set_option maxRecDepth 100000 in
set_option maxHeartbeats 4000000 in
theorem specDiffer_go (c e : Array Value) (r q : Rf) (hh ww : Nat) (hhe : r.h = hh) (hwe : r.w = ww) (h8 : hh ≤ 8) (w8 : ww ≤ 8) (w : World) (hR : IsRoof c r) (hQ : IsRoof e q) (ho : r.Ok) (hp : q.Ok) (hs : r.same q) :
    Calls Try.prog 23 #[.agg c, .agg e] w (GivesPs w (r.diff q (plUpto hh ww (hh * ww))) 0) := by
  obtain ⟨p0, p1, pB⟩ := two_boxes w c e 29 29
  have hc := hR.size
  have he := hQ.size
  obtain ⟨i0, hi0, hz0, hz1, hz2⟩ := info_parts A_infoPc
  have hsz : hh * ww ≤ 64 := Nat.mul_le_mul h8 w8
  have s0 : (r.w != q.w) = false := by simp [hs.1]
  have s1 : (r.h != q.h) = false := by simp [hs.2.1]
  have s2 : (r.s != q.s) = false := by simp [hs.2.2]
  have CA := fun W h => l01All_any w.heap.size c r hh ww hhe hwe h8 w8 W h hR
  clear hhe hwe
  go_enter Try.func23, Try.ntmps23
  go_wp2_with fail
  refine (l01Ok_t w.heap.size c r _ p0 hR ho).mono ?_
  rintro x w1 ⟨rfl, b1⟩
  have q0 := brow b1 p0
  have q1 := brow b1 p1
  have B1 := bnext pB b1 pB.size
  clear b1 p0 p1 pB
  go_wp2_with fail
  refine (l01Ok_t (w.heap.size + 1) e q _ q1 hQ hp).mono ?_
  rintro x w2 ⟨rfl, b2⟩
  have p0 := brow b2 q0
  have p1 := brow b2 q1
  have B2 := bnext B1 b2 B1.size
  clear b2 q0 q1 B1
  have k0 : w2.cell? ⟨w.heap.size, 0, none⟩ = some (.int .i8 r.w) := by rw [cell_of_rowAt p0, Array.getElem?_eq_getElem (by omega), hR.wide (by omega)]
  have k1 : w2.cell? ⟨w.heap.size, 1, none⟩ = some (.int .i8 r.h) := by rw [cell_of_rowAt p0, Array.getElem?_eq_getElem (by omega), hR.high (by omega)]
  have k2 : w2.cell? ⟨w.heap.size, 2, none⟩ = some (.int .u8 r.s) := by rw [cell_of_rowAt p0, Array.getElem?_eq_getElem (by omega), hR.shift (by omega)]
  have m0 : w2.cell? ⟨w.heap.size + 1, 0, none⟩ = some (.int .i8 q.w) := by rw [cell_of_rowAt p1, Array.getElem?_eq_getElem (by omega), hQ.wide (by omega)]
  have m1 : w2.cell? ⟨w.heap.size + 1, 1, none⟩ = some (.int .i8 q.h) := by rw [cell_of_rowAt p1, Array.getElem?_eq_getElem (by omega), hQ.high (by omega)]
  have m2 : w2.cell? ⟨w.heap.size + 1, 2, none⟩ = some (.int .u8 q.s) := by rw [cell_of_rowAt p1, Array.getElem?_eq_getElem (by omega), hQ.shift (by omega)]
  have ow := owns_empty w2 68 2
  have r0 : rowAt (w2.alloc (.cells #[] 68)) w.heap.size = some c := (rowAt_alloc_past _ _ _ (rowAt_lt p0)).trans p0
  have r1 : rowAt (w2.alloc (.cells #[] 68)) (w.heap.size + 1) = some e := (rowAt_alloc_past _ _ _ (rowAt_lt p1)).trans p1
  go_wp2_with fail
  clear k0 k1 k2 m0 m1 m2 s0 s1 s2
  refine (CA _ r0).mono ?_
  rintro x w3 ⟨va, rfl, la, b3⟩
  clear CA
  have ow1 := owns_below ow b3
  have t0 := brow b3 r0
  have t1 := brow b3 r1
  have hs2 := B2.size
  have B3 : Below w2.heap.size w2 w3 := ((Below.refl _ w2).alloc (Nat.le_refl _) _).trans (b3.mono (by simp))
  have hs1 : w2.heap.size < w3.heap.size := by have := b3.size; simp at this; omega
  rw [plUpto_size (Nat.le_refl _)] at la
  replace la := la.mono (show w2.heap.size + 1 ≤ _ by simp)
  obtain ⟨aa, ca, rfl⟩ := la.shape
  have LA := Lib.hid la
  have T0 := Lib.hid (brow ((Below.refl _ w2).alloc (Nat.le_refl _) (.cells #[] 68)) p0)
  have P0 := Lib.hid p0
  have P1 := Lib.hid p1
  have HB2 := Lib.hid B2
  have cs := Coll.start B3 0 0
  clear b3 ow la B3 r0 r1 t0 t1 p0 p1 T0
  go_wp2_with fail
  go_loopw [6, 8] (fun v i W => ∃ m : Nat, m ≤ hh * ww ∧ i = .int .i64 m ∧ W.ownsRow w2.heap.size 68 2 v (r.diff q (plUpto hh ww m)).length (plCells (r.diff q (plUpto hh ww m))) ∧ Coll w2 w3 W v) (fun _ i _ => hh * ww - (intOf i).toNat)
  case atStart => exact ⟨0, by omega, rfl, ow1, cs⟩
  case round =>
    clear ow1 cs
    obtain ⟨m, hm, rfl, hv, hC⟩ := hrel
    by_cases hlt : m < hh * ww
    · have hp' := pl_in hlt
      have i8 : m / ww < 8 := by omega
      have j8 : m % ww < 8 := by omega
      have rW := brow hC.bel P0.out
      have rQ := brow hC.bel P1.out
      obtain ⟨h0, _⟩ | ⟨g, cap, cur, e1, hg, hgr, hgs, hgf⟩ := LA.out.by_rows (fun g h1 h2 => hC.rows g (by omega) h2)
      · omega
      cases e1
      have c0 : wr.cell? ⟨g, m * 2, none⟩ = some (.int .i8 ((m / ww : Nat) : Int)) := (cell_of_rowAt hgr _).trans ((hgf _ (by omega)).trans (congrArg (fun z => some (Value.int .i8 z)) (plAt_even (Nat.le_refl _) hlt)))
      have c1 : wr.cell? ⟨g, m * 2 + 1, none⟩ = some (.int .i8 ((m % ww : Nat) : Int)) := (cell_of_rowAt hgr _).trans ((hgf _ (by omega)).trans (congrArg (fun z => some (Value.int .i8 z)) (plAt_odd (Nat.le_refl _) hlt)))
      have m0 : 0 ≤ (m : Int) := by omega
      have m1 : (m : Int) < ((hh * ww : Nat) : Int) := by omega
      have hpl := r.diff_len (q := q) (plUpto hh ww m)
      have hpl2 := plUpto_len hh ww m
      clear hgf hgs
      obtain ⟨N, hN⟩ : ∃ N, N = hh * ww := ⟨_, rfl⟩
      have HN := Lib.hid hN
      rw [← hN] at m1 hlt hm hsz
      generalize hi : m / ww = i at *
      generalize hj : m % ww = j at *
      have HI := Lib.hid hi
      have HJ := Lib.hid hj
      clear hi hj
      have hgw : g < wr.heap.size := rowAt_lt hgr
      have CK := fun W h => l01At_any w.heap.size c r i j W h hR i8 j8
      have CQ := fun W h => l01At_any (w.heap.size + 1) e q i j W h hQ i8 j8
      have HP := Lib.hid hp'
      clear hp' hgr
      go_wp2_with fail
      by_cases hx : (r.t (i * 8 + j) != q.t (i * 8 + j)) = true
      · refine wp_region_held_drew (S := (fun w' => (rowAt w' w.heap.size = some c ∧ rowAt w' (w.heap.size + 1) = some e ∧ w'.cell? ⟨g, m * 2, none⟩ = some (.int .i8 (i : Int)) ∧ w'.cell? ⟨g, m * 2 + 1, none⟩ = some (.int .i8 (j : Int))) ∧ Below wr.heap.size wr w')) (by kernel_rfl) (⟨⟨rW, rQ, c0, c1⟩, (Below.refl _ wr).drew⟩) (fun hH => ?_)
        refine wpAnyH_take (i := 0) (v := ?_) rfl (by kernel_rfl) (by kernel_rfl) (by kernel_rfl) (fun _ _ _ h => h) (Or.inl ⟨by rfl, ?_⟩) hH ?_
        rotate_left 1
        · intro w1 hS; (try dsimp only at hS); obtain ⟨⟨s0, s1, s2, s3⟩, _⟩ := hS; go_simp; (try with_reducible rfl)
        (try simp only [List.getElem_toArray]); (try simp only [List.getElem_cons_succ]); (try simp only [List.getElem_cons_zero]); (try simp only [Act.put]); (try simp only [List.setIfInBounds_toArray]); (try simp only [List.set_cons_succ]); (try simp only [List.set_cons_zero])
        refine wpAnyH_take (i := 1) (v := ?_) rfl (by kernel_rfl) (by kernel_rfl) (by kernel_rfl) (fun _ _ _ h => h) (Or.inl ⟨by rfl, ?_⟩) hH ?_
        rotate_left 1
        · intro w1 hS; (try dsimp only at hS); obtain ⟨⟨s0, s1, s2, s3⟩, _⟩ := hS; go_simp; (try with_reducible rfl)
        (try simp only [List.getElem_toArray]); (try simp only [List.getElem_cons_succ]); (try simp only [List.getElem_cons_zero]); (try simp only [Act.put]); (try simp only [List.setIfInBounds_toArray]); (try simp only [List.set_cons_succ]); (try simp only [List.set_cons_zero])
        refine wpAnyH_take (i := 2) (v := ?_) rfl (by kernel_rfl) (by kernel_rfl) (by kernel_rfl) (fun _ _ _ h => h) (Or.inl ⟨by rfl, ?_⟩) hH ?_
        rotate_left 1
        · intro w1 hS; (try dsimp only at hS); obtain ⟨⟨s0, s1, s2, s3⟩, _⟩ := hS; go_simp; (try with_reducible rfl)
        (try simp only [List.getElem_toArray]); (try simp only [List.getElem_cons_succ]); (try simp only [List.getElem_cons_zero]); (try simp only [Act.put]); (try simp only [List.setIfInBounds_toArray]); (try simp only [List.set_cons_succ]); (try simp only [List.set_cons_zero])
        refine wpAnyH_take (i := 3) (v := .agg #[.int .i8 (i : Int), .int .i8 (j : Int)]) rfl (by kernel_rfl) (by kernel_rfl) (by kernel_rfl) (fun _ _ _ h => h) (Or.inl ⟨by rfl, ?_⟩) hH ?_
        · intro w1 hS; (try dsimp only at hS); obtain ⟨⟨s0, s1, s2, s3⟩, _⟩ := hS; go_simp
        (try simp only [List.getElem_toArray]); (try simp only [List.getElem_cons_succ]); (try simp only [List.getElem_cons_zero]); (try simp only [Act.put]); (try simp only [List.setIfInBounds_toArray]); (try simp only [List.set_cons_succ]); (try simp only [List.set_cons_zero])
        refine wpAnyH_take (i := 5) (v := ?_) rfl (by kernel_rfl) (by kernel_rfl) (by kernel_rfl) (fun _ _ _ h => h) (Or.inl ⟨by rfl, ?_⟩) hH ?_
        rotate_left 1
        · intro w1 hS; (try dsimp only at hS); obtain ⟨⟨s0, s1, s2, s3⟩, _⟩ := hS; go_simp; (try with_reducible rfl)
        (try simp only [List.getElem_toArray]); (try simp only [List.getElem_cons_succ]); (try simp only [List.getElem_cons_zero]); (try simp only [Act.put]); (try simp only [List.setIfInBounds_toArray]); (try simp only [List.set_cons_succ]); (try simp only [List.set_cons_zero])
        refine wpAnyH_take (i := 6) (v := ?_) rfl (by kernel_rfl) (by kernel_rfl) (by kernel_rfl) (fun _ _ _ h => h) (Or.inl ⟨by rfl, ?_⟩) hH ?_
        rotate_left 1
        · intro w1 hS; (try dsimp only at hS); obtain ⟨⟨s0, s1, s2, s3⟩, _⟩ := hS; go_simp; (try with_reducible rfl)
        (try simp only [List.getElem_toArray]); (try simp only [List.getElem_cons_succ]); (try simp only [List.getElem_cons_zero]); (try simp only [Act.put]); (try simp only [List.setIfInBounds_toArray]); (try simp only [List.set_cons_succ]); (try simp only [List.set_cons_zero])
        refine wpAnyH_take (i := 7) (v := ?_) rfl (by kernel_rfl) (by kernel_rfl) (by kernel_rfl) (fun _ _ _ h => h) (Or.inl ⟨by rfl, ?_⟩) hH ?_
        rotate_left 1
        · intro w1 hS; (try dsimp only at hS); obtain ⟨⟨s0, s1, s2, s3⟩, _⟩ := hS; go_simp; (try with_reducible rfl)
        (try simp only [List.getElem_toArray]); (try simp only [List.getElem_cons_succ]); (try simp only [List.getElem_cons_zero]); (try simp only [Act.put]); (try simp only [List.setIfInBounds_toArray]); (try simp only [List.set_cons_succ]); (try simp only [List.set_cons_zero])
        refine wpAnyH_take (i := 8) (v := .agg #[.int .i8 (i : Int), .int .i8 (j : Int)]) rfl (by kernel_rfl) (by kernel_rfl) (by kernel_rfl) (fun _ _ _ h => h) (Or.inl ⟨by rfl, ?_⟩) hH ?_
        · intro w1 hS; (try dsimp only at hS); obtain ⟨⟨s0, s1, s2, s3⟩, _⟩ := hS; go_simp
        (try simp only [List.getElem_toArray]); (try simp only [List.getElem_cons_succ]); (try simp only [List.getElem_cons_zero]); (try simp only [Act.put]); (try simp only [List.setIfInBounds_toArray]); (try simp only [List.set_cons_succ]); (try simp only [List.set_cons_zero])
        refine wpAnyH_ready (rs := [4]) (by kernel_rfl) (by simp) (AllReadyH.cons rfl (fun K hK => ?_) AllReadyH.nil)
        go_simp
        refine (CK _ hH.1.1).mono ?_
        rintro x wx ⟨rfl, bx⟩
        go_simp
        refine hK.out _ _ (spKeep hgw hH bx) (fun hG => ?_)
        clear hK K hH bx
        replace hH := hG
        clear hG
        (try simp only [List.getElem_toArray]); (try simp only [List.getElem_cons_succ]); (try simp only [List.getElem_cons_zero]); (try simp only [Act.put]); (try simp only [List.setIfInBounds_toArray]); (try simp only [List.set_cons_succ]); (try simp only [List.set_cons_zero])
        refine wpAnyH_ready (rs := [9]) (by kernel_rfl) (by simp) (AllReadyH.cons rfl (fun K hK => ?_) AllReadyH.nil)
        go_simp
        refine (CQ _ hH.1.2.1).mono ?_
        rintro x wx ⟨rfl, bx⟩
        go_simp
        refine hK.out _ _ (spKeep hgw hH bx) (fun hG => ?_)
        clear hK K hH bx
        replace hH := hG
        clear hG
        (try simp only [List.getElem_toArray]); (try simp only [List.getElem_cons_succ]); (try simp only [List.getElem_cons_zero]); (try simp only [Act.put]); (try simp only [List.setIfInBounds_toArray]); (try simp only [List.set_cons_succ]); (try simp only [List.set_cons_zero])
        refine wpAnyH_take (i := 10) (v := .bool true) rfl (by kernel_rfl) (by kernel_rfl) (by kernel_rfl) (fun _ _ _ h => h) (Or.inl ⟨by rfl, ?_⟩) hH ?_
        · intro w1 hS; (try dsimp only at hS); go_simp; (try rw [hx])
        (try simp only [List.getElem_toArray]); (try simp only [List.getElem_cons_succ]); (try simp only [List.getElem_cons_zero]); (try simp only [Act.put]); (try simp only [List.setIfInBounds_toArray]); (try simp only [List.set_cons_succ]); (try simp only [List.set_cons_zero])
        refine wpAnyH_done (by kernel_rfl) ?_ _
        have hv2 := owns_below hv hH.2
        have hC2 := hC.call hH.2
        have d0 := hH.1.2.2.1
        have d1 := hH.1.2.2.2
        have hgw2 : g < wx.heap.size := Nat.lt_of_lt_of_le hgw hH.2.size
        clear hv hC c0 c1 rW rQ hH
        have hsC := hC2.bel.size
        go_wp2_with (at_builtin; refine wpList_append_own_at _ rfl _ _ 32 rfl w2.heap.size 68 i0 (.agg #[.int .i8 0, .int .i8 0]) 2 2 Try.underlying32 hi0 hz0 hz1 hz2 rfl (by decide) _ _ _ rfl (hv2.alloc _) ⟨wx.heap.size, 0, none⟩ 1 1 [.int .i8 i, .int .i8 j] rfl rfl (cell_two_new _ _ _ _) (by simp [Value.oneCell']) (by unfold maxLen; omega) (by omega) (by simp; omega) ?_; intro v' w4 own3 grow3 _ at3)
        have hC3 := hC2.append hs1 grow3 (at3.imp (fun h => h) (fun h => h.trans (by simp)))
        clear hv2 hC2 d0 d1 grow3 at3
        go_wp2_with fail
        refine ⟨⟨m + 1, by omega, by go_num, ?_, hC3⟩, by simp [intOf]; omega⟩
        rw [plUpto_next (by rw [← HN.out]; exact hlt), Rf.diff_hit (by simp only [HI.out, HJ.out]; exact hx), plCells_snoc]
        simp only [HI.out, HJ.out]
        simpa using own3
      · replace hx : (r.t (i * 8 + j) != q.t (i * 8 + j)) = false := by simpa using hx
        refine wp_region_held_drew (S := (fun w' => (rowAt w' w.heap.size = some c ∧ rowAt w' (w.heap.size + 1) = some e ∧ w'.cell? ⟨g, m * 2, none⟩ = some (.int .i8 (i : Int)) ∧ w'.cell? ⟨g, m * 2 + 1, none⟩ = some (.int .i8 (j : Int))) ∧ Below wr.heap.size wr w')) (by kernel_rfl) (⟨⟨rW, rQ, c0, c1⟩, (Below.refl _ wr).drew⟩) (fun hH => ?_)
        refine wpAnyH_take (i := 0) (v := ?_) rfl (by kernel_rfl) (by kernel_rfl) (by kernel_rfl) (fun _ _ _ h => h) (Or.inl ⟨by rfl, ?_⟩) hH ?_
        rotate_left 1
        · intro w1 hS; (try dsimp only at hS); obtain ⟨⟨s0, s1, s2, s3⟩, _⟩ := hS; go_simp; (try with_reducible rfl)
        (try simp only [List.getElem_toArray]); (try simp only [List.getElem_cons_succ]); (try simp only [List.getElem_cons_zero]); (try simp only [Act.put]); (try simp only [List.setIfInBounds_toArray]); (try simp only [List.set_cons_succ]); (try simp only [List.set_cons_zero])
        refine wpAnyH_take (i := 1) (v := ?_) rfl (by kernel_rfl) (by kernel_rfl) (by kernel_rfl) (fun _ _ _ h => h) (Or.inl ⟨by rfl, ?_⟩) hH ?_
        rotate_left 1
        · intro w1 hS; (try dsimp only at hS); obtain ⟨⟨s0, s1, s2, s3⟩, _⟩ := hS; go_simp; (try with_reducible rfl)
        (try simp only [List.getElem_toArray]); (try simp only [List.getElem_cons_succ]); (try simp only [List.getElem_cons_zero]); (try simp only [Act.put]); (try simp only [List.setIfInBounds_toArray]); (try simp only [List.set_cons_succ]); (try simp only [List.set_cons_zero])
        refine wpAnyH_take (i := 2) (v := ?_) rfl (by kernel_rfl) (by kernel_rfl) (by kernel_rfl) (fun _ _ _ h => h) (Or.inl ⟨by rfl, ?_⟩) hH ?_
        rotate_left 1
        · intro w1 hS; (try dsimp only at hS); obtain ⟨⟨s0, s1, s2, s3⟩, _⟩ := hS; go_simp; (try with_reducible rfl)
        (try simp only [List.getElem_toArray]); (try simp only [List.getElem_cons_succ]); (try simp only [List.getElem_cons_zero]); (try simp only [Act.put]); (try simp only [List.setIfInBounds_toArray]); (try simp only [List.set_cons_succ]); (try simp only [List.set_cons_zero])
        refine wpAnyH_take (i := 3) (v := .agg #[.int .i8 (i : Int), .int .i8 (j : Int)]) rfl (by kernel_rfl) (by kernel_rfl) (by kernel_rfl) (fun _ _ _ h => h) (Or.inl ⟨by rfl, ?_⟩) hH ?_
        · intro w1 hS; (try dsimp only at hS); obtain ⟨⟨s0, s1, s2, s3⟩, _⟩ := hS; go_simp
        (try simp only [List.getElem_toArray]); (try simp only [List.getElem_cons_succ]); (try simp only [List.getElem_cons_zero]); (try simp only [Act.put]); (try simp only [List.setIfInBounds_toArray]); (try simp only [List.set_cons_succ]); (try simp only [List.set_cons_zero])
        refine wpAnyH_take (i := 5) (v := ?_) rfl (by kernel_rfl) (by kernel_rfl) (by kernel_rfl) (fun _ _ _ h => h) (Or.inl ⟨by rfl, ?_⟩) hH ?_
        rotate_left 1
        · intro w1 hS; (try dsimp only at hS); obtain ⟨⟨s0, s1, s2, s3⟩, _⟩ := hS; go_simp; (try with_reducible rfl)
        (try simp only [List.getElem_toArray]); (try simp only [List.getElem_cons_succ]); (try simp only [List.getElem_cons_zero]); (try simp only [Act.put]); (try simp only [List.setIfInBounds_toArray]); (try simp only [List.set_cons_succ]); (try simp only [List.set_cons_zero])
        refine wpAnyH_take (i := 6) (v := ?_) rfl (by kernel_rfl) (by kernel_rfl) (by kernel_rfl) (fun _ _ _ h => h) (Or.inl ⟨by rfl, ?_⟩) hH ?_
        rotate_left 1
        · intro w1 hS; (try dsimp only at hS); obtain ⟨⟨s0, s1, s2, s3⟩, _⟩ := hS; go_simp; (try with_reducible rfl)
        (try simp only [List.getElem_toArray]); (try simp only [List.getElem_cons_succ]); (try simp only [List.getElem_cons_zero]); (try simp only [Act.put]); (try simp only [List.setIfInBounds_toArray]); (try simp only [List.set_cons_succ]); (try simp only [List.set_cons_zero])
        refine wpAnyH_take (i := 7) (v := ?_) rfl (by kernel_rfl) (by kernel_rfl) (by kernel_rfl) (fun _ _ _ h => h) (Or.inl ⟨by rfl, ?_⟩) hH ?_
        rotate_left 1
        · intro w1 hS; (try dsimp only at hS); obtain ⟨⟨s0, s1, s2, s3⟩, _⟩ := hS; go_simp; (try with_reducible rfl)
        (try simp only [List.getElem_toArray]); (try simp only [List.getElem_cons_succ]); (try simp only [List.getElem_cons_zero]); (try simp only [Act.put]); (try simp only [List.setIfInBounds_toArray]); (try simp only [List.set_cons_succ]); (try simp only [List.set_cons_zero])
        refine wpAnyH_take (i := 8) (v := .agg #[.int .i8 (i : Int), .int .i8 (j : Int)]) rfl (by kernel_rfl) (by kernel_rfl) (by kernel_rfl) (fun _ _ _ h => h) (Or.inl ⟨by rfl, ?_⟩) hH ?_
        · intro w1 hS; (try dsimp only at hS); obtain ⟨⟨s0, s1, s2, s3⟩, _⟩ := hS; go_simp
        (try simp only [List.getElem_toArray]); (try simp only [List.getElem_cons_succ]); (try simp only [List.getElem_cons_zero]); (try simp only [Act.put]); (try simp only [List.setIfInBounds_toArray]); (try simp only [List.set_cons_succ]); (try simp only [List.set_cons_zero])
        refine wpAnyH_ready (rs := [4]) (by kernel_rfl) (by simp) (AllReadyH.cons rfl (fun K hK => ?_) AllReadyH.nil)
        go_simp
        refine (CK _ hH.1.1).mono ?_
        rintro x wx ⟨rfl, bx⟩
        go_simp
        refine hK.out _ _ (spKeep hgw hH bx) (fun hG => ?_)
        clear hK K hH bx
        replace hH := hG
        clear hG
        (try simp only [List.getElem_toArray]); (try simp only [List.getElem_cons_succ]); (try simp only [List.getElem_cons_zero]); (try simp only [Act.put]); (try simp only [List.setIfInBounds_toArray]); (try simp only [List.set_cons_succ]); (try simp only [List.set_cons_zero])
        refine wpAnyH_ready (rs := [9]) (by kernel_rfl) (by simp) (AllReadyH.cons rfl (fun K hK => ?_) AllReadyH.nil)
        go_simp
        refine (CQ _ hH.1.2.1).mono ?_
        rintro x wx ⟨rfl, bx⟩
        go_simp
        refine hK.out _ _ (spKeep hgw hH bx) (fun hG => ?_)
        clear hK K hH bx
        replace hH := hG
        clear hG
        (try simp only [List.getElem_toArray]); (try simp only [List.getElem_cons_succ]); (try simp only [List.getElem_cons_zero]); (try simp only [Act.put]); (try simp only [List.setIfInBounds_toArray]); (try simp only [List.set_cons_succ]); (try simp only [List.set_cons_zero])
        refine wpAnyH_take (i := 10) (v := .bool false) rfl (by kernel_rfl) (by kernel_rfl) (by kernel_rfl) (fun _ _ _ h => h) (Or.inl ⟨by rfl, ?_⟩) hH ?_
        · intro w1 hS; (try dsimp only at hS); go_simp; (try rw [hx])
        (try simp only [List.getElem_toArray]); (try simp only [List.getElem_cons_succ]); (try simp only [List.getElem_cons_zero]); (try simp only [Act.put]); (try simp only [List.setIfInBounds_toArray]); (try simp only [List.set_cons_succ]); (try simp only [List.set_cons_zero])
        refine wpAnyH_done (by kernel_rfl) ?_ _
        have hv2 := owns_below hv hH.2
        have hC2 := hC.call hH.2
        clear hv hC c0 c1 rW rQ hH
        have HX := Lib.hid hx
        clear hx
        go_wp2_with fail
        refine ⟨⟨m + 1, by omega, by go_num, ?_, hC2⟩, by simp [intOf]; omega⟩
        rw [plUpto_next (by rw [← HN.out]; exact hlt), Rf.diff_miss (by simp only [HI.out, HJ.out]; exact HX.out)]
        exact hv2
    · obtain rfl : m = hh * ww := by omega
      go_wp2_with fail
      go_ret2
      exact ⟨_, rfl, (IsList.of_pls hv).mono HB2.out.size, HB2.out.trans (hC.bel.mono HB2.out.size)⟩
end Go.Proofs.Ytoibolmippfcgaa
