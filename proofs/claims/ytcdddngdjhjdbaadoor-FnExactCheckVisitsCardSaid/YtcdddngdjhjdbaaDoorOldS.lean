/- The oldest tile: the model's side. -/
import Derived.Test.YtcdddngdjhjdbaaDoorOldM
import Derived.Test.YtcdddngdjhjdbaaDoorGive
import Derived.Test.YtcdddngdjhjdbaaDoorEnd
import Derived.Deep.RegionHeld3
namespace Go.Proofs.YtcdddngdjhjdbaaDoor
open Go.RowKit

set_option maxRecDepth 100000 in
set_option maxHeartbeats 1000000 in
theorem l07Age_any (n : Nat) (d : Array Value) (t : Nat → Int) (i j : Nat) (w : World) (hd : rowAt w n = some d) (hA : IsU8 d 64 t) (hi : i < 8) (hj : j < 8) :
    Calls Tryd.prog 45 #[.pointer (some ⟨n, 0, none⟩), .agg #[.int .i8 i, .int .i8 j]] w fun e w' => e = .returned (.int .i64 (t (i * 8 + j))) ∧ Below w.heap.size w w' := by
  have hn := rowAt_lt hd
  have hi64 : i * 8 + j < 64 := by omega
  have t0 := hA.lo _ hi64
  have t1 := hA.hi _ hi64
  have i0 : (0 : Int) ≤ i := by omega
  have i1 : (i : Int) < 8 := by omega
  have j0 : (0 : Int) ≤ j := by omega
  have j1 : (j : Int) < 8 := by omega
  have e1 : IntKind.i64.wrap (t (i * 8 + j)) = t (i * 8 + j) := IntWalk.i64_in _ (by omega)
  go_enter Tryd.func45, Tryd.ntmps45
  go_wp2_with fail
  refine gen_world fun W hW => ?_
  have pB : Below w.heap.size w W := by rw [hW]; exact (Below.refl _ _).alloc (Nat.le_refl _) _
  have p1 : rowAt W w.heap.size = some #[.int .i8 (i : Int), .int .i8 (j : Int)] := by rw [hW]; exact rowAt_alloc_at _ _ _ _ rfl
  clear hW
  have c0 : W.cell? ⟨n, i * 8 + j, none⟩ = some (.int .u8 (t (i * 8 + j))) := (cell_of_rowAt (brow pB hd) _).trans (hA.isK.get hi64)
  have c1 := cell_of_rowAt p1 0
  have c2 := cell_of_rowAt p1 1
  simp at c1 c2
  clear p1
  go_quiet (fail)
  go_wp2_with fail
  go_ret
  exact ⟨rfl, below_drewN pB _⟩

set_option maxRecDepth 100000 in
set_option maxHeartbeats 4000000 in
theorem l07Oldest_any (k n : Nat) (c d : Array Value) (r : Rf) (t : Nat → Int) (hh ww : Nat) (hhe : r.h = hh) (hwe : r.w = ww) (h8 : hh ≤ 8) (w8 : ww ≤ 8) (h0 : 0 < hh) (w0 : 0 < ww) (w : World) (hr : rowAt w k = some c) (hR : IsRoof c r) (hd : rowAt w n = some d) (hA : IsU8 d 64 t) (p : Nat × Nat) (hF : oldP t (plUpto hh ww (hh * ww)) = p) :
    Calls Tryd.prog 52 #[.pointer (some ⟨k, 0, none⟩), .pointer (some ⟨n, 0, none⟩)] w fun e w' => e = .returned (.tuple #[.agg #[.int .i8 (p.1 : Int), .int .i8 (p.2 : Int)], .int .i64 (t (p.1 * 8 + p.2))]) ∧ Below w.heap.size w w' := by
  have hsz : hh * ww ≤ 64 := Nat.mul_le_mul h8 w8
  have hpos : 0 < hh * ww := Nat.mul_pos h0 w0
  have hnlt := rowAt_lt hd
  have hB0 : Below w.heap.size w (w.alloc (.cells #[.int .i8 0, .int .i8 0] 79)) := (Below.refl _ _).alloc (Nat.le_refl _) _
  have r0 := brow hB0 hr
  have rD := brow hB0 hd
  have rZ : RowT (w.alloc (.cells #[.int .i8 0, .int .i8 0] 79)) w.heap.size 79 #[.int .i8 0, .int .i8 0] := RowT.new w 79 _
  have CA := fun W i j hi hj hd => l07Age_any n d t i j W hd hA hi hj
  have HCA := Lib.hid CA
  clear CA
  go_enter Tryd.func52, Tryd.ntmps52
  go_wp2_with fail
  refine (l01All_any k c r hh ww hhe hwe h8 w8 _ r0 hR).mono ?_
  rintro e w1 ⟨va, rfl, la, b1⟩
  have B1 := bnext hB0 b1 hB0.size
  have rD1 := brow b1 rD
  have rZ1 := rZ.below b1
  have hs1 : w.heap.size < w1.heap.size := by have := b1.size; simp at this; omega
  rw [plUpto_size (Nat.le_refl _)] at la
  replace la := la.mono (show w.heap.size + 1 ≤ _ by simp)
  obtain ⟨aa, cap, rfl⟩ := la.shape
  have LA := Lib.hid la
  clear b1 r0 rD rZ hB0 hr
  obtain ⟨h1, _⟩ | ⟨g, cap', cur, e1, hg, hgr, hgs, hgf⟩ := la
  · omega
  cases e1
  have z0 : w1.cell? ⟨g, 0, none⟩ = some (.int .i8 0) := (cell_of_rowAt hgr _).trans ((hgf 0 (by omega)).trans (by have := plAt_even (h := hh) (w := ww) (n := hh * ww) (i := 0) (Nat.le_refl _) hpos; simp at this; show some (Value.int .i8 (plAt (plUpto hh ww (hh * ww)) 0)) = _; rw [this]))
  have z1 : w1.cell? ⟨g, 1, none⟩ = some (.int .i8 0) := (cell_of_rowAt hgr _).trans ((hgf 1 (by omega)).trans (by have := plAt_odd (h := hh) (w := ww) (n := hh * ww) (i := 0) (Nat.le_refl _) hpos; simp at this; show some (Value.int .i8 (plAt (plUpto hh ww (hh * ww)) 1)) = _; rw [this]))
  obtain ⟨N, hN⟩ : ∃ N, N = hh * ww := ⟨_, rfl⟩
  have HN := Lib.hid hN
  rw [← hN] at hpos hsz hF
  have hF' := Lib.hid hF
  have g1 : g < w1.heap.size := rowAt_lt hgr
  have HG := Lib.hid hgr
  have HGF := Lib.hid hgf
  rw [← hN]
  have N0 : (0 : Int) < N := by omega
  clear hgr hgf hgs hN hF
  go_wp2_with fail
  refine gen_world fun W2 hW => ?_
  have gO : RowT W2 w1.heap.size 79 #[.int .i8 0, .int .i8 0] := by rw [hW]; go_simp; exact RowT.new w1 79 _
  have gB : Below w1.heap.size w1 W2 := by rw [hW]; go_simp; exact (Below.refl _ _).alloc (Nat.le_refl _) _
  clear hW z0 z1
  obtain ⟨bb, hbb⟩ : ∃ bb, bb = w1.heap.size := ⟨_, rfl⟩
  have HBB := Lib.hid hbb
  rw [← hbb] at gO ⊢
  have lgb : g < bb := by omega
  clear hbb
  go_loopw [8] (fun i W => ∃ m : Nat, 1 ≤ m ∧ m ≤ N ∧ i = .int .i64 m ∧ RowT W bb 79 #[.int .i8 ((oldP t (plUpto hh ww m)).1 : Int), .int .i8 ((oldP t (plUpto hh ww m)).2 : Int)] ∧ Below w1.heap.size w1 W) (fun i _ => N - (intOf i).toNat)
  case atStart => exact ⟨1, by omega, by omega, rfl, by rw [oldP_one h0 w0]; exact gO, gB⟩
  case round =>
    clear gO gB
    obtain ⟨m, hm1, hm, rfl, gO, gB⟩ := hrel
    have m0 : 0 ≤ (m : Int) := by omega
    have rN : rowAt wr n = some d := brow gB rD1
    have qin := oldP_in (t := t) h0 w0 (plUpto hh ww m)
    have lbb := gO.lt
    have CA := HCA.out
    by_cases hlt : m < N
    · have hp := pl_in (show m < hh * ww by rw [← HN.out]; exact hlt)
      have i8 : m / ww < 8 := by omega
      have j8 : m % ww < 8 := by omega
      have hnx := Lib.hid (plUpto_next (h := hh) (w := ww) (i := m) (by rw [← HN.out]; exact hlt))
      have c0 : wr.cell? ⟨g, m * 2, none⟩ = some (.int .i8 ((m / ww : Nat) : Int)) := (cell_of_rowAt (brow gB HG.out) _).trans ((HGF.out _ (by rw [← HN.out]; omega)).trans (congrArg (fun z => some (Value.int .i8 z)) (plAt_even (Nat.le_refl _) (by rw [← HN.out]; exact hlt))))
      have c1 : wr.cell? ⟨g, m * 2 + 1, none⟩ = some (.int .i8 ((m % ww : Nat) : Int)) := (cell_of_rowAt (brow gB HG.out) _).trans ((HGF.out _ (by rw [← HN.out]; omega)).trans (congrArg (fun z => some (Value.int .i8 z)) (plAt_odd (Nat.le_refl _) (by rw [← HN.out]; exact hlt))))
      have lgg : g < wr.heap.size := rowAt_lt (brow gB HG.out)
      obtain ⟨⟨q1, q2⟩, hq⟩ : ∃ q, oldP t (plUpto hh ww m) = q := ⟨_, rfl⟩
      have HQ := Lib.hid hq
      rw [hq] at gO qin
      have q18 : q1 < 8 := by have := qin.1; simp only at this; omega
      have q28 : q2 < 8 := by have := qin.2; simp only at this; omega
      dsimp only at gO
      have k2 := cell_of_rowAt gO.row 0
      have k3 := cell_of_rowAt gO.row 1
      simp at k2 k3
      have hix : Hid (ixP (⟨(m / ww, m % ww), hp⟩ : Pl hh ww) = (m / ww) * 8 + m % ww) := Lib.hid rfl
      have m1 : (m : Int) < N := by omega
      clear hq qin
      obtain ⟨i, hi⟩ : ∃ i, m / ww = i := ⟨_, rfl⟩
      obtain ⟨j, hj⟩ : ∃ j, m % ww = j := ⟨_, rfl⟩
      have HI := Lib.hid hi
      have HJ := Lib.hid hj
      rw [hi] at c0 i8
      rw [hj] at c1 j8
      clear hi hj
      by_cases hx : t (q1 * 8 + q2) < t (i * 8 + j)
      · have hcmp : decide (t (q1 * 8 + q2) < t (i * 8 + j)) = true := by simp [hx]
        have HX := Lib.hid hx
        clear hx
        go_wp2_with fail
        refine wp_region_held_drew (S := fun w' => Below wr.heap.size wr w') (by kernel_rfl) ((Below.refl _ _).drew) (fun hH => ?_)
        refine wpAnyH_take (i := 0) (v := .pointer (some ⟨n, 0, none⟩)) rfl (by kernel_rfl) (by kernel_rfl) (by kernel_rfl) (fun _ _ _ h => h) (Or.inl ⟨by rfl, ?_⟩) hH ?_
        · intro w1 hS; (try dsimp only at hS); go_simp
        (try simp only [List.getElem_toArray]); (try simp only [List.getElem_cons_succ]); (try simp only [List.getElem_cons_zero]); (try simp only [Act.put]); (try simp only [List.setIfInBounds_toArray]); (try simp only [List.set_cons_succ]); (try simp only [List.set_cons_zero])
        refine wpAnyH_take (i := 1) (v := .slice (some ⟨g, 0, none⟩) N cap) rfl (by kernel_rfl) (by kernel_rfl) (by kernel_rfl) (fun _ _ _ h => h) (Or.inl ⟨by rfl, ?_⟩) hH ?_
        · intro w1 hS; (try dsimp only at hS); go_simp
        (try simp only [List.getElem_toArray]); (try simp only [List.getElem_cons_succ]); (try simp only [List.getElem_cons_zero]); (try simp only [Act.put]); (try simp only [List.setIfInBounds_toArray]); (try simp only [List.set_cons_succ]); (try simp only [List.set_cons_zero])
        refine wpAnyH_take (i := 2) (v := .int .i64 (m : Int)) rfl (by kernel_rfl) (by kernel_rfl) (by kernel_rfl) (fun _ _ _ h => h) (Or.inl ⟨by rfl, ?_⟩) hH ?_
        · intro w1 hS; (try dsimp only at hS); go_simp
        (try simp only [List.getElem_toArray]); (try simp only [List.getElem_cons_succ]); (try simp only [List.getElem_cons_zero]); (try simp only [Act.put]); (try simp only [List.setIfInBounds_toArray]); (try simp only [List.set_cons_succ]); (try simp only [List.set_cons_zero])
        refine wpAnyH_take (i := 3) (v := .pointer (some ⟨g, m * 2, none⟩)) rfl (by kernel_rfl) (by kernel_rfl) (by kernel_rfl) (fun _ _ _ h => h) (Or.inl ⟨by rfl, ?_⟩) hH ?_
        · intro w1 hS; (try dsimp only at hS); go_simp
        (try simp only [List.getElem_toArray]); (try simp only [List.getElem_cons_succ]); (try simp only [List.getElem_cons_zero]); (try simp only [Act.put]); (try simp only [List.setIfInBounds_toArray]); (try simp only [List.set_cons_succ]); (try simp only [List.set_cons_zero])
        refine wpAnyH_take (i := 4) (v := .agg #[.int .i8 (i : Int), .int .i8 (j : Int)]) rfl (by kernel_rfl) (by kernel_rfl) (by kernel_rfl) (fun _ _ _ h => h) (Or.inl ⟨by rfl, ?_⟩) hH ?_
        · intro w1 hS; (try dsimp only at hS); have u2 := (hS.cell (p := ⟨bb, 0, none⟩) lbb).trans k2; have u3 := (hS.cell (p := ⟨bb, 1, none⟩) lbb).trans k3; have u0 := (hS.cell (p := ⟨g, m * 2, none⟩) lgg).trans c0; have u1 := (hS.cell (p := ⟨g, m * 2 + 1, none⟩) lgg).trans c1; go_simp
        (try simp only [List.getElem_toArray]); (try simp only [List.getElem_cons_succ]); (try simp only [List.getElem_cons_zero]); (try simp only [Act.put]); (try simp only [List.setIfInBounds_toArray]); (try simp only [List.set_cons_succ]); (try simp only [List.set_cons_zero])
        refine wpAnyH_take (i := 6) (v := .pointer (some ⟨n, 0, none⟩)) rfl (by kernel_rfl) (by kernel_rfl) (by kernel_rfl) (fun _ _ _ h => h) (Or.inl ⟨by rfl, ?_⟩) hH ?_
        · intro w1 hS; (try dsimp only at hS); go_simp
        (try simp only [List.getElem_toArray]); (try simp only [List.getElem_cons_succ]); (try simp only [List.getElem_cons_zero]); (try simp only [Act.put]); (try simp only [List.setIfInBounds_toArray]); (try simp only [List.set_cons_succ]); (try simp only [List.set_cons_zero])
        refine wpAnyH_take (i := 7) (v := .agg #[.int .i8 (q1 : Int), .int .i8 (q2 : Int)]) rfl (by kernel_rfl) (by kernel_rfl) (by kernel_rfl) (fun _ _ _ h => h) (Or.inl ⟨by rfl, ?_⟩) hH ?_
        · intro w1 hS; (try dsimp only at hS); have u2 := (hS.cell (p := ⟨bb, 0, none⟩) lbb).trans k2; have u3 := (hS.cell (p := ⟨bb, 1, none⟩) lbb).trans k3; have u0 := (hS.cell (p := ⟨g, m * 2, none⟩) lgg).trans c0; have u1 := (hS.cell (p := ⟨g, m * 2 + 1, none⟩) lgg).trans c1; go_simp
        (try simp only [List.getElem_toArray]); (try simp only [List.getElem_cons_succ]); (try simp only [List.getElem_cons_zero]); (try simp only [Act.put]); (try simp only [List.setIfInBounds_toArray]); (try simp only [List.set_cons_succ]); (try simp only [List.set_cons_zero])
        refine wpAnyH_ready (rs := [5]) (by kernel_rfl) (by simp) (AllReadyH.cons rfl (fun K hK => ?_) AllReadyH.nil)
        go_simp
        refine (CA _ i j i8 j8 (brow hH rN)).mono ?_
        rintro x wx ⟨rfl, bx⟩
        go_simp
        refine hK.out _ _ (bnext hH bx hH.size) (fun hG => ?_)
        clear hK K hH bx
        replace hH := hG
        clear hG
        (try simp only [List.getElem_toArray]); (try simp only [List.getElem_cons_succ]); (try simp only [List.getElem_cons_zero]); (try simp only [Act.put]); (try simp only [List.setIfInBounds_toArray]); (try simp only [List.set_cons_succ]); (try simp only [List.set_cons_zero])
        refine wpAnyH_ready (rs := [8]) (by kernel_rfl) (by simp) (AllReadyH.cons rfl (fun K hK => ?_) AllReadyH.nil)
        go_simp
        refine (CA _ q1 q2 q18 q28 (brow hH rN)).mono ?_
        rintro x wx ⟨rfl, bx⟩
        go_simp
        refine hK.out _ _ (bnext hH bx hH.size) (fun hG => ?_)
        clear hK K hH bx
        replace hH := hG
        clear hG
        (try simp only [List.getElem_toArray]); (try simp only [List.getElem_cons_succ]); (try simp only [List.getElem_cons_zero]); (try simp only [Act.put]); (try simp only [List.setIfInBounds_toArray]); (try simp only [List.set_cons_succ]); (try simp only [List.set_cons_zero])
        refine wpAnyH_take (i := 9) (v := .bool true) rfl (by kernel_rfl) (by kernel_rfl) (by kernel_rfl) (fun _ _ _ h => h) (Or.inl ⟨by rfl, ?_⟩) hH ?_
        · intro w1 hS; (try dsimp only at hS); (try exact hcmp); go_simp
        (try simp only [List.getElem_toArray]); (try simp only [List.getElem_cons_succ]); (try simp only [List.getElem_cons_zero]); (try simp only [Act.put]); (try simp only [List.setIfInBounds_toArray]); (try simp only [List.set_cons_succ]); (try simp only [List.set_cons_zero])
        refine wpAnyH_done (by kernel_rfl) ?_ _
        have HB2 := gB.trans (hH.mono gB.size)
        have gO2 := gO.below hH
        have d0 := (hH.cell (p := ⟨g, m * 2, none⟩) lgg).trans c0
        have d1 := (hH.cell (p := ⟨g, m * 2 + 1, none⟩) lgg).trans c1
        have e2 := cell_of_rowAt gO2.row 0
        have e3 := cell_of_rowAt gO2.row 1
        have f2 := frozen_of_rowAt gO2.row 0
        have f3 := frozen_of_rowAt gO2.row 1
        simp at e2 e3
        clear hH c0 c1 k2 k3 gO
        go_wp2_with fail
        refine ⟨⟨m + 1, by omega, by omega, by go_num, ?_, (HB2.setCell (p := ⟨bb, 0, none⟩) (by have := HBB.out; simp; omega) _).setCell (p := ⟨bb, 1, none⟩) (by have := HBB.out; simp; omega) _⟩, by simp [intOf]; omega⟩
        rw [hnx.out, oldP_hit (by rw [HQ.out, hix.out, HI.out, HJ.out]; exact HX.out)]
        simp only [HI.out, HJ.out]
        exact (gO2.set _).set _
      · have hcmp : decide (t (q1 * 8 + q2) < t (i * 8 + j)) = false := by simp; omega
        have HX := Lib.hid hx
        clear hx
        go_wp2_with fail
        refine wp_region_held_drew (S := fun w' => Below wr.heap.size wr w') (by kernel_rfl) ((Below.refl _ _).drew) (fun hH => ?_)
        refine wpAnyH_take (i := 0) (v := .pointer (some ⟨n, 0, none⟩)) rfl (by kernel_rfl) (by kernel_rfl) (by kernel_rfl) (fun _ _ _ h => h) (Or.inl ⟨by rfl, ?_⟩) hH ?_
        · intro w1 hS; (try dsimp only at hS); go_simp
        (try simp only [List.getElem_toArray]); (try simp only [List.getElem_cons_succ]); (try simp only [List.getElem_cons_zero]); (try simp only [Act.put]); (try simp only [List.setIfInBounds_toArray]); (try simp only [List.set_cons_succ]); (try simp only [List.set_cons_zero])
        refine wpAnyH_take (i := 1) (v := .slice (some ⟨g, 0, none⟩) N cap) rfl (by kernel_rfl) (by kernel_rfl) (by kernel_rfl) (fun _ _ _ h => h) (Or.inl ⟨by rfl, ?_⟩) hH ?_
        · intro w1 hS; (try dsimp only at hS); go_simp
        (try simp only [List.getElem_toArray]); (try simp only [List.getElem_cons_succ]); (try simp only [List.getElem_cons_zero]); (try simp only [Act.put]); (try simp only [List.setIfInBounds_toArray]); (try simp only [List.set_cons_succ]); (try simp only [List.set_cons_zero])
        refine wpAnyH_take (i := 2) (v := .int .i64 (m : Int)) rfl (by kernel_rfl) (by kernel_rfl) (by kernel_rfl) (fun _ _ _ h => h) (Or.inl ⟨by rfl, ?_⟩) hH ?_
        · intro w1 hS; (try dsimp only at hS); go_simp
        (try simp only [List.getElem_toArray]); (try simp only [List.getElem_cons_succ]); (try simp only [List.getElem_cons_zero]); (try simp only [Act.put]); (try simp only [List.setIfInBounds_toArray]); (try simp only [List.set_cons_succ]); (try simp only [List.set_cons_zero])
        refine wpAnyH_take (i := 3) (v := .pointer (some ⟨g, m * 2, none⟩)) rfl (by kernel_rfl) (by kernel_rfl) (by kernel_rfl) (fun _ _ _ h => h) (Or.inl ⟨by rfl, ?_⟩) hH ?_
        · intro w1 hS; (try dsimp only at hS); go_simp
        (try simp only [List.getElem_toArray]); (try simp only [List.getElem_cons_succ]); (try simp only [List.getElem_cons_zero]); (try simp only [Act.put]); (try simp only [List.setIfInBounds_toArray]); (try simp only [List.set_cons_succ]); (try simp only [List.set_cons_zero])
        refine wpAnyH_take (i := 4) (v := .agg #[.int .i8 (i : Int), .int .i8 (j : Int)]) rfl (by kernel_rfl) (by kernel_rfl) (by kernel_rfl) (fun _ _ _ h => h) (Or.inl ⟨by rfl, ?_⟩) hH ?_
        · intro w1 hS; (try dsimp only at hS); have u2 := (hS.cell (p := ⟨bb, 0, none⟩) lbb).trans k2; have u3 := (hS.cell (p := ⟨bb, 1, none⟩) lbb).trans k3; have u0 := (hS.cell (p := ⟨g, m * 2, none⟩) lgg).trans c0; have u1 := (hS.cell (p := ⟨g, m * 2 + 1, none⟩) lgg).trans c1; go_simp
        (try simp only [List.getElem_toArray]); (try simp only [List.getElem_cons_succ]); (try simp only [List.getElem_cons_zero]); (try simp only [Act.put]); (try simp only [List.setIfInBounds_toArray]); (try simp only [List.set_cons_succ]); (try simp only [List.set_cons_zero])
        refine wpAnyH_take (i := 6) (v := .pointer (some ⟨n, 0, none⟩)) rfl (by kernel_rfl) (by kernel_rfl) (by kernel_rfl) (fun _ _ _ h => h) (Or.inl ⟨by rfl, ?_⟩) hH ?_
        · intro w1 hS; (try dsimp only at hS); go_simp
        (try simp only [List.getElem_toArray]); (try simp only [List.getElem_cons_succ]); (try simp only [List.getElem_cons_zero]); (try simp only [Act.put]); (try simp only [List.setIfInBounds_toArray]); (try simp only [List.set_cons_succ]); (try simp only [List.set_cons_zero])
        refine wpAnyH_take (i := 7) (v := .agg #[.int .i8 (q1 : Int), .int .i8 (q2 : Int)]) rfl (by kernel_rfl) (by kernel_rfl) (by kernel_rfl) (fun _ _ _ h => h) (Or.inl ⟨by rfl, ?_⟩) hH ?_
        · intro w1 hS; (try dsimp only at hS); have u2 := (hS.cell (p := ⟨bb, 0, none⟩) lbb).trans k2; have u3 := (hS.cell (p := ⟨bb, 1, none⟩) lbb).trans k3; have u0 := (hS.cell (p := ⟨g, m * 2, none⟩) lgg).trans c0; have u1 := (hS.cell (p := ⟨g, m * 2 + 1, none⟩) lgg).trans c1; go_simp
        (try simp only [List.getElem_toArray]); (try simp only [List.getElem_cons_succ]); (try simp only [List.getElem_cons_zero]); (try simp only [Act.put]); (try simp only [List.setIfInBounds_toArray]); (try simp only [List.set_cons_succ]); (try simp only [List.set_cons_zero])
        refine wpAnyH_ready (rs := [5]) (by kernel_rfl) (by simp) (AllReadyH.cons rfl (fun K hK => ?_) AllReadyH.nil)
        go_simp
        refine (CA _ i j i8 j8 (brow hH rN)).mono ?_
        rintro x wx ⟨rfl, bx⟩
        go_simp
        refine hK.out _ _ (bnext hH bx hH.size) (fun hG => ?_)
        clear hK K hH bx
        replace hH := hG
        clear hG
        (try simp only [List.getElem_toArray]); (try simp only [List.getElem_cons_succ]); (try simp only [List.getElem_cons_zero]); (try simp only [Act.put]); (try simp only [List.setIfInBounds_toArray]); (try simp only [List.set_cons_succ]); (try simp only [List.set_cons_zero])
        refine wpAnyH_ready (rs := [8]) (by kernel_rfl) (by simp) (AllReadyH.cons rfl (fun K hK => ?_) AllReadyH.nil)
        go_simp
        refine (CA _ q1 q2 q18 q28 (brow hH rN)).mono ?_
        rintro x wx ⟨rfl, bx⟩
        go_simp
        refine hK.out _ _ (bnext hH bx hH.size) (fun hG => ?_)
        clear hK K hH bx
        replace hH := hG
        clear hG
        (try simp only [List.getElem_toArray]); (try simp only [List.getElem_cons_succ]); (try simp only [List.getElem_cons_zero]); (try simp only [Act.put]); (try simp only [List.setIfInBounds_toArray]); (try simp only [List.set_cons_succ]); (try simp only [List.set_cons_zero])
        refine wpAnyH_take (i := 9) (v := .bool false) rfl (by kernel_rfl) (by kernel_rfl) (by kernel_rfl) (fun _ _ _ h => h) (Or.inl ⟨by rfl, ?_⟩) hH ?_
        · intro w1 hS; (try dsimp only at hS); (try exact hcmp); go_simp
        (try simp only [List.getElem_toArray]); (try simp only [List.getElem_cons_succ]); (try simp only [List.getElem_cons_zero]); (try simp only [Act.put]); (try simp only [List.setIfInBounds_toArray]); (try simp only [List.set_cons_succ]); (try simp only [List.set_cons_zero])
        refine wpAnyH_done (by kernel_rfl) ?_ _
        have HB2 := gB.trans (hH.mono gB.size)
        have gO2 := gO.below hH
        clear hH c0 c1 k2 k3 gO
        go_wp2_with fail
        refine ⟨⟨m + 1, by omega, by omega, by go_num, ?_, HB2⟩, by simp [intOf]; omega⟩
        rw [hnx.out, oldP_miss (by rw [HQ.out, hix.out, HI.out, HJ.out]; have := HX.out; simp only; omega), HQ.out]
        exact gO2
    · obtain rfl : m = N := by omega
      rw [hF'.out] at gO qin
      obtain ⟨p1, p2⟩ := p
      have p18 : p1 < 8 := by have := qin.1; simp only at this; omega
      have p28 : p2 < 8 := by have := qin.2; simp only at this; omega
      dsimp only at gO ⊢
      have gZ := rZ1.below gB
      have gB2 := B1.trans (gB.mono (by omega))
      have gw : ∃ z, RowT wr w.heap.size 79 z ∧ z.size = 2 := ⟨_, gZ, rfl⟩
      have rT : rowAt wr n = some d := rN
      clear qin gB
      go_wp2_with fail
      refine wp_region_held_drew (S := (fun w' => (RowT w' bb 79 #[.int .i8 (p1 : Int), .int .i8 (p2 : Int)] ∧ (∃ z, RowT w' w.heap.size 79 z ∧ z.size = 2) ∧ rowAt w' n = some d) ∧ Below w.heap.size w w')) (by kernel_rfl) (⟨⟨gO, gw, rT⟩, gB2.drew⟩) (fun hH => ?_)
      refine wpAnyH_take (i := 0) (v := .agg #[.int .i8 (p1 : Int), .int .i8 (p2 : Int)]) rfl (by kernel_rfl) (by kernel_rfl) (by kernel_rfl) (fun _ _ _ h => h) (Or.inl ⟨by rfl, ?_⟩) hH ?_
      · intro w1 hS; (try dsimp only at hS); obtain ⟨⟨s1, _⟩, _⟩ := hS; have u2 := cell_of_rowAt s1.row 0; have u3 := cell_of_rowAt s1.row 1; simp at u2 u3; go_simp
      (try simp only [List.getElem_toArray]); (try simp only [List.getElem_cons_succ]); (try simp only [List.getElem_cons_zero]); (try simp only [Act.put]); (try simp only [List.setIfInBounds_toArray]); (try simp only [List.set_cons_succ]); (try simp only [List.set_cons_zero])
      refine wpAnyH_take (i := 1) (v := .pointer (some ⟨n, 0, none⟩)) rfl (by kernel_rfl) (by kernel_rfl) (by kernel_rfl) (fun _ _ _ h => h) (Or.inl ⟨by rfl, ?_⟩) hH ?_
      · intro w1 hS; (try dsimp only at hS); go_simp
      (try simp only [List.getElem_toArray]); (try simp only [List.getElem_cons_succ]); (try simp only [List.getElem_cons_zero]); (try simp only [Act.put]); (try simp only [List.setIfInBounds_toArray]); (try simp only [List.set_cons_succ]); (try simp only [List.set_cons_zero])
      refine wpAnyH_take (i := 2) (v := .agg #[.int .i8 (p1 : Int), .int .i8 (p2 : Int)]) rfl (by kernel_rfl) (by kernel_rfl) (by kernel_rfl) (fun _ _ _ h => h) (Or.inl ⟨by rfl, ?_⟩) hH ?_
      · intro w1 hS; (try dsimp only at hS); obtain ⟨⟨s1, _⟩, _⟩ := hS; have u2 := cell_of_rowAt s1.row 0; have u3 := cell_of_rowAt s1.row 1; simp at u2 u3; go_simp
      (try simp only [List.getElem_toArray]); (try simp only [List.getElem_cons_succ]); (try simp only [List.getElem_cons_zero]); (try simp only [Act.put]); (try simp only [List.setIfInBounds_toArray]); (try simp only [List.set_cons_succ]); (try simp only [List.set_cons_zero])
      refine wpAnyH_ready (rs := [3]) (by kernel_rfl) (by simp) (AllReadyH.cons rfl (fun K hK => ?_) AllReadyH.nil)
      go_simp
      refine (CA _ p1 p2 p18 p28 hH.1.2.2).mono ?_
      rintro y wx ⟨rfl, bx⟩
      go_simp
      refine hK.out _ _ (⟨⟨hH.1.1.below bx, (let ⟨z, gz, hz⟩ := hH.1.2.1; ⟨z, gz.below bx, hz⟩), brow bx hH.1.2.2⟩, hH.2.trans (bx.mono hH.2.size)⟩) (fun hG => ?_)
      clear hK K hH bx
      replace hH := hG
      clear hG
      (try simp only [List.getElem_toArray]); (try simp only [List.getElem_cons_succ]); (try simp only [List.getElem_cons_zero]); (try simp only [Act.put]); (try simp only [List.setIfInBounds_toArray]); (try simp only [List.set_cons_succ]); (try simp only [List.set_cons_zero])
      refine wpAnyH_ready (rs := [4]) (by kernel_rfl) (by simp) (AllReadyH.cons rfl (fun K hK => ?_) AllReadyH.nil)
      obtain ⟨⟨s1, ⟨z, s3, hz⟩, s4⟩, sB⟩ := hH
      obtain ⟨z0, z1, rfl⟩ : ∃ z0 z1, z = #[z0, z1] := by
        obtain ⟨l⟩ := z
        match l, hz with
        | [a, b], _ => exact ⟨a, b, rfl⟩
      have v2 := cell_of_rowAt s3.row 0
      have v3 := cell_of_rowAt s3.row 1
      have f2 := frozen_of_rowAt s3.row 0
      have f3 := frozen_of_rowAt s3.row 1
      simp at v2 v3
      go_simp
      have nb : bb ≠ w.heap.size := by omega
      have nn : n ≠ w.heap.size := by omega
      have g4 : RowT ((wx.setCell ⟨w.heap.size, 0, none⟩ (.int .i8 (p1 : Int))).setCell ⟨w.heap.size, 1, none⟩ (.int .i8 (p2 : Int))) w.heap.size 79 #[.int .i8 (p1 : Int), .int .i8 (p2 : Int)] := by simpa using (s3.set (o := 0) (.int .i8 (p1 : Int))).set (o := 1) (.int .i8 (p2 : Int))
      have g2 := (s1.other nb (.int .i8 (p1 : Int)) (o := 0)).other nb (.int .i8 (p2 : Int)) (o := 1)
      have g5 := (rowAt_setCell_ne (wx.setCell ⟨w.heap.size, 0, none⟩ (.int .i8 (p1 : Int))) w.heap.size n 1 (.int .i8 (p2 : Int)) nn).trans ((rowAt_setCell_ne wx w.heap.size n 0 (.int .i8 (p1 : Int)) nn).trans s4)
      have gB3 := (sB.setCell (p := ⟨w.heap.size, 0, none⟩) (by simp) (.int .i8 (p1 : Int))).setCell (p := ⟨w.heap.size, 1, none⟩) (by simp) (.int .i8 (p2 : Int))
      obtain ⟨W3, hW3⟩ : ∃ W3, ((wx.setCell ⟨w.heap.size, 0, none⟩ (.int .i8 (p1 : Int))).setCell ⟨w.heap.size, 1, none⟩ (.int .i8 (p2 : Int))) = W3 := ⟨_, rfl⟩
      rw [hW3] at g4 g2 g5 gB3 ⊢
      clear hW3
      refine hK.out _ _ (⟨⟨g2, ⟨_, g4, rfl⟩, g5⟩, gB3⟩) (fun hG => ?_)
      clear hK K s1 s3 s4 sB v2 v3 f2 f3 hG
      have hH : Below w.heap.size w W3 := gB3
      (try simp only [List.getElem_toArray]); (try simp only [List.getElem_cons_succ]); (try simp only [List.getElem_cons_zero]); (try simp only [Act.put]); (try simp only [List.setIfInBounds_toArray]); (try simp only [List.set_cons_succ]); (try simp only [List.set_cons_zero])
      replace hH : (RowT W3 bb 79 #[.int .i8 (p1 : Int), .int .i8 (p2 : Int)] ∧ (∃ z, RowT W3 w.heap.size 79 z ∧ z.size = 2) ∧ rowAt W3 n = some d) ∧ Below w.heap.size w W3 := ⟨⟨g2, ⟨_, g4, rfl⟩, g5⟩, gB3⟩
      refine wpAnyH_take (i := 5) (v := .int .i64 (t (p1 * 8 + p2))) rfl (by kernel_rfl) (by kernel_rfl) (by kernel_rfl) (fun _ _ _ h => h) (Or.inl ⟨by rfl, ?_⟩) hH ?_
      · intro w1 hS; (try dsimp only at hS); go_simp
      (try simp only [List.getElem_toArray]); (try simp only [List.getElem_cons_succ]); (try simp only [List.getElem_cons_zero]); (try simp only [Act.put]); (try simp only [List.setIfInBounds_toArray]); (try simp only [List.set_cons_succ]); (try simp only [List.set_cons_zero])
      refine wpAnyH_done (by kernel_rfl) ?_ _
      have gr := g4.row
      go_wp2_with fail
      refine bodyPost_ret (v := .tuple #[.agg #[.int .i8 (p1 : Int), .int .i8 (p2 : Int)], .int .i64 (t (p1 * 8 + p2))]) (results_row2 (m := 2) rfl _ _ w.heap.size _ _ rfl rfl gr Tryd.underlying79 rfl (by kernel_rfl) rfl) rfl ⟨rfl, gB3⟩
end Go.Proofs.YtcdddngdjhjdbaaDoor
