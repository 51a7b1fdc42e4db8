/- What becomes of rain: the model, whole. -/
import Derived.Test.YtoibolmippfcgaaDoorRunS
import Derived.RegionTactic
namespace Go.Proofs.YtoibolmippfcgaaDoor
open Go.RowKit

theorem IsList.of_rows {w w' : World} {base sz n : Nat} {v : Value} {f : Nat → Value} (h : IsList w base v sz n f) (hb : ∀ g, base ≤ g → rowAt w' g = rowAt w g) : IsList w' base v sz n f := by
  rcases h with h | ⟨g, cap, cur, rfl, hg, hr, hs, hf⟩
  · exact .inl h
  · exact .inr ⟨g, cap, cur, rfl, hg, (hb g hg).trans hr, hs, hf⟩

set_option maxRecDepth 100000 in
set_option maxHeartbeats 2000000 in
theorem l02Run_any (n m : Nat) (c d : Array Value) (r : Rf) (t : Nat → Int) (w : World) (hr : rowAt w n = some c) (hR : IsRoof c r) (hdd : rowAt w m = some d) (hT : IsRain d t) (ho : r.Rains t) :
    Calls Tryd.prog 56 #[.pointer (some ⟨n, 0, none⟩), .pointer (some ⟨m, 0, none⟩)] w (RunEnd r t w) := by
  have hc := hR.size
  have hd := hT.size
  have hn := rowAt_lt hr
  have hm := rowAt_lt hdd
  have hw1 := ho.1.1
  have hw8 := ho.1.2.1
  obtain ⟨hh, hhe⟩ := Int.eq_ofNat_of_zero_le (show 0 ≤ r.h by have := ho.1.2.2.1; omega)
  obtain ⟨q, hq⟩ := Int.eq_ofNat_of_zero_le (show 0 ≤ 2 * r.w + 1 by omega)
  have hh8 : hh ≤ 8 := by have := ho.1.2.2.2.1; omega
  have hk1 := hR.high (by omega)
  rw [hhe] at hk1
  have HH := Lib.hid hhe
  have HO := Lib.hid ho.bd
  have hz : Tryd.zeroCells47 = mkI .i32 136 (fun _ => 0) := by kernel_rfl
  have hzs : Tryd.zeroCells47.size = 136 := by rw [hz]; simp
  have hzo : Ones Tryd.zeroCells47 := by rw [hz]; exact (isK_mkI _ _ _).ones
  have HZ := Lib.hid hz
  clear hhe hz
  go_enter Tryd.func56, Tryd.ntmps56
  go_wp2_with fail
  refine gen_world fun W0 hW => ?_
  have hs0 : W0.heap.size = w.heap.size + 1 + 1 + 1 + 1 + 1 := by rw [hW]; simp
  have p0 : rowAt W0 w.heap.size = some (mkI .i32 136 fun _ => 0) := by rw [hW, rowAt_alloc_past _ _ _ (by simp only [World.size_alloc]; omega), rowAt_alloc_past _ _ _ (by simp only [World.size_alloc]; omega), rowAt_alloc_past _ _ _ (by simp only [World.size_alloc]; omega), rowAt_alloc_past _ _ _ (by simp only [World.size_alloc]; omega), rowAt_alloc_at _ _ _ _ rfl, HZ.out]
  have p1 : rowAt W0 (w.heap.size + 1) = some (mkI .i32 136 fun _ => 0) := by rw [hW, rowAt_alloc_past _ _ _ (by simp only [World.size_alloc]; omega), rowAt_alloc_past _ _ _ (by simp only [World.size_alloc]; omega), rowAt_alloc_past _ _ _ (by simp only [World.size_alloc]; omega), rowAt_alloc_at _ _ _ _ (by simp), HZ.out]
  have p2 : rowAt W0 (w.heap.size + 1 + 1) = some (mkI .i32 136 fun _ => 0) := by rw [hW, rowAt_alloc_past _ _ _ (by simp only [World.size_alloc]; omega), rowAt_alloc_past _ _ _ (by simp only [World.size_alloc]; omega), rowAt_alloc_at _ _ _ _ (by simp), HZ.out]
  have p3 : rowAt W0 (w.heap.size + 1 + 1 + 1) = some (mkI .i32 136 fun _ => 0) := by rw [hW, rowAt_alloc_past _ _ _ (by simp only [World.size_alloc]; omega), rowAt_alloc_at _ _ _ _ (by simp), HZ.out]
  have own : W0.ownsRow (w.heap.size + 1 + 1 + 1 + 1) 2 1 (.slice (some ⟨w.heap.size + 1 + 1 + 1 + 1, 0, none⟩) 0 0) 0 [] :=
    ⟨rfl, .inr ⟨_, 0, #[], rfl, by omega, by rw [hW]; exact heap_alloc_here _ _ _ (by simp), Nat.le_refl _, Nat.zero_le _, rfl, rfl⟩⟩
  have pB : Below w.heap.size w W0 := by rw [hW]; exact (((((Below.refl _ _).alloc (Nat.le_refl _) _).alloc (by simp) _).alloc (by simp; omega) _).alloc (by simp; omega) _).alloc (by simp; omega) _
  have hdm : r.fullD t q = r.drips t := by unfold Rf.drips; rw [hq]; rfl
  have hcm : r.fullC t q = r.comeAll t := by unfold Rf.comeAll; rw [hq]; rfl
  have HDM := Lib.hid hdm
  have HCM := Lib.hid hcm
  have HQ := Lib.hid hq
  have q17 : q ≤ 17 := by omega
  obtain ⟨i0, hi0, hz0, hz1, hz2⟩ := info_parts A_infoI
  clear hdm hcm hW hzo hzs
  have HK := Lib.hid hk1
  clear hk1
  go_loopw [9, 10] (fun v i W => ∃ k : Nat, k ≤ q ∧ i = .int .i64 k ∧ W.ownsRow (w.heap.size + 1 + 1 + 1 + 1) 2 1 v k (intsOf (r.gut t) k) ∧ rowAt W w.heap.size = some (mkI .i32 136 fun _ => 0) ∧ rowAt W (w.heap.size + 1) = some (mkI .i32 136 fun _ => 0) ∧ rowAt W (w.heap.size + 1 + 1) = some (mkI .i32 136 (r.fullD t k)) ∧ rowAt W (w.heap.size + 1 + 1 + 1) = some (mkI .i32 136 (r.fullC t k)) ∧ Below w.heap.size w W) (fun _ i _ => q - (intOf i).toNat)
  case atStart => exact ⟨0, by omega, rfl, own, p0, p1, p2.trans (congrArg some (mkI_congr fun i _ => by unfold Rf.fullD; rw [if_neg (by omega)])), p3.trans (congrArg some (mkI_congr fun i _ => by unfold Rf.fullC; rw [if_neg (by omega)])), pB⟩
  case round =>
    obtain ⟨k, hk, rfl, hown, r0, r1, r2, r3, hB⟩ := hrel
    clear own p0 p1 p2 p3 pB
    have rN := brow' hB hn hr
    by_cases hlt : k < q
    · have hcw : wr.cell? ⟨m, k, none⟩ = some (.int .i16 (t k)) := (cell_of_rowAt (brow' hB hm hdd) k).trans (hT.isK.get (by omega))
      have x0 := (HO.out k (by omega)).1
      have x1 := (HO.out k (by omega)).2
      have k0 : (0 : Int) ≤ k := by omega
      have k1 : (k : Int) < 17 := by omega
      go_wp2_with fail
      refine (l01Cells_any n c r _ rN hR).mono ?_
      rw [HQ.out]
      rintro e w2 ⟨rfl, rfl⟩
      go_wp2_with fail
      obtain ⟨wo, hwo⟩ : ∃ wo : World, wo = wr := ⟨_, rfl⟩
      rw [← hwo] at hown r0 r1 r2 r3 hB rN hcw ⊢
      clear hwo
      have RN := Lib.hid rN
      go_loopw [11, 12] (fun x i W => ∃ j : Nat, j ≤ hh ∧ i = .int .i64 j ∧ x = .int .i64 (r.come (t k) k j) ∧ rowAt W (w.heap.size + 1 + 1) = some (mkI .i32 136 (flD r (t k) k j (r.fullD t k))) ∧ rowAt W (w.heap.size + 1 + 1 + 1) = some (mkI .i32 136 (flC r (t k) k j (r.fullC t k))) ∧ Duo (w.heap.size + 1 + 1 + 1) (w.heap.size + 1 + 1) wo W) (fun _ i _ => hh - (intOf i).toNat)
      case atStart => exact ⟨0, by omega, rfl, rfl, r2.trans (congrArg some (mkI_congr (flD_zero r))), r3.trans (congrArg some (mkI_congr (flC_zero r))), Duo.refl _ _ _⟩
      case round =>
        clear hcw rN
        obtain ⟨j, hj, rfl, rfl, s2, s3, hS⟩ := hrel
        have sN := (hS.row (n := n) (by omega) (by omega)).trans RN.out
        have hcH : wr.cell? ⟨n, 1, none⟩ = some (.int .i8 hh) := (cell_of_rowAt sN 1).trans (by rw [Array.getElem?_eq_getElem (by omega), HK.out])
        by_cases hjl : j < hh
        · have hy := r.come_bd k x0 j
          have hy0 := hy.1
          have hy1 := hy.2
          have j0 : (0 : Int) ≤ j := by omega
          have j1 : (j : Int) < 8 := by omega
          have hf3 := frozen_of_rowAt s3
          have hf2 := frozen_of_rowAt s2
          have hc3 : wr.cell? ⟨w.heap.size + 1 + 1 + 1, j * 17 + k, none⟩ = some (.int .i32 (flC r (t k) k j (r.fullC t k) (j * 17 + k))) := by rw [cell_of_rowAt s3]; exact (isK_mkI _ _ _).get (by omega)
          have hc2 : wr.cell? ⟨w.heap.size + 1 + 1, j * 17 + k, none⟩ = some (.int .i32 (flD r (t k) k j (r.fullD t k) (j * 17 + k))) := by rw [cell_of_rowAt s2]; exact (isK_mkI _ _ _).get (by omega)
          have hdb := r.dripAt_bd k j x0
          have hd0 := hdb.1
          have hd1 := hdb.2
          have S2 := Lib.hid s2
          have S3 := Lib.hid s3
          have SN := Lib.hid sN
          have hsu := Lib.hid (r.come_succ (t k) k j)
          have hDD : drip1 (r.over j k) (r.abv k j) (r.come (t k) k j) = r.dripAt (t k) k j := rfl
          have HD := Lib.hid hDD
          clear s2 s3 sN hy hdb hDD
          go_wp2_with fail
          refine (l02Drip_any n c r j k (r.come (t k) k j) _ ((rowAt_setCell_ne _ _ _ _ _ (by omega)).trans SN.out) hR ho.1 (by omega) (by omega) hy0 (by omega)).mono ?_
          rw [HD.out]
          rintro e w3 ⟨rfl, rfl⟩
          go_wp2_with fail
          have hrd := rows_duo (o := j * 17 + k) (v := .int .i32 (r.come (t k) k j)) (o' := j * 17 + k) (v' := .int .i32 (r.dripAt (t k) k j)) S3.out S2.out (by omega)
          refine ⟨⟨j + 1, by omega, by go_num, by rw [← hsu.out], ?_, ?_, (hS.setA _ _).setB _ _⟩, by simp [intOf]; omega⟩
          · rw [hrd.2]; exact congrArg some ((((isK_mkI _ _ _).set (j * 17 + k) _).congr (flD_succ r (by omega))).eq)
          · rw [hrd.1]; exact congrArg some ((((isK_mkI _ _ _).set (j * 17 + k) _).congr (flC_succ r (by omega))).eq)
        · obtain rfl : j = hh := by omega
          have hgu : r.come (t k) k j = r.gut t k := by unfold Rf.gut; rw [HH.out]; rfl
          have hown2 := ownsRow_blocks (w' := wr) hown (fun g hg _ => hS.blocks g (by omega) (by omega))
          have hBr : Below w.heap.size w wr := hB.trans (hS.below.mono (by omega))
          have a0 := (hS.row (n := w.heap.size) (by omega) (by omega)).trans r0
          have a1 := (hS.row (n := w.heap.size + 1) (by omega) (by omega)).trans r1
          have a2 := s2.trans (congrArg some (mkI_congr (fullD_succ (by omega) HH.out)))
          have a3 := s3.trans (congrArg some (mkI_congr (fullC_succ HH.out)))
          have hsz : w.heap.size + 1 + 1 + 1 + 1 ≤ wr.heap.size := by have := rowAt_lt s3; omega
          rw [hgu]
          clear hown hS r0 r1 r2 r3 s2 s3 hB
          go_wp2_with (at_builtin; refine wpList_append_own _ rfl _ _ 106 rfl (w.heap.size + 1 + 1 + 1 + 1) 2 i0 (.int .i64 0) 1 8 Tryd.underlying106 hi0 hz0 hz1 hz2 rfl (by decide) _ _ _ rfl (hown2.alloc _) ⟨wr.heap.size, 0, none⟩ 1 1 [.int .i64 (r.gut t k)] rfl rfl ?c1 ?c2 ?c3 ?c4 ?c5 ?_)
          case c1 => exact cell_one_new _ _ _
          case c2 => simp [Value.oneCell']
          case c3 => unfold maxLen; omega
          case c4 => omega
          case c5 => simp; omega
          intro v3 w3 own3 grow3 _
          rw [intsOf_succ] at own3
          have hrow : ∀ y, y < w.heap.size + 1 + 1 + 1 + 1 → rowAt w3 y = rowAt wr y := fun y hy => (grown_row grow3 (by simp; omega) (fun z hz => by have := (hown2.lt z hz).1; omega)).trans (rowAt_alloc_past _ _ _ (by omega))
          have b0 := (hrow _ (by omega)).trans a0
          have b1 := (hrow _ (by omega)).trans a1
          have b2 := (hrow _ (by omega)).trans a2
          have b3 := (hrow _ (by omega)).trans a3
          have B3 : Below w.heap.size w w3 := (hBr.alloc hBr.size _).grown grow3 (by have := hBr.size; simp; omega) (by intro x hx; have := (hown2.lt x hx).1; omega)
          have BB0 := Lib.hid b0
          have BB1 := Lib.hid b1
          have BB2 := Lib.hid b2
          have BB3 := Lib.hid b3
          clear hrow b0 b1 b2 b3 a0 a1 a2 a3 grow3
          go_wp2_with fail
          exact ⟨⟨k + 1, by omega, by go_num, own3, BB0.out, BB1.out, BB2.out, BB3.out, B3⟩, by simp [intOf]; omega⟩
    · obtain rfl : k = q := by omega
      rw [HDM.out] at r2
      rw [HCM.out] at r3
      have z0 : (mkI .i32 136 fun _ => 0).size = 136 := by simp
      have z2 : (mkI .i32 136 (r.drips t)).size = 136 := by simp
      have z3 : (mkI .i32 136 (r.comeAll t)).size = 136 := by simp
      have o2 := (isK_mkI .i32 136 (r.drips t)).ones
      have o3 := (isK_mkI .i32 136 (r.comeAll t)).ones
      have hl := IsList.of_ints hown
      generalize hX : mkI .i32 136 (r.drips t) = X at *
      generalize hY : mkI .i32 136 (r.comeAll t) = Y at *
      generalize hZ : (mkI .i32 136 fun _ => 0) = Z at *
      have HX := Lib.hid hX
      have HY := Lib.hid hY
      clear hX hY hZ hown
      go_wp2_with fail
      refine (l01Cells_any n c r _ rN hR).mono ?_
      rw [HQ.out]
      rintro e w2 ⟨rfl, rfl⟩
      go_wp2_with fail
      have e1 : w.heap.size + 1 + 1 + 1 ≠ w.heap.size := by omega
      have e2 : w.heap.size + 1 + 1 ≠ w.heap.size := by omega
      have e3 : w.heap.size + 1 ≠ w.heap.size := by omega
      have e4 : w.heap.size + 1 + 1 + 1 ≠ w.heap.size + 1 := by omega
      have e5 : w.heap.size + 1 + 1 ≠ w.heap.size + 1 := by omega
      have e6 : w.heap.size ≠ w.heap.size + 1 := by omega
      go_region
      all_goals
        go_wp2_with fail
        refine bodyPost_ret (v := .tuple #[.agg X, .agg Y, _]) (results_row21 rfl _ _ w.heap.size (w.heap.size + 1) X Y _ rfl rfl rfl ?_ ?_ Tryd.underlying47 rfl (by kernel_rfl) z2 Tryd.underlying47 rfl (by kernel_rfl) z3) rfl ⟨_, by rw [HX.out, HY.out], ?_, ?_⟩
        · exact (rowAt_setRow_ne _ _ _ _ (by omega)).trans (rowAt_setRow_at _ _ _ (by rw [r0]; rfl))
        · exact rowAt_setRow_at _ _ _ (by rw [rowAt_setRow_ne _ _ _ _ (by omega), r1]; rfl)
        · rw [HQ.out]
          exact (hl.of_rows fun g hg => (rowAt_setRow_ne _ _ _ _ (by omega)).trans (rowAt_setRow_ne _ _ _ _ (by omega))).mono (by omega)
        · exact (below_setRow (below_setRow hB (by omega) _) (by omega) _).drew
end Go.Proofs.YtoibolmippfcgaaDoor
