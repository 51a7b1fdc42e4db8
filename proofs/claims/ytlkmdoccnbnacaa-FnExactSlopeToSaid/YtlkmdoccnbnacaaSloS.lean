/- SlopeTo: the model. -/
import Derived.Test.YtlkmdoccnbnacaaSloA
namespace Go.Proofs.Ytlkmdoccnbnacaa
open Go.RowKit

theorem grown2 {w w3 : World} {z : Array Value} {t1 t3 : TypeId} (h : ((w.alloc (.cells z t1)).alloc (.cells #[] t3)).grownBy w3 (some (w.heap.size + 1))) :
    rowAt w3 w.heap.size = some z ∧ Below w.heap.size w w3 := by
  refine ⟨rowAt_grown h ((rowAt_alloc_past _ _ _ (by simp)).trans (rowAt_alloc_at _ _ _ _ rfl)) (by simp), ?_⟩
  exact (((Below.refl _ _).alloc (Nat.le_refl _) _).alloc (by simp) _).grown h (by simp; omega) (by intro x hx; cases hx; omega)
set_option maxRecDepth 100000 in
set_option maxHeartbeats 4000000 in
theorem specSlopeTo_any (y z : Int) (b m : Nat) (p : Nat → Int) (v : Value) (w : World) (hv : IsList w b v 2 m (pipeV p)) (hb : pipeB p m) (hm : m ≤ 2000000) :
    Calls Try.prog 51 #[.int .i64 y, .int .i64 z, v] w (GivesGutT w (sloR y z m p) [.int .i64 (sloC y z m p)]) := by
  obtain ⟨i0, hi0, hz0, hz1, hz2⟩ := info_parts A_infoPp
  have B0 : Below w.heap.size w (w.alloc (.cells zeroG 33)) := (Below.refl _ _).alloc (Nat.le_refl _) _
  have r0 : rowAt (w.alloc (.cells zeroG 33)) w.heap.size = some zeroG := rowAt_alloc_at _ _ _ _ rfl
  unfold zeroG at B0 r0
  have hoz : Ones zeroG := isGut_zero.ones
  have hozl := hoz
  unfold zeroG at hozl
  have hzs : zeroG.size = 21 := rfl
  have l0 : w.heap.size < w.heap.size + 1 := by omega
  by_cases hy : 1 ≤ y ∧ y ≤ 17
  rotate_left
  · obtain ⟨e1, e2⟩ := slo_a (y := y) (z := z) (m := m) (p := p) fun h => hy h.1
    have E1 := Lib.hid e1
    have E2 := Lib.hid e2
    clear e1 e2 hv
    go_enter Try.func51, Try.ntmps51
    go_wp2_with fail
    refine (l00In_f _ _ _ _ hy).mono ?_
    rintro e w1 ⟨rfl, rfl⟩
    go_wp2_with fail
    refine bodyPost_ret (v := .tuple #[.agg zeroG, .int .i64 2]) (results_row2 (m := 21) rfl _ _ w.heap.size _ _ rfl rfl (rowAt_alloc_at _ _ _ _ rfl) Try.underlying33 rfl (by kernel_rfl) rfl) rfl ⟨zeroG, .slice none 0 0, by rw [E1.out], by rw [E2.out]; exact isGut_zero, by rw [E2.out]; exact .inl ⟨rfl, _, _, rfl⟩, B0⟩
  by_cases hz : 0 ≤ z ∧ z ≤ 1000
  rotate_left
  · obtain ⟨e1, e2⟩ := slo_a (y := y) (z := z) (m := m) (p := p) fun h => hz h.2
    have E1 := Lib.hid e1
    have E2 := Lib.hid e2
    clear e1 e2 hv
    go_enter Try.func51, Try.ntmps51
    go_wp2_with fail
    refine (l00In_t _ _ _ _ hy).mono ?_
    rintro e w1 ⟨rfl, rfl⟩
    go_wp2_with fail
    refine (l06Deep_fq _ _ hz).mono ?_
    rintro e w1 ⟨rfl, rfl⟩
    go_wp2_with fail
    refine bodyPost_ret (v := .tuple #[.agg zeroG, .int .i64 2]) (results_row2 (m := 21) rfl _ _ w.heap.size _ _ rfl rfl (rowAt_alloc_at _ _ _ _ rfl) Try.underlying33 rfl (by kernel_rfl) rfl) rfl ⟨zeroG, .slice none 0 0, by rw [E1.out], by rw [E2.out]; exact isGut_zero, by rw [E2.out]; exact .inl ⟨rfl, _, _, rfl⟩, B0⟩
  have hl1 := Lib.hid (hv.below ((((Below.refl _ _).alloc (Nat.le_refl _) _).alloc (by simp) _ : Below w.heap.size w ((w.alloc (.cells zeroG 33)).alloc (.cells #[] 77)))) (Nat.le_refl _)).news
  have HV := Lib.hid hv
  obtain ⟨a, cap, rfl⟩ := hv.shape
  have y8 : IntKind.i8.wrap y = y := IntWalk.i8_in _ (by omega)
  have z16 : IntKind.i16.wrap z = z := IntWalk.i16_in _ (by omega)
  have CK := fun W k b' c v' H => l06Ok_any k b' c (sloT y z m p 0) v' W H hm
  obtain ⟨N, rfl⟩ := Int.eq_ofNat_of_zero_le (show 0 ≤ y by omega)
  clear hv B0 r0
  unfold zeroG at hl1
  have hlit := fun a cap => (sloL_is (y := (N : Int)) (z := z) hy hz hb ⟨a, cap, rfl⟩ : IsGut (sloL N z (.slice a m cap)) (sloT N z m p 0) (.slice a m cap))
  cases hk : (sloT (N : Int) z m p 0).ok with
  | false =>
    obtain ⟨e1, e2⟩ := slo_b ⟨hy, hz⟩ hk
    have E1 := Lib.hid e1
    have E2 := Lib.hid e2
    rw [hk] at CK
    clear e1 e2 hk
    go_enter Try.func51, Try.ntmps51
    go_wp2_with fail
    refine (l00In_t _ _ _ _ hy).mono ?_
    rintro e w1 ⟨rfl, rfl⟩
    go_wp2_with fail
    refine (l06Deep_tq _ _ hz).mono ?_
    rintro e w1 ⟨rfl, rfl⟩
    go_wp2_with (at_builtin; refine wpList_append_list rfl _ _ 31 rfl (w.heap.size + 1) b 77 i0 (.agg #[.int .i8 0, .int .i16 0]) 2 4 Try.underlying31 hi0 hz0 hz1 hz2 rfl (by decide) _ _ _ rfl (own_at (by simp)) _ m (pipesV p m) rfl hl1.out (pipesV_len p m) (pipesV_one p m) (by unfold maxLen; omega) (by omega) (by simp) ?_)
    intro v3 w3 own3 grow3
    obtain ⟨g0, gB⟩ := grown2 grow3
    try rw [Nat.zero_add] at own3
    try rw [List.nil_append] at own3
    have hl3 := IsList.of_pipesV own3
    obtain ⟨a3, cap3, rfl⟩ := hl3.shape
    have hI := hlit a3 cap3
    have hIo := hI.ones
    unfold sloL at hIo
    have HL3 := Lib.hid hl3
    have lt0 := rowAt_lt g0
    clear own3 grow3 hl3 hl1 hlit
    repeat go_step
    refine gen_callsW fun W hW => ?_
    have q0 : rowAt W w.heap.size = some zeroG := by rw [hW]; exact (rowAt_alloc_past _ _ _ lt0).trans g0
    have qK : rowAt W w3.heap.size = some (sloL N z (.slice a3 m cap3)) := by rw [hW]; exact rowAt_alloc_at _ _ _ _ rfl
    have qB : Below w.heap.size w W := by rw [hW]; exact gB.alloc gB.size _
    have qL : IsList W (w.heap.size + 1) (.slice a3 m cap3) 2 m (pipeV p) := by rw [hW]; exact HL3.out.below ((Below.refl _ _).alloc (Nat.le_refl _) _) (Nat.le_refl _)
    have qL0 := qL
    have qA : GutAt W w3.heap.size (sloL N z (.slice a3 m cap3)) (sloT N z m p 0) (.slice a3 m cap3) (w.heap.size + 1) := ⟨qK, hI, qL⟩
    have qR := Lib.hid (show ∀ gb, gb < w3.heap.size → rowAt W gb = rowAt w3 gb by rw [hW]; exact fun gb h => rowAt_alloc_past _ _ _ h)
    have qS := Lib.hid (show w3.heap.size < W.heap.size by rw [hW]; simp)
    clear hW g0 gB qL qL0 hIo
    refine (CK _ _ _ _ _ qA).mono ?_
    rintro e w4 ⟨rfl, b4⟩
    have t0 := brow b4 q0
    have B4 := bnext qB b4 qB.size
    have lt4 := rowAt_lt t0
    clear b4 q0 qB qK qA hI lt0
    have B9 := Lib.hid B4
    have TT := Lib.hid t0
    clear B4
    go_wp2_with fail
    refine bodyPost_ret (v := .tuple #[.agg zeroG, .int .i64 2]) (results_row2 (m := 21) rfl _ _ w.heap.size _ _ rfl rfl (rowAt_setRow_at _ _ _ (by rw [TT.out]; rfl)) Try.underlying33 rfl (by kernel_rfl) rfl) rfl ⟨zeroG, .slice none 0 0, by rw [E1.out], by rw [E2.out]; exact isGut_zero, by rw [E2.out]; exact .inl ⟨rfl, _, _, rfl⟩, below_setRow B9.out (by omega) _⟩
  | true =>
    have hO := Gt.Ok_of hk
    by_cases hm0 : m = 0
    · obtain ⟨e1, e2⟩ := slo_c ⟨hy, hz⟩ hk hm0
      have E1 := Lib.hid e1
      have E2 := Lib.hid e2
      have hmb : ((m : Int) == 0) = true := by simp [hm0]
      rw [hk] at CK
      clear e1 e2 hk hO hm0
      go_enter Try.func51, Try.ntmps51
      go_wp2_with fail
      refine (l00In_t _ _ _ _ hy).mono ?_
      rintro e w1 ⟨rfl, rfl⟩
      go_wp2_with fail
      refine (l06Deep_tq _ _ hz).mono ?_
      rintro e w1 ⟨rfl, rfl⟩
      go_wp2_with (at_builtin; refine wpList_append_list rfl _ _ 31 rfl (w.heap.size + 1) b 77 i0 (.agg #[.int .i8 0, .int .i16 0]) 2 4 Try.underlying31 hi0 hz0 hz1 hz2 rfl (by decide) _ _ _ rfl (own_at (by simp)) _ m (pipesV p m) rfl hl1.out (pipesV_len p m) (pipesV_one p m) (by unfold maxLen; omega) (by omega) (by simp) ?_)
      intro v3 w3 own3 grow3
      obtain ⟨g0, gB⟩ := grown2 grow3
      try rw [Nat.zero_add] at own3
      try rw [List.nil_append] at own3
      have hl3 := IsList.of_pipesV own3
      obtain ⟨a3, cap3, rfl⟩ := hl3.shape
      have hI := hlit a3 cap3
      have hIo := hI.ones
      unfold sloL at hIo
      have HL3 := Lib.hid hl3
      have lt0 := rowAt_lt g0
      clear own3 grow3 hl3 hl1 hlit
      repeat go_step
      refine gen_callsW fun W hW => ?_
      have q0 : rowAt W w.heap.size = some zeroG := by rw [hW]; exact (rowAt_alloc_past _ _ _ lt0).trans g0
      have qK : rowAt W w3.heap.size = some (sloL N z (.slice a3 m cap3)) := by rw [hW]; exact rowAt_alloc_at _ _ _ _ rfl
      have qB : Below w.heap.size w W := by rw [hW]; exact gB.alloc gB.size _
      have qL : IsList W (w.heap.size + 1) (.slice a3 m cap3) 2 m (pipeV p) := by rw [hW]; exact HL3.out.below ((Below.refl _ _).alloc (Nat.le_refl _) _) (Nat.le_refl _)
      have qL0 := qL
      have qA : GutAt W w3.heap.size (sloL N z (.slice a3 m cap3)) (sloT N z m p 0) (.slice a3 m cap3) (w.heap.size + 1) := ⟨qK, hI, qL⟩
      have qR := Lib.hid (show ∀ gb, gb < w3.heap.size → rowAt W gb = rowAt w3 gb by rw [hW]; exact fun gb h => rowAt_alloc_past _ _ _ h)
      have qS := Lib.hid (show w3.heap.size < W.heap.size by rw [hW]; simp)
      clear hW g0 gB qL qL0 hIo
      refine (CK _ _ _ _ _ qA).mono ?_
      rintro e w4 ⟨rfl, b4⟩
      have t0 := brow b4 q0
      have B4 := bnext qB b4 qB.size
      have lt4 := rowAt_lt t0
      clear b4 q0 qB qK qA hI lt0
      have B9 := Lib.hid B4
      have TT := Lib.hid t0
      clear B4
      go_wp2_with fail
      refine bodyPost_ret (v := .tuple #[.agg zeroG, .int .i64 6]) (results_row2 (m := 21) rfl _ _ w.heap.size _ _ rfl rfl (rowAt_setRow_at _ _ _ (by rw [TT.out]; rfl)) Try.underlying33 rfl (by kernel_rfl) rfl) rfl ⟨zeroG, .slice none 0 0, by rw [E1.out], by rw [E2.out]; exact isGut_zero, by rw [E2.out]; exact .inl ⟨rfl, _, _, rfl⟩, below_setRow B9.out (by omega) _⟩
    · obtain ⟨e1, e2⟩ := slo_d ⟨hy, hz⟩ hk hm0
      have E1 := Lib.hid e1
      have E2 := Lib.hid (show sloR N z m p = sloT N z m p N from e2)
      have hmb : ((m : Int) == 0) = false := by simp [hm0]
      have HP := Lib.hid (fun q (hq : q < m) => (⟨(hO.ps q hq).1, by have := (hO.ps q hq).2.1; have h17 := hO.n17; exact Int.lt_of_lt_of_le this h17⟩ : 0 ≤ p (q * 2) ∧ p (q * 2) < 17))
      have hN17 : N ≤ 17 := by omega
      rw [hk] at CK
      clear e1 e2 hk hO hm0
      go_enter Try.func51, Try.ntmps51
      go_wp2_with fail
      refine (l00In_t _ _ _ _ hy).mono ?_
      rintro e w1 ⟨rfl, rfl⟩
      go_wp2_with fail
      refine (l06Deep_tq _ _ hz).mono ?_
      rintro e w1 ⟨rfl, rfl⟩
      go_wp2_with (at_builtin; refine wpList_append_list rfl _ _ 31 rfl (w.heap.size + 1) b 77 i0 (.agg #[.int .i8 0, .int .i16 0]) 2 4 Try.underlying31 hi0 hz0 hz1 hz2 rfl (by decide) _ _ _ rfl (own_at (by simp)) _ m (pipesV p m) rfl hl1.out (pipesV_len p m) (pipesV_one p m) (by unfold maxLen; omega) (by omega) (by simp) ?_)
      intro v3 w3 own3 grow3
      obtain ⟨g0, gB⟩ := grown2 grow3
      try rw [Nat.zero_add] at own3
      try rw [List.nil_append] at own3
      have hl3 := IsList.of_pipesV own3
      obtain ⟨a3, cap3, rfl⟩ := hl3.shape
      have hI := hlit a3 cap3
      have hIo := hI.ones
      unfold sloL at hIo
      have HL3 := Lib.hid hl3
      have lt0 := rowAt_lt g0
      clear own3 grow3 hl3 hl1 hlit
      repeat go_step
      refine gen_callsW fun W hW => ?_
      have q0 : rowAt W w.heap.size = some zeroG := by rw [hW]; exact (rowAt_alloc_past _ _ _ lt0).trans g0
      have qK : rowAt W w3.heap.size = some (sloL N z (.slice a3 m cap3)) := by rw [hW]; exact rowAt_alloc_at _ _ _ _ rfl
      have qB : Below w.heap.size w W := by rw [hW]; exact gB.alloc gB.size _
      have qL : IsList W (w.heap.size + 1) (.slice a3 m cap3) 2 m (pipeV p) := by rw [hW]; exact HL3.out.below ((Below.refl _ _).alloc (Nat.le_refl _) _) (Nat.le_refl _)
      have qL0 := qL
      have qA : GutAt W w3.heap.size (sloL N z (.slice a3 m cap3)) (sloT N z m p 0) (.slice a3 m cap3) (w.heap.size + 1) := ⟨qK, hI, qL⟩
      have qR := Lib.hid (show ∀ gb, gb < w3.heap.size → rowAt W gb = rowAt w3 gb by rw [hW]; exact fun gb h => rowAt_alloc_past _ _ _ h)
      have qS := Lib.hid (show w3.heap.size < W.heap.size by rw [hW]; simp)
      clear hW g0 gB qL qL0 hIo
      refine (CK _ _ _ _ _ qA).mono ?_
      rintro e w4 ⟨rfl, b4⟩
      have t0 := brow b4 q0
      have B4 := bnext qB b4 qB.size
      have lt4 := rowAt_lt t0
      have A4 := brow b4 qK
      have L4 := Lib.hid (qA.pipes.below b4 (Nat.le_refl _))
      have HI := Lib.hid hI
      have HB4 := Lib.hid B4
      have HT0 := Lib.hid t0
      have ltK : w.heap.size < w3.heap.size := lt0
      have R4 := Lib.hid (show ∀ gb, gb < w3.heap.size → rowAt w4 gb = rowAt w3 gb from fun gb h => (rowAt_below b4 gb (Nat.lt_trans h qS.out)).trans (qR.out gb h))
      have BK := Lib.hid (show w.heap.size ≤ w3.heap.size from by omega)
      clear b4 q0 qB qK qA hI B4 qR
      go_wp2_with fail
      have KL := Lib.hid (show ∀ gb x, rowAt w3 gb = some x → gb < w3.heap.size from fun gb x h => rowAt_lt h)
      generalize w3.heap.size = K at *
      go_loopw [9, 10, 11] (fun i _ _ W => ∃ (k : Nat) (cur : Array Value), k ≤ N ∧ i = .int .i64 k ∧ rowAt W K = some cur ∧ Hid (IsGut cur (sloT N z m p k) (.slice a3 m cap3)) ∧ Hid (∀ gb, gb < K → rowAt W gb = rowAt w3 gb) ∧ rowAt W w.heap.size = some zeroG ∧ Below w.heap.size w W) (fun i _ _ _ => N - (intOf i).toNat)
      case atStart => exact ⟨0, _, by omega, rfl, A4, HI, R4, t0, HB4.out⟩
      case round =>
        obtain ⟨k, cur, hk, rfl, hr, hI, hR, h0, hB⟩ := hrel
        clear A4 t0 lt4 ltK
        have lk := rowAt_lt hr
        have l0w := rowAt_lt h0
        by_cases hlt : k < N
        · have j0 : 0 ≤ (k : Int) := by omega
          have j1 : (k : Int) < N := by omega
          have HB := Lib.hid hB
          have HRR := Lib.hid hr
          have H00 := Lib.hid h0
          have hcs := hI.out.size
          have fr := frozen_of_rowAt hr
          have kc : 2 + k < cur.size := by omega
          have kk : wr.cell? ⟨K, 2 + k, none⟩ = some cur[2 + k] := by rw [cell_of_rowAt hr, Array.getElem?_eq_getElem kc]
          clear hr h0 hB
          go_wp2_with fail
          go_loopw [10, 11] (fun h x W => ∃ q : Nat, q ≤ m ∧ x = .int .i64 q ∧ h = .int .i64 (sloK p k q) ∧ W = wr) (fun _ x _ => m - (intOf x).toNat)
          case atStart => exact ⟨0, by omega, rfl, rfl, rfl⟩
          case round =>
            obtain ⟨q, hq, rfl, rfl, hWr⟩ := hrel
            subst hWr
            by_cases hqm : q < m
            · obtain ⟨g1, rfl, hg1, hc1⟩ := (HV.out.below HB.out (Nat.le_refl _)).pipe hqm
              have c0 := (hc1 q hqm).1
              have q0 : 0 ≤ (q : Int) := by omega
              have q1 : (q : Int) < m := by omega
              have hp := HP.out q hqm
              have hX := Lib.hid (show (if farC (p (q * 2)) k < sloK p k q then farC (p (q * 2)) k else sloK p k q) = sloK p k (q + 1) from rfl)
              clear hc1
              go_wp2_with fail
              refine (l04FarS_any _ _ _ (by omega) (by omega)).mono ?_
              rintro e w5 ⟨rfl, rfl⟩
              go_wp2_with fail
              refine (l00MinS_any _ _ _).mono ?_
              rintro e w5 ⟨rfl, rfl⟩
              rw [hX.out]
              go_wp2_with fail
              refine ⟨⟨q + 1, by omega, by go_num, rfl, trivial⟩, by simp [intOf]; omega⟩
            · obtain rfl : q = m := by omega
              have hs := sloK_bd (p := p) (i := (k : Int)) ⟨j0, by omega⟩ q (fun x hx => HP.out x hx)
              have hw8 : IntKind.i8.wrap (sloK p k q) = sloK p k q := IntWalk.i8_in _ (by omega)
              have nx := Lib.hid (hI.out.sloH (by omega) hs)
              go_wp2_with fail
              have R3 := rowAt_setCell_at wr K (2 + k) (.int .i8 (sloK p k q)) (by rw [HRR.out]; rfl)
              rw [HRR.out, Option.getD_some] at R3
              have hbk := BK.out
              refine ⟨⟨k + 1, _, by omega, by go_num, R3, nx, Lib.hid fun gb h => (rowAt_setCell_ne _ _ _ _ _ (by omega)).trans (hR.out gb h), (rowAt_setCell_ne _ _ _ _ _ (by omega)).trans H00.out, HB.out.setCell (p := ⟨K, 2 + k, none⟩) hbk _⟩, by simp [intOf]; omega⟩
        · obtain rfl : k = N := by omega
          have hcs := hI.out.size
          have co := hI.out.ones
          have HB := Lib.hid hB
          have H00 := Lib.hid h0
          clear hB
          go_wp2_with fail
          refine bodyPost_ret (v := .tuple #[.agg cur, .int .i64 0]) (results_row2 (m := 21) rfl _ _ w.heap.size _ _ rfl rfl (rowAt_setRow_at _ _ _ (by rw [H00.out]; rfl)) Try.underlying33 rfl (by kernel_rfl) hcs) rfl ⟨cur, .slice a3 m cap3, by rw [E1.out], by rw [E2.out]; exact hI.out, ?_, below_setRow HB.out (by omega) _⟩
          rw [E2.out, sloT_m]
          rcases HL3.out with h | ⟨gb, cc, cu, e, hg, hr3, hs, hf⟩
          · exact .inl h
          · refine .inr ⟨gb, cc, cu, e, by omega, ?_, hs, hf⟩
            rw [rowAt_setRow_ne _ _ _ _ (by omega)]
            exact (hR.out gb (KL.out gb _ hr3)).trans hr3
end Go.Proofs.Ytlkmdoccnbnacaa
