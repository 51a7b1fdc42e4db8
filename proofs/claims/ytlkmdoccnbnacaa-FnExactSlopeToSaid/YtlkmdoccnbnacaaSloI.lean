/- SlopeTo: the program. -/
import Derived.Test.YtlkmdoccnbnacaaSloS
namespace Go.Proofs.Ytlkmdoccnbnacaa
open Go.RowKit

def bnd6 (y z : Int) : Nat → Int := fun i => if i = 0 then y else if i = 1 then 1 else if i = 2 then 17 else if i = 3 then z else if i = 5 then 1000 else 0
theorem IsList.lit6 {w : World} {n base cap : Nat} {y z : Int} (hr : rowAt w n = some #[.int .i64 y, .int .i64 1, .int .i64 17, .int .i64 z, .int .i64 0, .int .i64 1000]) (hb : base ≤ n) : IsList w base (.slice (some ⟨n, 0, none⟩) 2 cap) 3 2 (fun i => .int .i64 (bnd6 y z i)) :=
  .inr ⟨n, cap, _, rfl, hb, hr, by simp, fun i hi => by
    have : i = 0 ∨ i = 1 ∨ i = 2 ∨ i = 3 ∨ i = 4 ∨ i = 5 := by omega
    rcases this with rfl | rfl | rfl | rfl | rfl | rfl <;> simp [bnd6]⟩
theorem outs_bnd6 (y z : Int) : anyI (outs (bnd6 y z)) 2 = !decide ((1 ≤ y ∧ y ≤ 17) ∧ (0 ≤ z ∧ z ≤ 1000)) := by
  rw [anyI_succ, anyI_succ, anyI_zero, Bool.false_or]
  have h0 : outs (bnd6 y z) 0 = decide (y < 1 ∨ 17 < y) := rfl
  have h1 : outs (bnd6 y z) 1 = decide (z < 0 ∨ 1000 < z) := rfl
  rw [h0, h1]
  by_cases a : (1 ≤ y ∧ y ≤ 17) ∧ (0 ≤ z ∧ z ≤ 1000)
  · rw [decide_eq_true a, decide_eq_false (by omega), decide_eq_false (by omega)]; rfl
  · rw [decide_eq_false a]
    by_cases b : y < 1 ∨ 17 < y
    · rw [decide_eq_true b]; rfl
    · rw [decide_eq_false b, decide_eq_true (by omega)]; rfl

set_option maxRecDepth 100000 in
set_option maxHeartbeats 4000000 in
theorem implSlopeTo_any (y z : Int) (b m : Nat) (p : Nat → Int) (v : Value) (w : World) (hv : IsList w b v 2 m (pipeV p)) (hb : pipeB p m) (hm : m ≤ 2000000) :
    Calls Try.prog 53 #[.int .i64 y, .int .i64 z, v] w (GivesGutT w (sloR y z m p) [.int .i64 (sloC y z m p)]) := by
  have hoz : Ones zeroG := isGut_zero.ones
  have hozl := hoz
  unfold zeroG at hozl
  have hzs : zeroG.size = 21 := rfl
  have CO := fun W k H => hasOut_any 0 2 (.slice (some ⟨k, 0, none⟩) 2 2) (bnd6 y z) W H (by omega)
  rw [outs_bnd6] at CO
  have HV := Lib.hid hv
  obtain ⟨a, cap, rfl⟩ := hv.shape
  clear hv
  by_cases hyz : (1 ≤ y ∧ y ≤ 17) ∧ (0 ≤ z ∧ z ≤ 1000)
  rotate_left
  · obtain ⟨e1, e2⟩ := slo_a (m := m) (p := p) hyz
    have E1 := Lib.hid e1
    have E2 := Lib.hid e2
    rw [decide_eq_false hyz] at CO
    clear e1 e2 hyz
    go_enter Try.func53, Try.ntmps53
    go_wp2_with fail
    refine gen_callsW fun W1 hW => ?_
    have r0 : rowAt W1 w.heap.size = some zeroG := by rw [hW]; exact (rowAt_alloc_past _ _ _ (by simp)).trans (rowAt_alloc_at _ _ _ _ rfl)
    have r1 : rowAt W1 (w.heap.size + 1) = some #[.int .i64 y, .int .i64 1, .int .i64 17, .int .i64 z, .int .i64 0, .int .i64 1000] := by rw [hW]; exact rowAt_alloc_at _ _ _ _ (by simp)
    have B1 : Below w.heap.size w W1 := by rw [hW]; exact ((Below.refl _ _).alloc (Nat.le_refl _) _).alloc (by simp) _
    clear hW
    refine (CO _ _ (IsList.lit6 r1 (Nat.zero_le _))).mono ?_
    rintro e w2 ⟨rfl, b2⟩
    have s0 := brow b2 r0
    have B2 := bnext B1 b2 B1.size
    have lt2 := rowAt_lt s0
    clear b2 r0 r1 B1 CO
    have B9 := Lib.hid B2
    have TT := Lib.hid s0
    clear B2
    go_wp2_with fail
    refine bodyPost_ret (v := .tuple #[.agg zeroG, .int .i64 2]) (results_row2 (m := 21) rfl _ _ w.heap.size _ _ rfl rfl (rowAt_setRow_at _ _ _ (by rw [TT.out]; rfl)) Try.underlying33 rfl (by kernel_rfl) rfl) rfl ⟨zeroG, .slice none 0 0, by rw [E1.out], by rw [E2.out]; exact isGut_zero, by rw [E2.out]; exact .inl ⟨rfl, _, _, rfl⟩, below_setRow B9.out (by omega) _⟩
  rw [decide_eq_true hyz] at CO
  have y8 : IntKind.i8.wrap y = y := IntWalk.i8_in _ (by omega)
  have z16 : IntKind.i16.wrap z = z := IntWalk.i16_in _ (by omega)
  have CK := fun W b' c v' (h : IsGut c (sloT y z m p 0) v') H => implValidGutter_any b' c (sloT y z m p 0) v' W h H hm
  have hlit := fun a cap => (sloL_is hyz.1 hyz.2 hb ⟨a, cap, rfl⟩ : IsGut (sloL y z (.slice a m cap)) (sloT y z m p 0) (.slice a m cap))
  cases hk : (sloT y z m p 0).ok with
  | false =>
    obtain ⟨e1, e2⟩ := slo_b hyz hk
    have E1 := Lib.hid e1
    have E2 := Lib.hid e2
    rw [hk] at CK
    clear e1 e2 hk
    go_enter Try.func53, Try.ntmps53
    go_wp2_with fail
    refine gen_callsW fun W1 hW => ?_
    have r0 : rowAt W1 w.heap.size = some zeroG := by rw [hW]; exact (rowAt_alloc_past _ _ _ (by simp)).trans (rowAt_alloc_at _ _ _ _ rfl)
    have r1 : rowAt W1 (w.heap.size + 1) = some #[.int .i64 y, .int .i64 1, .int .i64 17, .int .i64 z, .int .i64 0, .int .i64 1000] := by rw [hW]; exact rowAt_alloc_at _ _ _ _ (by simp)
    have B1 : Below w.heap.size w W1 := by rw [hW]; exact ((Below.refl _ _).alloc (Nat.le_refl _) _).alloc (by simp) _
    clear hW
    refine (CO _ _ (IsList.lit6 r1 (Nat.zero_le _))).mono ?_
    rintro e w2 ⟨rfl, b2⟩
    have s0 := brow b2 r0
    have B2 := bnext B1 b2 B1.size
    have lt2 := rowAt_lt s0
    clear b2 r0 r1 B1 CO
    go_wp2_with fail
    refine (clonePp_any b m _ p _ (HV.out.below B2 (Nat.le_refl _)) hm).mono ?_
    rintro e w3 ⟨a3, cap3, rfl, l3, b3⟩
    have g0 := brow b3 s0
    have gB := bnext B2 b3 B2.size
    have hI := hlit a3 cap3
    have hIo := hI.ones
    unfold sloL at hIo
    have HL3 := Lib.hid (l3.mono (show w.heap.size + 1 ≤ w2.heap.size from lt2))
    have lt0 := rowAt_lt g0
    clear b3 s0 B2 l3 hlit lt2
    go_wp2_with fail
    refine gen_callsW fun W hW => ?_
    have q0 : rowAt W w.heap.size = some zeroG := by rw [hW]; exact (rowAt_alloc_past _ _ _ lt0).trans g0
    have qK : rowAt W w3.heap.size = some (sloL y z (.slice a3 m cap3)) := by rw [hW]; exact rowAt_alloc_at _ _ _ _ rfl
    have qB : Below w.heap.size w W := by rw [hW]; exact gB.alloc gB.size _
    have qL : IsList W (w.heap.size + 1) (.slice a3 m cap3) 2 m (pipeV p) := by rw [hW]; exact HL3.out.below ((Below.refl _ _).alloc (Nat.le_refl _) _) (Nat.le_refl _)
    have qR := Lib.hid (show ∀ gb, gb < w3.heap.size → rowAt W gb = rowAt w3 gb by rw [hW]; exact fun gb h => rowAt_alloc_past _ _ _ h)
    have qS := Lib.hid (show w3.heap.size < W.heap.size by rw [hW]; simp)
    clear hW g0 gB hIo
    refine (CK _ _ _ _ hI qL).mono ?_
    rintro e w4 ⟨rfl, b4⟩
    have t0 := brow b4 q0
    have B4 := bnext qB b4 qB.size
    have lt4 := rowAt_lt t0
    clear b4 q0 qB qK qL hI lt0
    have B9 := Lib.hid B4
    have TT := Lib.hid t0
    clear B4
    go_wp2_with fail
    refine bodyPost_ret (v := .tuple #[.agg zeroG, .int .i64 2]) (results_row2 (m := 21) rfl _ _ w.heap.size _ _ rfl rfl (rowAt_setRow_at _ _ _ (by rw [TT.out]; rfl)) Try.underlying33 rfl (by kernel_rfl) rfl) rfl ⟨zeroG, .slice none 0 0, by rw [E1.out], by rw [E2.out]; exact isGut_zero, by rw [E2.out]; exact .inl ⟨rfl, _, _, rfl⟩, below_setRow B9.out (by omega) _⟩
  | true =>
    have hO := Gt.Ok_of hk
    by_cases hm0 : m = 0
    · obtain ⟨e1, e2⟩ := slo_c hyz hk hm0
      have E1 := Lib.hid e1
      have E2 := Lib.hid e2
      have hmb : ((m : Int) == 0) = true := by simp [hm0]
      rw [hk] at CK
      clear e1 e2 hk hO hm0
      go_enter Try.func53, Try.ntmps53
      go_wp2_with fail
      refine gen_callsW fun W1 hW => ?_
      have r0 : rowAt W1 w.heap.size = some zeroG := by rw [hW]; exact (rowAt_alloc_past _ _ _ (by simp)).trans (rowAt_alloc_at _ _ _ _ rfl)
      have r1 : rowAt W1 (w.heap.size + 1) = some #[.int .i64 y, .int .i64 1, .int .i64 17, .int .i64 z, .int .i64 0, .int .i64 1000] := by rw [hW]; exact rowAt_alloc_at _ _ _ _ (by simp)
      have B1 : Below w.heap.size w W1 := by rw [hW]; exact ((Below.refl _ _).alloc (Nat.le_refl _) _).alloc (by simp) _
      clear hW
      refine (CO _ _ (IsList.lit6 r1 (Nat.zero_le _))).mono ?_
      rintro e w2 ⟨rfl, b2⟩
      have s0 := brow b2 r0
      have B2 := bnext B1 b2 B1.size
      have lt2 := rowAt_lt s0
      clear b2 r0 r1 B1 CO
      go_wp2_with fail
      refine (clonePp_any b m _ p _ (HV.out.below B2 (Nat.le_refl _)) hm).mono ?_
      rintro e w3 ⟨a3, cap3, rfl, l3, b3⟩
      have g0 := brow b3 s0
      have gB := bnext B2 b3 B2.size
      have hI := hlit a3 cap3
      have hIo := hI.ones
      unfold sloL at hIo
      have HL3 := Lib.hid (l3.mono (show w.heap.size + 1 ≤ w2.heap.size from lt2))
      have lt0 := rowAt_lt g0
      clear b3 s0 B2 l3 hlit lt2
      go_wp2_with fail
      refine gen_callsW fun W hW => ?_
      have q0 : rowAt W w.heap.size = some zeroG := by rw [hW]; exact (rowAt_alloc_past _ _ _ lt0).trans g0
      have qK : rowAt W w3.heap.size = some (sloL y z (.slice a3 m cap3)) := by rw [hW]; exact rowAt_alloc_at _ _ _ _ rfl
      have qB : Below w.heap.size w W := by rw [hW]; exact gB.alloc gB.size _
      have qL : IsList W (w.heap.size + 1) (.slice a3 m cap3) 2 m (pipeV p) := by rw [hW]; exact HL3.out.below ((Below.refl _ _).alloc (Nat.le_refl _) _) (Nat.le_refl _)
      have qR := Lib.hid (show ∀ gb, gb < w3.heap.size → rowAt W gb = rowAt w3 gb by rw [hW]; exact fun gb h => rowAt_alloc_past _ _ _ h)
      have qS := Lib.hid (show w3.heap.size < W.heap.size by rw [hW]; simp)
      clear hW g0 gB hIo
      refine (CK _ _ _ _ hI qL).mono ?_
      rintro e w4 ⟨rfl, b4⟩
      have t0 := brow b4 q0
      have B4 := bnext qB b4 qB.size
      have lt4 := rowAt_lt t0
      clear b4 q0 qB qK qL hI lt0
      have B9 := Lib.hid B4
      have TT := Lib.hid t0
      clear B4
      go_wp2_with fail
      refine bodyPost_ret (v := .tuple #[.agg zeroG, .int .i64 6]) (results_row2 (m := 21) rfl _ _ w.heap.size _ _ rfl rfl (rowAt_setRow_at _ _ _ (by rw [TT.out]; rfl)) Try.underlying33 rfl (by kernel_rfl) rfl) rfl ⟨zeroG, .slice none 0 0, by rw [E1.out], by rw [E2.out]; exact isGut_zero, by rw [E2.out]; exact .inl ⟨rfl, _, _, rfl⟩, below_setRow B9.out (by omega) _⟩
    · obtain ⟨e1, e2⟩ := slo_d hyz hk hm0
      obtain ⟨N, rfl⟩ := Int.eq_ofNat_of_zero_le (show 0 ≤ y by omega)
      have E1 := Lib.hid e1
      have E2 := Lib.hid (show sloR N z m p = sloT N z m p N from e2)
      have hmb : ((m : Int) == 0) = false := by simp [hm0]
      have HP := Lib.hid (fun q (hq : q < m) => (⟨(hO.ps q hq).1, by have := (hO.ps q hq).2.1; have h17 := hO.n17; exact Int.lt_of_lt_of_le this h17⟩ : 0 ≤ p (q * 2) ∧ p (q * 2) < 17))
      have hN17 : N ≤ 17 := by omega
      rw [hk] at CK
      clear e1 e2 hk hO hm0
      go_enter Try.func53, Try.ntmps53
      go_wp2_with fail
      refine gen_callsW fun W1 hW => ?_
      have r0 : rowAt W1 w.heap.size = some zeroG := by rw [hW]; exact (rowAt_alloc_past _ _ _ (by simp)).trans (rowAt_alloc_at _ _ _ _ rfl)
      have r1 : rowAt W1 (w.heap.size + 1) = some #[.int .i64 N, .int .i64 1, .int .i64 17, .int .i64 z, .int .i64 0, .int .i64 1000] := by rw [hW]; exact rowAt_alloc_at _ _ _ _ (by simp)
      have B1 : Below w.heap.size w W1 := by rw [hW]; exact ((Below.refl _ _).alloc (Nat.le_refl _) _).alloc (by simp) _
      clear hW
      refine (CO _ _ (IsList.lit6 r1 (Nat.zero_le _))).mono ?_
      rintro e w2 ⟨rfl, b2⟩
      have s0 := brow b2 r0
      have B2 := bnext B1 b2 B1.size
      have lt2 := rowAt_lt s0
      clear b2 r0 r1 B1 CO
      go_wp2_with fail
      refine (clonePp_any b m _ p _ (HV.out.below B2 (Nat.le_refl _)) hm).mono ?_
      rintro e w3 ⟨a3, cap3, rfl, l3, b3⟩
      have g0 := brow b3 s0
      have gB := bnext B2 b3 B2.size
      have hI := hlit a3 cap3
      have hIo := hI.ones
      unfold sloL at hIo
      have HL3 := Lib.hid (l3.mono (show w.heap.size + 1 ≤ w2.heap.size from lt2))
      have lt0 := rowAt_lt g0
      clear b3 s0 B2 l3 hlit lt2
      go_wp2_with fail
      refine gen_callsW fun W hW => ?_
      have q0 : rowAt W w.heap.size = some zeroG := by rw [hW]; exact (rowAt_alloc_past _ _ _ lt0).trans g0
      have qK : rowAt W w3.heap.size = some (sloL N z (.slice a3 m cap3)) := by rw [hW]; exact rowAt_alloc_at _ _ _ _ rfl
      have qB : Below w.heap.size w W := by rw [hW]; exact gB.alloc gB.size _
      have qL : IsList W (w.heap.size + 1) (.slice a3 m cap3) 2 m (pipeV p) := by rw [hW]; exact HL3.out.below ((Below.refl _ _).alloc (Nat.le_refl _) _) (Nat.le_refl _)
      have qR := Lib.hid (show ∀ gb, gb < w3.heap.size → rowAt W gb = rowAt w3 gb by rw [hW]; exact fun gb h => rowAt_alloc_past _ _ _ h)
      have qS := Lib.hid (show w3.heap.size < W.heap.size by rw [hW]; simp)
      clear hW g0 gB hIo
      refine (CK _ _ _ _ hI qL).mono ?_
      rintro e w4 ⟨rfl, b4⟩
      have t0 := brow b4 q0
      have B4 := bnext qB b4 qB.size
      have lt4 := rowAt_lt t0
      have A4 := brow b4 qK
      have HI := Lib.hid hI
      have HB4 := Lib.hid B4
      have R4 := Lib.hid (show ∀ gb, gb < w3.heap.size → rowAt w4 gb = rowAt w3 gb from fun gb h => (rowAt_below b4 gb (Nat.lt_trans h qS.out)).trans (qR.out gb h))
      have BK := Lib.hid (show w.heap.size ≤ w3.heap.size from by omega)
      have KL := Lib.hid (show ∀ gb x, rowAt w3 gb = some x → gb < w3.heap.size from fun gb x h => rowAt_lt h)
      have z4 : w4.cell? ⟨w3.heap.size, 0, none⟩ = some (.int .i8 (N : Int)) := by rw [cell_of_rowAt A4]; exact hI.get0
      have ltK := rowAt_lt A4
      clear b4 q0 qB qK qL hI B4 qR qS
      go_wp2_with fail
      generalize w3.heap.size = K at *
      go_loopw [10, 36] (fun _ i W => ∃ (k : Nat) (cur : Array Value), k ≤ N ∧ i = .int .i8 k ∧ rowAt W K = some cur ∧ Hid (IsGut cur (sloT N z m p k) (.slice a3 m cap3)) ∧ Hid (∀ gb, gb < K → rowAt W gb = rowAt w3 gb) ∧ rowAt W w.heap.size = some zeroG ∧ Below w.heap.size w W) (fun _ i _ => N - (intOf i).toNat)
      case atStart => exact ⟨0, _, by omega, rfl, A4, HI, R4, t0, HB4.out⟩
      case round =>
        obtain ⟨k, cur, hk, rfl, hr, hI, hR, h0, hB⟩ := hrel
        clear A4 t0 lt4 z4 ltK
        have lk := rowAt_lt hr
        have l0w := rowAt_lt h0
        have HW := Lib.hid (show IsList wr (w.heap.size + 1) (.slice a3 m cap3) 2 m (pipeV p) by
          rcases HL3.out with h | ⟨gb, cc, cu, e, hg, hr3, hs, hf⟩
          · exact .inl h
          · exact .inr ⟨gb, cc, cu, e, hg, (hR.out gb (KL.out gb _ hr3)).trans hr3, hs, hf⟩)
        by_cases hlt : k < N
        · have j0 : 0 ≤ (k : Int) := by omega
          have j1 : (k : Int) < N := by omega
          have j17 : (k : Int) < 17 := by omega
          have HB := Lib.hid hB
          have hcs := hI.out.size
          have co := hI.out.ones
          have hs := sloK_bd (p := p) (i := (k : Int)) ⟨j0, by omega⟩ m (fun x hx => HP.out x hx)
          have nx := Lib.hid (hI.out.sloH (by omega) hs)
          have CS := fun W H => slopeAt_any (w.heap.size + 1) cur (sloT N z m p k) (.slice a3 m cap3) k W hI.out H (by omega) HP.out hm
          simp only [show (sloT (N : Int) z m p k).p = p from rfl, sloT_m] at CS
          clear hB
          go_wp2_with fail
          refine (CS _ HW.out).mono ?_
          rintro e w5 ⟨rfl, b5⟩
          have r5 := brow b5 hr
          have s5 := brow b5 h0
          have B5 := Lib.hid (bnext HB.out b5 HB.out.size)
          have R5 := Lib.hid (show ∀ gb, gb < K → rowAt w5 gb = rowAt w3 gb from fun gb h => (rowAt_below b5 gb (Nat.lt_trans h lk)).trans (hR.out gb h))
          have fr := frozen_of_rowAt r5
          have kc : 2 + k < cur.size := by omega
          have kk : w5.cell? ⟨K, 2 + k, none⟩ = some cur[2 + k] := by rw [cell_of_rowAt r5, Array.getElem?_eq_getElem kc]
          have HRR := Lib.hid r5
          have H00 := Lib.hid s5
          clear b5 hr h0 r5 s5 CS HW
          go_wp2_with fail
          have R3 := rowAt_setCell_at w5 K (2 + k) (.int .i8 (sloK p k m)) (by rw [HRR.out]; rfl)
          rw [HRR.out, Option.getD_some] at R3
          have hbk := BK.out
          refine ⟨⟨k + 1, _, by omega, by go_num, R3, nx, Lib.hid fun gb h => (rowAt_setCell_ne _ _ _ _ _ (by omega)).trans (R5.out gb h), (rowAt_setCell_ne _ _ _ _ _ (by omega)).trans H00.out, B5.out.setCell (p := ⟨K, 2 + k, none⟩) hbk _⟩, by simp [intOf]; omega⟩
        · obtain rfl : k = N := by omega
          have hcs := hI.out.size
          have co := hI.out.ones
          have HB := Lib.hid hB
          have H00 := Lib.hid h0
          clear hB
          go_wp2_with fail
          refine bodyPost_ret (v := .tuple #[.agg cur, .int .i64 0]) (results_row2 (m := 21) rfl _ _ w.heap.size _ _ rfl rfl (rowAt_setRow_at _ _ _ (by rw [H00.out]; rfl)) Try.underlying33 rfl (by kernel_rfl) hcs) rfl ⟨cur, .slice a3 m cap3, by rw [E1.out], by rw [E2.out]; exact hI.out, ?_, below_setRow HB.out (by omega) _⟩
          rw [E2.out, sloT_m]
          rcases HW.out with h | ⟨gb, cc, cu, e, hg, hr3, hs, hf⟩
          · exact .inl h
          · refine .inr ⟨gb, cc, cu, e, by omega, ?_, hs, hf⟩
            rw [rowAt_setRow_ne _ _ _ _ (by omega)]
            exact hr3
end Go.Proofs.Ytlkmdoccnbnacaa
