/- MirrorColours: both sides. -/
import Derived.Test.YtcdobpnejbfbpabColO
import Derived.Test.YtcdobpnejbfbpabColS
import Derived.Test.YtcdobpnejbfbpabEnd
import Derived.StillTailTactics
namespace Go.Proofs.Ytcdobpnejbfbpab
open Go.RowKit

theorem rev_w : ∀ (w : Fin 9) (n : Fin 256), n.val < 2 ^ w.val → rev n.val 8 8 / 2 ^ (8 - w.val) = rev n.val w.val w.val := by decide +kernel
theorem rev_zero (m : Nat) : ∀ k, rev 0 m k = 0
  | 0 => rfl
  | k + 1 => by simp only [rev, Nat.zero_testBit]; rw [if_neg (by decide), rev_zero m k]
/-- The colours of the mirrored roof. -/
noncomputable def Rf.mirX (r : Rf) (g : Nat → Nat) : Nat → Nat := if r.cok g = true then fun i => rev (g i) r.w.toNat r.w.toNat else fun _ => 0
noncomputable def Rf.mirC (r : Rf) (g : Nat → Nat) : Int := if r.cok g = true then 0 else 1
theorem Rf.mirX_lt {r : Rf} {g : Nat → Nat} : ∀ i, i < 8 → r.mirX g i < 256 := fun i hi => by
  unfold Rf.mirX
  split
  · rename_i h
    have ho := (Rf.Cols_of h).1
    exact rev_lt _ _ (by have := ho.2.1; omega) _
  · show 0 < 256; omega
theorem cols_lt {r : Rf} {g : Nat → Nat} (h : r.Cols g) {ww : Nat} (hwe : r.w = ww) {i : Nat} (hi : i < 8) : g i < 2 ^ ww := by
  have hz : g i / 2 ^ ww = 0 := bits_shift.2 fun j hb => by have := (h.2 i hi j hb).2; omega
  rcases Nat.lt_or_ge (g i) (2 ^ ww) with h1 | h1
  · exact h1
  · have := Nat.div_pos h1 (Nat.two_pow_pos ww); omega

set_option maxRecDepth 100000 in
set_option maxHeartbeats 1000000 in
theorem implMirrorColours_any (c d : Array Value) (r : Rf) (g : Nat → Nat) (w : World) (hR : IsRoof c r) (hC : IsCol d g) (F : Array Value) (hF : mkC (r.mirX g) = F) :
    Calls Try.prog 16 #[.agg c, .agg d] w fun e w' => e = .returned (.tuple #[.agg F, .int .i64 (r.mirC g)]) ∧ Below w.heap.size w w' := by
  have hc := hR.size
  have hd := hC.size
  have hd1 := hC.ones
  have hFs : F.size = 8 := by rw [← hF]; exact size_mkI _ _ _
  have hFo : Ones F := by rw [← hF]; exact (isK_mkI _ _ _).ones
  have hz : (#[.int .u8 0, .int .u8 0, .int .u8 0, .int .u8 0, .int .u8 0, .int .u8 0, .int .u8 0, .int .u8 0] : Array Value) = mkC (fun _ => 0) := by kernel_rfl
  have hzo : Ones (#[.int .u8 0, .int .u8 0, .int .u8 0, .int .u8 0, .int .u8 0, .int .u8 0, .int .u8 0, .int .u8 0] : Array Value) := by rw [hz]; exact (isK_mkI _ _ _).ones
  have HZ := Lib.hid hz
  have HFF := Lib.hid hF
  clear hz hF
  by_cases h : r.Cols g
  · have ho := h.1
    obtain ⟨ww, hwe⟩ := Int.eq_ofNat_of_zero_le (show 0 ≤ r.w by have := ho.1; omega)
    have w8 : ww ≤ 8 := by have := ho.2.1; omega
    have w1' : 1 ≤ ww := by have := ho.1; omega
    have hX : Hid (∀ i, i < 8 → r.mirX g i = rev (g i) 8 8 / 2 ^ (8 - ww)) := Lib.hid fun i hi => by
      unfold Rf.mirX
      rw [if_pos (Rf.cok_t h), hwe]
      exact (rev_w ⟨ww, by omega⟩ ⟨g i, hC.hi i hi⟩ (cols_lt h hwe hi)).symm
    have hcode : r.mirC g = 0 := if_pos (Rf.cok_t h)
    rw [hcode]
    clear hcode
    have k0 : ∀ W, rowAt W w.heap.size = some c → W.cell? ⟨w.heap.size, 0, none⟩ = some (.int .i8 ww) := fun W h => by
      rw [cell_of_rowAt h, Array.getElem?_eq_getElem (by omega), hR.wide (by omega), hwe]
    have K0 := Lib.hid k0
    clear k0 hwe
    have CV := fun W => implValidCol_t c d r g W hR hC h
    go_enter Try.func16, Try.ntmps16
    go_wp2_with fail
    refine gen_callsW fun W hW => ?_
    have p0 : rowAt W w.heap.size = some c := by rw [hW]; exact (rowAt_alloc_past _ _ _ (by simp; omega)).trans ((rowAt_alloc_past _ _ _ (by simp)).trans (rowAt_alloc_at _ _ _ _ rfl))
    have p1 : rowAt W (w.heap.size + 1) = some d := by rw [hW]; exact (rowAt_alloc_past _ _ _ (by simp)).trans (rowAt_alloc_at _ _ _ _ (by simp))
    have p2 : rowAt W (w.heap.size + 1 + 1) = some (mkC (fun _ => 0)) := by rw [hW, ← HZ.out]; exact rowAt_alloc_at _ _ _ _ (by simp)
    have pB : Below w.heap.size w W := by rw [hW]; exact (((Below.refl _ _).alloc (Nat.le_refl _) _).alloc (by simp) _).alloc (by simp; omega) _
    clear hW
    refine (CV _).mono ?_
    rintro e w1 ⟨rfl, b1⟩
    have q0 := brow b1 p0
    have q1 := brow b1 p1
    have q2 := brow b1 p2
    have B1 := bnext pB b1 pB.size
    clear b1 p0 p1 p2 pB CV
    go_wp2_with fail
    go_loopw [14] (fun i W' => ∃ (n : Nat) (f : Nat → Nat), n ≤ 8 ∧ i = .int .i64 n ∧ Hid (∀ j, f j = if j < n then rev (g j) 8 8 / 2 ^ (8 - ww) else g j) ∧ rowAt W' w.heap.size = some c ∧ rowAt W' (w.heap.size + 1) = some (mkC f) ∧ rowAt W' (w.heap.size + 1 + 1) = some (mkC (fun _ => 0)) ∧ Below w.heap.size w W') (fun i _ => 8 - (intOf i).toNat)
    case atStart => exact ⟨0, g, by omega, rfl, Lib.hid (fun j => by simp), q0, by rw [← hC.eq]; exact q1, q2, B1⟩
    case round =>
      clear q0 q1 q2 B1
      obtain ⟨n, f, hn, rfl, hf, r0, r1, r2, rB⟩ := hrel
      by_cases hlt : n < 8
      · have hk1 : n < d.size := by omega
        have h0 := hC.isK.cell n hk1
        have c0 := K0.out _ r0
        have g8 := hC.hi n hlt
        have CR := fun W => rev8_any (g n) W g8
        have y0 := rev_lt (g n) 8 (by omega) 8
        have cm := cell_of_rowAt r1 n
        have fm := frozen_of_rowAt r1 n
        have n0 : (0 : Int) ≤ n := by omega
        have n1 : (n : Int) < 8 := by omega
        have m1 : w.heap.size ≠ w.heap.size + 1 := by omega
        have m2 : w.heap.size + 1 + 1 ≠ w.heap.size + 1 := by omega
        obtain ⟨sh, hsh⟩ : ∃ sh : Nat, sh = 8 - ww := ⟨_, rfl⟩
        have hi8 : IntKind.i8.wrap (8 - (ww : Int)) = (sh : Int) := (IntWalk.i8_in _ (by omega)).trans (by omega)
        have hs0 : (0 : Int) ≤ (sh : Int) := by omega
        have e4 : min sh 8 = sh := by omega
        have HSH := Lib.hid hsh
        have hm : (mkC f)[n]? = some (.int .u8 (f n : Int)) := (isK_mkI .u8 8 (fun i => (f i : Int))).get hlt
        rw [hm] at cm
        clear hm
        obtain ⟨z, hz⟩ : ∃ z, z = rev (g n) 8 8 := ⟨_, rfl⟩
        rw [← hz] at CR y0
        clear hsh
        have HZZ := Lib.hid hz
        clear hz
        go_wp2_with fail
        refine wp_region_still_tail 8 (by kernel_rfl) (by kernel_rfl) ?_
        simp only [List.take_succ_cons, List.take_zero, List.drop_succ_cons, List.drop_zero]
        still_step
        still_step
        still_call ((CR _).mono fun e w'' h => (⟨h.1, h.2.symm⟩ : _ ∧ _))
        repeat still_step
        try refine wpStill_nil ?_
        repeat go_step
        have e5 : (.int .u8 ((z : Int) / 2 ^ sh) : Value) = .int .u8 ((z / 2 ^ sh : Nat) : Int) := by simp
        rw [e5]
        refine ⟨⟨n + 1, updN f n (z / 2 ^ sh), by omega, by go_num, Lib.hid (fun j => ?_), (rowAt_setCell_ne wr _ _ _ _ m1).trans r0, ?_, (rowAt_setCell_ne wr _ _ _ _ m2).trans r2, (rB.setCell (p := ⟨w.heap.size + 1, n, none⟩) (by simp) _).drew⟩, by simp [intOf]; omega⟩
        · unfold updN
          by_cases hj : j = n
          · subst hj; rw [if_pos rfl, if_pos (by omega), HZZ.out, HSH.out]
          · rw [if_neg hj, hf.out j]
            by_cases h2 : j < n
            · rw [if_pos h2, if_pos (by omega)]
            · rw [if_neg h2, if_neg (by omega)]
        · have := rowAt_setCell_at wr (w.heap.size + 1) n (.int .u8 ((z / 2 ^ sh : Nat) : Int)) (by rw [r1]; rfl)
          rw [r1, Option.getD_some, mkC_set] at this
          exact this
      · obtain rfl : n = 8 := by omega
        have hfF : mkC f = F := by
          rw [← HFF.out]
          exact mkI_congr fun i hi => by rw [hf.out i, if_pos hi, hX.out i hi]
        rw [hfF] at r1
        have zs : (mkC (fun _ => 0)).size = 8 := size_mkI _ _ _
        go_wp2_with fail
        refine bodyPost_ret (v := .tuple #[.agg F, .int .i64 0]) (results_row2 (m := 8) rfl _ _ (w.heap.size + 1 + 1) _ _ rfl rfl (rowAt_setRow_at _ _ _ (Option.isSome_iff_exists.2 ⟨_, r2⟩)) Try.underlying30 rfl (by kernel_rfl) hFs) rfl ⟨rfl, ?_⟩
        exact below_setRow rB (by omega) _
  · have hcode : r.mirC g = 1 := if_neg (by rw [Rf.cok_f h]; decide)
    have hFz : (#[.int .u8 0, .int .u8 0, .int .u8 0, .int .u8 0, .int .u8 0, .int .u8 0, .int .u8 0, .int .u8 0] : Array Value) = F := by
      rw [HZ.out, ← HFF.out]
      unfold Rf.mirX
      rw [if_neg (by rw [Rf.cok_f h]; decide)]
    rw [hcode]
    have CV := fun W => implValidCol_f c d r g W hR hC h
    have HFZ := Lib.hid hFz
    clear hcode h hFz
    go_enter Try.func16, Try.ntmps16
    go_wp2_with fail
    refine gen_callsW fun W hW => ?_
    have p2 : rowAt W (w.heap.size + 1 + 1) = some F := by rw [hW, ← HFZ.out]; exact rowAt_alloc_at _ _ _ _ (by simp)
    have pB : Below w.heap.size w W := by rw [hW]; exact (((Below.refl _ _).alloc (Nat.le_refl _) _).alloc (by simp) _).alloc (by simp; omega) _
    clear hW
    refine (CV _).mono ?_
    rintro e w1 ⟨rfl, b1⟩
    have q2 := brow b1 p2
    have B1 := bnext pB b1 pB.size
    clear b1 p2 pB CV
    go_wp2_with fail
    refine bodyPost_ret (v := .tuple #[.agg F, .int .i64 1]) (results_row2 (m := 8) rfl _ _ (w.heap.size + 1 + 1) _ _ rfl rfl (by rw [← HFZ.out]; exact rowAt_setRow_at _ _ _ (Option.isSome_iff_exists.2 ⟨_, q2⟩)) Try.underlying30 rfl (by kernel_rfl) hFs) rfl ⟨rfl, ?_⟩
    exact below_setRow B1 (by omega) _

theorem bit_mod (n k : Nat) : ((n : Int) / 2 ^ k % 2 == 1) = n.testBit k := by
  rw [Nat.testBit_eq_decide_div_mod_eq, Bool.eq_iff_iff, beq_iff_eq, decide_eq_true_eq]
  have : ((n : Int) / 2 ^ k % 2) = ((n / 2 ^ k % 2 : Nat) : Int) := by simp
  rw [this]
  omega
theorem bit_tmod (n k : Nat) : (((n : Int) / 2 ^ k).tmod 2 == 1) = n.testBit k := by
  rw [Int.tmod_eq_emod_of_nonneg (Int.ediv_nonneg (by omega) (Int.le_of_lt (Int.pow_pos (by omega)))), bit_mod]
/-- The mirrored colours while they are made. -/
def mkM (g : Nat → Nat) (ww n k : Nat) (j : Nat) : Nat := if j < n then rev (g j) ww ww else if j = n then rev (g j) ww k else 0
theorem mkM_next (g : Nat → Nat) (ww n : Nat) : mkM g ww n ww = mkM g ww (n + 1) 0 := by
  funext j
  unfold mkM
  by_cases h : j < n
  · rw [if_pos h, if_pos (by omega)]
  · rw [if_neg h]
    by_cases h2 : j = n
    · subst h2; rw [if_pos rfl, if_pos (by omega)]
    · rw [if_neg h2, if_neg (by omega)]
      split <;> rfl
theorem mkM_hit {g : Nat → Nat} {ww n k : Nat} (h : (g n).testBit k = true) : updN (mkM g ww n k) n (mkM g ww n k n ||| 2 ^ (ww - 1 - k)) = mkM g ww n (k + 1) := by
  funext j
  unfold updN mkM
  by_cases h2 : j = n
  · subst h2; simp [rev, h]
  · rw [if_neg h2]
    by_cases h3 : j < n
    · rw [if_pos h3, if_pos h3]
    · rw [if_neg h3, if_neg h3, if_neg h2, if_neg h2]
theorem mkM_miss {g : Nat → Nat} {ww n k : Nat} (h : (g n).testBit k = false) : mkM g ww n k = mkM g ww n (k + 1) := by
  funext j
  unfold mkM
  by_cases h2 : j = n
  · subst h2; simp [rev, h]
  · rw [if_neg h2, if_neg h2]
theorem mkM_lt {g : Nat → Nat} {ww n k : Nat} (w8 : ww ≤ 8) (j : Nat) : mkM g ww n k j < 256 := by
  unfold mkM
  split
  · exact rev_lt _ _ w8 _
  · split
    · exact rev_lt _ _ w8 _
    · omega

set_option maxRecDepth 100000 in
set_option maxHeartbeats 1000000 in
theorem specMirrorColours_any (c d : Array Value) (r : Rf) (g : Nat → Nat) (w : World) (hR : IsRoof c r) (hC : IsCol d g) (F : Array Value) (hF : mkC (r.mirX g) = F) :
    Calls Try.prog 15 #[.agg c, .agg d] w fun e w' => e = .returned (.tuple #[.agg F, .int .i64 (r.mirC g)]) ∧ Below w.heap.size w w' := by
  have hc := hR.size
  have hFs : F.size = 8 := by rw [← hF]; exact size_mkI _ _ _
  have hFo : Ones F := by rw [← hF]; exact (isK_mkI _ _ _).ones
  have hz : (#[.int .u8 0, .int .u8 0, .int .u8 0, .int .u8 0, .int .u8 0, .int .u8 0, .int .u8 0, .int .u8 0] : Array Value) = mkC (fun _ => 0) := by kernel_rfl
  have hzo : Ones (#[.int .u8 0, .int .u8 0, .int .u8 0, .int .u8 0, .int .u8 0, .int .u8 0, .int .u8 0, .int .u8 0] : Array Value) := by rw [hz]; exact (isK_mkI _ _ _).ones
  have HZ := Lib.hid hz
  have HFF := Lib.hid hF
  clear hz hF
  by_cases h : r.Cols g
  · have ho := h.1
    obtain ⟨ww, hwe⟩ := Int.eq_ofNat_of_zero_le (show 0 ≤ r.w by have := ho.1; omega)
    obtain ⟨hh, hhe⟩ := Int.eq_ofNat_of_zero_le (show 0 ≤ r.h by have := ho.2.2.1; omega)
    have w8 : ww ≤ 8 := by have := ho.2.1; omega
    have h8 : hh ≤ 8 := by have := ho.2.2.2.1; omega
    have hX : Hid (∀ i, i < 8 → r.mirX g i = mkM g ww hh 0 i) := Lib.hid fun i hi => by
      unfold Rf.mirX mkM
      rw [if_pos (Rf.cok_t h), hwe]
      by_cases hl : i < hh
      · rw [if_pos hl]; rfl
      · have hz : g i = 0 := bits_zero.2 fun j => by
          cases hb : (g i).testBit j with
          | false => rfl
          | true => have := (h.2 i hi j hb).1; omega
        rw [if_neg hl, hz]
        show rev 0 ww ww = _
        rw [rev_zero]
        split <;> rfl
    have hcode : r.mirC g = 0 := if_pos (Rf.cok_t h)
    rw [hcode]
    clear hcode
    have k0 : ∀ W, rowAt W w.heap.size = some c → W.cell? ⟨w.heap.size, 0, none⟩ = some (.int .i8 ww) := fun W h => by
      rw [cell_of_rowAt h, Array.getElem?_eq_getElem (by omega), hR.wide (by omega), hwe]
    have k1 : ∀ W, rowAt W w.heap.size = some c → W.cell? ⟨w.heap.size, 1, none⟩ = some (.int .i8 hh) := fun W h => by
      rw [cell_of_rowAt h, Array.getElem?_eq_getElem (by omega), hR.high (by omega), hhe]
    have K0 := Lib.hid k0
    have K1 := Lib.hid k1
    clear k0 k1 hwe hhe
    have CV := fun W H0 H1 => l07Colours_t w.heap.size (w.heap.size + 1) c d r g W H0 hR H1 hC h
    go_enter Try.func15, Try.ntmps15
    go_wp2_with fail
    refine gen_callsW fun W hW => ?_
    have p0 : rowAt W w.heap.size = some c := by rw [hW]; exact (rowAt_alloc_past _ _ _ (by simp; omega)).trans ((rowAt_alloc_past _ _ _ (by simp)).trans (rowAt_alloc_at _ _ _ _ rfl))
    have p1 : rowAt W (w.heap.size + 1) = some d := by rw [hW]; exact (rowAt_alloc_past _ _ _ (by simp)).trans (rowAt_alloc_at _ _ _ _ (by simp))
    have p2 : rowAt W (w.heap.size + 1 + 1) = some (mkC (fun _ => 0)) := by rw [hW, ← HZ.out]; exact rowAt_alloc_at _ _ _ _ (by simp)
    have pB : Below w.heap.size w W := by rw [hW]; exact (((Below.refl _ _).alloc (Nat.le_refl _) _).alloc (by simp) _).alloc (by simp; omega) _
    clear hW
    refine (CV _ p0 p1).mono ?_
    rintro e w1 ⟨rfl, b1⟩
    have q0 := brow b1 p0
    have q1 := brow b1 p1
    have q2 := brow b1 p2
    have B1 := bnext pB b1 pB.size
    clear b1 p0 p1 p2 pB CV
    go_wp2_with fail
    refine gen_world fun W2 hW => ?_
    have r0 : rowAt W2 w.heap.size = some c := by rw [hW]; exact (rowAt_alloc_past _ _ _ (rowAt_lt q0)).trans q0
    have r1 : rowAt W2 (w.heap.size + 1) = some d := by rw [hW]; exact (rowAt_alloc_past _ _ _ (rowAt_lt q1)).trans q1
    have r2 : rowAt W2 (w.heap.size + 1 + 1) = some (mkC (fun _ => 0)) := by rw [hW]; exact (rowAt_alloc_past _ _ _ (rowAt_lt q2)).trans q2
    have r3 : rowAt W2 w1.heap.size = some (mkC (mkM g ww 0 0)) := by
      have e : mkC (mkM g ww 0 0) = mkC (fun _ => 0) := mkI_congr fun i _ => by unfold mkM; rw [if_neg (by omega)]; split <;> rfl
      rw [hW, e, ← HZ.out]; go_simp
    have rB : Below w.heap.size w W2 := by rw [hW]; exact B1.alloc B1.size _
    have l1 := rowAt_lt q2
    clear hW q0 q1 q2 B1
    go_loopw [7] (fun i W' => ∃ n : Nat, n ≤ hh ∧ i = .int .i64 n ∧ rowAt W' w.heap.size = some c ∧ rowAt W' (w.heap.size + 1) = some d ∧ rowAt W' (w.heap.size + 1 + 1) = some (mkC (fun _ => 0)) ∧ rowAt W' w1.heap.size = some (mkC (mkM g ww n 0)) ∧ Below w.heap.size w W') (fun i _ => hh - (intOf i).toNat)
    case atStart => exact ⟨0, by omega, rfl, r0, r1, r2, r3, rB⟩
    case round =>
      clear r0 r1 r2 r3 rB
      obtain ⟨n, hn, rfl, r0, r1, r2, r3, rB⟩ := hrel
      by_cases hlt : n < hh
      · have c1 := K1.out _ r0
        go_wp2_with fail
        go_loopw [8] (fun i W' => ∃ k : Nat, k ≤ ww ∧ i = .int .i8 k ∧ rowAt W' w.heap.size = some c ∧ rowAt W' (w.heap.size + 1) = some d ∧ rowAt W' (w.heap.size + 1 + 1) = some (mkC (fun _ => 0)) ∧ rowAt W' w1.heap.size = some (mkC (mkM g ww n k)) ∧ Below w.heap.size w W') (fun i _ => ww - (intOf i).toNat)
        case atStart => exact ⟨0, by omega, rfl, r0, r1, r2, r3, rB⟩
        case round =>
          clear r0 r1 r2 r3 rB c1
          obtain ⟨k, hk, rfl, r0, r1, r2, r3, rB⟩ := hrel
          by_cases hkl : k < ww
          · have c0 := K0.out _ r0
            have g8 := hC.hi n (by omega)
            have cg : wr.cell? ⟨w.heap.size + 1, n, none⟩ = some (.int .u8 (g n)) := (cell_of_rowAt r1 n).trans (hC.cell (by omega))
            have n0 : (0 : Int) ≤ n := by omega
            have n1 : (n : Int) < 8 := by omega
            have k0 : (0 : Int) ≤ k := by omega
            have k1 : (k : Int) < 8 := by omega
            have e0 : min k 8 = k := by omega
            have hbm := bit_tmod (g n) k
            cases hb : (g n).testBit k with
            | true =>
              rw [hb] at hbm
              have HB := Lib.hid hb
              clear hb
              obtain ⟨f, hf⟩ : ∃ f, mkM g ww n k = f := ⟨_, rfl⟩
              have f8 : f n < 256 := by rw [← hf]; exact mkM_lt w8 n
              have HFm := Lib.hid (show updN f n (f n ||| 2 ^ (ww - 1 - k)) = mkM g ww n (k + 1) by rw [← hf]; exact mkM_hit HB.out)
              rw [hf] at r3
              have cf : wr.cell? ⟨w1.heap.size, n, none⟩ = some (.int .u8 (f n)) := (cell_of_rowAt r3 n).trans ((isK_mkI .u8 8 (fun i => (f i : Int))).get (by omega))
              have ff := frozen_of_rowAt r3 n
              obtain ⟨sh, hsh⟩ : ∃ sh : Nat, sh = ww - 1 - k := ⟨_, rfl⟩
              have hor := or8_num ⟨f n, f8⟩ ⟨sh, by omega⟩
              dsimp only at hor
              have s1 : IntKind.i8.wrap ((ww : Int) - 1) = (ww : Int) - 1 := IntWalk.i8_in _ (by omega)
              have s2 : IntKind.i8.wrap ((ww : Int) - 1 - (k : Int)) = (sh : Int) := (IntWalk.i8_in _ (by omega)).trans (by omega)
              have s3 : IntKind.u64.wrap (sh : Int) = (sh : Int) := IntWalk.u64_in _ (by omega)
              have s4 : min sh 8 = sh := by omega
              have HSH := Lib.hid hsh
              have m1 : w.heap.size ≠ w1.heap.size := by omega
              have m2 : w.heap.size + 1 ≠ w1.heap.size := by omega
              have m3 : w.heap.size + 1 + 1 ≠ w1.heap.size := by omega
              clear hf hsh
              go_wp2_with fail
              go_still_tail 13, (by kernel_rfl)
              change wpList _ _ _ _ _ wr.drew
              repeat go_step
              refine ⟨⟨k + 1, by omega, by go_num, (rowAt_setCell_ne wr _ _ _ _ m1).trans r0, (rowAt_setCell_ne wr _ _ _ _ m2).trans r1, (rowAt_setCell_ne wr _ _ _ _ m3).trans r2, ?_, (rB.setCell (p := ⟨w1.heap.size, n, none⟩) (by simp; omega) _).drew⟩, by simp [intOf]; omega⟩
              have := rowAt_setCell_at wr w1.heap.size n (.int .u8 ((f n ||| 2 ^ sh : Nat) : Int)) (by rw [r3]; rfl)
              rw [r3, Option.getD_some, mkC_set] at this
              rw [← HFm.out, ← HSH.out]
              exact this
            | false =>
              rw [hb] at hbm
              rw [mkM_miss hb] at r3
              clear hb
              go_wp2_with fail
              refine ⟨⟨k + 1, by omega, by go_num, r0, r1, r2, r3, rB⟩, by simp [intOf]; omega⟩
          · obtain rfl : k = ww := by omega
            have c0 := K0.out _ r0
            rw [mkM_next] at r3
            go_wp2_with fail
            refine ⟨⟨n + 1, by omega, by go_num, r0, r1, r2, r3, rB⟩, by simp [intOf]; omega⟩
      · obtain rfl : n = hh := by omega
        have c1 := K1.out _ r0
        have hfF : mkC (mkM g ww n 0) = F := by
          rw [← HFF.out]
          exact mkI_congr fun i hi => by rw [hX.out i hi]
        rw [hfF] at r3
        have zs : (mkC (fun _ => 0)).size = 8 := size_mkI _ _ _
        go_wp2_with fail
        refine bodyPost_ret (v := .tuple #[.agg F, .int .i64 0]) (results_row2 (m := 8) rfl _ _ (w.heap.size + 1 + 1) _ _ rfl rfl (rowAt_setRow_at _ _ _ (Option.isSome_iff_exists.2 ⟨_, r2⟩)) Try.underlying30 rfl (by kernel_rfl) hFs) rfl ⟨rfl, ?_⟩
        exact below_setRow rB (by omega) _
  · have hcode : r.mirC g = 1 := if_neg (by rw [Rf.cok_f h]; decide)
    have hFz : (#[.int .u8 0, .int .u8 0, .int .u8 0, .int .u8 0, .int .u8 0, .int .u8 0, .int .u8 0, .int .u8 0] : Array Value) = F := by
      rw [HZ.out, ← HFF.out]
      unfold Rf.mirX
      rw [if_neg (by rw [Rf.cok_f h]; decide)]
    rw [hcode]
    have CV := fun W H0 H1 => l07Colours_f w.heap.size (w.heap.size + 1) c d r g W H0 hR H1 hC h
    have HFZ := Lib.hid hFz
    clear hcode h hFz
    go_enter Try.func15, Try.ntmps15
    go_wp2_with fail
    refine gen_callsW fun W hW => ?_
    have p0 : rowAt W w.heap.size = some c := by rw [hW]; exact (rowAt_alloc_past _ _ _ (by simp; omega)).trans ((rowAt_alloc_past _ _ _ (by simp)).trans (rowAt_alloc_at _ _ _ _ rfl))
    have p1 : rowAt W (w.heap.size + 1) = some d := by rw [hW]; exact (rowAt_alloc_past _ _ _ (by simp)).trans (rowAt_alloc_at _ _ _ _ (by simp))
    have p2 : rowAt W (w.heap.size + 1 + 1) = some F := by rw [hW, ← HFZ.out]; exact rowAt_alloc_at _ _ _ _ (by simp)
    have pB : Below w.heap.size w W := by rw [hW]; exact (((Below.refl _ _).alloc (Nat.le_refl _) _).alloc (by simp) _).alloc (by simp; omega) _
    clear hW
    refine (CV _ p0 p1).mono ?_
    rintro e w1 ⟨rfl, b1⟩
    have q2 := brow b1 p2
    have B1 := bnext pB b1 pB.size
    clear b1 p2 pB CV
    go_wp2_with fail
    refine bodyPost_ret (v := .tuple #[.agg F, .int .i64 1]) (results_row2 (m := 8) rfl _ _ (w.heap.size + 1 + 1) _ _ rfl rfl (by rw [← HFZ.out]; exact rowAt_setRow_at _ _ _ (Option.isSome_iff_exists.2 ⟨_, q2⟩)) Try.underlying30 rfl (by kernel_rfl) hFs) rfl ⟨rfl, ?_⟩
    exact below_setRow B1 (by omega) _
end Go.Proofs.Ytcdobpnejbfbpab
