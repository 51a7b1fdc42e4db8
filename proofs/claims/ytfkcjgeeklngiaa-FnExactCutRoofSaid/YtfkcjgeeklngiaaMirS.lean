/- MirrorRoof: the model's side. -/
import Derived.Test.YtfkcjgeeklngiaaMirI
namespace Go.Proofs.Ytfkcjgeeklngiaa
open Go.RowKit

theorem IsRoof.widened {c : Array Value} {r : Rf} (h : IsRoof c r) (k : Int) (h0 : -128 ≤ k) (h1 : k ≤ 127) : IsRoof (c.setIfInBounds 0 (.int .i8 k)) { r with w := k } where
  size := by simpa using h.size
  wide hh := get_of (by have := h.size; rw [Array.getElem?_setIfInBounds_self_of_lt (by omega)]) hh
  high hh := get_of (by have := h.size; rw [Array.getElem?_setIfInBounds_ne (by omega), Array.getElem?_eq_getElem (by omega), h.high]) hh
  shift hh := get_of (by have := h.size; rw [Array.getElem?_setIfInBounds_ne (by omega), Array.getElem?_eq_getElem (by omega), h.shift]) hh
  tiles := ⟨by have := h.size; simp [this], fun i hi => by
    have hs := h.size
    have hi' : i < 64 := by simp [hs] at hi; omega
    refine get_of ?_ hi
    rw [get_extract _ _ _ _ (by omega) (by simp [hs]), Array.getElem?_setIfInBounds_ne (by omega), Array.getElem?_eq_getElem (by omega), h.tile _ _ (by omega), show 3 + i - 3 = i from by omega], h.tiles.lo, h.tiles.hi⟩
  w0 := h0
  w1 := h1
  h0 := h.h0
  h1 := h.h1
  s0 := h.s0
  s1 := h.s1
theorem IsRoof.highed {c : Array Value} {r : Rf} (h : IsRoof c r) (k : Int) (h0 : -128 ≤ k) (h1 : k ≤ 127) : IsRoof (c.setIfInBounds 1 (.int .i8 k)) { r with h := k } where
  size := by simpa using h.size
  wide hh := get_of (by have := h.size; rw [Array.getElem?_setIfInBounds_ne (by omega), Array.getElem?_eq_getElem (by omega), h.wide]) hh
  high hh := get_of (by have := h.size; rw [Array.getElem?_setIfInBounds_self_of_lt (by omega)]) hh
  shift hh := get_of (by have := h.size; rw [Array.getElem?_setIfInBounds_ne (by omega), Array.getElem?_eq_getElem (by omega), h.shift]) hh
  tiles := ⟨by have := h.size; simp [this], fun i hi => by
    have hs := h.size
    have hi' : i < 64 := by simp [hs] at hi; omega
    refine get_of ?_ hi
    rw [get_extract _ _ _ _ (by omega) (by simp [hs]), Array.getElem?_setIfInBounds_ne (by omega), Array.getElem?_eq_getElem (by omega), h.tile _ _ (by omega), show 3 + i - 3 = i from by omega], h.tiles.lo, h.tiles.hi⟩
  w0 := h.w0
  w1 := h.w1
  h0 := h0
  h1 := h1
  s0 := h.s0
  s1 := h.s1

set_option maxRecDepth 100000 in
set_option maxHeartbeats 4000000 in
theorem specMirror_go (c X : Array Value) (r : Rf) (hh ww : Nat) (hhe : r.h = hh) (hwe : r.w = ww) (h8 : hh ≤ 8) (w8 : ww ≤ 8) (w : World) (hR : IsRoof c r) (ho : r.Ok) (hX : mir0 c r = X) :
    Calls Try.prog 38 #[.agg c] w fun e w' => e = .returned (.tuple #[.agg (mirA r X (plUpto hh ww (hh * ww))), .int .i64 0]) ∧ Below w.heap.size w w' := by
  have hc := hR.size
  have hzs := zroof_size
  have hzo := zroof_ones
  have hs0 := hR.s0
  have hs1 : r.s ≤ 1 := ho.2.2.2.2.1
  have hsw : 0 ≤ 1 - r.s := by omega
  have hs2 : IntKind.u8.wrap (1 - r.s) = 1 - r.s := IntWalk.u8_in _ (by omega)
  have k2 := hR.shift (by omega)
  have HX := mir0_is hR hsw
  rw [hX] at HX
  have hXo := HX.ones
  have hXs := HX.size
  obtain ⟨qF, hF⟩ := mirA_is hR h8 w8 (plUpto hh ww (hh * ww)) HX
  have hFo := hF.ones
  have hFs := hF.size
  have k0 : ∀ W, rowAt W w.heap.size = some c → W.cell? ⟨w.heap.size, 0, none⟩ = some (.int .i8 ww) := fun W h => by
    rw [cell_of_rowAt h, Array.getElem?_eq_getElem (by omega), hR.wide (by omega), hwe]
  have k1 : ∀ W, rowAt W w.heap.size = some c → W.cell? ⟨w.heap.size, 1, none⟩ = some (.int .i8 hh) := fun W h => by
    rw [cell_of_rowAt h, Array.getElem?_eq_getElem (by omega), hR.high (by omega), hhe]
  have p0 : rowAt ((w.alloc (.cells c 33)).alloc (.cells Try.zeroCells33 33)) w.heap.size = some c := (rowAt_alloc_past _ _ _ (by simp)).trans (rowAt_alloc_at _ _ _ _ rfl)
  have p1 : rowAt ((w.alloc (.cells c 33)).alloc (.cells Try.zeroCells33 33)) (w.heap.size + 1) = some Try.zeroCells33 := rowAt_alloc_at _ _ _ _ (by simp)
  have pB : Below w.heap.size w ((w.alloc (.cells c 33)).alloc (.cells Try.zeroCells33 33)) := ((Below.refl _ _).alloc (Nat.le_refl _) _).alloc (by simp) _
  have hEq : ((Try.zeroCells33.setIfInBounds 0 (.int .i8 (ww : Int))).setIfInBounds 1 (.int .i8 (hh : Int))).setIfInBounds 2 (.int .u8 (1 - r.s)) = X := by
    refine IsRoof.one (((zroof_is.widened ww (by omega) (by omega)).highed hh (by omega) (by omega)).shifted (1 - r.s) hsw (by omega)) ?_
    have e : (⟨ww, hh, 1 - r.s, fun _ => 0⟩ : Rf) = { r.bare with s := 1 - r.s } := by unfold Rf.bare; rw [hwe, hhe]
    rw [← e] at HX
    exact HX
  have K0 := Lib.hid k0
  have K1 := Lib.hid k1
  clear hX k0 k1 hhe hwe
  go_enter Try.func38, Try.ntmps38
  go_wp2_with fail
  refine (l01Ok_t w.heap.size c r _ p0 hR ho).mono ?_
  rintro e w1 ⟨rfl, b1⟩
  have q0 := brow b1 p0
  have q1 := brow b1 p1
  have B1 := bnext pB b1 pB.size
  have lt0 := rowAt_lt q0
  have lt1 := rowAt_lt q1
  have c0 := K0.out _ q0
  have c1 := K1.out _ q0
  have c2 : w1.cell? ⟨w.heap.size, 2, none⟩ = some (.int .u8 r.s) := by rw [← k2]; exact (cell_of_rowAt q0 2).trans (Array.getElem?_eq_getElem (by omega))
  clear b1 p0 p1 pB
  go_wp2_with fail
  clear hEq c0 c1 c2
  refine gen_world fun W hW => ?_
  have r0 : rowAt W w.heap.size = some c := by rw [hW]; exact (rowAt_alloc_past _ _ _ lt0).trans q0
  have r1 : rowAt W (w.heap.size + 1) = some Try.zeroCells33 := by rw [hW]; exact (rowAt_alloc_past _ _ _ lt1).trans q1
  have r4 : rowAt W w1.heap.size = some X := by rw [hW]; exact rowAt_alloc_at _ _ _ _ rfl
  have rB : Below w.heap.size w W := by rw [hW]; exact B1.alloc B1.size _
  have n1 : w.heap.size ≠ w1.heap.size := by omega
  have n2 : w.heap.size + 1 ≠ w1.heap.size := by omega
  have n3 : w1.heap.size ≠ w.heap.size + 1 := by omega
  have ls := B1.size
  clear hW q0 q1 B1
  go_loopw [5] (fun i W => ∃ k : Nat, k ≤ hh ∧ i = .int .i8 k ∧ rowAt W w.heap.size = some c ∧ rowAt W (w.heap.size + 1) = some Try.zeroCells33 ∧ rowAt W w1.heap.size = some (mirA r X (plUpto hh ww (k * ww))) ∧ Below w.heap.size w W) (fun i _ => hh - (intOf i).toNat)
  case atStart => exact ⟨0, by omega, rfl, r0, r1, by rw [Nat.zero_mul]; exact r4, rB⟩
  case round =>
    clear r0 r1 r4 rB
    obtain ⟨k, hk, rfl, r0, r1, r4, rB⟩ := hrel
    obtain ⟨wo, rfl⟩ : ∃ wo : World, wo = wr := ⟨_, rfl⟩
    have c1 := K1.out _ r0
    by_cases hlt : k < hh
    · go_wp2_with fail
      go_loopw [6] (fun i W => ∃ m : Nat, m ≤ ww ∧ i = .int .i8 m ∧ rowAt W w.heap.size = some c ∧ rowAt W (w.heap.size + 1) = some Try.zeroCells33 ∧ rowAt W w1.heap.size = some (mirA r X (plUpto hh ww (k * ww + m))) ∧ Below w.heap.size w W) (fun i _ => ww - (intOf i).toNat)
      case atStart => exact ⟨0, by omega, rfl, r0, r1, r4, rB⟩
      case round =>
        clear c1 r0 r1 r4 rB
        obtain ⟨m, hm, rfl, r0, r1, r4, rB⟩ := hrel
        have c0 := K0.out _ r0
        by_cases hml : m < ww
        · have x8 : k < 8 := by omega
          have y8 : m < 8 := by omega
          obtain ⟨qP, hP⟩ := mirA_is hR h8 w8 (plUpto hh ww (k * ww + m)) HX
          have hPs := hP.size
          obtain ⟨ct, t0, t1⟩ := tile_cell r0 hR k m x8 y8
          have gcell := cell_of_rowAt r4
          have gfro := frozen_of_rowAt r4
          obtain ⟨p, hp⟩ : ∃ p : Nat, ww - 1 - m = p := ⟨_, rfl⟩
          have p8 : p < 8 := by omega
          have e1 : IntKind.i8.wrap ((ww : Int) - 1) = (ww : Int) - 1 := IntWalk.i8_in _ (by omega)
          have e2 : IntKind.i8.wrap (p : Int) = (p : Int) := IntWalk.i8_in _ (by omega)
          have ep : (ww : Int) - 1 - (m : Int) = (p : Int) := by omega
          have xi0 : 0 ≤ (k : Int) := by omega
          have xi1 : (k : Int) < 8 := by omega
          have yi0 : 0 ≤ (m : Int) := by omega
          have yi1 : (m : Int) < 8 := by omega
          have pi0 : 0 ≤ (p : Int) := by omega
          have pi1 : (p : Int) < 8 := by omega
          have hcx : 3 + k * 8 + p < 67 := by omega
          have hsn : mirA r X (plUpto hh ww (k * ww + m + 1)) = (mirA r X (plUpto hh ww (k * ww + m))).setIfInBounds (3 + k * 8 + p) (.int .u8 (r.t (k * 8 + m))) := by
            rw [plUpto_succ hlt hml, mirA_snoc, hp]
          have HS := Lib.hid hsn
          clear hsn
          generalize mirA r X (plUpto hh ww (k * ww + m)) = Q at *
          go_wp2_with fail
          go_still_tail 15, (by kernel_rfl)
          change wpList _ _ _ _ _ wr.drew
          repeat go_step
          have s4 := rowAt_setCell_at wr.drew w1.heap.size (3 + k * 8 + p) (.int .u8 (r.t (k * 8 + m))) (by rw [show rowAt wr.drew w1.heap.size = some Q from r4]; rfl)
          rw [show rowAt wr.drew w1.heap.size = some Q from r4, Option.getD_some, ← HS.out] at s4
          have s0 := (rowAt_setCell_ne wr.drew w1.heap.size w.heap.size (3 + k * 8 + p) (.int .u8 (r.t (k * 8 + m))) n1).trans r0
          have s1 := (rowAt_setCell_ne wr.drew w1.heap.size (w.heap.size + 1) (3 + k * 8 + p) (.int .u8 (r.t (k * 8 + m))) n2).trans r1
          have sB := rB.drew.setCell (p := ⟨w1.heap.size, 3 + k * 8 + p, none⟩) ls (.int .u8 (r.t (k * 8 + m)))
          clear r0 r1 r4 rB c0 ct gcell gfro
          go_wp2_with fail
          refine ⟨⟨m + 1, by omega, by go_num, s0, s1, by rw [← Nat.add_assoc]; exact s4, sB⟩, by simp [intOf]; omega⟩
        · obtain rfl : m = ww := by omega
          rw [← Nat.succ_mul] at r4
          go_wp2_with fail
          refine ⟨⟨k + 1, by omega, by go_num, r0, r1, r4, rB⟩, by simp [intOf]; omega⟩
    · obtain rfl : k = hh := by omega
      go_wp2_with fail
      refine bodyPost_ret (v := .tuple #[.agg (mirA r X (plUpto k ww (k * ww))), .int .i64 0]) (results_row2 (m := 67) rfl _ _ (w.heap.size + 1) _ _ rfl rfl (rowAt_setRow_at _ _ _ (by rw [r1]; rfl)) Try.underlying33 rfl (by kernel_rfl) hFs) rfl ⟨rfl, ?_⟩
      exact below_setRow rB (by omega) _
end Go.Proofs.Ytfkcjgeeklngiaa
