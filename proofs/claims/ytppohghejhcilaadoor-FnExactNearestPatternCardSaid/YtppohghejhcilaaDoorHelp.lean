/- Contracts of the laws' own helpers: they copy what came in. -/
import Derived.Test.YtppohghejhcilaaDoorTy
import Derived.Test.YtppohghejhcilaaDoorRoof
namespace Go.Proofs.YtppohghejhcilaaDoor
open Go.RowKit

set_option maxHeartbeats 400000 in
theorem toByteA8_any (xs : Array Value) (t : Nat → Int) (w : World) (hX : IsU8 xs 8 t) :
    Calls Tryd.prog 91 #[.agg xs] w fun e w' => e = .returned (.agg xs) ∧ Below w.heap.size w w' := by
  have hx := hX.size
  have h1 := hX.ones
  have H := Lib.hid hX; clear hX
  go_enter Tryd.func91, Tryd.ntmps91
  go_wp2
  go_loopw [4] (fun i W => ∃ (k : Nat) (ys : Array Value), k ≤ 8 ∧ i = .int .i64 k ∧ ys.size = 8 ∧ Hid (∀ j, j < k → ys[j]? = xs[j]?) ∧ (∃ ws : Array Value, ws.size = 8 ∧ W = ((w.alloc (.cells xs 25)).alloc (.cells ws 25)).alloc (.cells ys 25))) (fun i _ => 8 - (intOf i).toNat)
  case atStart => exact ⟨0, _, by omega, rfl, rfl, Lib.hid (by omega), _, rfl, rfl⟩
  case round =>
    obtain ⟨k, ys, hk, rfl, hy, he, ws, hws, rfl⟩ := hrel
    by_cases hlt : k < 8
    · have hk1 : k < xs.size := by omega
      have hk2 : k < ys.size := by omega
      have h0 := H.out.cell k hk1
      go_wp2
      go_roundw
      case rel => exact ⟨k + 1, _, by omega, by go_num, by simpa using hy, Lib.hid (by
        intro j hj
        by_cases hjk : j = k
        · subst hjk; simp [hk2, hk1, h0]
        · rw [← he.out j (by omega)]; simp [Ne.symm hjk]), _, hws, rfl⟩
      case measure => simp [intOf]; omega
    · obtain rfl : k = 8 := by omega
      have hxy : ys = xs := by
        apply Array.ext_getElem?; intro i; by_cases hi : i < 8
        · exact he.out i hi
        · simp [hy, hx, hi]
      clear he; subst hxy
      go_wp2
      refine bodyPost_ret (v := .agg ys) (results_row1 rfl _ _ (w.heap.size + 1) ys rfl (by simp [go_sem]) Tryd.underlying25 rfl (by kernel_rfl) hy) rfl ⟨rfl, ?_⟩
      exact (((Below.refl _ _).alloc (Nat.le_refl _) _).alloc (by simp) _).alloc (by simp; omega) _

set_option maxRecDepth 100000 in
set_option maxHeartbeats 400000 in
theorem toByteA8A8_any (xs : Array Value) (t : Nat → Int) (w : World) (hX : IsU8 xs 64 t) :
    Calls Tryd.prog 69 #[.agg xs] w fun e w' => e = .returned (.agg xs) ∧ Below w.heap.size w w' := by
  have hx := hX.size
  have h1 := hX.ones
  have H := Lib.hid hX; clear hX
  go_enter Tryd.func69, Tryd.ntmps69
  go_wp2
  go_loopw [4] (fun i W => ∃ (k : Nat) (ys ws : Array Value), rowAt W w.heap.size = some xs ∧ rowAt W (w.heap.size + 1) = some ws ∧ rowAt W (w.heap.size + 1 + 1) = some ys ∧ k ≤ 8 ∧ i = .int .i64 k ∧ ys.size = 64 ∧ Hid (∀ j, j < k * 8 → ys[j]? = xs[j]?) ∧ ws.size = 64 ∧ Below w.heap.size w W ∧ w.heap.size + 1 + 1 < W.heap.size) (fun i _ => 8 - (intOf i).toNat)
  case atStart =>
    refine ⟨0, _, _, ?_, (rowAt_alloc_past _ _ _ (by simp)).trans (rowAt_alloc_at _ _ _ _ (by simp)), rowAt_alloc_at _ _ _ _ (by simp), by omega, rfl, rfl, Lib.hid (by omega), rfl, (((Below.refl _ _).alloc (Nat.le_refl _) _).alloc (by simp) _).alloc (by simp; omega) _, by simp⟩
    exact (rowAt_alloc_past _ _ _ (by simp; omega)).trans ((rowAt_alloc_past _ _ _ (by simp)).trans (rowAt_alloc_at _ _ _ _ (by simp)))
  case round =>
    obtain ⟨k, ys, ws, r0, r1, r2, hk, rfl, hy, he, hws, hB, hsz⟩ := hrel
    by_cases hlt : k < 8
    · have hk8 : k * 8 + 8 ≤ 64 := by omega
      go_wp2_with fail
      refine (toByteA8_any _ _ _ (H.out.extract (k * 8) 8 hk8)).mono ?_
      rintro e w1 ⟨rfl, hb⟩
      obtain ⟨v1, v2, v3, v4⟩ := bview hb
      have q0 := brow hb r0
      have q1 := brow hb r1
      have q2 := brow hb r2
      have hs8 : (xs.extract (k * 8) (k * 8 + 8)).size = 8 := by simp; omega
      have ho8 := h1.extract (k * 8) (k * 8 + 8)
      have hB1 := hB.trans (hb.mono hB.size)
      clear hb
      go_wp2
      clear v1 v2 v3
      refine ⟨⟨k + 1, splice ys (k * 8) (xs.extract (k * 8) (k * 8 + 8)), ws, by rw [rowAt_setRow_ne _ _ _ _ (by omega)]; exact q0, by rw [rowAt_setRow_ne _ _ _ _ (by omega)]; exact q1, rowAt_setRow_at _ _ _ (by simp [q2]), by omega, by go_num,
        by rw [size_splice _ _ _ (by omega)]; exact hy, Lib.hid ?_, hws, below_setRow hB1 (by omega) _, by simp; omega⟩, by simp [intOf]; omega⟩
      intro j hj
      rw [get_splice _ _ _ (by omega), hs8]
      by_cases hj8 : j < k * 8
      · rw [if_pos hj8]; exact he.out j hj8
      · rw [if_neg hj8, if_pos (by omega), get_extract _ _ _ _ (by omega) (by omega)]
        congr 1; omega
    · obtain rfl : k = 8 := by omega
      have hxy : ys = xs := by
        apply Array.ext_getElem?; intro i; by_cases hi : i < 64
        · exact he.out i hi
        · simp [hy, hx, hi]
      clear he; subst hxy
      go_wp2
      refine bodyPost_ret (v := .agg ys) (results_row1 rfl _ _ (w.heap.size + 1) ys rfl (by simp [go_sem, r1]) Tryd.underlying26 rfl (by kernel_rfl) hy) rfl ⟨rfl, below_setRow hB (by omega) _⟩

theorem roof_copy (c : Array Value) (r : Rf) (h : IsRoof c r) (z : Array Value) (hz : z.size = 67) (hz0 : z[0]? = some (.int .i8 r.w)) (hz1 : z[1]? = some (.int .i8 r.h)) (hz2 : z[2]? = some (.int .u8 r.s)) : splice z 3 (c.extract 3 67) = c := by
  have hc := h.size
  have he : (c.extract 3 67).size = 64 := by simp; omega
  apply Array.ext_getElem?; intro i
  rw [get_splice _ _ _ (by omega), he]
  by_cases h3 : i < 3
  · rw [if_pos h3]
    have : i = 0 ∨ i = 1 ∨ i = 2 := by omega
    rcases this with rfl | rfl | rfl
    · rw [hz0, Array.getElem?_eq_getElem (by omega), h.wide]
    · rw [hz1, Array.getElem?_eq_getElem (by omega), h.high]
    · rw [hz2, Array.getElem?_eq_getElem (by omega), h.shift]
  · rw [if_neg h3]
    by_cases h6 : i < 67
    · rw [if_pos (by omega), get_extract _ _ _ _ (by omega) (by omega)]
      congr 1; omega
    · rw [if_neg (by omega)]
      simp [hz, hc, h6]

set_option maxRecDepth 100000 in
set_option maxHeartbeats 400000 in
theorem toRoof_any (c : Array Value) (r : Rf) (w : World) (hR : IsRoof c r) :
    Calls Tryd.prog 30 #[.agg c] w fun e w' => e = .returned (.agg c) ∧ Below w.heap.size w w' := by
  have hc := hR.size
  have h1 := hR.ones
  have k0 := hR.wide (by omega)
  have k1 := hR.high (by omega)
  have k2 := hR.shift (by omega)
  have H := Lib.hid hR; clear hR
  go_enter Tryd.func30, Tryd.ntmps30
  go_wp2_with fail
  have hzs : Tryd.zeroCells28.size = 67 := by kernel_rfl
  refine (toByteA8A8_any _ _ _ H.out.tiles).mono ?_
  rintro e w1 ⟨rfl, hb⟩
  obtain ⟨z, ⟨hz, hz0, hz1, hz2⟩, q2⟩ : ∃ z : Array Value, (z.size = 67 ∧ z[0]? = some (.int .i8 r.w) ∧ z[1]? = some (.int .i8 r.h) ∧ z[2]? = some (.int .u8 r.s)) ∧ rowAt w1 (w.heap.size + 1 + 1) = some z :=
    ⟨_, ⟨by simp [hzs], by simp [hzs], by simp [hzs], by simp [hzs]⟩, brow hb (rowAt_alloc_at _ _ _ _ (by simp))⟩
  obtain ⟨y, hy, q1⟩ : ∃ y : Array Value, y.size = 67 ∧ rowAt w1 (w.heap.size + 1) = some y := ⟨_, hzs, brow hb ((rowAt_alloc_past _ _ _ (by simp)).trans (rowAt_alloc_at _ _ _ _ (by simp)))⟩
  have hz3 := roof_copy c r H.out z hz hz0 hz1 hz2
  have hs8 : (c.extract 3 67).size = 64 := by simp; omega
  have ho8 := h1.extract 3 67
  have hl : w.heap.size + 1 + 1 < w1.heap.size := by have := hb.size; simp at this; omega
  have hB : Below w.heap.size w w1 := ((((Below.refl _ _).alloc (Nat.le_refl _) _).alloc (by simp) _).alloc (by simp; omega) _).trans (hb.mono (by simp; omega))
  clear hb hz0 hz1 hz2 hzs
  go_wp2
  refine bodyPost_ret (v := .agg c) (results_row1 rfl _ _ (w.heap.size + 1) c rfl (by simp [go_sem, q1]) Tryd.underlying28 rfl (by kernel_rfl) hc) rfl ⟨rfl, ?_⟩
  exact below_setRow (below_setRow hB (by omega) _) (by omega) _

end Go.Proofs.YtppohghejhcilaaDoor
