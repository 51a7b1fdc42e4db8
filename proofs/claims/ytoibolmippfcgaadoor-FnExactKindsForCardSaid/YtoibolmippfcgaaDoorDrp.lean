/- Drips that come in: opened and copied. -/
import Derived.Test.YtoibolmippfcgaaDoorFlow
import Derived.Test.YtoibolmippfcgaaDoorHelp
import Derived.Test.YtoibolmippfcgaaDoorRain
namespace Go.Proofs.YtoibolmippfcgaaDoor
open Go.RowKit Go.ChangeShapes Go.WideShapes

@[go_sem ↓] theorem loadAt_ld (v : Value) : Instr.loadAt 45 v = loadWhole 45 v := rfl
@[go_sem ↓] theorem storeAt_ld (a v : Value) : Instr.storeAt 45 a v = storeWhole 45 a v := rfl
@[go_sem] theorem load_ld (w : World) (n o : Nat) : (loadWhole 45 (.pointer (some ⟨n, o, none⟩))).run Tryd.prog w = rowLoad Tryd.prog 45 136 n o w (rowAt w n) := run_load_by Tryd.underlying45 rfl (by kernel_rfl) w n o
@[go_sem] theorem store_ld (vs : Array Value) (w : World) (n o : Nat) : (storeWhole 45 (.pointer (some ⟨n, o, none⟩)) (.agg vs)).run Tryd.prog w = rowStore Tryd.prog 45 136 n o vs w (rowAt w n) := run_store_by (by kernel_rfl) vs w n o

/-- The cells of drips that came in. -/
structure IsD (c : Array Value) (D : Nat → Int) : Prop where
  isK : IsK .i32 c 136 D
  lo : ∀ i, i < 136 → -2147483648 ≤ D i
  hi : ∀ i, i < 136 → D i ≤ 2147483647
theorem IsD.size {c : Array Value} {D : Nat → Int} (h : IsD c D) : c.size = 136 := h.isK.size
theorem IsD.ones {c : Array Value} {D : Nat → Int} (h : IsD c D) : Ones c := h.isK.ones


section
variable {H : Type} {enc : TypeId × Value → H} {w : World} {base b0 : Nat} {spare : Nat → Bool} {held : Bool} {r : Reach}
set_option maxRecDepth 100000 in
/-- Drips that came in. -/
theorem open_drips {v : Value} {d : DataW H} {p : List MemPlace} (hv : Value.okWide Tryd.prog w r b0 45 v) (h : DataW.Trod enc Tryd.prog w base spare held 45 v d p) :
    ∃ (c : Array Value) (D : Nat → Int), v = .agg c ∧ IsD c D := by
  obtain ⟨c, rfl, hsz⟩ := okWide_arr Tryd.underlying45 hv
  obtain ⟨fuel, hf⟩ := h
  have hc : c.size = 136 := hsz.trans (by kernel_rfl)
  obtain ⟨t, ht⟩ := trod_rows Tryd.underlying45 Tryd.underlying44 (by kernel_rfl) Tryd.underlying21 (by kernel_rfl) hf
  refine ⟨c, t, rfl, IsK.of_get hc fun i hi => ?_, fun i hi => (bounds_i32 (ht i hi).2).1, fun i hi => (bounds_i32 (ht i hi).2).2⟩
  rw [← Array.getElem?_toList]
  exact (ht i hi).1
end

set_option maxRecDepth 100000 in
set_option maxHeartbeats 400000 in
theorem toInt32A17_any (xs : Array Value) (t : Nat → Int) (w : World) (hX : IsK .i32 xs 17 t) :
    Calls Tryd.prog 37 #[.agg xs] w fun e w' => e = .returned (.agg xs) ∧ Below w.heap.size w w' := by
  have hx := hX.size
  have h1 := hX.ones
  have H := Lib.hid hX; clear hX
  go_enter Tryd.func37, Tryd.ntmps37
  go_wp2
  go_loopw [4] (fun i W => ∃ (k : Nat) (ys : Array Value), k ≤ 17 ∧ i = .int .i64 k ∧ ys.size = 17 ∧ Hid (∀ j, j < k → ys[j]? = xs[j]?) ∧ (∃ ws : Array Value, ws.size = 17 ∧ W = ((w.alloc (.cells xs 44)).alloc (.cells ws 44)).alloc (.cells ys 44))) (fun i _ => 17 - (intOf i).toNat)
  case atStart => exact ⟨0, _, by omega, rfl, rfl, Lib.hid (by omega), _, rfl, rfl⟩
  case round =>
    obtain ⟨k, ys, hk, rfl, hy, he, ws, hws, rfl⟩ := hrel
    by_cases hlt : k < 17
    · have hk1 : k < xs.size := by omega
      have hk2 : k < ys.size := by omega
      have h0 := H.out.cell k hk1
      go_wp2
      go_roundw
      case rel => exact ⟨k + 1, _, by omega, by go_num, by simpa using hy, Lib.hid (by
        intro j hj
        by_cases hjk : j = k
        · subst hjk; simp [hk2, hk1, h0]
        · rw [← he.out j (by omega)]; simp [Ne.symm hjk]), _, hws, rfl⟩
      case measure => simp [intOf]; omega
    · obtain rfl : k = 17 := by omega
      have hxy : ys = xs := by
        apply Array.ext_getElem?; intro i; by_cases hi : i < 17
        · exact he.out i hi
        · simp [hy, hx, hi]
      clear he; subst hxy
      go_wp2
      refine bodyPost_ret (v := .agg ys) (results_row1 rfl _ _ (w.heap.size + 1) ys rfl (by simp [go_sem]) Tryd.underlying44 rfl (by kernel_rfl) hy) rfl ⟨rfl, ?_⟩
      exact (((Below.refl _ _).alloc (Nat.le_refl _) _).alloc (by simp) _).alloc (by simp; omega) _

set_option maxRecDepth 100000 in
set_option maxHeartbeats 1000000 in
theorem toDrips_any (xs : Array Value) (D : Nat → Int) (w : World) (hX : IsD xs D) :
    Calls Tryd.prog 18 #[.agg xs] w fun e w' => e = .returned (.agg xs) ∧ Below w.heap.size w w' := by
  have hx := hX.size
  have h1 := hX.ones
  have hz : Tryd.zeroCells47.size = 136 := by kernel_rfl
  have H := Lib.hid hX; clear hX
  go_enter Tryd.func18, Tryd.ntmps18
  go_wp2_with fail
  refine gen_world fun W0 hW => ?_
  have p0 : rowAt W0 w.heap.size = some xs := by rw [hW]; exact (rowAt_alloc_past _ _ _ (by simp; omega)).trans ((rowAt_alloc_past _ _ _ (by simp)).trans (rowAt_alloc_at _ _ _ _ rfl))
  have p1 : rowAt W0 (w.heap.size + 1) = some Tryd.zeroCells47 := by rw [hW]; exact (rowAt_alloc_past _ _ _ (by simp)).trans (rowAt_alloc_at _ _ _ _ (by simp))
  have p2 : rowAt W0 (w.heap.size + 1 + 1) = some Tryd.zeroCells47 := by rw [hW]; exact rowAt_alloc_at _ _ _ _ (by simp)
  have pB : Below w.heap.size w W0 := by rw [hW]; exact (((Below.refl _ _).alloc (Nat.le_refl _) _).alloc (by simp) _).alloc (by simp; omega) _
  have hs0 : w.heap.size + 1 + 1 < W0.heap.size := by rw [hW]; simp
  clear hW
  go_loopw [4] (fun i W => ∃ (k : Nat) (ys ws : Array Value), rowAt W w.heap.size = some xs ∧ rowAt W (w.heap.size + 1) = some ws ∧ rowAt W (w.heap.size + 1 + 1) = some ys ∧ k ≤ 8 ∧ i = .int .i64 k ∧ ys.size = 136 ∧ Hid (∀ j, j < k * 17 → ys[j]? = xs[j]?) ∧ ws.size = 136 ∧ Below w.heap.size w W ∧ w.heap.size + 1 + 1 < W.heap.size) (fun i _ => 8 - (intOf i).toNat)
  case atStart => exact ⟨0, _, _, p0, p1, p2, by omega, rfl, hz, Lib.hid (by omega), hz, pB, hs0⟩
  case round =>
    obtain ⟨k, ys, ws, r0, r1, r2, hk, rfl, hy, he, hws, hB, hsz⟩ := hrel
    clear p0 p1 p2 pB hs0
    by_cases hlt : k < 8
    · have hk8 : k * 17 + 17 ≤ 136 := by omega
      have k0 : (0 : Int) ≤ k := by omega
      have k1 : (k : Int) < 8 := by omega
      go_wp2_with fail
      refine (toInt32A17_any _ _ _ (H.out.isK.extract (k * 17) 17 hk8)).mono ?_
      rintro e w1 ⟨rfl, hb⟩
      have q0 := brow hb r0
      have q1 := brow hb r1
      have q2 := brow hb r2
      have hs17 : (xs.extract (k * 17) (k * 17 + 17)).size = 17 := by simp; omega
      have ho17 := h1.extract (k * 17) (k * 17 + 17)
      have hB1 := hB.trans (hb.mono hB.size)
      have hsz1 : w.heap.size + 1 + 1 < w1.heap.size := Nat.lt_of_lt_of_le hsz hb.size
      clear hb r0 r1 r2
      have Q0 := Lib.hid q0
      have Q1 := Lib.hid q1
      clear q0 q1
      go_wp2_with fail
      refine ⟨⟨k + 1, splice ys (k * 17) (xs.extract (k * 17) (k * 17 + 17)), ws, by rw [rowAt_setRow_ne _ _ _ _ (by omega)]; exact Q0.out, by rw [rowAt_setRow_ne _ _ _ _ (by omega)]; exact Q1.out, rowAt_setRow_at _ _ _ (by simp [q2]), by omega, by go_num,
        by rw [size_splice _ _ _ (by omega)]; exact hy, Lib.hid ?_, hws, below_setRow hB1 (by omega) _, by simpa using hsz1⟩, by simp [intOf]; omega⟩
      intro j hj
      rw [get_splice _ _ _ (by omega), hs17]
      by_cases hj8 : j < k * 17
      · rw [if_pos hj8]; exact he.out j hj8
      · rw [if_neg hj8, if_pos (by omega), get_extract _ _ _ _ (by omega) (by omega)]
        congr 1; omega
    · obtain rfl : k = 8 := by omega
      have hxy : ys = xs := by
        apply Array.ext_getElem?; intro i; by_cases hi : i < 136
        · exact he.out i hi
        · simp [hy, hx, hi]
      clear he; subst hxy
      have hne : w.heap.size + 1 ≠ w.heap.size + 1 + 1 := by omega
      go_wp2_with fail
      refine bodyPost_ret (v := .agg ys) (results_row1 rfl _ _ (w.heap.size + 1) ys rfl (by simp [go_sem, r1]) Tryd.underlying47 rfl (by kernel_rfl) hy) rfl ⟨rfl, below_setRow hB (by omega) _⟩
end Go.Proofs.YtoibolmippfcgaaDoor
