/- Ages: their type, what came in, and the laws' helpers over them. -/
import Derived.Test.YtcdddngdjhjdbaaDoorRain
import Derived.Test.YtcdddngdjhjdbaaDoorRainA
import Derived.Test.YtcdddngdjhjdbaaDoorSame
namespace Go.Proofs.YtcdddngdjhjdbaaDoor
open Go.RowKit Go.ChangeShapes Go.WideShapes

@[go_sem ↓] theorem loadAt_ages (v : Value) : Instr.loadAt 32 v = loadWhole 32 v := rfl
@[go_sem ↓] theorem storeAt_ages (a v : Value) : Instr.storeAt 32 a v = storeWhole 32 a v := rfl
@[go_sem] theorem load_ages (w : World) (n o : Nat) : (loadWhole 32 (.pointer (some ⟨n, o, none⟩))).run Tryd.prog w = rowLoad Tryd.prog 32 64 n o w (rowAt w n) := run_load_by Tryd.underlying32 rfl (by kernel_rfl) w n o
@[go_sem] theorem store_ages (vs : Array Value) (w : World) (n o : Nat) : (storeWhole 32 (.pointer (some ⟨n, o, none⟩)) (.agg vs)).run Tryd.prog w = rowStore Tryd.prog 32 64 n o vs w (rowAt w n) := run_store_by (by kernel_rfl) vs w n o

/-- Ages as an array. -/
def mkU (t : Nat → Int) : Array Value := mkI .u8 64 t
theorem size_mkU (t : Nat → Int) : (mkU t).size = 64 := size_mkI _ _ _
theorem isU8_mkU {t : Nat → Int} (h : ∀ i, i < 64 → 0 ≤ t i ∧ t i ≤ 255) : IsU8 (mkU t) 64 t := ⟨size_mkU t, (isK_mkI .u8 64 t).cell, fun i hi => (h i hi).1, fun i hi => (h i hi).2⟩
theorem IsU8.isK {c : Array Value} {n : Nat} {t : Nat → Int} (h : IsU8 c n t) : IsK .u8 c n t := ⟨h.size, h.cell⟩
theorem IsU8.eqU {c : Array Value} {t : Nat → Int} (h : IsU8 c 64 t) : c = mkU t := h.isK.eq
theorem mkU_congr {t s : Nat → Int} (h : ∀ i, i < 64 → t i = s i) : mkU t = mkU s := mkI_congr h
theorem mkU_set {t : Nat → Int} {i : Nat} {x : Int} : (mkU t).setIfInBounds i (.int .u8 x) = mkU (upd t i x) := ((isK_mkI .u8 64 t).set i x).eq

section
variable {H : Type} {enc : TypeId × Value → H} {w : World} {base b0 : Nat} {spare : Nat → Bool} {held : Bool} {r : Reach}
set_option maxRecDepth 100000 in
/-- Ages that came in. -/
theorem open_ages {v : Value} {d : DataW H} {p : List MemPlace} (hv : Value.okWide Tryd.prog w r b0 24 v) (h : DataW.Trod enc Tryd.prog w base spare held 24 v d p) :
    ∃ (c : Array Value) (t : Nat → Int), v = .agg c ∧ IsU8 c 64 t := by
  obtain ⟨c, rfl, hsz⟩ := okWide_arr Tryd.underlying24 hv
  obtain ⟨fuel, hf⟩ := h
  have hc : c.size = 64 := hsz.trans (by kernel_rfl)
  obtain ⟨t, ht⟩ := trod_rows Tryd.underlying24 Tryd.underlying23 (by kernel_rfl) Tryd.underlying5 (by kernel_rfl) hf
  have hk : IsK .u8 c 64 t := IsK.of_get hc fun i hi => by rw [← Array.getElem?_toList]; exact (ht i hi).1
  exact ⟨c, t, rfl, hc, hk.cell, fun i hi => (bounds_u8 (ht i hi).2).1, fun i hi => (bounds_u8 (ht i hi).2).2⟩
end

set_option maxRecDepth 100000 in
set_option maxHeartbeats 400000 in
theorem toAges_any (xs : Array Value) (t : Nat → Int) (w : World) (hX : IsU8 xs 64 t) :
    Calls Tryd.prog 12 #[.agg xs] w fun e w' => e = .returned (.agg xs) ∧ Below w.heap.size w w' := by
  have hx := hX.size
  have h1 := hX.ones
  have H := Lib.hid hX; clear hX
  go_enter Tryd.func12, Tryd.ntmps12
  go_wp2
  go_loopw [4] (fun i W => ∃ (k : Nat) (ys ws : Array Value), rowAt W w.heap.size = some xs ∧ rowAt W (w.heap.size + 1) = some ws ∧ rowAt W (w.heap.size + 1 + 1) = some ys ∧ k ≤ 8 ∧ i = .int .i64 k ∧ ys.size = 64 ∧ Hid (∀ j, j < k * 8 → ys[j]? = xs[j]?) ∧ ws.size = 64 ∧ Below w.heap.size w W ∧ w.heap.size + 1 + 1 < W.heap.size) (fun i _ => 8 - (intOf i).toNat)
  case atStart =>
    refine ⟨0, _, _, ?_, (rowAt_alloc_past _ _ _ (by simp)).trans (rowAt_alloc_at _ _ _ _ (by simp)), rowAt_alloc_at _ _ _ _ (by simp), by omega, rfl, rfl, Lib.hid (by omega), rfl, (((Below.refl _ _).alloc (Nat.le_refl _) _).alloc (by simp) _).alloc (by simp; omega) _, by simp⟩
    exact (rowAt_alloc_past _ _ _ (by simp; omega)).trans ((rowAt_alloc_past _ _ _ (by simp)).trans (rowAt_alloc_at _ _ _ _ (by simp)))
  case round =>
    obtain ⟨k, ys, ws, r0, r1, r2, hk, rfl, hy, he, hws, hB, hsz⟩ := hrel
    by_cases hlt : k < 8
    · have hk8 : k * 8 + 8 ≤ 64 := by omega
      go_wp2_with fail
      refine (toByteA8_any _ _ _ (H.out.extract (k * 8) 8 hk8)).mono ?_
      rintro e w1 ⟨rfl, hb⟩
      obtain ⟨v1, v2, v3, v4⟩ := bview hb
      have q0 := brow hb r0
      have q1 := brow hb r1
      have q2 := brow hb r2
      have hs8 : (xs.extract (k * 8) (k * 8 + 8)).size = 8 := by simp; omega
      have ho8 := h1.extract (k * 8) (k * 8 + 8)
      have hB1 := hB.trans (hb.mono hB.size)
      clear hb
      go_wp2
      clear v1 v2 v3
      refine ⟨⟨k + 1, splice ys (k * 8) (xs.extract (k * 8) (k * 8 + 8)), ws, by rw [rowAt_setRow_ne _ _ _ _ (by omega)]; exact q0, by rw [rowAt_setRow_ne _ _ _ _ (by omega)]; exact q1, rowAt_setRow_at _ _ _ (by simp [q2]), by omega, by go_num,
        by rw [size_splice _ _ _ (by omega)]; exact hy, Lib.hid ?_, hws, below_setRow hB1 (by omega) _, by simp; omega⟩, by simp [intOf]; omega⟩
      intro j hj
      rw [get_splice _ _ _ (by omega), hs8]
      by_cases hj8 : j < k * 8
      · rw [if_pos hj8]; exact he.out j hj8
      · rw [if_neg hj8, if_pos (by omega), get_extract _ _ _ _ (by omega) (by omega)]
        congr 1; omega
    · obtain rfl : k = 8 := by omega
      have hxy : ys = xs := by
        apply Array.ext_getElem?; intro i; by_cases hi : i < 64
        · exact he.out i hi
        · simp [hy, hx, hi]
      clear he; subst hxy
      go_wp2
      refine bodyPost_ret (v := .agg ys) (results_row1 rfl _ _ (w.heap.size + 1) ys rfl (by simp [go_sem, r1]) Tryd.underlying32 rfl (by kernel_rfl) hy) rfl ⟨rfl, below_setRow hB (by omega) _⟩

end Go.Proofs.YtcdddngdjhjdbaaDoor
