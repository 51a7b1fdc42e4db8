/- Ages: their type, what came in, and the laws' helpers over them. -/
import Derived.Test.YtppohghejhcilaaDoorRain
import Derived.Test.YtppohghejhcilaaDoorRainA
import Derived.Test.YtppohghejhcilaaDoorSame
namespace Go.Proofs.YtppohghejhcilaaDoor
open Go.RowKit Go.ChangeShapes Go.WideShapes

@[go_sem ↓] theorem loadAt_ages (v : Value) : Instr.loadAt 30 v = loadWhole 30 v := rfl
@[go_sem ↓] theorem storeAt_ages (a v : Value) : Instr.storeAt 30 a v = storeWhole 30 a v := rfl
@[go_sem] theorem load_ages (w : World) (n o : Nat) : (loadWhole 30 (.pointer (some ⟨n, o, none⟩))).run Tryd.prog w = rowLoad Tryd.prog 30 64 n o w (rowAt w n) := run_load_by Tryd.underlying30 rfl (by kernel_rfl) w n o
@[go_sem] theorem store_ages (vs : Array Value) (w : World) (n o : Nat) : (storeWhole 30 (.pointer (some ⟨n, o, none⟩)) (.agg vs)).run Tryd.prog w = rowStore Tryd.prog 30 64 n o vs w (rowAt w n) := run_store_by (by kernel_rfl) vs w n o

/-- Ages as an array. -/
def mkU (t : Nat → Int) : Array Value := mkI .u8 64 t
theorem size_mkU (t : Nat → Int) : (mkU t).size = 64 := size_mkI _ _ _
theorem isU8_mkU {t : Nat → Int} (h : ∀ i, i < 64 → 0 ≤ t i ∧ t i ≤ 255) : IsU8 (mkU t) 64 t := ⟨size_mkU t, (isK_mkI .u8 64 t).cell, fun i hi => (h i hi).1, fun i hi => (h i hi).2⟩
theorem IsU8.isK {c : Array Value} {n : Nat} {t : Nat → Int} (h : IsU8 c n t) : IsK .u8 c n t := ⟨h.size, h.cell⟩
theorem IsU8.eqU {c : Array Value} {t : Nat → Int} (h : IsU8 c 64 t) : c = mkU t := h.isK.eq
theorem mkU_congr {t s : Nat → Int} (h : ∀ i, i < 64 → t i = s i) : mkU t = mkU s := mkI_congr h
theorem mkU_set {t : Nat → Int} {i : Nat} {x : Int} : (mkU t).setIfInBounds i (.int .u8 x) = mkU (upd t i x) := ((isK_mkI .u8 64 t).set i x).eq

section
variable {H : Type} {enc : TypeId × Value → H} {w : World} {base b0 : Nat} {spare : Nat → Bool} {held : Bool} {r : Reach}
set_option maxRecDepth 100000 in
/-- Ages that came in. -/
theorem open_ages {v : Value} {d : DataW H} {p : List MemPlace} (hv : Value.okWide Tryd.prog w r b0 26 v) (h : DataW.Trod enc Tryd.prog w base spare held 26 v d p) :
    ∃ (c : Array Value) (t : Nat → Int), v = .agg c ∧ IsU8 c 64 t := by
  obtain ⟨c, rfl, hsz⟩ := okWide_arr Tryd.underlying26 hv
  obtain ⟨fuel, hf⟩ := h
  have hc : c.size = 64 := hsz.trans (by kernel_rfl)
  obtain ⟨t, ht⟩ := trod_rows Tryd.underlying26 Tryd.underlying25 (by kernel_rfl) Tryd.underlying5 (by kernel_rfl) hf
  have hk : IsK .u8 c 64 t := IsK.of_get hc fun i hi => by rw [← Array.getElem?_toList]; exact (ht i hi).1
  exact ⟨c, t, rfl, hc, hk.cell, fun i hi => (bounds_u8 (ht i hi).2).1, fun i hi => (bounds_u8 (ht i hi).2).2⟩
end

end Go.Proofs.YtppohghejhcilaaDoor
