/- Colours: what came in, and the laws' helpers over it. -/
import Derived.Test.YtppohghejhcilaaDoorBits
import Derived.Test.YtppohghejhcilaaDoorRain
import Derived.Test.YtppohghejhcilaaDoorRainA
namespace Go.Proofs.YtppohghejhcilaaDoor
open Go.RowKit Go.ChangeShapes Go.WideShapes

@[go_sem ↓] theorem loadAt_col (v : Value) : Instr.loadAt 62 v = loadWhole 62 v := rfl
@[go_sem ↓] theorem storeAt_col (a v : Value) : Instr.storeAt 62 a v = storeWhole 62 a v := rfl
@[go_sem] theorem load_col (w : World) (n o : Nat) : (loadWhole 62 (.pointer (some ⟨n, o, none⟩))).run Tryd.prog w = rowLoad Tryd.prog 62 8 n o w (rowAt w n) := run_load_by Tryd.underlying62 rfl (by kernel_rfl) w n o
@[go_sem] theorem store_col (vs : Array Value) (w : World) (n o : Nat) : (storeWhole 62 (.pointer (some ⟨n, o, none⟩)) (.agg vs)).run Tryd.prog w = rowStore Tryd.prog 62 8 n o vs w (rowAt w n) := run_store_by (by kernel_rfl) vs w n o
@[go_sem ↓] theorem index_col (v i : Value) : Instr.index 62 v i = indexWhole 62 v i := rfl
@[go_sem] theorem run_index_col (cs : Array Value) (w : World) (i : Int) (h0 : 0 ≤ i) (h1 : i < (8 : Nat)) (hm : cs.size = 8) :
    (indexWhole 62 (.agg cs) (.int .i64 i)).run Tryd.prog w = .ok (cs[i.toNat]'(by omega)) w := run_index_int Tryd.underlying62 Tryd.underlying5 (by kernel_rfl) cs w i h0 h1 hm

/-- The cells of colours: a byte a course. -/
structure IsCol (c : Array Value) (g : Nat → Nat) : Prop where
  isK : IsK .u8 c 8 (fun i => (g i : Int))
  hi : ∀ i, i < 8 → g i < 256
theorem IsCol.size {c : Array Value} {g : Nat → Nat} (h : IsCol c g) : c.size = 8 := h.isK.size
theorem IsCol.ones {c : Array Value} {g : Nat → Nat} (h : IsCol c g) : Ones c := h.isK.ones
theorem IsCol.u8 {c : Array Value} {g : Nat → Nat} (h : IsCol c g) : IsU8 c 8 (fun i => (g i : Int)) := ⟨h.size, h.isK.cell, fun _ _ => by omega, fun i hi => by have := h.hi i hi; omega⟩
theorem IsCol.cell {c : Array Value} {g : Nat → Nat} (h : IsCol c g) {i : Nat} (hi : i < 8) : c[i]? = some (.int .u8 (g i : Int)) := h.isK.get hi
/-- Colours as an array. -/
def mkC (g : Nat → Nat) : Array Value := mkI .u8 8 (fun i => (g i : Int))
theorem isCol_mkC {g : Nat → Nat} (h : ∀ i, i < 8 → g i < 256) : IsCol (mkC g) g := ⟨isK_mkI _ _ _, h⟩
theorem IsCol.eq {c : Array Value} {g : Nat → Nat} (h : IsCol c g) : c = mkC g := h.isK.eq
theorem IsCol.one {c d : Array Value} {g f : Nat → Nat} (h : IsCol c g) (k : IsCol d f) (e : ∀ i, i < 8 → g i = f i) : c = d := by
  rw [h.eq, k.eq]; exact mkI_congr fun i hi => by rw [e i hi]

section
variable {H : Type} {enc : TypeId × Value → H} {w : World} {base b0 : Nat} {spare : Nat → Bool} {held : Bool} {r : Reach}
set_option maxRecDepth 100000 in
/-- Colours that came in. -/
theorem open_col {v : Value} {d : DataW H} {p : List MemPlace} (hv : Value.okWide Tryd.prog w r b0 25 v) (h : DataW.Trod enc Tryd.prog w base spare held 25 v d p) :
    ∃ (c : Array Value) (g : Nat → Nat), v = .agg c ∧ IsCol c g := by
  obtain ⟨c, rfl, hsz⟩ := okWide_arr Tryd.underlying25 hv
  obtain ⟨fuel, hf⟩ := h
  have hc : c.size = 8 := hsz.trans (by kernel_rfl)
  obtain ⟨t, ht⟩ := trod_ints Tryd.underlying25 Tryd.underlying5 (by kernel_rfl) hf
  refine ⟨c, fun i => (t i).toNat, rfl, IsK.of_get hc fun i hi => ?_, fun i hi => ?_⟩
  · have := bounds_u8 (ht i hi).2
    rw [← Array.getElem?_toList]
    refine ((ht i hi).1).trans ?_
    rw [show ((t i).toNat : Int) = t i from by omega]
  · have := bounds_u8 (ht i hi).2
    omega
end

set_option maxHeartbeats 400000 in
theorem toCol_any (xs : Array Value) (g : Nat → Nat) (w : World) (hX : IsCol xs g) :
    Calls Tryd.prog 31 #[.agg xs] w fun e w' => e = .returned (.agg xs) ∧ Below w.heap.size w w' := by
  have hx := hX.size
  have h1 := hX.ones
  have H := Lib.hid hX; clear hX
  go_enter Tryd.func31, Tryd.ntmps31
  go_wp2
  go_loopw [4] (fun i W => ∃ (k : Nat) (ys : Array Value), k ≤ 8 ∧ i = .int .i64 k ∧ ys.size = 8 ∧ Hid (∀ j, j < k → ys[j]? = xs[j]?) ∧ (∃ ws : Array Value, ws.size = 8 ∧ W = ((w.alloc (.cells xs 25)).alloc (.cells ws 62)).alloc (.cells ys 62))) (fun i _ => 8 - (intOf i).toNat)
  case atStart => exact ⟨0, _, by omega, rfl, rfl, Lib.hid (by omega), _, rfl, rfl⟩
  case round =>
    obtain ⟨k, ys, hk, rfl, hy, he, ws, hws, rfl⟩ := hrel
    by_cases hlt : k < 8
    · have hk1 : k < xs.size := by omega
      have hk2 : k < ys.size := by omega
      have h0 := H.out.isK.cell k hk1
      go_wp2
      go_roundw
      case rel => exact ⟨k + 1, _, by omega, by go_num, by simpa using hy, Lib.hid (by
        intro j hj
        by_cases hjk : j = k
        · subst hjk; simp [hk2, hk1, h0]
        · rw [← he.out j (by omega)]; simp [Ne.symm hjk]), _, hws, rfl⟩
      case measure => simp [intOf]; omega
    · obtain rfl : k = 8 := by omega
      have hxy : ys = xs := by
        apply Array.ext_getElem?; intro i; by_cases hi : i < 8
        · exact he.out i hi
        · simp [hy, hx, hi]
      clear he; subst hxy
      go_wp2
      refine bodyPost_ret (v := .agg ys) (results_row1 rfl _ _ (w.heap.size + 1) ys rfl (by simp [go_sem]) Tryd.underlying62 rfl (by kernel_rfl) hy) rfl ⟨rfl, ?_⟩
      exact (((Below.refl _ _).alloc (Nat.le_refl _) _).alloc (by simp) _).alloc (by simp; omega) _

end Go.Proofs.YtppohghejhcilaaDoor
