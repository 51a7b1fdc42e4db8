/- Rain: its types, what came in, and the laws' helpers over it. -/
import Derived.Test.YtgdhfcpmeaeioaaDoorHelp
import Derived.Test.YtgdhfcpmeaeioaaDoorOpen
import Derived.Test.YtgdhfcpmeaeioaaDoorNums
import Derived.Deep.QuietTactic
import Derived.BigQuiet
namespace Go.Proofs.YtgdhfcpmeaeioaaDoor
open Go.RowKit Go.ChangeShapes Go.WideShapes

@[go_sem ↓] theorem loadAt_rain (v : Value) : Instr.loadAt 48 v = loadWhole 48 v := rfl
@[go_sem ↓] theorem storeAt_rain (a v : Value) : Instr.storeAt 48 a v = storeWhole 48 a v := rfl
@[go_sem] theorem load_rain (w : World) (n o : Nat) : (loadWhole 48 (.pointer (some ⟨n, o, none⟩))).run Tryd.prog w = rowLoad Tryd.prog 48 17 n o w (rowAt w n) := run_load_by Tryd.underlying48 rfl (by kernel_rfl) w n o
@[go_sem] theorem store_rain (vs : Array Value) (w : World) (n o : Nat) : (storeWhole 48 (.pointer (some ⟨n, o, none⟩)) (.agg vs)).run Tryd.prog w = rowStore Tryd.prog 48 17 n o vs w (rowAt w n) := run_store_by (by kernel_rfl) vs w n o
@[go_sem ↓] theorem loadAt_s17 (v : Value) : Instr.loadAt 46 v = loadWhole 46 v := rfl
@[go_sem ↓] theorem storeAt_s17 (a v : Value) : Instr.storeAt 46 a v = storeWhole 46 a v := rfl
@[go_sem] theorem load_s17 (w : World) (n o : Nat) : (loadWhole 46 (.pointer (some ⟨n, o, none⟩))).run Tryd.prog w = rowLoad Tryd.prog 46 17 n o w (rowAt w n) := run_load_by Tryd.underlying46 rfl (by kernel_rfl) w n o
@[go_sem] theorem store_s17 (vs : Array Value) (w : World) (n o : Nat) : (storeWhole 46 (.pointer (some ⟨n, o, none⟩)) (.agg vs)).run Tryd.prog w = rowStore Tryd.prog 46 17 n o vs w (rowAt w n) := run_store_by (by kernel_rfl) vs w n o
@[go_sem ↓] theorem index_rain (v i : Value) : Instr.index 48 v i = indexWhole 48 v i := rfl
@[go_sem] theorem run_index_rain (cs : Array Value) (w : World) (i : Int) (h0 : 0 ≤ i) (h1 : i < (17 : Nat)) (hm : cs.size = 17) :
    (indexWhole 48 (.agg cs) (.int .i64 i)).run Tryd.prog w = .ok (cs[i.toNat]'(by omega)) w := run_index_int Tryd.underlying48 Tryd.underlying45 (by kernel_rfl) cs w i h0 h1 hm

/-- The cells of rain. -/
structure IsRain (c : Array Value) (t : Nat → Int) : Prop where
  isK : IsK .i16 c 17 t
  lo : ∀ i, i < 17 → -32768 ≤ t i
  hi : ∀ i, i < 17 → t i ≤ 32767
theorem IsRain.size {c : Array Value} {t : Nat → Int} (h : IsRain c t) : c.size = 17 := h.isK.size
theorem IsRain.ones {c : Array Value} {t : Nat → Int} (h : IsRain c t) : Ones c := h.isK.ones

theorem okWide_arr {P : Program} {w : World} {r : Reach} {base n : Nat} {t e : TypeId} {v : Value} (ht : P.underlying t = some (.array n e)) (h : Value.okWide P w r base t v) : ∃ cs, v = .agg cs ∧ cs.size = P.cellsOf t := by
  simp only [Value.okWide, ht] at h
  obtain ⟨cs, h1, h2, _⟩ := h
  exact ⟨cs, h1, h2⟩

section
variable {H : Type} {enc : TypeId × Value → H} {w : World} {base b0 : Nat} {spare : Nat → Bool} {held : Bool} {r : Reach}
set_option maxRecDepth 100000 in
/-- Rain that came in. -/
theorem open_rain {v : Value} {d : DataW H} {p : List MemPlace} (hv : Value.okWide Tryd.prog w r b0 46 v) (h : DataW.Trod enc Tryd.prog w base spare held 46 v d p) :
    ∃ (c : Array Value) (t : Nat → Int), v = .agg c ∧ IsRain c t := by
  obtain ⟨c, rfl, hsz⟩ := okWide_arr Tryd.underlying46 hv
  obtain ⟨fuel, hf⟩ := h
  have hc : c.size = 17 := hsz.trans (by kernel_rfl)
  obtain ⟨t, ht⟩ := trod_ints Tryd.underlying46 Tryd.underlying45 (by kernel_rfl) hf
  refine ⟨c, t, rfl, IsK.of_get hc fun i hi => ?_, fun i hi => (bounds_i16 (ht i hi).2).1, fun i hi => (bounds_i16 (ht i hi).2).2⟩
  rw [← Array.getElem?_toList]
  exact (ht i hi).1
end

set_option maxRecDepth 100000 in
set_option maxHeartbeats 400000 in
theorem toRain_any (xs : Array Value) (t : Nat → Int) (w : World) (hX : IsRain xs t) :
    Calls Tryd.prog 21 #[.agg xs] w fun e w' => e = .returned (.agg xs) ∧ Below w.heap.size w w' := by
  have hx := hX.size
  have h1 := hX.ones
  have H := Lib.hid hX; clear hX
  go_enter Tryd.func21, Tryd.ntmps21
  go_wp2
  go_loopw [4] (fun i W => ∃ (k : Nat) (ys : Array Value), k ≤ 17 ∧ i = .int .i64 k ∧ ys.size = 17 ∧ Hid (∀ j, j < k → ys[j]? = xs[j]?) ∧ (∃ ws : Array Value, ws.size = 17 ∧ W = ((w.alloc (.cells xs 46)).alloc (.cells ws 48)).alloc (.cells ys 48))) (fun i _ => 17 - (intOf i).toNat)
  case atStart => exact ⟨0, _, by omega, rfl, rfl, Lib.hid (by omega), _, rfl, rfl⟩
  case round =>
    obtain ⟨k, ys, hk, rfl, hy, he, ws, hws, rfl⟩ := hrel
    by_cases hlt : k < 17
    · have hk1 : k < xs.size := by omega
      have hk2 : k < ys.size := by omega
      have h0 := H.out.isK.cell k hk1
      go_wp2
      go_roundw
      case rel => exact ⟨k + 1, _, by omega, by go_num, by simpa using hy, Lib.hid (by
        intro j hj
        by_cases hjk : j = k
        · subst hjk; simp [hk2, hk1, h0]
        · rw [← he.out j (by omega)]; simp [Ne.symm hjk]), _, hws, rfl⟩
      case measure => simp [intOf]; omega
    · obtain rfl : k = 17 := by omega
      have hxy : ys = xs := by
        apply Array.ext_getElem?; intro i; by_cases hi : i < 17
        · exact he.out i hi
        · simp [hy, hx, hi]
      clear he; subst hxy
      go_wp2
      refine bodyPost_ret (v := .agg ys) (results_row1 rfl _ _ (w.heap.size + 1) ys rfl (by simp [go_sem]) Tryd.underlying48 rfl (by kernel_rfl) hy) rfl ⟨rfl, ?_⟩
      exact (((Below.refl _ _).alloc (Nat.le_refl _) _).alloc (by simp) _).alloc (by simp; omega) _
end Go.Proofs.YtgdhfcpmeaeioaaDoor
