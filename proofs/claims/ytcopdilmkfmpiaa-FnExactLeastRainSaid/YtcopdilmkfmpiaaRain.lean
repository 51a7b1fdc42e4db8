/- Rain: its types, what came in, and the laws' helpers over it. -/
import Derived.Test.YtcopdilmkfmpiaaHelp
import Derived.Test.YtcopdilmkfmpiaaOpen
import Derived.Test.YtcopdilmkfmpiaaNums
import Derived.Deep.QuietTactic
import Derived.BigQuiet
namespace Go.Proofs.Ytcopdilmkfmpiaa
open Go.RowKit Go.ChangeShapes Go.WideShapes

@[go_sem ↓] theorem loadAt_rain (v : Value) : Instr.loadAt 69 v = loadWhole 69 v := rfl
@[go_sem ↓] theorem storeAt_rain (a v : Value) : Instr.storeAt 69 a v = storeWhole 69 a v := rfl
@[go_sem] theorem load_rain (w : World) (n o : Nat) : (loadWhole 69 (.pointer (some ⟨n, o, none⟩))).run Try.prog w = rowLoad Try.prog 69 17 n o w (rowAt w n) := run_load_by Try.underlying69 rfl (by kernel_rfl) w n o
@[go_sem] theorem store_rain (vs : Array Value) (w : World) (n o : Nat) : (storeWhole 69 (.pointer (some ⟨n, o, none⟩)) (.agg vs)).run Try.prog w = rowStore Try.prog 69 17 n o vs w (rowAt w n) := run_store_by (by kernel_rfl) vs w n o
@[go_sem ↓] theorem loadAt_s17 (v : Value) : Instr.loadAt 68 v = loadWhole 68 v := rfl
@[go_sem ↓] theorem storeAt_s17 (a v : Value) : Instr.storeAt 68 a v = storeWhole 68 a v := rfl
@[go_sem] theorem load_s17 (w : World) (n o : Nat) : (loadWhole 68 (.pointer (some ⟨n, o, none⟩))).run Try.prog w = rowLoad Try.prog 68 17 n o w (rowAt w n) := run_load_by Try.underlying68 rfl (by kernel_rfl) w n o
@[go_sem] theorem store_s17 (vs : Array Value) (w : World) (n o : Nat) : (storeWhole 68 (.pointer (some ⟨n, o, none⟩)) (.agg vs)).run Try.prog w = rowStore Try.prog 68 17 n o vs w (rowAt w n) := run_store_by (by kernel_rfl) vs w n o
@[go_sem ↓] theorem index_rain (v i : Value) : Instr.index 69 v i = indexWhole 69 v i := rfl
@[go_sem] theorem run_index_rain (cs : Array Value) (w : World) (i : Int) (h0 : 0 ≤ i) (h1 : i < (17 : Nat)) (hm : cs.size = 17) :
    (indexWhole 69 (.agg cs) (.int .i64 i)).run Try.prog w = .ok (cs[i.toNat]'(by omega)) w := run_index_int Try.underlying69 Try.underlying67 (by kernel_rfl) cs w i h0 h1 hm

/-- The cells of rain. -/
structure IsRain (c : Array Value) (t : Nat → Int) : Prop where
  isK : IsK .i16 c 17 t
  lo : ∀ i, i < 17 → -32768 ≤ t i
  hi : ∀ i, i < 17 → t i ≤ 32767
theorem IsRain.size {c : Array Value} {t : Nat → Int} (h : IsRain c t) : c.size = 17 := h.isK.size
theorem IsRain.ones {c : Array Value} {t : Nat → Int} (h : IsRain c t) : Ones c := h.isK.ones

theorem okWide_arr {P : Program} {w : World} {r : Reach} {base n : Nat} {t e : TypeId} {v : Value} (ht : P.underlying t = some (.array n e)) (h : Value.okWide P w r base t v) : ∃ cs, v = .agg cs ∧ cs.size = P.cellsOf t := by
  simp only [Value.okWide, ht] at h
  obtain ⟨cs, h1, h2, _⟩ := h
  exact ⟨cs, h1, h2⟩

section
variable {H : Type} {enc : TypeId × Value → H} {w : World} {base b0 : Nat} {spare : Nat → Bool} {held : Bool} {r : Reach}
set_option maxRecDepth 100000 in
/-- Rain that came in. -/
theorem open_rain {v : Value} {d : DataW H} {p : List MemPlace} (hv : Value.okWide Try.prog w r b0 68 v) (h : DataW.Trod enc Try.prog w base spare held 68 v d p) :
    ∃ (c : Array Value) (t : Nat → Int), v = .agg c ∧ IsRain c t := by
  obtain ⟨c, rfl, hsz⟩ := okWide_arr Try.underlying68 hv
  obtain ⟨fuel, hf⟩ := h
  have hc : c.size = 17 := hsz.trans (by kernel_rfl)
  obtain ⟨t, ht⟩ := trod_ints Try.underlying68 Try.underlying67 (by kernel_rfl) hf
  refine ⟨c, t, rfl, IsK.of_get hc fun i hi => ?_, fun i hi => (bounds_i16 (ht i hi).2).1, fun i hi => (bounds_i16 (ht i hi).2).2⟩
  rw [← Array.getElem?_toList]
  exact (ht i hi).1
end

end Go.Proofs.Ytcopdilmkfmpiaa
