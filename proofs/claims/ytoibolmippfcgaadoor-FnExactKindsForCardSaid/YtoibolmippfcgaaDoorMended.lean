/- r.mended(): the roof with whole tiles alone. -/
import Derived.Test.YtoibolmippfcgaaDoorRset
import Derived.Test.YtoibolmippfcgaaDoorNums
import Derived.Test.YtoibolmippfcgaaDoorImplB
import Derived.StillTailTactics
namespace Go.Proofs.YtoibolmippfcgaaDoor
open Go.RowKit

/-- A roof of that size, all of it whole. -/
def Rf.bare (r : Rf) : Rf := { r with t := fun _ => 0 }
def z64 : Array Value := mkI .u8 64 fun _ => 0
theorem z64_lit : (#[.int .u8 0, .int .u8 0, .int .u8 0, .int .u8 0, .int .u8 0, .int .u8 0, .int .u8 0, .int .u8 0, .int .u8 0, .int .u8 0, .int .u8 0, .int .u8 0, .int .u8 0, .int .u8 0, .int .u8 0, .int .u8 0, .int .u8 0, .int .u8 0, .int .u8 0, .int .u8 0, .int .u8 0, .int .u8 0, .int .u8 0, .int .u8 0, .int .u8 0, .int .u8 0, .int .u8 0, .int .u8 0, .int .u8 0, .int .u8 0, .int .u8 0, .int .u8 0, .int .u8 0, .int .u8 0, .int .u8 0, .int .u8 0, .int .u8 0, .int .u8 0, .int .u8 0, .int .u8 0, .int .u8 0, .int .u8 0, .int .u8 0, .int .u8 0, .int .u8 0, .int .u8 0, .int .u8 0, .int .u8 0, .int .u8 0, .int .u8 0, .int .u8 0, .int .u8 0, .int .u8 0, .int .u8 0, .int .u8 0, .int .u8 0, .int .u8 0, .int .u8 0, .int .u8 0, .int .u8 0, .int .u8 0, .int .u8 0, .int .u8 0, .int .u8 0] : Array Value) = z64 := by kernel_rfl
theorem ones64 : Ones (#[.int .u8 0, .int .u8 0, .int .u8 0, .int .u8 0, .int .u8 0, .int .u8 0, .int .u8 0, .int .u8 0, .int .u8 0, .int .u8 0, .int .u8 0, .int .u8 0, .int .u8 0, .int .u8 0, .int .u8 0, .int .u8 0, .int .u8 0, .int .u8 0, .int .u8 0, .int .u8 0, .int .u8 0, .int .u8 0, .int .u8 0, .int .u8 0, .int .u8 0, .int .u8 0, .int .u8 0, .int .u8 0, .int .u8 0, .int .u8 0, .int .u8 0, .int .u8 0, .int .u8 0, .int .u8 0, .int .u8 0, .int .u8 0, .int .u8 0, .int .u8 0, .int .u8 0, .int .u8 0, .int .u8 0, .int .u8 0, .int .u8 0, .int .u8 0, .int .u8 0, .int .u8 0, .int .u8 0, .int .u8 0, .int .u8 0, .int .u8 0, .int .u8 0, .int .u8 0, .int .u8 0, .int .u8 0, .int .u8 0, .int .u8 0, .int .u8 0, .int .u8 0, .int .u8 0, .int .u8 0, .int .u8 0, .int .u8 0, .int .u8 0, .int .u8 0] : Array Value) := by rw [z64_lit]; exact (isK_mkI _ _ _).ones
theorem z64_size : z64.size = 64 := by simp [z64]
theorem z64_get (i : Nat) (hi : i < 64) : z64[i]? = some (.int .u8 0) := (isK_mkI .u8 64 fun _ => 0).get hi
/-- The cells of a roof, its tiles whole. -/
def bareC (c : Array Value) : Array Value := splice c 3 z64
theorem IsRoof.bare {c : Array Value} {r : Rf} (h : IsRoof c r) : IsRoof (bareC c) r.bare where
  size := by have := h.size; unfold bareC; rw [size_splice _ _ _ (by rw [z64_size]; omega)]; exact this
  wide hh := get_of (by have := h.size; unfold bareC; rw [get_splice _ _ _ (by rw [z64_size]; omega), if_pos (by omega), Array.getElem?_eq_getElem (by omega), h.wide]; rfl) hh
  high hh := get_of (by have := h.size; unfold bareC; rw [get_splice _ _ _ (by rw [z64_size]; omega), if_pos (by omega), Array.getElem?_eq_getElem (by omega), h.high]; rfl) hh
  shift hh := get_of (by have := h.size; unfold bareC; rw [get_splice _ _ _ (by rw [z64_size]; omega), if_pos (by omega), Array.getElem?_eq_getElem (by omega), h.shift]; rfl) hh
  tiles := ⟨by have := h.size; unfold bareC; simp [z64_size, this], fun i hi => by
    have hs := h.size
    have hb : (bareC c).size = 67 := by unfold bareC; rw [size_splice _ _ _ (by rw [z64_size]; omega)]; exact hs
    have hi' : i < 64 := by simp [hb] at hi; omega
    refine get_of ?_ hi
    rw [get_extract _ _ _ _ (by omega) (by omega)]
    unfold bareC
    rw [get_splice _ _ _ (by rw [z64_size]; omega), if_neg (by omega), z64_size, if_pos (by omega), show 3 + i - 3 = i from by omega]
    exact z64_get i hi', fun _ _ => Int.le_refl _, fun _ _ => by show (0 : Int) ≤ 255; decide⟩
  w0 := h.w0
  w1 := h.w1
  h0 := h.h0
  h1 := h.h1
  s0 := h.s0
  s1 := h.s1
theorem Rf.bare_ok {r : Rf} (h : r.Ok) : r.bare.Ok := ⟨h.1, h.2.1, h.2.2.1, h.2.2.2.1, h.2.2.2.2.1, fun _ _ => ⟨by show (0 : Int) ≤ 3; decide, .inr rfl⟩⟩

set_option maxRecDepth 100000 in
set_option maxHeartbeats 1000000 in
theorem mended_any (c : Array Value) (r : Rf) (w : World) (hR : IsRoof c r) :
    Calls Tryd.prog 58 #[.agg c] w fun e w' => e = .returned (.agg (bareC c)) ∧ Below w.heap.size w w' := by
  have hc := hR.size
  have hzs := zroof_size
  have hbo := hR.bare.ones
  have hbs := hR.bare.size
  have o64 := ones64
  unfold bareC at *
  rw [← z64_lit] at *
  go_enter Tryd.func58, Tryd.ntmps58
  go_wp2_with fail
  refine bodyPost_ret (v := .agg (splice c 3 #[.int .u8 0, .int .u8 0, .int .u8 0, .int .u8 0, .int .u8 0, .int .u8 0, .int .u8 0, .int .u8 0, .int .u8 0, .int .u8 0, .int .u8 0, .int .u8 0, .int .u8 0, .int .u8 0, .int .u8 0, .int .u8 0, .int .u8 0, .int .u8 0, .int .u8 0, .int .u8 0, .int .u8 0, .int .u8 0, .int .u8 0, .int .u8 0, .int .u8 0, .int .u8 0, .int .u8 0, .int .u8 0, .int .u8 0, .int .u8 0, .int .u8 0, .int .u8 0, .int .u8 0, .int .u8 0, .int .u8 0, .int .u8 0, .int .u8 0, .int .u8 0, .int .u8 0, .int .u8 0, .int .u8 0, .int .u8 0, .int .u8 0, .int .u8 0, .int .u8 0, .int .u8 0, .int .u8 0, .int .u8 0, .int .u8 0, .int .u8 0, .int .u8 0, .int .u8 0, .int .u8 0, .int .u8 0, .int .u8 0, .int .u8 0, .int .u8 0, .int .u8 0, .int .u8 0, .int .u8 0, .int .u8 0, .int .u8 0, .int .u8 0, .int .u8 0])) (results_row1 rfl _ _ (w.heap.size + 1) _ rfl (rowAt_alloc_at _ _ _ _ (by simp)) Tryd.underlying33 rfl (by kernel_rfl) hbs) rfl ⟨rfl, ?_⟩
  exact ((Below.refl _ _).alloc (Nat.le_refl _) _).alloc (by simp) _
end Go.Proofs.YtoibolmippfcgaaDoor
