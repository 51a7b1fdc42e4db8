/- What becomes of rain, whole: plain facts, and the types of many cells. -/
import Derived.Test.YtoibolmippfcgaaDoorRunF
namespace Go.Proofs.YtoibolmippfcgaaDoor
open Go.RowKit

@[go_sem ↓] theorem loadAt_flow (v : Value) : Instr.loadAt 87 v = loadWhole 87 v := rfl
@[go_sem ↓] theorem storeAt_flow (a v : Value) : Instr.storeAt 87 a v = storeWhole 87 a v := rfl
@[go_sem] theorem load_flow (w : World) (n o : Nat) : (loadWhole 87 (.pointer (some ⟨n, o, none⟩))).run Tryd.prog w = rowLoad Tryd.prog 87 289 n o w (rowAt w n) := run_load_by Tryd.underlying87 rfl (by kernel_rfl) w n o
@[go_sem] theorem store_flow (vs : Array Value) (w : World) (n o : Nat) : (storeWhole 87 (.pointer (some ⟨n, o, none⟩)) (.agg vs)).run Tryd.prog w = rowStore Tryd.prog 87 289 n o vs w (rowAt w n) := run_store_by (by kernel_rfl) vs w n o
@[go_sem ↓] theorem loadAt_drips (v : Value) : Instr.loadAt 47 v = loadWhole 47 v := rfl
@[go_sem ↓] theorem storeAt_drips (a v : Value) : Instr.storeAt 47 a v = storeWhole 47 a v := rfl
@[go_sem] theorem load_drips (w : World) (n o : Nat) : (loadWhole 47 (.pointer (some ⟨n, o, none⟩))).run Tryd.prog w = rowLoad Tryd.prog 47 136 n o w (rowAt w n) := run_load_by Tryd.underlying47 rfl (by kernel_rfl) w n o
@[go_sem] theorem store_drips (vs : Array Value) (w : World) (n o : Nat) : (storeWhole 47 (.pointer (some ⟨n, o, none⟩)) (.agg vs)).run Tryd.prog w = rowStore Tryd.prog 47 136 n o vs w (rowAt w n) := run_store_by (by kernel_rfl) vs w n o
@[go_sem ↓] theorem loadAt_i17 (v : Value) : Instr.loadAt 44 v = loadWhole 44 v := rfl
@[go_sem ↓] theorem storeAt_i17 (a v : Value) : Instr.storeAt 44 a v = storeWhole 44 a v := rfl
@[go_sem] theorem load_i17 (w : World) (n o : Nat) : (loadWhole 44 (.pointer (some ⟨n, o, none⟩))).run Tryd.prog w = rowLoad Tryd.prog 44 17 n o w (rowAt w n) := run_load_by Tryd.underlying44 rfl (by kernel_rfl) w n o
@[go_sem] theorem store_i17 (vs : Array Value) (w : World) (n o : Nat) : (storeWhole 44 (.pointer (some ⟨n, o, none⟩)) (.agg vs)).run Tryd.prog w = rowStore Tryd.prog 44 17 n o vs w (rowAt w n) := run_store_by (by kernel_rfl) vs w n o
@[go_sem ↓] theorem index_i17 (v i : Value) : Instr.index 44 v i = indexWhole 44 v i := rfl
@[go_sem] theorem run_index_i17 (cs : Array Value) (w : World) (i : Int) (h0 : 0 ≤ i) (h1 : i < (17 : Nat)) (hm : cs.size = 17) :
    (indexWhole 44 (.agg cs) (.int .i64 i)).run Tryd.prog w = .ok (cs[i.toNat]'(by omega)) w := run_index_int Tryd.underlying44 Tryd.underlying21 (by kernel_rfl) cs w i h0 h1 hm

theorem gen_calls {P : Program} {f : FuncId} {args : Array Value} {Q : Ending → World → Prop} {w : World} (h : ∀ W, W = w → Calls P f args W Q) : Calls P f args w Q := h w rfl

/-- The array of a flow. -/
def mkF (G D : Nat → Int) : Array Value := mkI .i64 153 G ++ mkI .i32 136 D
theorem isFlow_mkF (G D : Nat → Int) : IsFlow (mkF G D) G D where
  size := by simp [mkF]
  comes i hi := by unfold mkF; rw [Array.getElem?_append_left (by simp; omega)]; exact (isK_mkI _ _ _).get hi
  drips i hi := by unfold mkF; rw [Array.getElem?_append_right (by simp), size_mkI, show 153 + i - 153 = i from by omega]; exact (isK_mkI _ _ _).get hi
theorem IsFlow.eq {F : Array Value} {G D : Nat → Int} (h : IsFlow F G D) : F = mkF G D := by
  have g := isFlow_mkF G D
  apply Array.ext_getElem?; intro i
  by_cases h1 : i < 153
  · rw [h.comes i h1, g.comes i h1]
  · by_cases h2 : i < 289
    · have a := h.drips (i - 153) (by omega)
      have b := g.drips (i - 153) (by omega)
      rw [show 153 + (i - 153) = i from by omega] at a b
      rw [a, b]
    · rw [Array.getElem?_eq_none (by rw [h.size]; omega), Array.getElem?_eq_none (by rw [g.size]; omega)]

/-- What comes to each course and cell, and what drips there, of the first k cells. -/
def Rf.fullG (r : Rf) (t : Nat → Int) (k i : Nat) : Int := if i % 17 < k ∧ ((i / 17 : Nat) : Int) ≤ r.h then r.come (t (i % 17)) (i % 17) (i / 17) else 0
def Rf.fullD (r : Rf) (t : Nat → Int) (k i : Nat) : Int := if i % 17 < k ∧ ((i / 17 : Nat) : Int) < r.h then r.dripAt (t (i % 17)) (i % 17) (i / 17) else 0
theorem fullG_succ {r : Rf} {t : Nat → Int} {k hh : Nat} (hk : k < 17) (hhe : r.h = hh) : ∀ i, i < 153 → flG r (t k) k hh (upd (r.fullG t k) k (t k)) i = r.fullG t (k + 1) i := fun i _ => by
  unfold flG Rf.fullG
  by_cases h1 : i % 17 = k ∧ i / 17 ≤ hh
  · rw [if_pos h1, if_pos (by omega), h1.1]
  · rw [if_neg h1]
    by_cases h2 : i = k
    · subst h2; exact absurd ⟨by omega, by omega⟩ h1
    · rw [upd_ne _ _ h2]
      show (if i % 17 < k ∧ ((i / 17 : Nat) : Int) ≤ r.h then _ else _) = _
      by_cases h3 : i % 17 < k ∧ ((i / 17 : Nat) : Int) ≤ r.h
      · rw [if_pos h3, if_pos (by omega)]
      · rw [if_neg h3, if_neg (by omega)]
theorem fullD_succ {r : Rf} {t : Nat → Int} {k hh : Nat} (_hk : k < 17) (hhe : r.h = hh) : ∀ i, i < 136 → flD r (t k) k hh (r.fullD t k) i = r.fullD t (k + 1) i := fun i _ => by
  unfold flD Rf.fullD
  by_cases h1 : i % 17 = k ∧ i / 17 < hh
  · rw [if_pos h1, if_pos (by omega), h1.1]
  · rw [if_neg h1]
    by_cases h3 : i % 17 < k ∧ ((i / 17 : Nat) : Int) < r.h
    · rw [if_pos h3, if_pos (by omega)]
    · rw [if_neg h3, if_neg (by omega)]
/-- What drips, all cells. -/
def Rf.drips (r : Rf) (t : Nat → Int) : Nat → Int := r.fullD t (2 * r.w + 1).toNat
def Rf.comes (r : Rf) (t : Nat → Int) : Nat → Int := r.fullG t (2 * r.w + 1).toNat
theorem Rf.fullD_bd (r : Rf) {t : Nat → Int} (ht : ∀ i, i < 17 → 0 ≤ t i ∧ t i ≤ 1000) (k i : Nat) (_hk : k ≤ 17) : 0 ≤ r.fullD t k i ∧ r.fullD t k i ≤ 1000 := by
  unfold Rf.fullD
  split
  · rename_i h
    have h1 := ht (i % 17) (by omega)
    have h2 := r.dripAt_bd (i % 17) (i / 17) h1.1
    have h3 := r.come_bd (i % 17) h1.1 (i / 17)
    omega
  · omega
theorem Rf.Rains.drips_bd {r : Rf} {t : Nat → Int} (h : r.Rains t) (i : Nat) : 0 ≤ r.drips t i ∧ r.drips t i ≤ 1000 :=
  r.fullD_bd h.bd _ i (by have := h.1.2.1; omega)
end Go.Proofs.YtoibolmippfcgaaDoor
