/- What becomes of rain: the cells of the program's flow, and the water that runs down in one cell. -/
import Derived.Test.YtoibolmippfcgaaDoorRunC
namespace Go.Proofs.YtoibolmippfcgaaDoor
open Go.RowKit

/-- The cells of a flow: what comes, and what drips. -/
structure IsFlow (F : Array Value) (G D : Nat → Int) : Prop where
  size : F.size = 289
  comes : ∀ i, i < 153 → F[i]? = some (.int .i64 (G i))
  drips : ∀ i, i < 136 → F[153 + i]? = some (.int .i32 (D i))
theorem IsFlow.congr {F : Array Value} {G D G' D' : Nat → Int} (h : IsFlow F G D) (g : ∀ i, i < 153 → G i = G' i) (d : ∀ i, i < 136 → D i = D' i) : IsFlow F G' D' :=
  ⟨h.size, fun i hi => by rw [h.comes i hi, g i hi], fun i hi => by rw [h.drips i hi, d i hi]⟩
theorem IsFlow.setG {F : Array Value} {G D : Nat → Int} (h : IsFlow F G D) (j : Nat) (x : Int) (hj : j < 153) : IsFlow (F.setIfInBounds j (.int .i64 x)) (upd G j x) D where
  size := by simp [h.size]
  comes i hi := by
    have := h.size
    by_cases hij : i = j
    · subst hij; rw [Array.getElem?_setIfInBounds_self_of_lt (by omega), upd_at]
    · rw [Array.getElem?_setIfInBounds_ne (Ne.symm hij), upd_ne _ _ hij, h.comes i hi]
  drips i hi := by rw [Array.getElem?_setIfInBounds_ne (by omega), h.drips i hi]
theorem IsFlow.setD {F : Array Value} {G D : Nat → Int} (h : IsFlow F G D) (j o : Nat) (x : Int) (ho : o = 153 + j) (hj : j < 136) : IsFlow (F.setIfInBounds o (.int .i32 x)) G (upd D j x) where
  size := by simp [h.size]
  comes i hi := by rw [Array.getElem?_setIfInBounds_ne (by omega), h.comes i hi]
  drips i hi := by
    have := h.size
    subst ho
    by_cases hij : i = j
    · subst hij; rw [Array.getElem?_setIfInBounds_self_of_lt (by omega), upd_at]
    · rw [Array.getElem?_setIfInBounds_ne (by omega), upd_ne _ _ hij, h.drips i hi]
theorem IsFlow.ones {F : Array Value} {G D : Nat → Int} (h : IsFlow F G D) : Ones F := Ones.of_get fun i hi => by
  have hs := h.size
  by_cases h1 : i < 153
  · have := h.comes i h1; rw [Array.getElem?_eq_getElem hi] at this; rw [Option.some.inj this]; rfl
  · have := h.drips (i - 153) (by omega)
    rw [show 153 + (i - 153) = i from by omega, Array.getElem?_eq_getElem hi] at this; rw [Option.some.inj this]; rfl
theorem IsFlow.dripsK {F : Array Value} {G D : Nat → Int} (h : IsFlow F G D) : F.extract 153 289 = mkI .i32 136 D :=
  (IsK.of_get (by simp [h.size]) fun i hi => by rw [get_extract _ _ _ _ (by omega) (by rw [h.size]; omega), h.drips i hi]).eq

/-- Of the blocks of w only block n has changed. -/
structure Sole (n : Nat) (w W : World) : Prop where
  below : Below n w W
  rows : ∀ m, m < w.heap.size → m ≠ n → rowAt W m = rowAt w m
theorem Sole.refl (n : Nat) (w : World) : Sole n w w := ⟨Below.refl _ _, fun _ _ _ => rfl⟩
theorem Sole.call {n : Nat} {w W W' : World} (h : Sole n w W) (hn : n < w.heap.size) (b : Below W.heap.size W W') : Sole n w W' :=
  have hs := h.below.size
  ⟨h.below.trans (b.mono (by omega)), fun m hm hmn => (rowAt_below b m (by omega)).trans (h.rows m hm hmn)⟩
theorem Sole.setCell {n : Nat} {w W : World} (h : Sole n w W) (o : Nat) (v : Value) : Sole n w (W.setCell ⟨n, o, none⟩ v) :=
  ⟨h.below.setCell (p := ⟨n, o, none⟩) (Nat.le_refl _) v, fun m hm hmn => (rowAt_setCell_ne _ _ _ _ _ hmn).trans (h.rows m hm hmn)⟩
theorem Sole.drew {n : Nat} {w W : World} (h : Sole n w W) : Sole n w W.drew := ⟨h.below.drew, h.rows⟩
theorem Sole.alloc {n : Nat} {w W : World} (h : Sole n w W) (hn : n < w.heap.size) (o : Obj) : Sole n w (W.alloc o) :=
  have hs := h.below.size
  ⟨h.below.alloc (by omega) o, fun m hm hmn => (rowAt_alloc_past _ _ _ (by omega)).trans (h.rows m hm hmn)⟩

theorem Sole.of_below {n : Nat} {w W : World} (b : Below w.heap.size w W) (hn : n < w.heap.size) : Sole n w W :=
  ⟨b.mono (by omega), fun m hm _ => rowAt_below b m hm⟩
theorem Sole.trans {n : Nat} {w W W' : World} (h : Sole n w W) (g : Sole n W W') : Sole n w W' :=
  have hs := h.below.size
  ⟨h.below.trans g.below, fun m hm hmn => (g.rows m (by omega) hmn).trans (h.rows m hm hmn)⟩
theorem keepF {nf n0 o : Nat} {w0 W w1 : World} {c F : Array Value} {v : Value} (b : Below W.heap.size W w1) (hn : nf < w0.heap.size)
    (h : W.cell? ⟨nf, o, none⟩ = some v ∧ rowAt W n0 = some c ∧ rowAt W nf = some F ∧ Sole nf w0 W) : w1.cell? ⟨nf, o, none⟩ = some v ∧ rowAt w1 n0 = some c ∧ rowAt w1 nf = some F ∧ Sole nf w0 w1 :=
  ⟨(b.cell (p := ⟨nf, o, none⟩) (rowAt_lt h.2.2.1)).trans h.1, brow b h.2.1, brow b h.2.2.1, h.2.2.2.call hn b⟩

/-- What a flow holds of a cell of which some courses are done. -/
def flG (r : Rf) (x : Int) (cell k : Nat) (G : Nat → Int) (i : Nat) : Int := if i % 17 = cell ∧ i / 17 ≤ k then r.come x cell (i / 17) else G i
def flD (r : Rf) (x : Int) (cell k : Nat) (D : Nat → Int) (i : Nat) : Int := if i % 17 = cell ∧ i / 17 < k then r.dripAt x cell (i / 17) else D i
theorem flG_zero (r : Rf) {x : Int} {cell : Nat} {G : Nat → Int} (hc : cell < 17) (h : G cell = x) : ∀ i, i < 153 → G i = flG r x cell 0 G i := fun i _ => by
  unfold flG
  split
  · rename_i h1
    have : i = cell := by omega
    subst this
    rw [show i / 17 = 0 from by omega]
    exact h
  · rfl
theorem flD_zero (r : Rf) {x : Int} {cell : Nat} {D : Nat → Int} : ∀ i, i < 136 → D i = flD r x cell 0 D i := fun i _ => by
  unfold flD
  rw [if_neg (by omega)]
theorem flG_succ (r : Rf) {x : Int} {cell k : Nat} {G : Nat → Int} (hc : cell < 17) : ∀ i, i < 153 → upd (flG r x cell k G) ((k + 1) * 17 + cell) (r.come x cell (k + 1)) i = flG r x cell (k + 1) G i := fun i _ => by
  by_cases h : i = (k + 1) * 17 + cell
  · subst h
    rw [upd_at, flG, if_pos (by omega), show ((k + 1) * 17 + cell) / 17 = k + 1 from by omega]
  · rw [upd_ne _ _ h]
    unfold flG
    by_cases h1 : i % 17 = cell ∧ i / 17 ≤ k
    · rw [if_pos h1, if_pos (by omega)]
    · rw [if_neg h1, if_neg (by omega)]
theorem flD_succ (r : Rf) {x : Int} {cell k : Nat} {D : Nat → Int} (hc : cell < 17) : ∀ i, i < 136 → upd (flD r x cell k D) (k * 17 + cell) (r.dripAt x cell k) i = flD r x cell (k + 1) D i := fun i _ => by
  by_cases h : i = k * 17 + cell
  · subst h
    rw [upd_at, flD, if_pos (by omega), show (k * 17 + cell) / 17 = k from by omega]
  · rw [upd_ne _ _ h]
    unfold flD
    by_cases h1 : i % 17 = cell ∧ i / 17 < k
    · rw [if_pos h1, if_pos (by omega)]
    · rw [if_neg h1, if_neg (by omega)]
theorem flG_at (r : Rf) {x : Int} {cell k : Nat} {G : Nat → Int} (hc : cell < 17) : flG r x cell k G (k * 17 + cell) = r.come x cell k := by
  rw [flG, if_pos (by omega), show (k * 17 + cell) / 17 = k from by omega]
theorem rows2 {W : World} {n o1 o2 : Nat} {F : Array Value} {v1 v2 : Value} (h : rowAt W n = some F) : rowAt ((W.setCell ⟨n, o1, none⟩ v1).setCell ⟨n, o2, none⟩ v2) n = some ((F.setIfInBounds o1 v1).setIfInBounds o2 v2) := by
  have r1 := rowAt_setCell_at W n o1 v1 (by simp [h])
  rw [h, Option.getD_some] at r1
  have r2 := rowAt_setCell_at (W.setCell ⟨n, o1, none⟩ v1) n o2 v2 (by simp [r1])
  rwa [r1, Option.getD_some] at r2
theorem flow2 {F : Array Value} {r : Rf} {x : Int} {cell k : Nat} {G D : Nat → Int} (hF : IsFlow F (flG r x cell k G) (flD r x cell k D)) (hce : cell < 17) (hk : k < 8) {o1 o2 : Nat} {dv y' : Int}
    (h1 : o1 = 153 + k * 17 + cell) (h2 : o2 = (k + 1) * 17 + cell) (e1 : dv = r.dripAt x cell k) (e2 : y' = r.come x cell (k + 1)) :
    IsFlow ((F.setIfInBounds o1 (.int .i32 dv)).setIfInBounds o2 (.int .i64 y')) (flG r x cell (k + 1) G) (flD r x cell (k + 1) D) := by
  subst h1 h2 e1 e2
  exact ((hF.setD (k * 17 + cell) (153 + k * 17 + cell) _ (by omega) (by omega)).setG ((k + 1) * 17 + cell) _ (by omega)).congr (flG_succ r hce) (flD_succ r hce)
end Go.Proofs.YtoibolmippfcgaaDoor
