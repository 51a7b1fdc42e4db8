/- The ends of functions that return a struct and a code. -/
import Derived.Test.YtppohghejhcilaaDoorTy
import Derived.Test.YtppohghejhcilaaDoorRoof
namespace Go.Proofs.YtppohghejhcilaaDoor
open Go.RowKit
section
variable {P : Program} {ty : TypeId} {d : TypeDesc} {m : Nat}
theorem results_row2 {fn : Func} {p u : Tmp} (h : fn.results = #[.cell p ty, .tmp u]) (tmps : Array Value) (w : World) (n : Nat) (c : Array Value) (x : Value) (hp : tmps.getD p undef = .pointer (some ⟨n, 0, none⟩))
    (hx : tmps.getD u undef = x) (hr : rowAt w n = some c) (hu : P.underlying ty = some d) (hd : (match d with | .struct _ | .array _ _ => true | _ => false) = true) (hi : (P.info? ty).map (·.size) = some m) (hm : c.size = m) :
    (results fn tmps).run P w = .ok (.tuple #[.agg c, x]) w := by
  obtain ⟨t, ht⟩ := rowAt_some hr
  subst hm
  have hp' : tmps[p]?.getD undef = .pointer (some ⟨n, 0, none⟩) := by simpa using hp
  have hx' : tmps[u]?.getD undef = x := by simpa using hx
  simp [results, h, hp', hx', asAddr, run_loadVar_row w n t ty c _ d ht hu hd hi]
end

@[go_sem] theorem Ones.set {c : Array Value} (h : Ones c) (i : Nat) (v : Value) (hv : v.oneCell' = true) : Ones (c.setIfInBounds i v) := by
  refine Ones.of_get fun j hj => ?_
  have hj' : j < c.size := by simpa using hj
  rw [Array.getElem_setIfInBounds hj']
  split
  · exact hv
  · exact h _ (Array.getElem_mem _)
@[go_sem] theorem oneCell_int (k : IntKind) (n : Int) : (Value.int k n).oneCell' = true := rfl

theorem get_of {c : Array Value} {i : Nat} {v : Value} (h : c[i]? = some v) (hi : i < c.size) : c[i] = v := by
  rw [Array.getElem?_eq_getElem hi] at h; exact Option.some.inj h

theorem zroof_eq : Tryd.zeroCells28 = #[.int .i8 0, .int .i8 0, .int .u8 0] ++ Array.replicate 64 (.int .u8 0) := by kernel_rfl
theorem zroof_size : Tryd.zeroCells28.size = 67 := by rw [zroof_eq]; simp
theorem zroof_is : IsRoof Tryd.zeroCells28 ⟨0, 0, 0, fun _ => 0⟩ where
  size := zroof_size
  wide h := by simp [zroof_eq]
  high h := by simp [zroof_eq]
  shift h := by simp [zroof_eq]
  tiles := ⟨by simp only [Array.size_extract, zroof_size]; omega, fun i h => by
    have : (Tryd.zeroCells28.extract 3 67)[i]? = some (.int .u8 0) := by
      have hi : i < 64 := by simp only [Array.size_extract, zroof_size] at h; omega
      rw [get_extract _ _ _ _ (by omega) (by rw [zroof_size]; omega), zroof_eq, Array.getElem?_append_right (by simp)]
      simp [hi]
    rw [Array.getElem?_eq_getElem h] at this
    exact Option.some.inj this, fun _ _ => by simp, fun _ _ => by simp⟩
  w0 := by simp
  w1 := by simp
  h0 := by simp
  h1 := by simp
  s0 := by simp
  s1 := by simp
theorem zroof_ones : Ones Tryd.zeroCells28 := zroof_is.ones

/-- A roof with other numbers at its head. -/
theorem IsRoof.head {c : Array Value} {r : Rf} (h : IsRoof c r) (a b s : Int) (ha : -128 ≤ a ∧ a ≤ 127) (hb : -128 ≤ b ∧ b ≤ 127) (hs : 0 ≤ s ∧ s ≤ 255) :
    IsRoof (((c.setIfInBounds 0 (.int .i8 a)).setIfInBounds 1 (.int .i8 b)).setIfInBounds 2 (.int .u8 s)) ⟨a, b, s, r.t⟩ where
  size := by simpa using h.size
  wide hh := get_of (by have := h.size; simp [this]) hh
  high hh := get_of (by have := h.size; simp [this]) hh
  shift hh := get_of (by have := h.size; simp [this]) hh
  tiles := ⟨by have := h.size; simp [this], fun i hi => by
    have hs := h.size
    have hi' : i < 64 := by simp [hs] at hi; omega
    refine get_of ?_ hi
    rw [get_extract _ _ _ _ (by omega) (by simp [hs])]
    simp only [Array.getElem?_setIfInBounds_ne (show 2 ≠ 3 + i by omega), Array.getElem?_setIfInBounds_ne (show 1 ≠ 3 + i by omega), Array.getElem?_setIfInBounds_ne (show 0 ≠ 3 + i by omega)]
    rw [Array.getElem?_eq_getElem (by omega), h.tile _ _ (by omega), show 3 + i - 3 = i from by omega], h.tiles.lo, h.tiles.hi⟩
  w0 := ha.1
  w1 := ha.2
  h0 := hb.1
  h1 := hb.2
  s0 := hs.1
  s1 := hs.2

/-- What a region's walk keeps: a roof's row and a place's row, and the place's two cells. -/
theorem keepP {B n m : Nat} {w W w1 : World} {c : Array Value} {x y : Value} (b : Below W.heap.size W w1)
    (h : rowAt W n = some c ∧ (W.cell? ⟨m, 0, none⟩ = some x ∧ W.cell? ⟨m, 1, none⟩ = some y) ∧ rowAt W m = some #[x, y] ∧ Below B w W ∧ B ≤ W.heap.size) :
    rowAt w1 n = some c ∧ (w1.cell? ⟨m, 0, none⟩ = some x ∧ w1.cell? ⟨m, 1, none⟩ = some y) ∧ rowAt w1 m = some #[x, y] ∧ Below B w w1 ∧ B ≤ w1.heap.size :=
  have q := brow b h.2.2.1
  ⟨brow b h.1, ⟨by rw [cell_of_rowAt q]; rfl, by rw [cell_of_rowAt q]; rfl⟩, q, bnext h.2.2.2.1 b h.2.2.2.2, Nat.le_trans h.2.2.2.2 b.size⟩
theorem keepP0 {B n m : Nat} {w W : World} {c : Array Value} {x y : Value} (h0 : rowAt W n = some c) (h1 : rowAt W m = some #[x, y]) (hB : Below B w W) (hs : B ≤ W.heap.size) :
    rowAt W.drew n = some c ∧ (W.drew.cell? ⟨m, 0, none⟩ = some x ∧ W.drew.cell? ⟨m, 1, none⟩ = some y) ∧ rowAt W.drew m = some #[x, y] ∧ Below B w W.drew ∧ B ≤ W.drew.heap.size :=
  ⟨h0, ⟨(cell_of_rowAt h1 0).trans rfl, (cell_of_rowAt h1 1).trans rfl⟩, h1, hB.drew, hs⟩
end Go.Proofs.YtppohghejhcilaaDoor
