/- What becomes of rain: the model. -/
import Derived.Test.YtoibolmippfcgaaDoorFlow
import Derived.Test.YtoibolmippfcgaaDoorEnd
import Derived.Test.YtoibolmippfcgaaDoorHeld
import Derived.Maps.AppendAt
import Derived.RangeFuncBox
namespace Go.Proofs.YtoibolmippfcgaaDoor
open Go.RowKit

section
variable {P : Program} {ty ty' : TypeId} {d d' : TypeDesc} {m m' : Nat}
/-- The end of a function whose results are an array and two numbers. -/
theorem results_row3 {fn : Func} {p u v : Tmp} (h : fn.results = #[.cell p ty, .tmp u, .tmp v]) (tmps : Array Value) (w : World) (n : Nat) (c : Array Value) (x y : Value) (hp : tmps.getD p undef = .pointer (some ⟨n, 0, none⟩))
    (hx : tmps.getD u undef = x) (hy : tmps.getD v undef = y) (hr : rowAt w n = some c) (hu : P.underlying ty = some d) (hd : (match d with | .struct _ | .array _ _ => true | _ => false) = true) (hi : (P.info? ty).map (·.size) = some m) (hm : c.size = m) :
    (results fn tmps).run P w = .ok (.tuple #[.agg c, x, y]) w := by
  obtain ⟨t, ht⟩ := rowAt_some hr
  subst hm
  have hp' : tmps[p]?.getD undef = .pointer (some ⟨n, 0, none⟩) := by simpa using hp
  have hx' : tmps[u]?.getD undef = x := by simpa using hx
  have hy' : tmps[v]?.getD undef = y := by simpa using hy
  simp [results, h, hp', hx', hy', asAddr, run_loadVar_row w n t ty c _ d ht hu hd hi]
/-- Two arrays and a third value. -/
theorem results_row21 {fn : Func} {p q u : Tmp} (h : fn.results = #[.cell p ty, .cell q ty', .tmp u]) (tmps : Array Value) (w : World) (n n' : Nat) (c c' : Array Value) (x : Value) (hp : tmps.getD p undef = .pointer (some ⟨n, 0, none⟩)) (hq : tmps.getD q undef = .pointer (some ⟨n', 0, none⟩))
    (hx : tmps.getD u undef = x) (hr : rowAt w n = some c) (hr' : rowAt w n' = some c') (hu : P.underlying ty = some d) (hd : (match d with | .struct _ | .array _ _ => true | _ => false) = true) (hi : (P.info? ty).map (·.size) = some m) (hm : c.size = m)
    (hu' : P.underlying ty' = some d') (hd' : (match d' with | .struct _ | .array _ _ => true | _ => false) = true) (hi' : (P.info? ty').map (·.size) = some m') (hm' : c'.size = m') :
    (results fn tmps).run P w = .ok (.tuple #[.agg c, .agg c', x]) w := by
  obtain ⟨t, ht⟩ := rowAt_some hr
  obtain ⟨t', ht'⟩ := rowAt_some hr'
  subst hm hm'
  have hp' : tmps[p]?.getD undef = .pointer (some ⟨n, 0, none⟩) := by simpa using hp
  have hq' : tmps[q]?.getD undef = .pointer (some ⟨n', 0, none⟩) := by simpa using hq
  have hx' : tmps[u]?.getD undef = x := by simpa using hx
  simp [results, h, hp', hq', hx', asAddr, run_loadVar_row w n t ty c _ d ht hu hd hi, run_loadVar_row w n' t' ty' c' _ d' ht' hu' hd' hi']
end

/-- The first n numbers that a function gives. -/
def intsOf (f : Nat → Int) (n : Nat) : List Value := (List.range n).map fun i => .int .i64 (f i)
theorem intsOf_succ (f : Nat → Int) (n : Nat) : intsOf f n ++ [.int .i64 (f n)] = intsOf f (n + 1) := by simp [intsOf, List.range_succ]
theorem IsList.of_ints {w : World} {base n : Nat} {e : TypeId} {v : Value} {f : Nat → Int} (h : w.ownsRow base e 1 v n (intsOf f n)) : IsList w base v 1 n fun i => .int .i64 (f i) := by
  obtain ⟨hl, h | ⟨g, cap, cur, rfl, hg, hh, hn, hm, hs, ht⟩⟩ := h
  · exact .inl ⟨h.2, none, 0, by rw [h.1]⟩
  · refine .inr ⟨g, cap, cur, rfl, hg, rowAt_of_heap hh, by omega, fun i hi => ?_⟩
    have h1 : cur[i]? = (cur.toList.take (n * 1))[i]? := by rw [List.getElem?_take, if_pos hi, Array.getElem?_toList]
    rw [h1, ht]
    rw [intsOf, List.getElem?_map, List.getElem?_range (by omega)]; rfl
theorem ownsRow_blocks {w w' : World} {base : Nat} {e : TypeId} {size : Nat} {v : Value} {n : Nat} {xs : List Value} (h : w.ownsRow base e size v n xs) (b : ∀ g, base ≤ g → g < w.heap.size → w'.heap[g]? = w.heap[g]?) : w'.ownsRow base e size v n xs := by
  obtain ⟨hl, h | ⟨g, cap, cur, rfl, hg, hh, hr⟩⟩ := h
  · exact ⟨hl, .inl h⟩
  · exact ⟨hl, .inr ⟨g, cap, cur, rfl, hg, (b g hg (Array.getElem?_eq_some_iff.1 hh).1).trans hh, hr⟩⟩
theorem grown_row {w w' : World} {row : Option Nat} (h : w.grownBy w' row) {n : Nat} (hn : n < w.heap.size) (hr : ∀ x, row = some x → n ≠ x) : rowAt w' n = rowAt w n :=
  by simp [rowAt, h.block n hn (fun e => hr n e.symm rfl)]

theorem heap_alloc_here (w : World) (o : Obj) (n : Nat) (h : n = w.heap.size) : (w.alloc o).heap[n]? = some o := by subst h; exact heap_alloc_new w o

/-- Of the blocks of w only two have changed, and none is new. -/
structure Duo (a b : Nat) (w W : World) : Prop where
  below : Below (min a b) w W
  size : W.heap.size = w.heap.size
  blocks : ∀ k, k ≠ a → k ≠ b → W.heap[k]? = w.heap[k]?
theorem Duo.refl (a b : Nat) (w : World) : Duo a b w w := ⟨Below.refl _ _, rfl, fun _ _ _ => rfl⟩
theorem Duo.row {a b : Nat} {w W : World} (h : Duo a b w W) {n : Nat} (ha : n ≠ a) (hb : n ≠ b) : rowAt W n = rowAt w n := by simp [rowAt, h.blocks n ha hb]
theorem Duo.setA {a b : Nat} {w W : World} (h : Duo a b w W) (o : Nat) (v : Value) : Duo a b w (W.setCell ⟨a, o, none⟩ v) :=
  ⟨h.below.setCell (p := ⟨a, o, none⟩) (Nat.min_le_left _ _) v, by simp [h.size], fun k ha hb => (heap_setCell_other W ⟨a, o, none⟩ k v ha).trans (h.blocks k ha hb)⟩
theorem Duo.setB {a b : Nat} {w W : World} (h : Duo a b w W) (o : Nat) (v : Value) : Duo a b w (W.setCell ⟨b, o, none⟩ v) :=
  ⟨h.below.setCell (p := ⟨b, o, none⟩) (Nat.min_le_right _ _) v, by simp [h.size], fun k ha hb => (heap_setCell_other W ⟨b, o, none⟩ k v hb).trans (h.blocks k ha hb)⟩
theorem rows_duo {W : World} {a b o o' : Nat} {A B : Array Value} {v v' : Value} (ha : rowAt W a = some A) (hb : rowAt W b = some B) (hab : a ≠ b) :
    rowAt ((W.setCell ⟨a, o, none⟩ v).setCell ⟨b, o', none⟩ v') a = some (A.setIfInBounds o v) ∧ rowAt ((W.setCell ⟨a, o, none⟩ v).setCell ⟨b, o', none⟩ v') b = some (B.setIfInBounds o' v') := by
  have r1 := rowAt_setCell_at W a o v (by simp [ha])
  rw [ha, Option.getD_some] at r1
  have r2 := (rowAt_setCell_ne W a b o v (Ne.symm hab)).trans hb
  have r3 := rowAt_setCell_at (W.setCell ⟨a, o, none⟩ v) b o' v' (by simp [r2])
  rw [r2, Option.getD_some] at r3
  exact ⟨(rowAt_setCell_ne _ _ _ _ _ hab).trans r1, r3⟩

def Rf.fullC (r : Rf) (t : Nat → Int) (k i : Nat) : Int := if i % 17 < k ∧ ((i / 17 : Nat) : Int) < r.h then r.come (t (i % 17)) (i % 17) (i / 17) else 0
def flC (r : Rf) (x : Int) (cell k : Nat) (C : Nat → Int) (i : Nat) : Int := if i % 17 = cell ∧ i / 17 < k then r.come x cell (i / 17) else C i
theorem flC_zero (r : Rf) {x : Int} {cell : Nat} {C : Nat → Int} : ∀ i, i < 136 → C i = flC r x cell 0 C i := fun i _ => by
  unfold flC
  rw [if_neg (by omega)]
theorem flC_succ (r : Rf) {x : Int} {cell k : Nat} {C : Nat → Int} (hc : cell < 17) : ∀ i, i < 136 → upd (flC r x cell k C) (k * 17 + cell) (r.come x cell k) i = flC r x cell (k + 1) C i := fun i _ => by
  by_cases h : i = k * 17 + cell
  · subst h
    rw [upd_at, flC, if_pos (by omega), show (k * 17 + cell) / 17 = k from by omega]
  · rw [upd_ne _ _ h]
    unfold flC
    by_cases h1 : i % 17 = cell ∧ i / 17 < k
    · rw [if_pos h1, if_pos (by omega)]
    · rw [if_neg h1, if_neg (by omega)]
theorem fullC_succ {r : Rf} {t : Nat → Int} {k hh : Nat} (hhe : r.h = hh) : ∀ i, i < 136 → flC r (t k) k hh (r.fullC t k) i = r.fullC t (k + 1) i := fun i _ => by
  unfold flC Rf.fullC
  by_cases h1 : i % 17 = k ∧ i / 17 < hh
  · rw [if_pos h1, if_pos (by omega), h1.1]
  · rw [if_neg h1]
    by_cases h3 : i % 17 < k ∧ ((i / 17 : Nat) : Int) < r.h
    · rw [if_pos h3, if_pos (by omega)]
    · rw [if_neg h3, if_neg (by omega)]
/-- What comes to each course, all cells. -/
def Rf.comeAll (r : Rf) (t : Nat → Int) : Nat → Int := r.fullC t (2 * r.w + 1).toNat
/-- What comes to the gutter. -/
def Rf.gut (r : Rf) (t : Nat → Int) (k : Nat) : Int := r.come (t k) k r.h.toNat

theorem A_infoI : (Tryd.prog.info? 2).map (fun i => (i.zero, i.size, i.bytes)) = some (some (.int .i64 0), 1, 8) := by kernel_rfl

def RunEnd (r : Rf) (t : Nat → Int) (w : World) (e : Ending) (w' : World) : Prop :=
  ∃ v, e = .returned (.tuple #[.agg (mkI .i32 136 (r.drips t)), .agg (mkI .i32 136 (r.comeAll t)), v]) ∧ IsList w' w.heap.size v 1 (2 * r.w + 1).toNat (fun i => .int .i64 (r.gut t i)) ∧ Below w.heap.size w w'
end Go.Proofs.YtoibolmippfcgaaDoor
