/- Arrays and structs of many cells, loaded and stored whole while their cells stay a variable. Laws over any program; nothing here names one. -/
import Derived.WalkKit
import Derived.WalkSpells
import Derived.WalkLawsBesides
import Derived.Handy
import Derived.Lib.Hide
import Derived.Deep.MidRow
namespace Go.Proofs.YtppohghejhcilaaDoor
open Go.RowKit

/-- The cells of block n, where it is an unmarked row. -/
def rowAt (w : World) (n : Nat) : Option (Array Value) := match w.heap[n]? with | some (.cells c _ (0, 0)) => some c | _ => none

theorem rowAt_some {w : World} {n : Nat} {c : Array Value} (h : rowAt w n = some c) : ∃ t, w.heap[n]? = some (.cells c t (0, 0)) := by
  unfold rowAt at h
  split at h <;> simp_all

theorem rowAt_of_heap {w : World} {n : Nat} {c : Array Value} {t : TypeId} (h : w.heap[n]? = some (.cells c t (0, 0))) : rowAt w n = some c := by
  simp [rowAt, h]

@[go_sem] theorem rowAt_alloc_at (w : World) (c : Array Value) (t : TypeId) (n : Nat) (h : n = w.heap.size) : rowAt (w.alloc (.cells c t)) n = some c := by
  subst h; exact rowAt_of_heap (heap_alloc_new w _)
@[go_sem] theorem rowAt_alloc_past (w : World) (o : Obj) (n : Nat) (h : n < w.heap.size) : rowAt (w.alloc o) n = rowAt w n := by
  simp [rowAt, Below.heap_alloc w o n h]
@[go_sem] theorem rowAt_drew (w : World) (n : Nat) : rowAt w.drew n = rowAt w n := rfl
theorem rowAt_below {B : Nat} {w w' : World} (h : Below B w w') (n : Nat) (hn : n < B) : rowAt w' n = rowAt w n := by
  simp [rowAt, h.block n hn]
theorem rowAt_lt {w : World} {n : Nat} {c : Array Value} (h : rowAt w n = some c) : n < w.heap.size := by
  obtain ⟨t, ht⟩ := rowAt_some h
  exact (Array.getElem?_eq_some_iff.1 ht).1
theorem cell_of_rowAt {w : World} {n : Nat} {c : Array Value} (h : rowAt w n = some c) (i : Nat) : w.cell? ⟨n, i, none⟩ = c[i]? := by
  obtain ⟨t, ht⟩ := rowAt_some h
  exact cell_of_row w n i c t _ ht
theorem frozen_of_rowAt {w : World} {n : Nat} {c : Array Value} (h : rowAt w n = some c) (i : Nat) : w.frozen? ⟨n, i, none⟩ = false := by
  obtain ⟨t, ht⟩ := rowAt_some h
  exact frozen_of_row w n i c t ht

/-- Every value fills one cell. -/
def Ones (c : Array Value) : Prop := ∀ v ∈ c, v.oneCell' = true
theorem Ones.of_get {c : Array Value} (h : ∀ (i : Nat) (hi : i < c.size), (c[i]).oneCell' = true) : Ones c := by
  intro v hv
  obtain ⟨i, hi, rfl⟩ := Array.getElem_of_mem hv
  exact h i hi
@[go_sem] theorem Ones.extract {c : Array Value} (h : Ones c) (a b : Nat) : Ones (c.extract a b) := fun v hv => by
  obtain ⟨i, hi, rfl⟩ := Array.getElem_of_mem hv
  rw [Array.getElem_extract]
  exact h _ (Array.getElem_mem _)

/-- c with vs written over it from place o on. -/
def splice (c : Array Value) (o : Nat) (vs : Array Value) : Array Value := (c.toList.take o ++ vs.toList ++ c.toList.drop (o + vs.size)).toArray
@[simp, go_sem] theorem size_splice (c : Array Value) (o : Nat) (vs : Array Value) (h : o + vs.size ≤ c.size) : (splice c o vs).size = c.size := by
  simp [splice]; omega
theorem get_splice (c : Array Value) (o : Nat) (vs : Array Value) (h : o + vs.size ≤ c.size) (i : Nat) :
    (splice c o vs)[i]? = if i < o then c[i]? else if i < o + vs.size then vs[i - o]? else c[i]? := by
  have hl : (c.toList.take o).length = o := by simp; omega
  unfold splice
  simp only [List.getElem?_toArray, List.append_assoc]
  by_cases h1 : i < o
  · rw [if_pos h1, List.getElem?_append_left (by omega)]
    simp [h1]
  · rw [if_neg h1, List.getElem?_append_right (by omega), hl]
    by_cases h2 : i < o + vs.size
    · rw [if_pos h2, List.getElem?_append_left (by simp; omega)]
      simp
    · rw [if_neg h2, List.getElem?_append_right (by simp; omega)]
      simp only [List.getElem?_drop, Array.length_toList, Array.getElem?_toList]
      congr 1; omega
@[simp, go_sem] theorem splice_all (c vs : Array Value) (h : vs.size = c.size) : splice c 0 vs = vs := by
  have : List.drop c.size c.toList = [] := List.drop_of_length_le (by simp)
  unfold splice
  simp [h, this]
@[go_sem] theorem extract_all (c : Array Value) (n : Nat) (h : c.size = n) : c.extract 0 n = c := by
  subst h; simp
theorem get_extract (c : Array Value) (a b i : Nat) (h : a + i < b) (hb : b ≤ c.size) : (c.extract a b)[i]? = c[a + i]? := by
  rw [Array.getElem?_extract, if_pos (by omega)]

@[go_sem] theorem setRow_alloc_at (w : World) (c c' : Array Value) (t : TypeId) (n : Nat) (h : n = w.heap.size) : (w.alloc (.cells c t)).setRow n c' = w.alloc (.cells c' t) := by
  subst h
  unfold World.setRow World.alloc
  congr 1
  apply Array.ext_getElem?
  intro k
  simp only [Array.getElem?_modify, Array.getElem?_push]
  by_cases hk : k = w.heap.size
  · subst hk; simp
  · simp [hk, Ne.symm hk]
@[go_sem] theorem setRow_alloc_past (w : World) (o : Obj) (c' : Array Value) (n : Nat) (h : n < w.heap.size) : (w.alloc o).setRow n c' = (w.setRow n c').alloc o := by
  unfold World.setRow World.alloc
  congr 1
  apply Array.ext_getElem?
  intro k
  simp only [Array.getElem?_modify, Array.getElem?_push, Array.size_modify]
  by_cases hk : k = w.heap.size
  · subst hk; simp [Nat.ne_of_lt h]
  · simp [hk]
@[go_sem] theorem setRow_drew (w : World) (n : Nat) (c : Array Value) : w.drew.setRow n c = (w.setRow n c).drew := rfl
@[go_sem] theorem rowAt_setRow_at (w : World) (n : Nat) (c : Array Value) (h : (rowAt w n).isSome = true) : rowAt (w.setRow n c) n = some c := by
  obtain ⟨c0, h⟩ := Option.isSome_iff_exists.1 h
  obtain ⟨t, ht⟩ := rowAt_some h
  exact rowAt_of_heap (setRow_heap w _ c0 c t _ ht)
@[go_sem] theorem rowAt_setRow_ne (w : World) (n m : Nat) (c : Array Value) (h : m ≠ n) : rowAt (w.setRow n c) m = rowAt w m := by
  simp [rowAt, setRow_other w n m c h]
@[go_sem] theorem rowAt_setCell_ne (w : World) (n m o : Nat) (v : Value) (h : m ≠ n) : rowAt (w.setCell ⟨n, o, none⟩ v) m = rowAt w m := by
  simp [rowAt, heap_setCell_other w ⟨n, o, none⟩ m v h]
@[go_sem] theorem rowAt_setCell_at (w : World) (n o : Nat) (v : Value) (h : (rowAt w n).isSome = true) : rowAt (w.setCell ⟨n, o, none⟩ v) n = some (((rowAt w n).getD #[]).setIfInBounds o v) := by
  obtain ⟨c0, h⟩ := Option.isSome_iff_exists.1 h
  obtain ⟨t, ht⟩ := rowAt_some h
  rw [h]
  exact rowAt_of_heap (heap_setCell_same w n o c0 t v ht)
@[go_sem] theorem cell?_setRow_ne (w : World) (n m o : Nat) (c : Array Value) (h : m ≠ n) : (w.setRow n c).cell? ⟨m, o, none⟩ = w.cell? ⟨m, o, none⟩ :=
  World.cell?_of_block (setRow_other w n m c h)
@[go_sem] theorem frozen?_setRow_ne (w : World) (n m o : Nat) (c : Array Value) (h : m ≠ n) : (w.setRow n c).frozen? ⟨m, o, none⟩ = w.frozen? ⟨m, o, none⟩ :=
  World.frozen?_of_block (setRow_other w n m c h)
@[go_sem] theorem cell?_setRow_at (w : World) (n o : Nat) (c : Array Value) (h : (rowAt w n).isSome = true) : (w.setRow n c).cell? ⟨n, o, none⟩ = c[o]? :=
  cell_of_rowAt (rowAt_setRow_at w n c h) o
@[go_sem] theorem frozen?_setRow_at (w : World) (n o : Nat) (c : Array Value) (h : (rowAt w n).isSome = true) : (w.setRow n c).frozen? ⟨n, o, none⟩ = false :=
  frozen_of_rowAt (rowAt_setRow_at w n c h) o

/-- What a call that touches nothing old leaves to be read. -/
theorem bview {W w1 : World} (hb : Below W.heap.size W w1) : (∀ n, n < W.heap.size → rowAt w1 n = rowAt W n) ∧ (∀ b o, b < W.heap.size → w1.cell? ⟨b, o, none⟩ = W.cell? ⟨b, o, none⟩) ∧
    (∀ b o, b < W.heap.size → w1.frozen? ⟨b, o, none⟩ = W.frozen? ⟨b, o, none⟩) ∧ W.heap.size ≤ w1.heap.size :=
  ⟨fun n hn => rowAt_below hb n hn, fun b o h => hb.cell (p := ⟨b, o, none⟩) h, fun b o h => hb.frozen (p := ⟨b, o, none⟩) h, hb.size⟩
/-- The same of one row. -/
theorem brow {W w1 : World} (hb : Below W.heap.size W w1) {n : Nat} {c : Array Value} (h : rowAt W n = some c) : rowAt w1 n = some c :=
  (rowAt_below hb n (rowAt_lt h)).trans h

theorem brow' {B : Nat} {W w1 : World} (hb : Below B W w1) {n : Nat} {c : Array Value} (hn : n < B) (h : rowAt W n = some c) : rowAt w1 n = some c :=
  (rowAt_below hb n hn).trans h

theorem bnext {B : Nat} {w W w1 : World} (h : Below B w W) (hb : Below W.heap.size W w1) (hB : B ≤ W.heap.size) : Below B w w1 := h.trans (hb.mono hB)

/-- What a region's walk keeps behind a call: one row, two rows. -/
theorem keep1 {B n : Nat} {w W w1 : World} {c : Array Value} (b : Below W.heap.size W w1) (h : rowAt W n = some c ∧ Below B w W ∧ B ≤ W.heap.size) : rowAt w1 n = some c ∧ Below B w w1 ∧ B ≤ w1.heap.size :=
  ⟨brow b h.1, bnext h.2.1 b h.2.2, Nat.le_trans h.2.2 b.size⟩
theorem keep2 {B n m : Nat} {w W w1 : World} {c e : Array Value} (b : Below W.heap.size W w1) (h : rowAt W n = some c ∧ rowAt W m = some e ∧ Below B w W ∧ B ≤ W.heap.size) : rowAt w1 n = some c ∧ rowAt w1 m = some e ∧ Below B w w1 ∧ B ≤ w1.heap.size :=
  ⟨brow b h.1, brow b h.2.1, bnext h.2.2.1 b h.2.2.2, Nat.le_trans h.2.2.2 b.size⟩

theorem rangeAt_of_row {w : World} {n : Nat} {l : List Value} (h : rowAt w n = some l.toArray) : w.rangeAt n 0 l := fun j v hv => by
  rw [Nat.zero_add, cell_of_rowAt h]; simpa using hv
/-- The same of a roof's row and of a long array's. -/
theorem keepR {B n m : Nat} {w W w1 : World} {c : Array Value} {l : List Value} (b : Below W.heap.size W w1) (h : rowAt W n = some c ∧ rowAt W m = some l.toArray ∧ W.rangeAt m 0 l ∧ Below B w W ∧ B ≤ W.heap.size) :
    rowAt w1 n = some c ∧ rowAt w1 m = some l.toArray ∧ w1.rangeAt m 0 l ∧ Below B w w1 ∧ B ≤ w1.heap.size :=
  have q := brow b h.2.1
  ⟨brow b h.1, q, rangeAt_of_row q, bnext h.2.2.2.1 b h.2.2.2.2, Nat.le_trans h.2.2.2.2 b.size⟩
theorem keepR0 {B n m : Nat} {w W : World} {c : Array Value} {l : List Value} (h0 : rowAt W n = some c) (h1 : rowAt W m = some l.toArray) (hb : Below B w W) (hB : B ≤ W.heap.size) :
    rowAt W.drew n = some c ∧ rowAt W.drew m = some l.toArray ∧ W.drew.rangeAt m 0 l ∧ Below B w W.drew ∧ B ≤ W.drew.heap.size :=
  ⟨h0, h1, rangeAt_of_row (w := W.drew) h1, hb.drew, hB⟩

theorem below_setRow {B : Nat} {a w : World} (h : Below B a w) {n : Nat} (hn : B ≤ n) (c : Array Value) : Below B a (w.setRow n c) :=
  ⟨h.os, h.tape, h.output, by simpa using h.size, fun k hk => (setRow_other w n k c (by omega)).trans (h.block k hk)⟩

/-- 'Instr.loadAt', 'Instr.storeAt', 'Instr.index' under names that the walk does not open. -/
def loadWhole (ty : TypeId) (v : Value) : Sem Value := Instr.loadAt ty v
def storeWhole (ty : TypeId) (a v : Value) : Sem Unit := Instr.storeAt ty a v
def indexWhole (ty : TypeId) (v i : Value) : Sem Value := Instr.index ty v i

section
variable {P : Program} {ty : TypeId} {d : TypeDesc} {m : Nat}

/-- A whole struct or array loaded from place o of a row. -/
theorem run_load_row (hu : P.underlying ty = some d) (hd : (match d with | .struct _ | .array _ _ => true | _ => false) = true) (hi : (P.info? ty).map (·.size) = some m)
    (w : World) (n o : Nat) (hs : (rowAt w n).isSome = true) (ho : o + m ≤ ((rowAt w n).getD #[]).size) :
    (loadWhole ty (.pointer (some ⟨n, o, none⟩))).run P w = .ok (.agg (((rowAt w n).getD #[]).extract o (o + m))) w := by
  show (Instr.loadAt ty (.pointer (some ⟨n, o, none⟩))).run P w = _
  obtain ⟨c, hc⟩ := Option.isSome_iff_exists.1 hs
  simp only [hc, Option.getD_some] at ho ⊢
  have hl : (loadCells ⟨n, o, none⟩ (c.extract o (o + m)).toList.length).run P w = .ok (c.extract o (o + m)).toList.toArray w :=
    run_loadCells_list (P := P) w ⟨n, o, none⟩ (c.extract o (o + m)).toList (fun j v hv => by
      have hadd : (⟨n, o, none⟩ : Addr).add j = ⟨n, o + j, none⟩ := by unfold Addr.add; split <;> simp_all
      rw [hadd, cell_of_rowAt hc]
      have hj : j < m := by
        have := (List.getElem?_eq_some_iff.1 hv).1
        simp at this; omega
      rw [← get_extract c o (o + m) j (by omega) ho]
      rw [← Array.getElem?_toList]; exact hv)
  have hlen : (c.extract o (o + m)).toList.length = m := by simp; omega
  rw [hlen] at hl
  cases hq : P.info? ty with
  | none => simp [hq] at hi
  | some i =>
    have hsz : i.size = m := by simpa [hq] using hi
    have hagg : (isAgg ty).run P w = .ok true w := by
      unfold isAgg
      rw [Sem.run_bind, run_underlying hu w]
      cases d <;> simp_all
    simp only [Array.toArray_toList] at hl
    simp [Instr.loadAt, Instr.sureAddr, loadVar, Sem.run_bind, hagg, sizeOf, typeInfo, hq, hsz, hl]

/-- A whole struct or array stored at place o of a row. -/
theorem run_store_row (hi : (P.info? ty).map (·.size) = some m) (vs : Array Value) (w : World) (n o : Nat) (hvs : vs.size = m) (h1 : Ones vs)
    (hs : (rowAt w n).isSome = true) (ho : o + m ≤ ((rowAt w n).getD #[]).size) :
    (storeWhole ty (.pointer (some ⟨n, o, none⟩)) (.agg vs)).run P w = .ok () (w.setRow n (splice ((rowAt w n).getD #[]) o vs)) := by
  show (Instr.storeAt ty (.pointer (some ⟨n, o, none⟩)) (.agg vs)).run P w = _
  obtain ⟨c, hc⟩ := Option.isSome_iff_exists.1 hs
  simp only [hc, Option.getD_some] at ho ⊢
  obtain ⟨t, ht⟩ := rowAt_some hc
  have hl := run_storeCells_at (P := P) n o t vs.toList 0 c w ht (by simp; omega) (fun v hv => h1 v (by simpa using hv))
  cases hq : P.info? ty with
  | none => simp [hq] at hi
  | some i =>
    have hsz : i.size = m := by simpa [hq] using hi
    have : ¬ (vs.size ≠ m) := by simp [hvs]
    simp only [Nat.add_zero, Array.length_toList] at hl
    simp [Instr.storeAt, Instr.sureAddr, storeVar, Value.cells, Sem.run_bind, sizeOf, typeInfo, hq, hsz, hvs, hl, splice]

/-- The two runs by what the row holds: so the walk reckons the row first. -/
def rowLoad (P : Program) (ty : TypeId) (m n o : Nat) (w : World) : Option (Array Value) → Result Value
  | some c => if o + m ≤ c.size then .ok (.agg (c.extract o (o + m))) w else (Instr.loadAt ty (.pointer (some ⟨n, o, none⟩))).run P w
  | none => (Instr.loadAt ty (.pointer (some ⟨n, o, none⟩))).run P w
@[go_sem] theorem rowLoad_some (P : Program) (ty : TypeId) (m n o : Nat) (w : World) (c : Array Value) (h : o + m ≤ c.size) : rowLoad P ty m n o w (some c) = .ok (.agg (c.extract o (o + m))) w := if_pos h
open Classical in
noncomputable def rowStore (P : Program) (ty : TypeId) (m n o : Nat) (vs : Array Value) (w : World) : Option (Array Value) → Result Unit
  | some c => if vs.size = m ∧ Ones vs ∧ o + m ≤ c.size then .ok () (w.setRow n (splice c o vs)) else (Instr.storeAt ty (.pointer (some ⟨n, o, none⟩)) (.agg vs)).run P w
  | none => (Instr.storeAt ty (.pointer (some ⟨n, o, none⟩)) (.agg vs)).run P w
@[go_sem] theorem rowStore_some (P : Program) (ty : TypeId) (m n o : Nat) (vs : Array Value) (w : World) (c : Array Value) (h0 : vs.size = m) (h1 : Ones vs) (h : o + m ≤ c.size) :
    rowStore P ty m n o vs w (some c) = .ok () (w.setRow n (splice c o vs)) := if_pos ⟨h0, h1, h⟩
theorem run_load_by (hu : P.underlying ty = some d) (hd : (match d with | .struct _ | .array _ _ => true | _ => false) = true) (hi : (P.info? ty).map (·.size) = some m)
    (w : World) (n o : Nat) : (loadWhole ty (.pointer (some ⟨n, o, none⟩))).run P w = rowLoad P ty m n o w (rowAt w n) := by
  cases h : rowAt w n with
  | none => rfl
  | some c =>
    by_cases ho : o + m ≤ c.size
    · rw [rowLoad_some _ _ _ _ _ _ _ ho, run_load_row hu hd hi w n o (by simp [h]) (by simpa [h] using ho)]
      simp [h]
    · simp only [rowLoad, if_neg ho]; rfl
theorem run_store_by (hi : (P.info? ty).map (·.size) = some m) (vs : Array Value) (w : World) (n o : Nat) :
    (storeWhole ty (.pointer (some ⟨n, o, none⟩)) (.agg vs)).run P w = rowStore P ty m n o vs w (rowAt w n) := by
  cases h : rowAt w n with
  | none => rfl
  | some c =>
    by_cases ho : vs.size = m ∧ Ones vs ∧ o + m ≤ c.size
    · rw [rowStore_some _ _ _ _ _ _ _ _ ho.1 ho.2.1 ho.2.2, run_store_row hi vs w n o ho.1 ho.2.1 (by simp [h]) (by simpa [h] using ho.2.2)]
      simp [h]
    · simp only [rowStore, if_neg ho]; rfl

/-- An integer out of an array value. -/
theorem run_index_int {e : TypeId} {k : IntKind} (hu : P.underlying ty = some (.array m e)) (he : P.underlying e = some (.int k)) (hi : (P.info? e).map (·.size) = some 1)
    (cs : Array Value) (w : World) (i : Int) (h0 : 0 ≤ i) (h1 : i < m) (hm : cs.size = m) :
    (indexWhole ty (.agg cs) (.int .i64 i)).run P w = .ok (cs[i.toNat]'(by omega)) w := by
  show (Instr.index ty (.agg cs) (.int .i64 i)).run P w = _
  have hk : i.toNat < cs.size := by omega
  have hagg : (isAgg e).run P w = .ok false w := by
    unfold isAgg
    rw [Sem.run_bind, run_underlying he w]
    simp
  cases hq : P.info? e with
  | none => simp [hq] at hi
  | some j =>
    have hsz : j.size = 1 := by simpa [hq] using hi
    have hu' := run_underlying hu w
    simp [Instr.index, asIntOf, Sem.run_bind, hu', h0, h1, part, hagg, sizeOf, typeInfo, hq, hsz, hk]

/-- The end of a function whose one result is a struct or an array. -/
theorem results_row1 {fn : Func} {p : Tmp} (h : fn.results = #[.cell p ty]) (tmps : Array Value) (w : World) (n : Nat) (c : Array Value) (hp : tmps.getD p undef = .pointer (some ⟨n, 0, none⟩))
    (hr : rowAt w n = some c) (hu : P.underlying ty = some d) (hd : (match d with | .struct _ | .array _ _ => true | _ => false) = true) (hi : (P.info? ty).map (·.size) = some m) (hm : c.size = m) :
    (results fn tmps).run P w = .ok (.agg c) w := by
  obtain ⟨t, ht⟩ := rowAt_some hr
  subst hm
  exact results_cell_row h tmps w n t c _ d hp ht hu hd hi
end
end Go.Proofs.YtppohghejhcilaaDoor
