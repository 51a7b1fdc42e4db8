/- Rows with their types: what a loop over an iterator keeps; lists of places. Laws over any program. -/
import Derived.RangeFuncNested
import Derived.RangeFuncBox
import Derived.Laws.AppendOwn
import Derived.Test.YtppohghejhcilaaDoorPlaces
import Derived.Test.YtppohghejhcilaaDoorList
namespace Go.Proofs.YtppohghejhcilaaDoor
open Go.RowKit

def RowT (W : World) (B : Nat) (t : TypeId) (c : Array Value) : Prop := W.heap[B]? = some (.cells c t (0, 0))
section
variable {W W' : World} {B B' : Nat} {t e : TypeId} {c : Array Value} {u : Value}
theorem RowT.row (h : RowT W B t c) : rowAt W B = some c := rowAt_of_heap h
theorem RowT.lt (h : RowT W B t c) : B < W.heap.size := (Array.getElem?_eq_some_iff.1 h).1
theorem RowT.below (h : RowT W B t c) (b : Below W.heap.size W W') : RowT W' B t c := (b.block B h.lt).trans h
theorem RowT.drew (h : RowT W B t c) : RowT W.drew B t c := h
theorem RowT.alloc (h : RowT W B t c) (x : Obj) : RowT (W.alloc x) B t c := (Below.heap_alloc W x B h.lt).trans h
theorem RowT.new (W : World) (t : TypeId) (c : Array Value) : RowT (W.alloc (.cells c t)) W.heap.size t c := World.alloc_heap_new W _
theorem RowT.kept {row : Option Nat} (h : RowT W B t c) (hg : W.grownBy W' row) (hne : some B ≠ row) : RowT W' B t c := (hg.block B h.lt hne).trans h
theorem RowT.not_row (h : RowT W B t c) (hte : t ≠ e) {base size k : Nat} {v : Value} {xs : List Value} (hr : W.ownsRow base e size v k xs) : some B ≠ v.ownBlock := by
  rcases hr.2 with ⟨rfl, _⟩ | ⟨g, cap, cur, rfl, _, hgb, _⟩
  · simp [Value.ownBlock]
  · intro e'
    obtain rfl : B = g := by simpa [Value.ownBlock] using e'
    have := (show W.heap[B]? = _ from h).symm.trans hgb
    simp at this
    exact hte this.2
theorem RowT.other {o : Nat} (h : RowT W B t c) (hne : B ≠ B') (u : Value) : RowT (W.setCell ⟨B', o, none⟩ u) B t c := (heap_setCell_other W ⟨B', o, none⟩ B u hne).trans h
theorem RowT.set {o : Nat} (h : RowT W B t c) (u : Value) : RowT (W.setCell ⟨B, o, none⟩ u) B t (c.setIfInBounds o u) := heap_setCell_same W B o c t u h
theorem RowT.own {β : Type} (B : Nat) (t : TypeId) (f : β → Array Value) : Own (fun (s : β) W => RowT W B t (f s)) := fun s X Y row hs hg hrow =>
  RowT.kept hs hg (fun e' => by obtain ⟨_, ho, hc⟩ := hrow B e'.symm; rw [show X.heap[B]? = _ from hs] at ho; cases ho; cases hc)
theorem RowT.put (h : RowT W B t c) {l : Nat} {x : Obj} (x' : Obj) (hl : W.heap[l]? = some x) (hx : x.isCells = false) : RowT (W.putObj l x') B t c :=
  RowT.kept h (grownBy_putObj' W l x') (fun e' => by cases e'; rw [show W.heap[B]? = _ from h] at hl; cases hl; cases hx)
/-- 'out = append(out, ..)' behind a region: another row stays. -/
theorem RowT.appended {W w1 : World} {tmp : Obj} {base size k : Nat} {v : Value} {xs : List Value} (h : RowT W B t c) (hte : t ≠ e) (hr : W.ownsRow base e size v k xs) (hgrow : (W.alloc tmp).grownBy w1 v.ownBlock) : RowT w1 B t c :=
  RowT.kept (h.alloc tmp) hgrow (h.not_row hte hr)
end
theorem owns_below {w w' : World} {base : Nat} {e : TypeId} {size : Nat} {v : Value} {n : Nat} {xs : List Value} (h : w.ownsRow base e size v n xs) (b : Below w.heap.size w w') : w'.ownsRow base e size v n xs := by
  obtain ⟨hl, h | ⟨g, cap, cur, rfl, hg, hh, hr⟩⟩ := h
  · exact ⟨hl, .inl h⟩
  · exact ⟨hl, .inr ⟨g, cap, cur, rfl, hg, (b.block g (Array.getElem?_eq_some_iff.1 hh).1).trans hh, hr⟩⟩
theorem keeps_of_below {W W' : World} (b : Below W.heap.size W W') : KeepsOthers W W' := ⟨b.size, fun k _ hk _ => (b.block k (Array.getElem?_eq_some_iff.1 hk).1).trans hk⟩

/-- The cells of a list of places, and the list's cells as a function. -/
def plCells {h w : Nat} (l : List (Pl h w)) : List Value := l.flatMap fun x => [.int .i8 (x.1.1 : Int), .int .i8 (x.1.2 : Int)]
def plAt {h w : Nat} (l : List (Pl h w)) (i : Nat) : Int := match l[i / 2]? with | some x => if i % 2 = 0 then (x.1.1 : Int) else (x.1.2 : Int) | none => 0
theorem plCells_len {h w : Nat} (l : List (Pl h w)) : (plCells l).length = l.length * 2 := by
  induction l with
  | nil => rfl
  | cons x l ih => simp only [plCells, List.flatMap_cons, List.length_append, List.length_cons, List.length_nil] at *; omega
theorem plCells_at {h w : Nat} : ∀ (l : List (Pl h w)) (i : Nat), i < l.length * 2 → (plCells l)[i]? = some (.int .i8 (plAt l i))
  | [], i, hi => by simp at hi
  | x :: l, 0, _ => by simp [plCells, plAt]
  | x :: l, 1, _ => by simp [plCells, plAt]
  | x :: l, i + 2, hi => by
    have := plCells_at l i (by simp at hi; omega)
    have e1 : (i + 2) / 2 = i / 2 + 1 := by omega
    have e2 : (i + 2) % 2 = i % 2 := by omega
    simp only [plCells, List.flatMap_cons, plAt, e1, e2, List.getElem?_cons_succ] at *
    simpa using this
theorem plCells_snoc {h w : Nat} (l : List (Pl h w)) (x : Pl h w) : plCells (l ++ [x]) = plCells l ++ [.int .i8 (x.1.1 : Int), .int .i8 (x.1.2 : Int)] := by simp [plCells]
/-- A list of places that a call made. -/
theorem IsList.of_pls {w : World} {base : Nat} {e : TypeId} {v : Value} {h w' : Nat} {l : List (Pl h w')} (o : w.ownsRow base e 2 v l.length (plCells l)) : IsList w base v 2 l.length (fun i => .int .i8 (plAt l i)) := by
  obtain ⟨hl, h | ⟨g, cap, cur, rfl, hg, hh, hn, hm, hs, ht⟩⟩ := o
  · exact .inl ⟨h.2, none, 0, h.1⟩
  · refine .inr ⟨g, cap, cur, rfl, hg, rowAt_of_heap hh, ?_, fun i hi => ?_⟩
    · rw [hs]; exact Nat.mul_le_mul_right 2 hn
    · have h1 : cur[i]? = (cur.toList.take (l.length * 2))[i]? := by rw [List.getElem?_take, if_pos hi, Array.getElem?_toList]
      rw [h1, ht]
      exact plCells_at l i hi
def GivesP (w : World) {h ww : Nat} (l : List (Pl h ww)) (e : Ending) (w' : World) : Prop :=
  ∃ v, e = .returned v ∧ IsList w' w.heap.size v 2 l.length (fun i => .int .i8 (plAt l i)) ∧ Below w.heap.size w w'
end Go.Proofs.YtppohghejhcilaaDoor
