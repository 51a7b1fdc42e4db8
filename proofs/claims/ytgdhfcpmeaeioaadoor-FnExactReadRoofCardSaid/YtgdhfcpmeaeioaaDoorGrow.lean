/- Lists that grow by append, their cells told by a function. Laws over any program. -/
import Derived.Test.YtgdhfcpmeaeioaaDoorList
import Derived.Laws.AppendOwn
import Derived.Below
import Derived.Deep.RegionHeld3
import Derived.Deep.RegionLawGrows
namespace Go.Proofs.YtgdhfcpmeaeioaaDoor
open Go.RowKit

/-- The first n cells. -/
def cellsTo (k : IntKind) (F : Nat → Int) (n : Nat) : List Value := (List.range n).map fun i => .int k (F i)
theorem cellsTo_len (k : IntKind) (F : Nat → Int) (n : Nat) : (cellsTo k F n).length = n := by simp [cellsTo]
theorem cellsTo_two (k : IntKind) (F : Nat → Int) (n : Nat) {a b : Int} (ha : F (n * 2) = a) (hb : F (n * 2 + 1) = b) : cellsTo k F ((n + 1) * 2) = cellsTo k F (n * 2) ++ [.int k a, .int k b] := by
  rw [show (n + 1) * 2 = n * 2 + 1 + 1 from by omega]
  simp [cellsTo, List.range_succ, ha, hb]
theorem cellsTo_one (k : IntKind) (F : Nat → Int) (n : Nat) {a : Int} (ha : F n = a) : cellsTo k F (n + 1) = cellsTo k F n ++ [.int k a] := by
  simp [cellsTo, List.range_succ, ha]
theorem owns_nil (w : World) (base : Nat) (e : TypeId) (size : Nat) (k : IntKind) (F : Nat → Int) : w.ownsRow base e size (.slice none 0 0) 0 (cellsTo k F 0) := ⟨by simp [cellsTo], .inl ⟨rfl, rfl⟩⟩
theorem owns_list {w : World} {base : Nat} {e : TypeId} {v : Value} {sz n : Nat} {k : IntKind} {F : Nat → Int} (o : w.ownsRow base e sz v n (cellsTo k F (n * sz))) : IsList w base v sz n (fun i => .int k (F i)) := by
  obtain ⟨hl, h | ⟨g, cap, cur, rfl, hg, hh, hn, hm, hs, ht⟩⟩ := o
  · exact .inl ⟨h.2, none, 0, by rw [h.1]⟩
  · refine .inr ⟨g, cap, cur, rfl, hg, rowAt_of_heap hh, ?_, fun i hi => ?_⟩
    · rw [hs]; exact Nat.mul_le_mul_right sz hn
    · have h1 : cur[i]? = (cur.toList.take (n * sz))[i]? := by rw [List.getElem?_take, if_pos hi, Array.getElem?_toList]
      rw [h1, ht]
      simp [cellsTo, hi]
theorem owns_kept {w w' : World} {base B : Nat} {e : TypeId} {size : Nat} {v : Value} {n : Nat} {xs : List Value} (h : w.ownsRow base e size v n xs) (b : Below B w w') (hB : w.heap.size ≤ B) : w'.ownsRow base e size v n xs := by
  obtain ⟨hl, h | ⟨g, cap, cur, rfl, hg, hh, hr⟩⟩ := h
  · exact ⟨hl, .inl h⟩
  · exact ⟨hl, .inr ⟨g, cap, cur, rfl, hg, (b.block g (Nat.lt_of_lt_of_le (Array.getElem?_eq_some_iff.1 hh).1 hB)).trans hh, hr⟩⟩
theorem owns_setCell {w : World} {base : Nat} {e : TypeId} {size : Nat} {v : Value} {n : Nat} {xs : List Value} (h : w.ownsRow base e size v n xs) {m : Nat} (hm : m < base) (o : Nat) (x : Value) : (w.setCell ⟨m, o, none⟩ x).ownsRow base e size v n xs := by
  obtain ⟨hl, h | ⟨g, cap, cur, rfl, hg, hh, hr⟩⟩ := h
  · exact ⟨hl, .inl h⟩
  · exact ⟨hl, .inr ⟨g, cap, cur, rfl, hg, (heap_setCell_other w ⟨m, o, none⟩ g x (by simp; omega)).trans hh, hr⟩⟩
theorem owns_base' {W : World} {base : Nat} {e : TypeId} {size n : Nat} {v : Value} {xs : List Value} (h : W.ownsRow base e size v n xs) : ∀ x, v.ownBlock = some x → base ≤ x := fun x hx => by
  obtain ⟨_, ⟨rfl, _⟩ | ⟨g, cap, cur, rfl, hg, _⟩⟩ := h
  · simp [Value.ownBlock] at hx
  · obtain rfl : g = x := by simpa [Value.ownBlock] using hx
    exact hg
theorem owns_shape {W : World} {base : Nat} {e : TypeId} {size n : Nat} {v : Value} {xs : List Value} (h : W.ownsRow base e size v n xs) : ∃ a cap, v = .slice a n cap := by
  obtain ⟨_, ⟨rfl, rfl⟩ | ⟨g, cap, cur, rfl, hg, _⟩⟩ := h
  · exact ⟨none, 0, rfl⟩
  · exact ⟨_, cap, rfl⟩
/-- A row below the grown list's base stays. -/
theorem grown_below {w w' : World} {row : Option Nat} {base : Nat} (h : w.grownBy w' row) {n : Nat} (hn : n < w.heap.size) (hr : ∀ x, row = some x → base ≤ x) (hb : n < base) : rowAt w' n = rowAt w n := by
  unfold rowAt
  rw [h.block n hn (fun e => by have := hr n e.symm; omega)]
theorem cells_new2 {w : World} {n : Nat} (hn : n = w.heap.size) (a b : Value) (t : TypeId) : ∀ j u, ([a, b] : List Value)[j]? = some u → (w.alloc (.cells #[a, b] t)).cell? ((⟨n, 0, none⟩ : Addr).add j) = some u := by
  subst hn
  exact cell_two_new _ _ _ _
/-- append to a list of the call's own, as one step of a region that draws its order. -/
theorem step_append_own {P : Program} {ops : Array Oper} {o : Oper} {a : Act} {w : World} {K : Act → World → Prop} {Q : Exit → Act → World → Prop} {E : Prop}
    (hg : o.guard = none) (s x : Operand) (t : TypeId) (hop : o.op = Op.call { callee := Callee.builtin Builtin.append, args := #[s, x], argTypes := #[t, t] })
    (base : Nat) (e : TypeId) (i : TypeInfo) (z : Value) (size bytes : Nat) (h1 : P.underlying t = some (.slice e)) (h2 : P.info? e = some i) (h3 : i.zero = some z) (h4 : i.size = size) (h5 : i.bytes = bytes) (h6 : z.cells.size = size) (h7 : 0 < size)
    (v : Value) (n : Nat) (xs : List Value) (hs : a.eval s = v) (hown : w.ownsRow base e size v n xs)
    (ad : Addr) (m c : Nat) (news : List Value) (hx : a.eval x = .slice (some ad) m c) (hn : news.length = m * size) (hc : ∀ j u, news[j]? = some u → w.cell? (ad.add j) = some u) (h1c : ∀ u ∈ news, u.oneCell' = true)
    (b1 : n + m ≤ maxLen) (b2 : (n + m) * bytes ≤ 140737488355328) (hb : base ≤ w.heap.size)
    (hK : ∀ v' w', w'.ownsRow base e size v' (n + m) (xs ++ news) → w.grownBy w' v.ownBlock → K (a.put o.dst v') w') :
    if Region.wanted o (yielded ops a.tmps) = true then Oper.wp P o a w K Q else E := by
  have hw : Region.wanted o (yielded ops a.tmps) = true := by simp [Region.wanted, hg]
  rw [if_pos hw]
  obtain ⟨v', w', hrun, r1, r2, _⟩ := run_append_own (P := P) w base t o.type e i z size bytes h1 h2 h3 h4 h5 h6 h7 v n xs hown ad m c news hn hc h1c b1 b2 hb
  unfold Oper.wp
  simp [execOp, hop, resolve, invoke, builtin, hs, hx, hrun, Result.andThen]
  exact hK v' w' r1 r2
theorem owns_zero (w : World) (e : TypeId) (size : Nat) : (w.alloc (.cells #[] e)).ownsRow w.heap.size e size (.slice (some ⟨w.heap.size, 0, none⟩) 0 0) 0 [] :=
  ⟨by simp, .inr ⟨_, 0, #[], rfl, Nat.le_refl _, heap_alloc_new w _, Nat.le_refl _, Nat.zero_le _, by simp, by simp⟩⟩
end Go.Proofs.YtgdhfcpmeaeioaaDoor
