/- Numbers that are appended one by one. -/
import Derived.Test.YtoibolmippfcgaaAll
namespace Go.Proofs.Ytoibolmippfcgaa
open Go.RowKit
def numsOf (f : Nat → Int) (n : Nat) : List Value := (List.range n).map fun i => .int .i64 (f i)
theorem numsOf_succ (f : Nat → Int) (n : Nat) : numsOf f n ++ [.int .i64 (f n)] = numsOf f (n + 1) := by simp [numsOf, List.range_succ]
theorem numsOf_congr {f g : Nat → Int} {n : Nat} (h : ∀ i, i < n → f i = g i) : numsOf f n = numsOf g n := by
  unfold numsOf
  refine List.map_congr_left fun i hi => ?_
  rw [h i (by simpa using hi)]
theorem IsList.of_nums {w : World} {base n : Nat} {e : TypeId} {v : Value} {f : Nat → Int} (h : w.ownsRow base e 1 v n (numsOf f n)) : IsList w base v 1 n fun i => .int .i64 (f i) := by
  obtain ⟨hl, h | ⟨g, cap, cur, rfl, hg, hh, hn, hm, hs, ht⟩⟩ := h
  · exact .inl ⟨h.2, none, 0, by rw [h.1]⟩
  · refine .inr ⟨g, cap, cur, rfl, hg, rowAt_of_heap hh, by omega, fun i hi => ?_⟩
    have h1 : cur[i]? = (cur.toList.take (n * 1))[i]? := by rw [List.getElem?_take, if_pos hi, Array.getElem?_toList]
    rw [h1, ht]
    rw [numsOf, List.getElem?_map, List.getElem?_range (by omega)]; rfl
theorem cell_num_new (w : World) (v : Value) (t : TypeId) : ∀ j x, [v][j]? = some x → (w.alloc (.cells #[v] t)).cell? ((⟨w.heap.size, 0, none⟩ : Addr).add j) = some x := fun j x h => by
  cases j with
  | zero =>
    simp at h; subst h
    have : (⟨w.heap.size, 0, none⟩ : Addr).add 0 = ⟨w.heap.size, 0, none⟩ := by unfold Addr.add; split <;> simp_all
    rw [this]
    exact (cell_of_rowAt (rowAt_alloc_at w #[v] t _ rfl) 0).trans rfl
  | succ j => simp at h
end Go.Proofs.Ytoibolmippfcgaa
