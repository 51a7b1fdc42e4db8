/- Lists of numbers that grow, told by a function. -/
import Derived.Test.YtcdddngdjhjdbaaLs
import Derived.Maps.AppendAt
import Derived.OwnWalk
namespace Go.Proofs.Ytcdddngdjhjdbaa
open Go.RowKit

def intsV (f : Nat → Int) (n : Nat) : List Value := (List.range n).map fun i => .int .i64 (f i)
theorem intsV_succ (f : Nat → Int) (n : Nat) : intsV f n ++ [.int .i64 (f n)] = intsV f (n + 1) := by simp [intsV, List.range_succ]
theorem IsList.of_intsV {w : World} {base n : Nat} {e : TypeId} {v : Value} {f : Nat → Int} (h : w.ownsRow base e 1 v n (intsV f n)) : IsList w base v 1 n fun i => .int .i64 (f i) := by
  obtain ⟨hl, h | ⟨g, cap, cur, rfl, hg, hh, hn, hm, hs, ht⟩⟩ := h
  · exact .inl ⟨h.2, none, 0, by rw [h.1]⟩
  · refine .inr ⟨g, cap, cur, rfl, hg, rowAt_of_heap hh, by omega, fun i hi => ?_⟩
    have h1 : cur[i]? = (cur.toList.take (n * 1))[i]? := by rw [List.getElem?_take, if_pos hi, Array.getElem?_toList]
    rw [h1, ht]
    rw [intsV, List.getElem?_map, List.getElem?_range (by omega)]; rfl
theorem A_infoIw : (Try.prog.info? 2).map (fun i => (i.zero, i.size, i.bytes)) = some (some (.int .i64 0), 1, 8) := by kernel_rfl
end Go.Proofs.Ytcdddngdjhjdbaa
