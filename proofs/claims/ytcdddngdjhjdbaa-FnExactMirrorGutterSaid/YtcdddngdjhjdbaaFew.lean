/- FewestPipes: both sides. -/
import Derived.Test.YtcdddngdjhjdbaaEnd6
namespace Go.Proofs.Ytcdddngdjhjdbaa
open Go.RowKit

/-- The numbers below n of which P holds, as values. -/
def pickV (P : Nat → Bool) (n : Nat) : List Value := ((List.range n).filter P).map fun (i : Nat) => .int .i64 (i : Int)
def pickN (P : Nat → Bool) (n : Nat) : Nat := ((List.range n).filter P).length
def pickF (P : Nat → Bool) (n i : Nat) : Int := (((List.range n).filter P).getD i 0 : Nat)
theorem pickV_t {P : Nat → Bool} {n : Nat} (h : P n = true) : pickV P n ++ [.int .i64 n] = pickV P (n + 1) := by simp [pickV, List.range_succ, List.filter_append, h]
theorem pickV_f {P : Nat → Bool} {n : Nat} (h : P n = false) : pickV P (n + 1) = pickV P n := by simp [pickV, List.range_succ, List.filter_append, h]
theorem pickN_t {P : Nat → Bool} {n : Nat} (h : P n = true) : pickN P (n + 1) = pickN P n + 1 := by simp [pickN, List.range_succ, List.filter_append, h]
theorem pickN_f {P : Nat → Bool} {n : Nat} (h : P n = false) : pickN P (n + 1) = pickN P n := by simp [pickN, List.range_succ, List.filter_append, h]
theorem pickN_le (P : Nat → Bool) (n : Nat) : pickN P n ≤ n := by
  have := List.length_filter_le P (List.range n)
  rw [List.length_range] at this
  exact this
theorem IsList.of_pick {w : World} {base n : Nat} {e : TypeId} {v : Value} {P : Nat → Bool} (h : w.ownsRow base e 1 v (pickN P n) (pickV P n)) : IsList w base v 1 (pickN P n) fun i => .int .i64 (pickF P n i) := by
  obtain ⟨hl, h | ⟨g, cap, cur, rfl, hg, hh, hn, hm, hs, ht⟩⟩ := h
  · exact .inl ⟨h.2, none, 0, by rw [h.1]⟩
  · refine .inr ⟨g, cap, cur, rfl, hg, rowAt_of_heap hh, by omega, fun i hi => ?_⟩
    have h1 : cur[i]? = (cur.toList.take (pickN P n * 1))[i]? := by rw [List.getElem?_take, if_pos hi, Array.getElem?_toList]
    have h2 : i < ((List.range n).filter P).length := by unfold pickN at hi; omega
    show _ = some (Value.int .i64 (pickF P n i))
    unfold pickF
    rw [h1, ht, pickV, List.getElem?_map, List.getD_eq_getElem?_getD, List.getElem?_eq_getElem h2]; rfl

theorem rowAt_grown {w w' : World} {row : Option Nat} {k : Nat} {c : Array Value} (h : w.grownBy w' row) (hr : rowAt w k = some c) (hne : row ≠ some k) : rowAt w' k = some c := by
  rw [← hr]; unfold rowAt; rw [h.block k (rowAt_lt hr) (Ne.symm hne)]
/-- The gutter without its pipes. -/
def Gt.plain (g : Gt) : Gt := { g with m := 0 }
theorem Gt.plain_n (g : Gt) : g.plain.n = g.n := rfl
theorem Gt.plain_m (g : Gt) : g.plain.m = 0 := rfl
theorem Gt.plain_ok {g : Gt} (h : g.Ok) : g.plain.Ok := ⟨h.n1, h.n17, h.d0, h.d1, h.lv, by rw [Gt.plain_m]; omega, h.hs, fun i hi => by rw [Gt.plain_m] at hi; omega⟩
theorem IsGut.plain {c : Array Value} {g : Gt} {v : Value} (h : IsGut c g v) (a : Option Addr) (cap : Nat) : IsGut (Proofs.Ytcdddngdjhjdbaa.setP c (.slice a 0 cap)) g.plain (.slice a 0 cap) := by
  have hs := h.size
  refine IsGut.of_get (by simpa using hs) ?_ ?_ (fun i hi => ?_) ?_ ?_ ⟨h.n0, h.n1⟩ ⟨h.d0, h.d1⟩ (fun i hi => ⟨h.h0 i hi, h.h1 i hi⟩) ⟨h.l0, h.l1⟩ (fun i hi => by rw [Gt.plain_m] at hi; omega) ⟨a, cap, rfl⟩
  · unfold Proofs.Ytcdddngdjhjdbaa.setP; rw [Array.getElem?_setIfInBounds_ne (by omega)]; exact h.get0
  · unfold Proofs.Ytcdddngdjhjdbaa.setP; rw [Array.getElem?_setIfInBounds_ne (by omega)]; exact h.get1
  · unfold Proofs.Ytcdddngdjhjdbaa.setP; rw [Array.getElem?_setIfInBounds_ne (by omega)]; exact h.getH hi
  · unfold Proofs.Ytcdddngdjhjdbaa.setP; rw [Array.getElem?_setIfInBounds_ne (by omega)]; exact h.getL
  · unfold Proofs.Ytcdddngdjhjdbaa.setP; rw [Array.getElem?_setIfInBounds_self_of_lt (by omega)]
/-- A cell that flows to no other one, were there no pipes. -/
noncomputable def Gt.sink (g : Gt) (j : Nat) : Bool := decide (g.plain.to j < 0)
theorem Gt.sink_eq {g : Gt} {j : Nat} (hj : (j : Int) < g.n) : g.sink j = decide (g.plain.to j = -1) := by
  unfold Gt.sink
  rcases Gt.to_cases (g := g.plain) (j := j) (by rw [Gt.plain_n]; exact hj) with h | ⟨q, hq, _, _⟩
  · rw [h]; rfl
  · rw [hq, decide_eq_decide]; omega
noncomputable def Gt.fewN (g : Gt) : Nat := if g.ok = true then pickN g.sink g.n.toNat else 0
theorem Gt.fewN_t {g : Gt} (h : g.ok = true) : g.fewN = pickN g.sink g.n.toNat := if_pos h
theorem Gt.fewN_f {g : Gt} (h : g.ok = false) : g.fewN = 0 := if_neg (by simp [h])
theorem Gt.fewN_le (g : Gt) : g.fewN ≤ 2000000 := by
  cases h : g.ok with
  | true => have := (Gt.Ok_of h).n17; rw [Gt.fewN_t h]; have := pickN_le g.sink g.n.toNat; omega
  | false => rw [Gt.fewN_f h]; omega

end Go.Proofs.Ytcdddngdjhjdbaa
