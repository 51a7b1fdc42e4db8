/- MirrorGutter: the pipes that have been taken, and what stays under other blocks. -/
import Derived.Test.YtcdddngdjhjdbaaMgS
import Derived.Test.YtcdddngdjhjdbaaBkw
namespace Go.Proofs.Ytcdddngdjhjdbaa
open Go.RowKit Go.Shelf

/-- The cells of the pipes that have been taken. -/
def pfB (g : Gt) (pre : List (Bk g.m)) (i : Nat) : Int :=
  match pre[i / 2]? with
  | some x => if i % 2 = 0 then g.n - 1 - g.p ((g.m - 1 - x.1) * 2) else g.p ((g.m - 1 - x.1) * 2 + 1)
  | none => 0
theorem pfB_at {g : Gt} {pre : List (Bk g.m)} {k : Nat} {x : Bk g.m} (h : pre[k]? = some x) : pfB g pre (k * 2) = g.n - 1 - g.p ((g.m - 1 - x.1) * 2) ∧ pfB g pre (k * 2 + 1) = g.p ((g.m - 1 - x.1) * 2 + 1) := by
  unfold pfB
  rw [show k * 2 / 2 = k by omega, show (k * 2 + 1) / 2 = k by omega, h]
  simp
theorem pipesV_congr {f f' : Nat → Int} {n : Nat} (h : ∀ i, i < n * 2 → f i = f' i) : pipesV f n = pipesV f' n := by
  unfold pipesV
  refine List.map_congr_left fun i hi => ?_
  unfold pipeV
  rw [h i (List.mem_range.1 hi)]
theorem pfB_snoc (g : Gt) (pre : List (Bk g.m)) (x : Bk g.m) : pipesV (pfB g (pre ++ [x])) (pre ++ [x]).length = pipesV (pfB g pre) pre.length ++ [.int .i8 (g.n - 1 - g.p ((g.m - 1 - x.1) * 2)), .int .i16 (g.p ((g.m - 1 - x.1) * 2 + 1))] := by
  have hl : (pre ++ [x]).length = pre.length + 1 := by simp
  have hx : (pre ++ [x])[pre.length]? = some x := by simp
  obtain ⟨h1, h2⟩ := pfB_at hx
  rw [hl, ← pipesV_succ, h1, h2]
  congr 1
  refine pipesV_congr fun i hi => ?_
  unfold pfB
  rw [List.getElem?_append_left (by omega)]
theorem pfB_bd {g : Gt} (hO : g.Ok) (pre : List (Bk g.m)) : pipeB (pfB g pre) pre.length := fun i hi => by
  obtain ⟨h1, h2⟩ := pfB_at (List.getElem?_eq_getElem hi)
  have hp := hO.ps (g.m - 1 - (pre[i]).1) (by have := (pre[i]).2; omega)
  unfold Gt.pOk at hp
  have n17 := hO.n17
  rw [h1, h2]
  omega
theorem bkUpto_get (m : Nat) : ∀ k, k ≤ m → ∀ i (_h : i < k), ∃ q, (bkUpto m k)[i]? = some ⟨i, q⟩
  | 0, _, i, h => by omega
  | k + 1, hk, i, h => by
    have hl := bkUpto_len m k (by omega)
    rw [bkUpto_succ (show k < m by omega)]
    by_cases e : i = k
    · subst e
      exact ⟨by omega, by rw [List.getElem?_append_right (by omega), hl]; simp⟩
    · obtain ⟨q, hq⟩ := bkUpto_get m k (by omega) i (by omega)
      exact ⟨q, by rw [List.getElem?_append_left (by omega)]; exact hq⟩
theorem pfB_end (g : Gt) : ∀ i, i < g.m * 2 → pfB g (bkUpto g.m g.m) i = g.mir.p i := fun i hi => by
  obtain ⟨q, hq⟩ := bkUpto_get g.m g.m (Nat.le_refl _) (i / 2) (by omega)
  unfold pfB
  rw [hq]
  rfl
theorem IsGut.p_new {c : Array Value} {g : Gt} {v : Value} (h : IsGut c g v) (p' : Nat → Int) (hp : pipeB p' g.m) : IsGut c { g with p := p' } v where
  size := h.size
  cells := h.cells
  deep := h.deep
  heights := h.heights
  leaves := h.leaves
  pipes := h.pipes
  n0 := h.n0
  n1 := h.n1
  d0 := h.d0
  d1 := h.d1
  h0 := h.h0
  h1 := h.h1
  l0 := h.l0
  l1 := h.l1
  p0 := hp
  vs := h.vs
theorem rowAt_ownG {W W' : World} {row : Option Nat} {k : Nat} {c : Array Value} (h : rowAt W k = some c) (hg : W.grownBy W' row) (hr : ∀ r, row = some r → ∃ o : Obj, W.heap[r]? = some o ∧ o.isCells = false) : rowAt W' k = some c := by
  obtain ⟨t, ht⟩ := rowAt_some h
  refine rowAt_of_heap (t := t) ((hg.block k (Array.getElem?_eq_some_iff.1 ht).1 (fun e => ?_)).trans ht)
  obtain ⟨o, ho, hc⟩ := hr k e.symm
  rw [ht] at ho
  cases ho
  cases hc
theorem owns_ownG {W W' : World} {row : Option Nat} {b n s : Nat} {e : TypeId} {v : Value} {xs : List Value} (h : W.ownsRow b e s v n xs) (hg : W.grownBy W' row) (hr : ∀ r, row = some r → ∃ o : Obj, W.heap[r]? = some o ∧ o.isCells = false) : W'.ownsRow b e s v n xs := by
  obtain ⟨hl, h | ⟨g, cap, cur, rfl, hgb, hh, hx⟩⟩ := h
  · exact ⟨hl, .inl h⟩
  · refine ⟨hl, .inr ⟨g, cap, cur, rfl, hgb, (hg.block g (Array.getElem?_eq_some_iff.1 hh).1 (fun e => ?_)).trans hh, hx⟩⟩
    obtain ⟨o, ho, hc⟩ := hr g e.symm
    rw [hh] at ho
    cases ho
    cases hc
/-- The gutter but for its pipes. -/
def Gt.st2 (g : Gt) : Gt := ⟨g.n, g.d, g.mir.h, g.mir.l, 0, fun _ => 0⟩
theorem Gt.st2_end (g : Gt) : ({ g.st2 with m := g.m, p := g.mir.p } : Gt) = g.mir := rfl
end Go.Proofs.Ytcdddngdjhjdbaa
