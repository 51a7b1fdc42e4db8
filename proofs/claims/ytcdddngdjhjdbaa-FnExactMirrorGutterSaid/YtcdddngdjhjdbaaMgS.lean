/- MirrorGutter: the document's side. -/
import Derived.Test.YtcdddngdjhjdbaaMgM
namespace Go.Proofs.Ytcdddngdjhjdbaa
open Go.RowKit

/-- What stands of the other gutter when k cells have been gone through. -/
def Gt.stg (g : Gt) (N k : Nat) : Gt where
  n := g.n
  d := g.d
  h i := if i < N ∧ N - 1 - i < k then g.h (N - 1 - i) else 0
  l := (g.mirL N k : Nat)
  m := 0
  p _ := 0
theorem IsGut.stg_h {cu : Array Value} {g : Gt} {N k r : Nat} {v : Value} (h : IsGut cu (g.stg N k) v) (hk : k + r + 1 = N) (hN : N ≤ 17) (hb : -128 ≤ g.h k ∧ g.h k ≤ 127) :
    IsGut (cu.setIfInBounds (2 + r) (.int .i8 (g.h k))) { g.stg N (k + 1) with l := (g.mirL N k : Nat) } v := by
  have hs := h.size
  refine IsGut.of_get (by simpa using hs) ?_ ?_ (fun i hi => ?_) ?_ ?_ ⟨h.n0, h.n1⟩ ⟨h.d0, h.d1⟩ (fun i hi => ?_) ⟨h.l0, h.l1⟩ h.p0 h.vs
  · rw [Array.getElem?_setIfInBounds_ne (by omega)]; exact h.get0
  · rw [Array.getElem?_setIfInBounds_ne (by omega)]; exact h.get1
  · by_cases e : i = r
    · subst e
      rw [Array.getElem?_setIfInBounds_self_of_lt (by omega)]
      show some (Value.int .i8 (g.h k)) = some (.int .i8 (if i < N ∧ N - 1 - i < k + 1 then g.h (N - 1 - i) else 0))
      rw [if_pos (by omega), show N - 1 - i = k by omega]
    · rw [Array.getElem?_setIfInBounds_ne (by omega), h.getH hi]
      show some (Value.int .i8 (if i < N ∧ N - 1 - i < k then g.h (N - 1 - i) else 0)) = some (.int .i8 (if i < N ∧ N - 1 - i < k + 1 then g.h (N - 1 - i) else 0))
      by_cases q : i < N ∧ N - 1 - i < k
      · rw [if_pos q, if_pos (by omega)]
      · rw [if_neg q, if_neg (by omega)]
  · rw [Array.getElem?_setIfInBounds_ne (by omega)]; exact h.getL
  · rw [Array.getElem?_setIfInBounds_ne (by omega)]; exact h.getP
  · have b0 := h.h0 i hi
    have b1 := h.h1 i hi
    show -128 ≤ (if i < N ∧ N - 1 - i < k + 1 then g.h (N - 1 - i) else 0) ∧ (if i < N ∧ N - 1 - i < k + 1 then g.h (N - 1 - i) else 0) ≤ 127
    by_cases e : i = r
    · subst e; rw [if_pos (by omega), show N - 1 - i = k by omega]; exact hb
    · have b0 : -128 ≤ (if i < N ∧ N - 1 - i < k then g.h (N - 1 - i) else 0) := b0
      have b1 : (if i < N ∧ N - 1 - i < k then g.h (N - 1 - i) else 0) ≤ 127 := b1
      by_cases q : i < N ∧ N - 1 - i < k
      · rw [if_pos q] at b0 b1; rw [if_pos (by omega)]; exact ⟨b0, b1⟩
      · rw [if_neg (by omega)]; exact ⟨by omega, by omega⟩
theorem IsGut.setL {cu : Array Value} {g : Gt} {v : Value} (h : IsGut cu g v) {l : Nat} (hl : l < 2 ^ 32) : IsGut (cu.setIfInBounds 19 (.int .u32 (l : Int))) { g with l := (l : Int) } v := by
  have hs := h.size
  refine IsGut.of_get (by simpa using hs) ?_ ?_ (fun i hi => ?_) ?_ ?_ ⟨h.n0, h.n1⟩ ⟨h.d0, h.d1⟩ (fun i hi => ⟨h.h0 i hi, h.h1 i hi⟩) (show 0 ≤ (l : Int) ∧ (l : Int) ≤ 4294967295 by omega) h.p0 h.vs
  · rw [Array.getElem?_setIfInBounds_ne (by omega)]; exact h.get0
  · rw [Array.getElem?_setIfInBounds_ne (by omega)]; exact h.get1
  · rw [Array.getElem?_setIfInBounds_ne (by omega)]; exact h.getH hi
  · rw [Array.getElem?_setIfInBounds_self_of_lt (by omega)]
  · rw [Array.getElem?_setIfInBounds_ne (by omega)]; exact h.getP

theorem IsGut.p_any {c : Array Value} {g : Gt} {v : Value} (h : IsGut c g v) (hm : g.m = 0) (p' : Nat → Int) : IsGut c { g with m := 0, p := p' } v where
  size := h.size
  cells := h.cells
  deep := h.deep
  heights := h.heights
  leaves := h.leaves
  pipes := h.pipes
  n0 := h.n0
  n1 := h.n1
  d0 := h.d0
  d1 := h.d1
  h0 := h.h0
  h1 := h.h1
  l0 := h.l0
  l1 := h.l1
  p0 := fun i hi => absurd hi (Nat.not_lt_zero i)
  vs := by rw [← hm]; exact h.vs
/-- Another list of pipes. -/
theorem IsGut.newP {c : Array Value} {g : Gt} {v : Value} (h : IsGut c g v) (p' : Nat → Int) (q : Nat) (a : Option Addr) (cap : Nat) (hp : pipeB p' q) : IsGut (c.setIfInBounds 20 (.slice a q cap)) { g with m := q, p := p' } (.slice a q cap) := by
  have hs := h.size
  refine IsGut.of_get (by simpa using hs) ?_ ?_ (fun i hi => ?_) ?_ ?_ ⟨h.n0, h.n1⟩ ⟨h.d0, h.d1⟩ (fun i hi => ⟨h.h0 i hi, h.h1 i hi⟩) ⟨h.l0, h.l1⟩ hp ⟨_, _, rfl⟩
  · rw [Array.getElem?_setIfInBounds_ne (by omega)]; exact h.get0
  · rw [Array.getElem?_setIfInBounds_ne (by omega)]; exact h.get1
  · rw [Array.getElem?_setIfInBounds_ne (by omega)]; exact h.getH hi
  · rw [Array.getElem?_setIfInBounds_ne (by omega)]; exact h.getL
  · rw [Array.getElem?_setIfInBounds_self_of_lt (by omega)]
theorem pipesV_succ (f : Nat → Int) (n : Nat) : pipesV f n ++ [.int .i8 (f (n * 2)), .int .i16 (f (n * 2 + 1))] = pipesV f (n + 1) := by
  unfold pipesV
  rw [show (n + 1) * 2 = n * 2 + 1 + 1 by omega, List.range_succ, List.range_succ, List.map_append, List.map_append, List.map_singleton, List.map_singleton, pipeV_0, pipeV_1]
  simp
/-- The pipes of a gutter with left and right exchanged fit. -/
theorem Gt.mir_p {g : Gt} (h : g.Ok) : ∀ q, q ≤ g.m → pipeB g.mir.p q := fun q hq i hi => by
  have h1 := h.ps (g.m - 1 - i) (by omega)
  unfold Gt.pOk at h1
  have n17 := h.n17
  have e0 : g.mir.p (i * 2) = g.n - 1 - g.p ((g.m - 1 - i) * 2) := by
    show (if i * 2 % 2 = 0 then _ else _) = _
    rw [if_pos (by omega), show i * 2 / 2 = i by omega]
  have e1 : g.mir.p (i * 2 + 1) = g.p ((g.m - 1 - i) * 2 + 1) := by
    show (if (i * 2 + 1) % 2 = 0 then _ else _) = _
    rw [if_neg (by omega), show (i * 2 + 1) / 2 = i by omega]
  rw [e0, e1]
  omega
def hdG (n d : Int) : Array Value := #[.int .i8 n, .int .i16 d, .int .i8 0, .int .i8 0, .int .i8 0, .int .i8 0, .int .i8 0, .int .i8 0, .int .i8 0, .int .i8 0, .int .i8 0, .int .i8 0, .int .i8 0, .int .i8 0, .int .i8 0, .int .i8 0, .int .i8 0, .int .i8 0, .int .i8 0, .int .u32 0, .slice none 0 0]
theorem hdG_is {g : Gt} {N : Nat} (h1 : -128 ≤ g.n ∧ g.n ≤ 127) (h2 : -32768 ≤ g.d ∧ g.d ≤ 32767) : IsGut (hdG g.n g.d) (g.stg N 0) (.slice none 0 0) := by
  refine IsGut.of_get rfl rfl rfl (fun i hi => ?_) rfl rfl h1 h2 (fun i hi => ?_) (show (0 : Int) ≤ 0 ∧ (0 : Int) ≤ 4294967295 by omega) (fun i hi => absurd hi (Nat.not_lt_zero i)) ⟨_, _, rfl⟩
  · show _ = some (Value.int .i8 (if i < N ∧ N - 1 - i < 0 then g.h (N - 1 - i) else 0))
    rw [if_neg (by omega)]
    match i with
    | 0 => rfl
    | 1 => rfl
    | 2 => rfl
    | 3 => rfl
    | 4 => rfl
    | 5 => rfl
    | 6 => rfl
    | 7 => rfl
    | 8 => rfl
    | 9 => rfl
    | 10 => rfl
    | 11 => rfl
    | 12 => rfl
    | 13 => rfl
    | 14 => rfl
    | 15 => rfl
    | 16 => rfl
    | n + 17 => omega
  · show -128 ≤ (if i < N ∧ N - 1 - i < 0 then g.h (N - 1 - i) else 0) ∧ (if i < N ∧ N - 1 - i < 0 then g.h (N - 1 - i) else 0) ≤ 127
    rw [if_neg (by omega)]; omega
theorem Gt.stg_end {g : Gt} {N : Nat} (hN : g.n = N) : ({ g.stg N N with m := g.m, p := g.mir.p } : Gt) = g.mir := by
  have hn : g.n.toNat = N := by omega
  have hh : (g.stg N N).h = g.mir.h := funext fun i => by
    show (if i < N ∧ N - 1 - i < N then g.h (N - 1 - i) else 0) = (if (i : Int) < g.n then g.h (g.n.toNat - 1 - i) else 0)
    rw [hn]
    by_cases q : i < N
    · rw [if_pos (by omega), if_pos (by omega)]
    · rw [if_neg (by omega), if_neg (by omega)]
  have hl : (g.stg N N).l = g.mir.l := by
    show ((g.mirL N N : Nat) : Int) = ((g.mirL g.n.toNat g.n.toNat : Nat) : Int)
    rw [hn]
  show Gt.mk (g.stg N N).n (g.stg N N).d (g.stg N N).h (g.stg N N).l g.m g.mir.p = g.mir
  rw [hh, hl]
  rfl
theorem IsList.setRowV {w : World} {b sz n : Nat} {v : Value} {f : Nat → Value} (h : IsList w b v sz n f) {k : Nat} (hk : k < b) (c : Array Value) : IsList (w.setRow k c) b v sz n f := by
  rcases h with h | ⟨g, cap, cur, rfl, hg, hr, hs, hf⟩
  · exact .inl h
  · exact .inr ⟨g, cap, cur, rfl, hg, (rowAt_setRow_ne _ _ _ _ (by omega)).trans hr, hs, hf⟩
theorem owns_cellV {w : World} {base : Nat} {e : TypeId} {size : Nat} {v : Value} {n : Nat} {xs : List Value} (h : w.ownsRow base e size v n xs) {m : Nat} (hm : m < base) (o : Nat) (u : Value) : (w.setCell ⟨m, o, none⟩ u).ownsRow base e size v n xs := by
  obtain ⟨hl, h | ⟨g, cap, cur, rfl, hg, hh, hr⟩⟩ := h
  · exact ⟨hl, .inl h⟩
  · exact ⟨hl, .inr ⟨g, cap, cur, rfl, hg, (heap_setCell_other w ⟨m, o, none⟩ g u (show g ≠ m by omega)).trans hh, hr⟩⟩
end Go.Proofs.Ytcdddngdjhjdbaa
