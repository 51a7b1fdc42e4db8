/- Lists of a call's own by their block: one is written, the others stay. The laws' helpers that mark and hold, from any number on. -/
import Derived.Test.YtppohghejhcilaaDoorList
namespace Go.Proofs.YtppohghejhcilaaDoor
open Go.RowKit

/-- v is a list of n elements of sz cells each; its block is g. -/
def Ls (w : World) (g : Nat) (v : Value) (sz n : Nat) (f : Nat → Value) : Prop :=
  (n = 0 ∧ ∃ a cap, v = .slice a 0 cap) ∨ ∃ cap cur, v = .slice (some ⟨g, 0, none⟩) n cap ∧ rowAt w g = some cur ∧ n * sz ≤ cur.size ∧ ∀ i, i < n * sz → cur[i]? = some (f i)
/-- Of the blocks of w only g has changed. -/
structure Only (g : Nat) (w W : World) : Prop where
  below : Below g w W
  size : W.heap.size = w.heap.size
  other : ∀ k, k ≠ g → W.heap[k]? = w.heap[k]?
theorem Only.refl (g : Nat) (w : World) : Only g w w := ⟨Below.refl _ _, rfl, fun _ _ => rfl⟩
theorem Only.set {g : Nat} {w W : World} (h : Only g w W) (o : Nat) (v : Value) : Only g w (W.setCell ⟨g, o, none⟩ v) :=
  ⟨h.below.setCell (p := ⟨g, o, none⟩) (Nat.le_refl _) v, by simpa using h.size, fun k hk => (heap_setCell_other W ⟨g, o, none⟩ k v hk).trans (h.other k hk)⟩
theorem Only.row {g : Nat} {w W : World} (h : Only g w W) {k : Nat} (hk : k ≠ g) : rowAt W k = rowAt w k := by simp [rowAt, h.other k hk]

theorem Ls.shape {w : World} {g : Nat} {v : Value} {sz n : Nat} {f : Nat → Value} (h : Ls w g v sz n f) : ∃ a cap, v = .slice a n cap := by
  rcases h with ⟨rfl, a, cap, rfl⟩ | ⟨cap, cur, rfl, _⟩
  · exact ⟨a, cap, rfl⟩
  · exact ⟨_, cap, rfl⟩
theorem IsList.ls {w : World} {base : Nat} {v : Value} {sz n : Nat} {f : Nat → Value} (h : IsList w base v sz n f) : ∃ g, base ≤ g ∧ Ls w g v sz n f := by
  rcases h with ⟨rfl, a, cap, rfl⟩ | ⟨g, cap, cur, rfl, hg, hr, hs, hf⟩
  · exact ⟨base, Nat.le_refl _, .inl ⟨rfl, a, cap, rfl⟩⟩
  · exact ⟨g, hg, .inr ⟨cap, cur, rfl, hr, hs, hf⟩⟩
theorem Ls.list {w : World} {g : Nat} {v : Value} {sz n : Nat} {f : Nat → Value} (h : Ls w g v sz n f) : IsList w 0 v sz n f := by
  rcases h with h | ⟨cap, cur, rfl, hr, hs, hf⟩
  · exact .inl h
  · exact .inr ⟨g, cap, cur, rfl, Nat.zero_le _, hr, hs, hf⟩
theorem Ls.lt {w : World} {g : Nat} {v : Value} {sz n : Nat} {f : Nat → Value} (h : Ls w g v sz n f) : n = 0 ∨ g < w.heap.size := by
  rcases h with ⟨h, _⟩ | ⟨cap, cur, rfl, hr, hs, hf⟩
  · exact .inl h
  · exact .inr (rowAt_lt hr)
/-- An older list lies in another block than a newer one. -/
theorem Ls.ne {w : World} {g : Nat} {v : Value} {sz n : Nat} {f : Nat → Value} (h : Ls w g v sz n f) {k : Nat} (hk : w.heap.size ≤ k) : n = 0 ∨ g ≠ k := h.lt.imp id fun x => by omega
theorem Ls.below {w w' : World} {g B : Nat} {v : Value} {sz n : Nat} {f : Nat → Value} (h : Ls w g v sz n f) (b : Below B w w') (hB : w.heap.size ≤ B) : Ls w' g v sz n f := by
  rcases h with h | ⟨cap, cur, rfl, hr, hs, hf⟩
  · exact .inl h
  · exact .inr ⟨cap, cur, rfl, (rowAt_below b g (Nat.lt_of_lt_of_le (rowAt_lt hr) hB)).trans hr, hs, hf⟩
theorem Ls.only {w w' : World} {g k : Nat} {v : Value} {sz n : Nat} {f : Nat → Value} (h : Ls w g v sz n f) (b : Only k w w') (hk : n = 0 ∨ g ≠ k) : Ls w' g v sz n f := by
  rcases h with h | ⟨cap, cur, rfl, hr, hs, hf⟩
  · exact .inl h
  · rcases hk with rfl | hk
    · exact .inl ⟨rfl, _, cap, rfl⟩
    · exact .inr ⟨cap, cur, rfl, (b.row hk).trans hr, hs, hf⟩

theorem Ls.only_later {w w' : World} {g k nk : Nat} {v : Value} {sz n : Nat} {f : Nat → Value} (h : Ls w g v sz n f) (b : Only k w w') (z : nk = 0 → w' = w) (hk : nk = 0 ∨ k ≠ g) : Ls w' g v sz n f := by
  rcases hk with hk | hk
  · rw [z hk]; exact h
  · exact h.only b (.inr (Ne.symm hk))

/-- The list's row, its first k cells as F tells. -/
def RowUp (av : Option Addr) (W : World) (g n k : Nat) (F : Nat → Value) : Prop := n = 0 ∨ ∃ cur, av = some ⟨g, 0, none⟩ ∧ rowAt W g = some cur ∧ n ≤ cur.size ∧ ∀ i, i < k → cur[i]? = some (F i)

end Go.Proofs.YtppohghejhcilaaDoor
