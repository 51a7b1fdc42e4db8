/- Lists of a call's own by their block: one is written, the others stay. The laws' helpers that mark and hold, from any number on. -/
import Derived.Test.YtcdddngdjhjdbaaList
namespace Go.Proofs.Ytcdddngdjhjdbaa
open Go.RowKit

/-- v is a list of n elements of sz cells each; its block is g. -/
def Ls (w : World) (g : Nat) (v : Value) (sz n : Nat) (f : Nat → Value) : Prop :=
  (n = 0 ∧ ∃ a cap, v = .slice a 0 cap) ∨ ∃ cap cur, v = .slice (some ⟨g, 0, none⟩) n cap ∧ rowAt w g = some cur ∧ n * sz ≤ cur.size ∧ ∀ i, i < n * sz → cur[i]? = some (f i)
/-- Of the blocks of w only g has changed. -/
structure Only (g : Nat) (w W : World) : Prop where
  below : Below g w W
  size : W.heap.size = w.heap.size
  other : ∀ k, k ≠ g → W.heap[k]? = w.heap[k]?
theorem Only.refl (g : Nat) (w : World) : Only g w w := ⟨Below.refl _ _, rfl, fun _ _ => rfl⟩
theorem Only.set {g : Nat} {w W : World} (h : Only g w W) (o : Nat) (v : Value) : Only g w (W.setCell ⟨g, o, none⟩ v) :=
  ⟨h.below.setCell (p := ⟨g, o, none⟩) (Nat.le_refl _) v, by simpa using h.size, fun k hk => (heap_setCell_other W ⟨g, o, none⟩ k v hk).trans (h.other k hk)⟩
theorem Only.row {g : Nat} {w W : World} (h : Only g w W) {k : Nat} (hk : k ≠ g) : rowAt W k = rowAt w k := by simp [rowAt, h.other k hk]

theorem Ls.shape {w : World} {g : Nat} {v : Value} {sz n : Nat} {f : Nat → Value} (h : Ls w g v sz n f) : ∃ a cap, v = .slice a n cap := by
  rcases h with ⟨rfl, a, cap, rfl⟩ | ⟨cap, cur, rfl, _⟩
  · exact ⟨a, cap, rfl⟩
  · exact ⟨_, cap, rfl⟩
theorem IsList.ls {w : World} {base : Nat} {v : Value} {sz n : Nat} {f : Nat → Value} (h : IsList w base v sz n f) : ∃ g, base ≤ g ∧ Ls w g v sz n f := by
  rcases h with ⟨rfl, a, cap, rfl⟩ | ⟨g, cap, cur, rfl, hg, hr, hs, hf⟩
  · exact ⟨base, Nat.le_refl _, .inl ⟨rfl, a, cap, rfl⟩⟩
  · exact ⟨g, hg, .inr ⟨cap, cur, rfl, hr, hs, hf⟩⟩
theorem Ls.list {w : World} {g : Nat} {v : Value} {sz n : Nat} {f : Nat → Value} (h : Ls w g v sz n f) : IsList w 0 v sz n f := by
  rcases h with h | ⟨cap, cur, rfl, hr, hs, hf⟩
  · exact .inl h
  · exact .inr ⟨g, cap, cur, rfl, Nat.zero_le _, hr, hs, hf⟩
theorem Ls.lt {w : World} {g : Nat} {v : Value} {sz n : Nat} {f : Nat → Value} (h : Ls w g v sz n f) : n = 0 ∨ g < w.heap.size := by
  rcases h with ⟨h, _⟩ | ⟨cap, cur, rfl, hr, hs, hf⟩
  · exact .inl h
  · exact .inr (rowAt_lt hr)
/-- An older list lies in another block than a newer one. -/
theorem Ls.ne {w : World} {g : Nat} {v : Value} {sz n : Nat} {f : Nat → Value} (h : Ls w g v sz n f) {k : Nat} (hk : w.heap.size ≤ k) : n = 0 ∨ g ≠ k := h.lt.imp id fun x => by omega
theorem Ls.below {w w' : World} {g B : Nat} {v : Value} {sz n : Nat} {f : Nat → Value} (h : Ls w g v sz n f) (b : Below B w w') (hB : w.heap.size ≤ B) : Ls w' g v sz n f := by
  rcases h with h | ⟨cap, cur, rfl, hr, hs, hf⟩
  · exact .inl h
  · exact .inr ⟨cap, cur, rfl, (rowAt_below b g (Nat.lt_of_lt_of_le (rowAt_lt hr) hB)).trans hr, hs, hf⟩
theorem Ls.only {w w' : World} {g k : Nat} {v : Value} {sz n : Nat} {f : Nat → Value} (h : Ls w g v sz n f) (b : Only k w w') (hk : n = 0 ∨ g ≠ k) : Ls w' g v sz n f := by
  rcases h with h | ⟨cap, cur, rfl, hr, hs, hf⟩
  · exact .inl h
  · rcases hk with rfl | hk
    · exact .inl ⟨rfl, _, cap, rfl⟩
    · exact .inr ⟨cap, cur, rfl, (b.row hk).trans hr, hs, hf⟩

theorem Ls.only_later {w w' : World} {g k nk : Nat} {v : Value} {sz n : Nat} {f : Nat → Value} (h : Ls w g v sz n f) (b : Only k w w') (z : nk = 0 → w' = w) (hk : nk = 0 ∨ k ≠ g) : Ls w' g v sz n f := by
  rcases hk with hk | hk
  · rw [z hk]; exact h
  · exact h.only b (.inr (Ne.symm hk))

/-- The list's row, its first k cells as F tells. -/
def RowUp (av : Option Addr) (W : World) (g n k : Nat) (F : Nat → Value) : Prop := n = 0 ∨ ∃ cur, av = some ⟨g, 0, none⟩ ∧ rowAt W g = some cur ∧ n ≤ cur.size ∧ ∀ i, i < k → cur[i]? = some (F i)

set_option maxHeartbeats 400000 in
theorem markI (n : Nat) (f : Nat → Value) (v : Value) (g m : Nat) (w : World) (hv : Ls w g v 1 n f) (hn : n ≤ 2000000) (hm : m ≤ 100000000) :
    Calls Try.prog 12 #[v, .int .i64 m] w fun e w' => e = .returned (.int .i64 ((m + n : Nat) : Int)) ∧ Ls w' g v 1 n (fun i => .int .i64 ((m + i : Nat) : Int)) ∧ Only g w w' ∧ (n = 0 → w' = w) := by
  have HV := Lib.hid hv
  obtain ⟨av, cv, rfl⟩ := hv.shape
  clear hv
  go_enter Try.func12, Try.ntmps12
  go_wp2_with fail
  go_loopw [1, 5] (fun p i W => ∃ k : Nat, k ≤ n ∧ i = .int .i64 k ∧ p = .int .i64 ((m + k : Nat) : Int) ∧ Hid (Only g w W ∧ (n = 0 → W = w)) ∧ RowUp av W g n k (fun i => .int .i64 ((m + i : Nat) : Int))) (fun _ i _ => n - (intOf i).toNat)
  case atStart =>
    refine ⟨0, by omega, rfl, rfl, Lib.hid ⟨Only.refl _ _, fun _ => rfl⟩, ?_⟩
    rcases HV.out with ⟨h0, _⟩ | ⟨cap, cur, e1, hr, hs, hf⟩
    · exact .inl h0
    · cases e1
      exact .inr ⟨cur, rfl, hr, by omega, by omega⟩
  case round =>
    obtain ⟨k, hk, rfl, rfl, hB, hrow⟩ := hrel
    by_cases hlt : k < n
    · rcases hrow with h0 | ⟨cur, rfl, hr, hs, hf⟩
      · omega
      have hcell := cell_of_rowAt hr
      have hfro := frozen_of_rowAt hr
      have hkc : k < cur.size := by omega
      have hi0 : 0 ≤ (k : Int) := by omega
      have hi1 : (k : Int) < n := by omega
      go_wp2_with fail
      refine ⟨⟨k + 1, by omega, by go_num, by rw [show ((m + (k + 1) : Nat) : Int) = (m : Int) + k + 1 from by omega], Lib.hid ⟨hB.out.1.set _ _, fun h => by omega⟩, .inr ⟨_, rfl, rowAt_setCell_at _ _ _ _ (by simp [hr]), by simp [hr]; omega, ?_⟩⟩, by simp [intOf]; omega⟩
      intro i hi
      rw [hr, Option.getD_some]
      by_cases hik : i = k
      · subst hik
        rw [Array.getElem?_setIfInBounds_self_of_lt hkc]; dsimp only; rw [show ((m + i : Nat) : Int) = (m : Int) + i from by omega]
      · rw [Array.getElem?_setIfInBounds_ne (Ne.symm hik)]
        exact hf i (by omega)
    · obtain rfl : k = n := by omega
      go_wp2_with fail
      go_ret
      refine ⟨rfl, ?_, hB.out.1, hB.out.2⟩
      rcases hrow with h0 | ⟨cur, rfl, hr, hs, hf⟩
      · exact .inl ⟨h0, av, cv, by rw [h0]⟩
      · exact .inr ⟨cv, cur, rfl, hr, by omega, fun i hi => hf i (by omega)⟩

set_option maxHeartbeats 400000 in
theorem heldI (n : Nat) (v : Value) (g m : Nat) (w : World) (hv : Ls w g v 1 n fun i => .int .i64 ((m + i : Nat) : Int)) (hn : n ≤ 2000000) (hm : m ≤ 100000000) :
    Calls Try.prog 13 #[v, .int .i64 m] w fun e w' => e = .returned (.int .i64 ((m + n : Nat) : Int)) ∧ w = w' := by
  have HV := Lib.hid hv
  obtain ⟨av, cv, rfl⟩ := hv.shape
  clear hv
  go_enter Try.func13, Try.ntmps13
  go_wp2_with fail
  go_loop [1, 5] (fun p i => ∃ k : Nat, k ≤ n ∧ i = .int .i64 k ∧ p = .int .i64 ((m + k : Nat) : Int)) (fun _ i => n - (intOf i).toNat)
  case atStart => exact ⟨0, by omega, rfl, rfl⟩
  case round =>
    obtain ⟨k, hk, rfl, rfl⟩ := hrel
    by_cases hlt : k < n
    · rcases HV.out with ⟨h0, _⟩ | ⟨cap, cur, e1, hr, hs, hf⟩
      · omega
      cases e1
      have c0 : w.cell? ⟨g, k, none⟩ = some (.int .i64 ((m : Int) + k)) := by rw [cell_of_rowAt hr, hf k (by omega)]; dsimp only; rw [show (m : Int) + k = ((m + k : Nat) : Int) from by omega]
      have hff : (((m : Int) + k) != (m : Int) + k) = false := by simp
      have hi0 : 0 ≤ (k : Int) := by omega
      have hi1 : (k : Int) < n := by omega
      clear hf hs
      go_wp2_with fail
      refine ⟨⟨k + 1, by omega, by go_num, by rw [show ((m + (k + 1) : Nat) : Int) = (m : Int) + k + 1 from by omega]⟩, by simp [intOf]; omega⟩
    · obtain rfl : k = n := by omega
      go_wp2_with fail
      go_ret
      exact ⟨rfl, rfl⟩
set_option maxHeartbeats 400000 in
theorem eqI (n : Nat) (f : Nat → Int) (v u : Value) (b b' : Nat) (w : World) (hv : IsList w b v 1 n fun i => .int .i64 (f i)) (hu : IsList w b' u 1 n fun i => .int .i64 (f i)) (hn : n ≤ 2000000) :
    Calls Try.prog 11 #[v, u] w fun e w' => e = .returned (.bool true) ∧ Below w.heap.size w w' := by
  have HV := Lib.hid hv
  have HU := Lib.hid hu
  obtain ⟨av, cv, rfl⟩ := hv.shape
  obtain ⟨au, cu, rfl⟩ := hu.shape
  clear hv hu
  have hnn : ((n : Int) != n) = false := by simp
  go_enter Try.func11, Try.ntmps11
  go_wp2_with fail
  go_loopw [5] (fun i W => ∃ k : Nat, k ≤ n ∧ i = .int .i64 k ∧ Below w.heap.size w W) (fun i _ => n - (intOf i).toNat)
  case atStart => exact ⟨0, by omega, rfl, Below.refl _ _⟩
  case round =>
    obtain ⟨k, hk, rfl, hB⟩ := hrel
    by_cases hlt : k < n
    · rcases HV.out.below hB (Nat.le_refl _) with ⟨h0, _⟩ | ⟨g, cap, cur, e1, hg, hr, hs, hf⟩
      · omega
      rcases HU.out.below hB (Nat.le_refl _) with ⟨h0, _⟩ | ⟨g', cap', cur', e2, hg', hr', hs', hf'⟩
      · omega
      cases e1
      cases e2
      have c0 : wr.cell? ⟨g, k, none⟩ = some (.int .i64 (f k)) := by rw [cell_of_rowAt hr]; exact hf k (by omega)
      have c1 : wr.cell? ⟨g', k, none⟩ = some (.int .i64 (f k)) := by rw [cell_of_rowAt hr']; exact hf' k (by omega)
      have hff : (f k != f k) = false := by simp
      have hi0 : 0 ≤ (k : Int) := by omega
      have hi1 : (k : Int) < n := by omega
      clear hf hf' hs hs'
      go_wp2_with fail
      go_quiet (fail)
      go_wp2_with fail
      refine ⟨⟨k + 1, by omega, by go_num, below_drewN hB _⟩, by simp [intOf]; omega⟩
    · go_wp2_with fail
      go_ret
      exact ⟨rfl, hB⟩

theorem markIK (n : Nat) (f : Nat → Value) (v : Value) (g k : Nat) (K M : Int) (hK : K = k) (hM : M = ((k + n : Nat) : Int)) (w : World) (hv : Ls w g v 1 n f) (hn : n ≤ 2000000) (hm : k ≤ 100000000) :
    Calls Try.prog 12 #[v, .int .i64 K] w fun e w' => e = .returned (.int .i64 M) ∧ Ls w' g v 1 n (fun i => .int .i64 ((k + i : Nat) : Int)) ∧ Only g w w' ∧ (n = 0 → w' = w) := by
  subst hK hM; exact markI n f v g k w hv hn hm
theorem heldIK (n : Nat) (v : Value) (g k : Nat) (K M : Int) (hK : K = k) (hM : M = ((k + n : Nat) : Int)) (w : World) (hv : Ls w g v 1 n fun i => .int .i64 ((k + i : Nat) : Int)) (hn : n ≤ 2000000) (hm : k ≤ 100000000) :
    Calls Try.prog 13 #[v, .int .i64 K] w fun e w' => e = .returned (.int .i64 M) ∧ w = w' := by
  subst hK hM; exact heldI n v g k w hv hn hm
end Go.Proofs.Ytcdddngdjhjdbaa
