/- Lists that a call made, and the laws' helpers that compare, mark and hold lists of numbers. -/
import Derived.Test.YtcdddngdjhjdbaaTy
import Derived.Deep.QuietTactic
import Derived.BigQuiet
import Derived.IntWalk
namespace Go.Proofs.Ytcdddngdjhjdbaa
open Go.RowKit

theorem rowAt_drewN (w : World) (k n : Nat) : rowAt (w.drewN k) n = rowAt w n := rfl

/-- v is a list of n elements of sz cells each, in a block of its own from base on. -/
def IsList (w : World) (base : Nat) (v : Value) (sz n : Nat) (f : Nat → Value) : Prop :=
  (n = 0 ∧ ∃ a cap, v = .slice a 0 cap) ∨ ∃ g cap cur, v = .slice (some ⟨g, 0, none⟩) n cap ∧ base ≤ g ∧ rowAt w g = some cur ∧ n * sz ≤ cur.size ∧ ∀ i, i < n * sz → cur[i]? = some (f i)

theorem IsList.below {w w' : World} {base B sz n : Nat} {v : Value} {f : Nat → Value} (h : IsList w base v sz n f) (hb : Below B w w') (hB : w.heap.size ≤ B) : IsList w' base v sz n f := by
  rcases h with h | ⟨g, cap, cur, rfl, hg, hr, hs, hf⟩
  · exact .inl h
  · exact .inr ⟨g, cap, cur, rfl, hg, (rowAt_below hb g (Nat.lt_of_lt_of_le (rowAt_lt hr) hB)).trans hr, hs, hf⟩
theorem IsList.kept {w w' : World} {base B sz n : Nat} {v : Value} {f : Nat → Value} (h : IsList w base v sz n f) (hb : Below B w w') (hB : ∀ g o cap, v = .slice (some ⟨g, o, none⟩) n cap → g < B) : IsList w' base v sz n f := by
  rcases h with h | ⟨g, cap, cur, rfl, hg, hr, hs, hf⟩
  · exact .inl h
  · exact .inr ⟨g, cap, cur, rfl, hg, (rowAt_below hb g (hB g 0 cap rfl)).trans hr, hs, hf⟩
theorem IsList.mono {w : World} {base base' sz n : Nat} {v : Value} {f : Nat → Value} (h : IsList w base v sz n f) (hb : base' ≤ base) : IsList w base' v sz n f := by
  rcases h with h | ⟨g, cap, cur, rfl, hg, hr, hs, hf⟩
  · exact .inl h
  · exact .inr ⟨g, cap, cur, rfl, Nat.le_trans hb hg, hr, hs, hf⟩
theorem IsList.drew {w : World} {base sz n : Nat} {v : Value} {f : Nat → Value} (h : IsList w base v sz n f) : IsList w.drew base v sz n f := h
/-- The list's block lies in the world. -/
theorem IsList.lt {w : World} {base sz n : Nat} {v : Value} {f : Nat → Value} (h : IsList w base v sz n f) {B : Nat} (hB : w.heap.size ≤ B) : n = 0 ∨ ∀ g o cap, v = .slice (some ⟨g, o, none⟩) n cap → g < B := by
  rcases h with ⟨h, _⟩ | ⟨g, cap, cur, rfl, hg, hr, hs, hf⟩
  · exact .inl h
  · refine .inr fun g' o cap' e => ?_
    cases e
    exact Nat.lt_of_lt_of_le (rowAt_lt hr) hB
/-- The shape of a list's value. -/
theorem IsList.shape {w : World} {base sz n : Nat} {v : Value} {f : Nat → Value} (h : IsList w base v sz n f) : ∃ a cap, v = .slice a n cap := by
  rcases h with ⟨rfl, a, cap, rfl⟩ | ⟨g, cap, cur, rfl, _⟩
  · exact ⟨a, cap, rfl⟩
  · exact ⟨_, cap, rfl⟩

set_option maxHeartbeats 400000 in
theorem eqInt64S_same (n : Nat) (f : Nat → Int) (v u : Value) (b b' : Nat) (w : World) (hv : IsList w b v 1 n fun i => .int .i64 (f i)) (hu : IsList w b' u 1 n fun i => .int .i64 (f i)) (hn : n ≤ 1000000) :
    Calls Try.prog 11 #[v, u] w fun e w' => e = .returned (.bool true) ∧ Below w.heap.size w w' := by
  have HV := Lib.hid hv
  have HU := Lib.hid hu
  obtain ⟨av, cv, rfl⟩ := hv.shape
  obtain ⟨au, cu, rfl⟩ := hu.shape
  clear hv hu
  have hnn : ((n : Int) != n) = false := by simp
  go_enter Try.func11, Try.ntmps11
  go_wp2_with fail
  go_loopw [5] (fun i W => ∃ k : Nat, k ≤ n ∧ i = .int .i64 k ∧ Below w.heap.size w W) (fun i _ => n - (intOf i).toNat)
  case atStart => exact ⟨0, by omega, rfl, Below.refl _ _⟩
  case round =>
    obtain ⟨k, hk, rfl, hB⟩ := hrel
    by_cases hlt : k < n
    · rcases HV.out.below hB (Nat.le_refl _) with ⟨h0, _⟩ | ⟨g, cap, cur, e1, hg, hr, hs, hf⟩
      · omega
      rcases HU.out.below hB (Nat.le_refl _) with ⟨h0, _⟩ | ⟨g', cap', cur', e2, hg', hr', hs', hf'⟩
      · omega
      cases e1
      cases e2
      have c0 : wr.cell? ⟨g, k, none⟩ = some (.int .i64 (f k)) := by rw [cell_of_rowAt hr]; exact hf k (by omega)
      have c1 : wr.cell? ⟨g', k, none⟩ = some (.int .i64 (f k)) := by rw [cell_of_rowAt hr']; exact hf' k (by omega)
      have hff : (f k != f k) = false := by simp
      have hi0 : 0 ≤ (k : Int) := by omega
      have hi1 : (k : Int) < n := by omega
      clear hf hf' hs hs'
      go_wp2_with fail
      go_quiet (fail)
      go_wp2_with fail
      refine ⟨⟨k + 1, by omega, by go_num, below_drewN hB _⟩, by simp [intOf]; omega⟩
    · go_wp2_with fail
      go_ret
      exact ⟨rfl, hB⟩

set_option maxHeartbeats 400000 in
theorem markInt64S_any (n : Nat) (f : Nat → Value) (v : Value) (b : Nat) (m : Nat) (w : World) (hv : IsList w b v 1 n f) (hn : n ≤ 1000000) (hm : m ≤ 10) :
    Calls Try.prog 12 #[v, .int .i64 m] w fun e w' => e = .returned (.int .i64 ((m + n : Nat) : Int)) ∧ IsList w' b v 1 n (fun i => .int .i64 ((m + i : Nat) : Int)) ∧ Below b w w' := by
  have HV := Lib.hid hv
  obtain ⟨av, cv, rfl⟩ := hv.shape
  clear hv
  go_enter Try.func12, Try.ntmps12
  go_wp2_with fail
  go_loopw [1, 5] (fun p i W => ∃ k : Nat, k ≤ n ∧ i = .int .i64 k ∧ p = .int .i64 ((m + k : Nat) : Int) ∧ Below b w W ∧ (n = 0 ∨ ∃ g cur, av = some ⟨g, 0, none⟩ ∧ b ≤ g ∧ rowAt W g = some cur ∧ n ≤ cur.size ∧ Hid (∀ i, i < k → cur[i]? = some (.int .i64 ((m + i : Nat) : Int))))) (fun _ i _ => n - (intOf i).toNat)
  case atStart =>
    refine ⟨0, by omega, rfl, rfl, Below.refl _ _, ?_⟩
    rcases HV.out with ⟨h0, _⟩ | ⟨g, cap, cur, e1, hg, hr, hs, hf⟩
    · exact .inl h0
    · cases e1
      exact .inr ⟨g, cur, rfl, hg, hr, by omega, Lib.hid (by omega)⟩
  case round =>
    obtain ⟨k, hk, rfl, rfl, hB, hrow⟩ := hrel
    by_cases hlt : k < n
    · rcases hrow with h0 | ⟨g, cur, rfl, hg, hr, hs, hf⟩
      · omega
      have hcell := cell_of_rowAt hr
      have hfro := frozen_of_rowAt hr
      have hkc : k < cur.size := by omega
      have hi0 : 0 ≤ (k : Int) := by omega
      have hi1 : (k : Int) < n := by omega
      go_wp2_with fail
      refine ⟨⟨k + 1, by omega, by go_num, by rw [show ((m + (k + 1) : Nat) : Int) = (m : Int) + k + 1 from by omega], hB.setCell (p := ⟨g, k, none⟩) hg _, .inr ⟨g, _, rfl, hg, rowAt_setCell_at _ _ _ _ (by simp [hr]), by simp [hr]; omega, Lib.hid ?_⟩⟩, by simp [intOf]; omega⟩
      intro i hi
      rw [hr, Option.getD_some]
      by_cases hik : i = k
      · subst hik
        rw [Array.getElem?_setIfInBounds_self_of_lt hkc, show ((m + i : Nat) : Int) = (m : Int) + i from by omega]
      · rw [Array.getElem?_setIfInBounds_ne (Ne.symm hik)]
        exact hf.out i (by omega)
    · obtain rfl : k = n := by omega
      go_wp2_with fail
      go_ret
      refine ⟨rfl, ?_, hB⟩
      rcases hrow with h0 | ⟨g, cur, rfl, hg, hr, hs, hf⟩
      · exact .inl ⟨h0, av, cv, by rw [h0]⟩
      · exact .inr ⟨g, cv, cur, rfl, hg, hr, by omega, fun i hi => hf.out i (by omega)⟩

set_option maxHeartbeats 400000 in
theorem heldInt64S_any (n : Nat) (v : Value) (b : Nat) (m : Nat) (w : World) (hv : IsList w b v 1 n fun i => .int .i64 ((m + i : Nat) : Int)) (hn : n ≤ 1000000) (hm : m ≤ 10) :
    Calls Try.prog 13 #[v, .int .i64 m] w fun e w' => e = .returned (.int .i64 ((m + n : Nat) : Int)) ∧ w = w' := by
  have HV := Lib.hid hv
  obtain ⟨av, cv, rfl⟩ := hv.shape
  clear hv
  go_enter Try.func13, Try.ntmps13
  go_wp2_with fail
  go_loop [1, 5] (fun p i => ∃ k : Nat, k ≤ n ∧ i = .int .i64 k ∧ p = .int .i64 ((m + k : Nat) : Int)) (fun _ i => n - (intOf i).toNat)
  case atStart => exact ⟨0, by omega, rfl, rfl⟩
  case round =>
    obtain ⟨k, hk, rfl, rfl⟩ := hrel
    by_cases hlt : k < n
    · rcases HV.out with ⟨h0, _⟩ | ⟨g, cap, cur, e1, hg, hr, hs, hf⟩
      · omega
      cases e1
      have c0 : w.cell? ⟨g, k, none⟩ = some (.int .i64 ((m : Int) + k)) := by rw [cell_of_rowAt hr, hf k (by omega), show (m : Int) + k = ((m + k : Nat) : Int) from by omega]
      have hff : (((m : Int) + k) != (m : Int) + k) = false := by simp
      have hi0 : 0 ≤ (k : Int) := by omega
      have hi1 : (k : Int) < n := by omega
      clear hf hs
      go_wp2_with fail
      refine ⟨⟨k + 1, by omega, by go_num, by rw [show ((m + (k + 1) : Nat) : Int) = (m : Int) + k + 1 from by omega]⟩, by simp [intOf]; omega⟩
    · obtain rfl : k = n := by omega
      go_wp2_with fail
      go_ret
      exact ⟨rfl, rfl⟩
end Go.Proofs.Ytcdddngdjhjdbaa
