/- The laws' helpers that compare, mark and hold lists of places. -/
import Derived.Test.YtcdddngdjhjdbaaList
import Derived.Test.YtcdddngdjhjdbaaSame
namespace Go.Proofs.Ytcdddngdjhjdbaa
open Go.RowKit

set_option maxRecDepth 100000 in
set_option maxHeartbeats 400000 in
theorem eqPlaceS_same (n : Nat) (f : Nat → Int) (v u : Value) (b b' : Nat) (w : World) (hv : IsList w b v 2 n fun i => .int .i8 (f i)) (hu : IsList w b' u 2 n fun i => .int .i8 (f i)) (hn : n ≤ 2000000) :
    Calls Try.prog 19 #[v, u] w fun e w' => e = .returned (.bool true) ∧ Below w.heap.size w w' := by
  have HV := Lib.hid hv
  have HU := Lib.hid hu
  obtain ⟨av, cv, rfl⟩ := hv.shape
  obtain ⟨au, cu, rfl⟩ := hu.shape
  clear hv hu
  have hnn : ((n : Int) != n) = false := by simp
  go_enter Try.func19, Try.ntmps19
  go_wp2_with fail
  go_loopw [5] (fun i W => ∃ k : Nat, k ≤ n ∧ i = .int .i64 k ∧ Below w.heap.size w W) (fun i _ => n - (intOf i).toNat)
  case atStart => exact ⟨0, by omega, rfl, Below.refl _ _⟩
  case round =>
    obtain ⟨k, hk, rfl, hB⟩ := hrel
    by_cases hlt : k < n
    · rcases HV.out.below hB (Nat.le_refl _) with ⟨h0, _⟩ | ⟨g, cap, cur, e1, hg, hr, hs, hf⟩
      · omega
      rcases HU.out.below hB (Nat.le_refl _) with ⟨h0, _⟩ | ⟨g', cap', cur', e2, hg', hr', hs', hf'⟩
      · omega
      cases e1
      cases e2
      have c0 : wr.cell? ⟨g, k * 2, none⟩ = some (.int .i8 (f (k * 2))) := by rw [cell_of_rowAt hr]; exact hf _ (by omega)
      have c1 : wr.cell? ⟨g, k * 2 + 1, none⟩ = some (.int .i8 (f (k * 2 + 1))) := by rw [cell_of_rowAt hr]; exact hf _ (by omega)
      have d0 : wr.cell? ⟨g', k * 2, none⟩ = some (.int .i8 (f (k * 2))) := by rw [cell_of_rowAt hr']; exact hf' _ (by omega)
      have d1 : wr.cell? ⟨g', k * 2 + 1, none⟩ = some (.int .i8 (f (k * 2 + 1))) := by rw [cell_of_rowAt hr']; exact hf' _ (by omega)
      have hi0 : 0 ≤ (k : Int) := by omega
      have hi1 : (k : Int) < n := by omega
      clear hf hf' hs hs' hr hr'
      go_wp2_with fail
      go_still_tail 8, (by kernel_rfl)
      change wpList _ _ _ _ _ wr.drew
      go_wp2_with fail
      refine (eqPlace_same _ _ _).mono ?_
      rintro e w1 ⟨rfl, hb⟩
      have hB1 := (hB.drew).trans (hb.mono hB.size)
      clear hb c0 c1 d0 d1
      go_wp2_with fail
      refine ⟨⟨k + 1, by omega, by go_num, hB1⟩, by simp [intOf]; omega⟩
    · go_wp2_with fail
      go_ret
      exact ⟨rfl, hB⟩

/-- What is marked: the numbers from m on, as they fit. -/
def markP (m i : Nat) : Int := IntKind.i8.wrap ((m : Int) + i)

set_option maxHeartbeats 400000 in
theorem markPlaceS_any (n : Nat) (f : Nat → Value) (v : Value) (b : Nat) (m : Nat) (w : World) (hv : IsList w b v 2 n f) (hn : n ≤ 1000000) (hm : m ≤ 10) :
    Calls Try.prog 20 #[v, .int .i64 m] w fun e w' => e = .returned (.int .i64 ((m + 2 * n : Nat) : Int)) ∧ IsList w' b v 2 n (fun i => .int .i8 (markP m i)) ∧ Below b w w' := by
  have HV := Lib.hid hv
  obtain ⟨av, cv, rfl⟩ := hv.shape
  clear hv
  go_enter Try.func20, Try.ntmps20
  go_wp2_with fail
  go_loopw [1, 5] (fun p i W => ∃ k : Nat, k ≤ n ∧ i = .int .i64 k ∧ p = .int .i64 ((m + 2 * k : Nat) : Int) ∧ Below b w W ∧ (n = 0 ∨ ∃ g cur, av = some ⟨g, 0, none⟩ ∧ b ≤ g ∧ rowAt W g = some cur ∧ n * 2 ≤ cur.size ∧ Hid (∀ i, i < 2 * k → cur[i]? = some (.int .i8 (markP m i))))) (fun _ i _ => n - (intOf i).toNat)
  case atStart =>
    refine ⟨0, by omega, rfl, rfl, Below.refl _ _, ?_⟩
    rcases HV.out with ⟨h0, _⟩ | ⟨g, cap, cur, e1, hg, hr, hs, hf⟩
    · exact .inl h0
    · cases e1
      exact .inr ⟨g, cur, rfl, hg, hr, by omega, Lib.hid (by omega)⟩
  case round =>
    obtain ⟨k, hk, rfl, rfl, hB, hrow⟩ := hrel
    by_cases hlt : k < n
    · rcases hrow with h0 | ⟨g, cur, rfl, hg, hr, hs, hf⟩
      · omega
      have hcell := cell_of_rowAt hr
      have hfro := frozen_of_rowAt hr
      have hkc : k * 2 < cur.size := by omega
      have hkd : k * 2 + 1 < cur.size := by omega
      have hi0 : 0 ≤ (k : Int) := by omega
      have hi1 : (k : Int) < n := by omega
      go_wp2_with fail
      have r1 := rowAt_setCell_at wr g (k * 2) (.int .i8 (IntKind.i8.wrap ((m : Int) + 2 * k))) (by simp [hr])
      rw [hr, Option.getD_some] at r1
      have r2 := rowAt_setCell_at (wr.setCell ⟨g, k * 2, none⟩ (.int .i8 (IntKind.i8.wrap ((m : Int) + 2 * k)))) g (k * 2 + 1) (.int .i8 (IntKind.i8.wrap ((m : Int) + 2 * k + 1))) (by simp [r1])
      rw [r1, Option.getD_some] at r2
      refine ⟨⟨k + 1, by omega, by go_num, by rw [show ((m + 2 * (k + 1) : Nat) : Int) = (m : Int) + 2 * k + 1 + 1 from by omega], (hB.setCell (p := ⟨g, k * 2, none⟩) hg _).setCell (p := ⟨g, k * 2 + 1, none⟩) hg _, .inr ⟨g, _, rfl, hg, r2, by simp; omega, Lib.hid ?_⟩⟩, by simp [intOf]; omega⟩
      intro i hi
      by_cases hi1 : i = k * 2 + 1
      · subst hi1
        rw [Array.getElem?_setIfInBounds_self_of_lt (by simpa using hkd), markP, show ((k * 2 + 1 : Nat) : Int) = 2 * k + 1 from by omega, Int.add_assoc]
      · rw [Array.getElem?_setIfInBounds_ne (Ne.symm hi1)]
        by_cases hi0 : i = k * 2
        · subst hi0
          rw [Array.getElem?_setIfInBounds_self_of_lt hkc, markP, show ((k * 2 : Nat) : Int) = 2 * k from by omega]
        · rw [Array.getElem?_setIfInBounds_ne (Ne.symm hi0)]
          exact hf.out i (by omega)
    · obtain rfl : k = n := by omega
      go_wp2_with fail
      go_ret
      refine ⟨rfl, ?_, hB⟩
      rcases hrow with h0 | ⟨g, cur, rfl, hg, hr, hs, hf⟩
      · exact .inl ⟨h0, av, cv, by rw [h0]⟩
      · exact .inr ⟨g, cv, cur, rfl, hg, hr, by omega, fun i hi => hf.out i (by omega)⟩

set_option maxHeartbeats 400000 in
theorem heldPlaceS_any (n : Nat) (v : Value) (b : Nat) (m : Nat) (w : World) (hv : IsList w b v 2 n fun i => .int .i8 (markP m i)) (hn : n ≤ 1000000) (hm : m ≤ 10) :
    Calls Try.prog 31 #[v, .int .i64 m] w fun e w' => e = .returned (.int .i64 ((m + 2 * n : Nat) : Int)) ∧ w = w' := by
  have HV := Lib.hid hv
  obtain ⟨av, cv, rfl⟩ := hv.shape
  clear hv
  go_enter Try.func31, Try.ntmps31
  go_wp2_with fail
  go_loop [1, 5] (fun p i => ∃ k : Nat, k ≤ n ∧ i = .int .i64 k ∧ p = .int .i64 ((m + 2 * k : Nat) : Int)) (fun _ i => n - (intOf i).toNat)
  case atStart => exact ⟨0, by omega, rfl, rfl⟩
  case round =>
    obtain ⟨k, hk, rfl, rfl⟩ := hrel
    by_cases hlt : k < n
    · rcases HV.out with ⟨h0, _⟩ | ⟨g, cap, cur, e1, hg, hr, hs, hf⟩
      · omega
      cases e1
      have c0 : w.cell? ⟨g, k * 2, none⟩ = some (.int .i8 (IntKind.i8.wrap ((m : Int) + 2 * k))) := by
        rw [cell_of_rowAt hr, show (m : Int) + 2 * k = (m : Int) + ((k * 2 : Nat) : Int) from by omega]; exact hf _ (by omega)
      have c1 : w.cell? ⟨g, k * 2 + 1, none⟩ = some (.int .i8 (IntKind.i8.wrap ((m : Int) + 2 * k + 1))) := by
        rw [cell_of_rowAt hr, show (m : Int) + 2 * k + 1 = (m : Int) + ((k * 2 + 1 : Nat) : Int) from by omega]; exact hf _ (by omega)
      have hf0 : (IntKind.i8.wrap ((m : Int) + 2 * k) != IntKind.i8.wrap ((m : Int) + 2 * k)) = false := by simp
      have hf1 : (IntKind.i8.wrap ((m : Int) + 2 * k + 1) != IntKind.i8.wrap ((m : Int) + 2 * k + 1)) = false := by simp
      have hi0 : 0 ≤ (k : Int) := by omega
      have hi1 : (k : Int) < n := by omega
      clear hf hs
      go_wp2_with fail
      refine ⟨⟨k + 1, by omega, by go_num, by rw [show ((m + 2 * (k + 1) : Nat) : Int) = (m : Int) + 2 * k + 1 + 1 from by omega]⟩, by simp [intOf]; omega⟩
    · obtain rfl : k = n := by omega
      go_wp2_with fail
      go_ret
      exact ⟨rfl, rfl⟩

theorem markP1 (n : Nat) (f : Nat → Value) (v : Value) (b : Nat) (M : Int) (hM : M = ((1 + 2 * n : Nat) : Int)) (w : World) (hv : IsList w b v 2 n f) (hn : n ≤ 1000000) :
    Calls Try.prog 20 #[v, .int .i64 1] w fun e w' => e = .returned (.int .i64 M) ∧ IsList w' b v 2 n (fun i => .int .i8 (markP 1 i)) ∧ Below b w w' := by
  subst hM; exact markPlaceS_any n f v b 1 w hv hn (by omega)
theorem heldP1 (n : Nat) (v : Value) (b : Nat) (M : Int) (hM : M = ((1 + 2 * n : Nat) : Int)) (w : World) (hv : IsList w b v 2 n fun i => .int .i8 (markP 1 i)) (hn : n ≤ 1000000) :
    Calls Try.prog 31 #[v, .int .i64 1] w fun e w' => e = .returned (.int .i64 M) ∧ w = w' := by
  subst hM; exact heldPlaceS_any n v b 1 w hv hn (by omega)
end Go.Proofs.Ytcdddngdjhjdbaa
