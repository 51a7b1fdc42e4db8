/- The laws' helpers that mark and hold lists of pipes. -/
import Derived.Test.YtcdddngdjhjdbaaLs
import Derived.Test.YtcdddngdjhjdbaaArgPp
namespace Go.Proofs.Ytcdddngdjhjdbaa
open Go.RowKit
set_option maxHeartbeats 400000 in
theorem markLPp (n : Nat) (f : Nat → Value) (v : Value) (g m : Nat) (w : World) (hv : Ls w g v 2 n f) (hn : n ≤ 2000000) (hm : m ≤ 100000000) :
    Calls Try.prog 55 #[v, .int .i64 m] w fun e w' => e = .returned (.int .i64 ((m + 2 * n : Nat) : Int)) ∧ Ls w' g v 2 n (pipeV (markPp m)) ∧ Only g w w' ∧ (n = 0 → w' = w) := by
  have HV := Lib.hid hv
  obtain ⟨av, cv, rfl⟩ := hv.shape
  clear hv
  go_enter Try.func55, Try.ntmps55
  go_wp2_with fail
  go_loopw [1, 5] (fun p i W => ∃ k : Nat, k ≤ n ∧ i = .int .i64 k ∧ p = .int .i64 ((m + 2 * k : Nat) : Int) ∧ Hid (Only g w W ∧ (n = 0 → W = w)) ∧ RowUp av W g (n * 2) (2 * k) (pipeV (markPp m))) (fun _ i _ => n - (intOf i).toNat)
  case atStart =>
    refine ⟨0, by omega, rfl, rfl, Lib.hid ⟨Only.refl _ _, fun _ => rfl⟩, ?_⟩
    rcases HV.out with ⟨h0, _⟩ | ⟨cap, cur, e1, hr, hs, hf⟩
    · exact .inl (by omega)
    · cases e1
      exact .inr ⟨cur, rfl, hr, by omega, by omega⟩
  case round =>
    obtain ⟨k, hk, rfl, rfl, hB, hrow⟩ := hrel
    by_cases hlt : k < n
    · rcases hrow with h0 | ⟨cur, rfl, hr, hs, hf⟩
      · omega
      have hcell := cell_of_rowAt hr
      have hfro := frozen_of_rowAt hr
      have hkc : k * 2 < cur.size := by omega
      have hkd : k * 2 + 1 < cur.size := by omega
      have hi0 : 0 ≤ (k : Int) := by omega
      have hi1 : (k : Int) < n := by omega
      go_wp2_with fail
      have r1 := rowAt_setCell_at wr g (k * 2) (.int .i8 (IntKind.i8.wrap ((m : Int) + 2 * k))) (by simp [hr])
      rw [hr, Option.getD_some] at r1
      have r2 := rowAt_setCell_at (wr.setCell ⟨g, k * 2, none⟩ (.int .i8 (IntKind.i8.wrap ((m : Int) + 2 * k)))) g (k * 2 + 1) (.int .i16 (IntKind.i16.wrap ((m : Int) + 2 * k + 1))) (by simp [r1])
      rw [r1, Option.getD_some] at r2
      refine ⟨⟨k + 1, by omega, by go_num, by rw [show ((m + 2 * (k + 1) : Nat) : Int) = (m : Int) + 2 * k + 1 + 1 from by omega], Lib.hid ⟨(hB.out.1.set _ _).set _ _, fun h => by omega⟩, .inr ⟨_, rfl, r2, by simp; omega, ?_⟩⟩, by simp [intOf]; omega⟩
      intro i hi
      by_cases hi1 : i = k * 2 + 1
      · subst hi1
        rw [Array.getElem?_setIfInBounds_self_of_lt (by simpa using hkd), pipeV_1, markPp_1]
      · rw [Array.getElem?_setIfInBounds_ne (Ne.symm hi1)]
        by_cases hi0 : i = k * 2
        · subst hi0
          rw [Array.getElem?_setIfInBounds_self_of_lt hkc, pipeV_0, markPp_0]
        · rw [Array.getElem?_setIfInBounds_ne (Ne.symm hi0)]
          exact hf i (by omega)
    · obtain rfl : k = n := by omega
      go_wp2_with fail
      go_ret
      refine ⟨rfl, ?_, hB.out.1, hB.out.2⟩
      rcases hrow with h0 | ⟨cur, rfl, hr, hs, hf⟩
      · obtain rfl : k = 0 := by omega
        exact .inl ⟨rfl, av, cv, rfl⟩
      · exact .inr ⟨cv, cur, rfl, hr, by omega, fun i hi => hf i (by omega)⟩

set_option maxHeartbeats 400000 in
theorem heldLPp (n : Nat) (v : Value) (g m : Nat) (w : World) (hv : Ls w g v 2 n (pipeV (markPp m))) (hn : n ≤ 2000000) (hm : m ≤ 100000000) :
    Calls Try.prog 56 #[v, .int .i64 m] w fun e w' => e = .returned (.int .i64 ((m + 2 * n : Nat) : Int)) ∧ w = w' := by
  have HV := Lib.hid hv
  obtain ⟨av, cv, rfl⟩ := hv.shape
  clear hv
  go_enter Try.func56, Try.ntmps56
  go_wp2_with fail
  go_loop [1, 5] (fun p i => ∃ k : Nat, k ≤ n ∧ i = .int .i64 k ∧ p = .int .i64 ((m + 2 * k : Nat) : Int)) (fun _ i => n - (intOf i).toNat)
  case atStart => exact ⟨0, by omega, rfl, rfl⟩
  case round =>
    obtain ⟨k, hk, rfl, rfl⟩ := hrel
    by_cases hlt : k < n
    · rcases HV.out with ⟨h0, _⟩ | ⟨cap, cur, e1, hr, hs, hf⟩
      · omega
      cases e1
      have c0 : w.cell? ⟨g, k * 2, none⟩ = some (.int .i8 (IntKind.i8.wrap ((m : Int) + 2 * k))) := by
        rw [cell_of_rowAt hr, ← markPp_0, ← pipeV_0]; exact hf _ (by omega)
      have c1 : w.cell? ⟨g, k * 2 + 1, none⟩ = some (.int .i16 (IntKind.i16.wrap ((m : Int) + 2 * k + 1))) := by
        rw [cell_of_rowAt hr, ← markPp_1, ← pipeV_1]; exact hf _ (by omega)
      have hf0 : (IntKind.i8.wrap ((m : Int) + 2 * k) != IntKind.i8.wrap ((m : Int) + 2 * k)) = false := by simp
      have hf1 : (IntKind.i16.wrap ((m : Int) + 2 * k + 1) != IntKind.i16.wrap ((m : Int) + 2 * k + 1)) = false := by simp
      have hi0 : 0 ≤ (k : Int) := by omega
      have hi1 : (k : Int) < n := by omega
      clear hf hs
      go_wp2_with fail
      refine ⟨⟨k + 1, by omega, by go_num, by rw [show ((m + 2 * (k + 1) : Nat) : Int) = (m : Int) + 2 * k + 1 + 1 from by omega]⟩, by simp [intOf]; omega⟩
    · obtain rfl : k = n := by omega
      go_wp2_with fail
      go_ret
      exact ⟨rfl, rfl⟩
theorem markPpK (n : Nat) (f : Nat → Value) (v : Value) (g k : Nat) (K M : Int) (hK : K = k) (hM : M = ((k + 2 * n : Nat) : Int)) (w : World) (hv : Ls w g v 2 n f) (hn : n ≤ 2000000) (hm : k ≤ 100000000) :
    Calls Try.prog 55 #[v, .int .i64 K] w fun e w' => e = .returned (.int .i64 M) ∧ Ls w' g v 2 n (pipeV (markPp k)) ∧ Only g w w' ∧ (n = 0 → w' = w) := by
  subst hK hM; exact markLPp n f v g k w hv hn hm
theorem heldPpK (n : Nat) (v : Value) (g k : Nat) (K M : Int) (hK : K = k) (hM : M = ((k + 2 * n : Nat) : Int)) (w : World) (hv : Ls w g v 2 n (pipeV (markPp k))) (hn : n ≤ 2000000) (hm : k ≤ 100000000) :
    Calls Try.prog 56 #[v, .int .i64 K] w fun e w' => e = .returned (.int .i64 M) ∧ w = w' := by
  subst hK hM; exact heldLPp n v g k w hv hn hm
end Go.Proofs.Ytcdddngdjhjdbaa
