/- The model's letter of a kind. -/
import Derived.Test.YtgdhfcpmeaeioaaDoorRrM
namespace Go.Proofs.YtgdhfcpmeaeioaaDoor
open Go.RowKit

def mks (k : Nat) : UInt8 := if k = 0 then 46 else if k = 1 then 120 else if k = 2 then 115 else 111
theorem kl_hit {k : Nat} {b : UInt8} (hk : k < 4) (h : b = mks k) : kl b = k := by
  have : k = 0 ∨ k = 1 ∨ k = 2 ∨ k = 3 := by omega
  rcases this with rfl | rfl | rfl | rfl <;> subst h <;> rfl
theorem kl_none {b : UInt8} (h : ∀ j, j < 4 → b ≠ mks j) : ¬ kl b < 4 := by
  have h0 : b ≠ 46 := h 0 (by omega)
  have h1 : b ≠ 120 := h 1 (by omega)
  have h2 : b ≠ 115 := h 2 (by omega)
  have h3 : b ≠ 111 := h 3 (by omega)
  unfold kl
  rw [if_neg h0, if_neg h1, if_neg h2, if_neg h3]
  omega
set_option maxRecDepth 100000 in
set_option maxHeartbeats 2000000 in
theorem l01Letter_any (b : UInt8) (w : World) :
    Calls Tryd.prog 29 #[.int .u8 b.toNat] w fun e w' => e = .returned (.int .i64 (if kl b < 4 then (kl b : Int) else -1)) ∧ w' = w := by
  obtain ⟨V, hV⟩ : ∃ V : Int, (if kl b < 4 then (kl b : Int) else -1) = V := ⟨_, rfl⟩
  rw [hV]
  have HV := Lib.hid hV
  clear hV
  go_enter Tryd.func29, Tryd.ntmps29
  go_wp2_with fail
  go_loop [3] (fun i => ∃ k : Nat, k ≤ 4 ∧ i = .int .i64 k ∧ Hid (∀ j, j < k → b ≠ mks j)) (fun i => 4 - (intOf i).toNat)
  case atStart => exact ⟨0, by omega, rfl, Lib.hid (fun j hj => by omega)⟩
  case round =>
    obtain ⟨k, hk, rfl, hno⟩ := hrel
    by_cases hlt : k < 4
    · have HN : Hid (b ≠ mks k → ∀ j, j < k + 1 → b ≠ mks j) := Lib.hid fun hb j hj => by
        by_cases e : j = k
        · subst e; exact hb
        · exact hno.out j (by omega)
      by_cases hb : b = mks k
      · have hVk : V = k := by rw [← HV.out, kl_hit hlt hb, if_pos hlt]
        subst hVk
        have : k = 0 ∨ k = 1 ∨ k = 2 ∨ k = 3 := by omega
        rcases this with rfl | rfl | rfl | rfl
        all_goals
          subst hb
          clear HN hno HV
          go_wp2_with fail
          go_ret
          exact ⟨rfl, rfl⟩
      · have HM := Lib.hid (HN.out hb)
        have hbt : ∀ c : UInt8, c = mks k → ((c.toNat : Int) == b.toNat) = false := fun c hc => by
          rw [beq_eq_false_iff_ne]; intro e; exact hb (by rw [← hc]; exact UInt8.toNat_inj.1 (by omega))
        have : k = 0 ∨ k = 1 ∨ k = 2 ∨ k = 3 := by omega
        rcases this with rfl | rfl | rfl | rfl
        · have e1 := hbt ((⟨#[46, 120, 115, 111]⟩ : ByteArray)[0]) rfl
          clear hbt HN hb hno
          go_wp2_with fail
          exact ⟨⟨1, by omega, rfl, HM⟩, by simp [intOf]⟩
        · have e1 := hbt ((⟨#[46, 120, 115, 111]⟩ : ByteArray)[1]) rfl
          clear hbt HN hb hno
          go_wp2_with fail
          exact ⟨⟨2, by omega, rfl, HM⟩, by simp [intOf]⟩
        · have e1 := hbt ((⟨#[46, 120, 115, 111]⟩ : ByteArray)[2]) rfl
          clear hbt HN hb hno
          go_wp2_with fail
          exact ⟨⟨3, by omega, rfl, HM⟩, by simp [intOf]⟩
        · have e1 := hbt ((⟨#[46, 120, 115, 111]⟩ : ByteArray)[3]) rfl
          clear hbt HN hb hno
          go_wp2_with fail
          exact ⟨⟨4, by omega, rfl, HM⟩, by simp [intOf]⟩
    · obtain rfl : k = 4 := by omega
      have hVn : V = -1 := by rw [← HV.out, if_neg (kl_none hno.out)]
      subst hVn
      go_wp2_with fail
      go_ret
      exact ⟨rfl, rfl⟩
end Go.Proofs.YtgdhfcpmeaeioaaDoor
