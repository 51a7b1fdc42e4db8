/- slices.Index, Contains, IndexFunc, ContainsFunc at places. -/
import Derived.Test.YtoibolmippfcgaaHasP
namespace Go.Proofs.Ytoibolmippfcgaa
open Go.RowKit

/-- A predicate on places as a function value. -/
def PredP (g : FuncId) (lb : Array Value) (p : Int → Int → Bool) (w : World) : Prop :=
  ∀ a b W, Below w.heap.size w W → Calls Try.prog g (#[.agg #[.int .i8 a, .int .i8 b]] ++ lb) W fun e w' => e = .returned (.bool (p a b)) ∧ Below W.heap.size W w'

set_option maxRecDepth 100000 in
set_option maxHeartbeats 1000000 in
theorem idxFuncP_any (g : FuncId) (lb : Array Value) (p : Int → Int → Bool) (eg : ∀ args w, (callFunc g args).run Try.prog w = .ok (.enter g args) w) (B n : Nat) (v : Value) (f : Nat → Int) (w : World) (hp : PredP g lb p w) (hv : IsList w B v 2 n (fun i => .int .i8 (f i))) (hn : n ≤ 2000000) :
    Calls Try.prog 107 #[v, .func (.func g) #[] lb] w fun e w' => e = .returned (.int .i64 (firstI (fun i => p (f (i * 2)) (f (i * 2 + 1))) n)) ∧ Below w.heap.size w w' := by
  have HP := Lib.hid hp
  have HV := Lib.hid hv
  obtain ⟨a, cap, rfl⟩ := hv.shape
  clear hp hv
  go_enter Try.func107, Try.ntmps107
  go_wp2_with fail
  go_loopg [5, 8] n (fun gg _ i W => ∃ k : Nat, k ≤ n ∧ n - k ≤ gg ∧ i = .int .i64 k ∧ Hid (∀ j, j < k → p (f (j * 2)) (f (j * 2 + 1)) = false) ∧ Below w.heap.size w W)
  case atStart => exact ⟨0, by omega, by omega, rfl, Lib.hid (by omega), Below.refl _ _⟩
  case round =>
    obtain ⟨k, hk, hg, rfl, hF, hB⟩ := hrel
    by_cases hlt : k < n
    · obtain ⟨b, rfl, c0, c1⟩ := (HV.out.below hB (Nat.le_refl _)).pl hlt
      have hi0 : 0 ≤ (k : Int) := by omega
      have hi1 : (k : Int) < n := by omega
      have hcall := HP.out (f (k * 2)) (f (k * 2 + 1)) _ hB
      have HB := Lib.hid hB
      clear hB
      cases hq : p (f (k * 2)) (f (k * 2 + 1)) with
      | true =>
        rw [hq] at hcall
        have HQ := Lib.hid hq
        clear hq
        go_wp2_with (go_at_fn g; refine (hcall).mono ?_; rintro e w' ⟨rfl, b'⟩)
        have B2 := bnext HB.out b' HB.out.size
        clear hcall
        go_ret
        exact ⟨by rw [firstI_hit hlt hF.out HQ.out]; rfl, B2⟩
      | false =>
        rw [hq] at hcall
        have HQ := Lib.hid hq
        clear hq
        go_wp2_with (go_at_fn g; refine (hcall).mono ?_; rintro e w' ⟨rfl, b'⟩)
        have B2 := bnext HB.out b' HB.out.size
        clear hcall
        go_roundg (n - (k + 1))
        case measure => omega
        case rel => exact ⟨k + 1, by omega, by omega, by go_num, Lib.hid (fun j hj => by
          by_cases e : j = k
          · subst e; exact HQ.out
          · exact hF.out j (by omega)), B2⟩
    · obtain rfl : k = n := by omega
      go_wp2_with fail
      go_ret
      exact ⟨by rw [firstI_miss hF.out]; rfl, hB⟩
end Go.Proofs.Ytoibolmippfcgaa
