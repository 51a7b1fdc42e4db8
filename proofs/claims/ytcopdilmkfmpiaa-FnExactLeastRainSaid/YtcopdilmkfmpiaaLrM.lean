/- LeastRain: more rain drips no less; the least amount by which too much drips. -/
import Derived.Test.YtcopdilmkfmpiaaEven
import Derived.Test.YtcopdilmkfmpiaaDripS
namespace Go.Proofs.Ytcopdilmkfmpiaa
open Go.RowKit

theorem drip1_mono {k a x y : Int} (_h : 0 ≤ x) (hxy : x ≤ y) : drip1 k a x ≤ drip1 k a y ∧ x - drip1 k a x ≤ y - drip1 k a y := by
  unfold drip1
  split
  · omega
  · split
    · omega
    · split
      · split <;> omega
      · omega
theorem Rf.come_mono (r : Rf) {x y : Int} (cell : Nat) (hx : 0 ≤ x) (h : x ≤ y) : ∀ k, r.come x cell k ≤ r.come y cell k
  | 0 => h
  | k + 1 => by
    rw [← r.come_succ x, ← r.come_succ y]
    exact (drip1_mono (r.come_bd cell hx k).1 (r.come_mono cell hx h k)).2
theorem Rf.dripAt_mono (r : Rf) {x y : Int} (cell k : Nat) (hx : 0 ≤ x) (h : x ≤ y) : r.dripAt x cell k ≤ r.dripAt y cell k :=
  (drip1_mono (r.come_bd cell hx k).1 (r.come_mono cell hx h k)).1
theorem Rf.drips_mono (r : Rf) {t s : Nat → Int} (ht : ∀ i, i < 17 → 0 ≤ t i) (h : ∀ i, i < 17 → t i ≤ s i) (i : Nat) : r.drips t i ≤ r.drips s i := by
  unfold Rf.drips Rf.fullD
  split
  · exact r.dripAt_mono _ _ (ht _ (by omega)) (h _ (by omega))
  · exact Int.le_refl _
theorem sumTo_mono {t s : Nat → Int} (h : ∀ i, t i ≤ s i) : ∀ n, sumTo t n ≤ sumTo s n
  | 0 => Int.le_refl _
  | n + 1 => by
    have h1 := sumTo_mono h n
    have h2 := h n
    show sumTo t n + t n ≤ sumTo s n + s n
    omega

/-- What drips of even rain. -/
def Rf.evS (r : Rf) (a : Int) : Int := sumTo (r.drips (evT (2 * r.w + 1).toNat a)) 136
theorem Rf.evS_mono (r : Rf) {a b : Int} (ha : 0 ≤ a) (h : a ≤ b) : r.evS a ≤ r.evS b :=
  sumTo_mono (r.drips_mono (fun i _ => by unfold evT; split <;> omega) fun i _ => by unfold evT; split <;> omega) 136
theorem evT_rains {r : Rf} (ho : r.Ok) {a : Int} (a0 : 0 ≤ a) (a1 : a ≤ 1000) : r.Rains (evT (2 * r.w + 1).toNat a) := ⟨ho, fun i _ => by
  have h1 := ho.1
  unfold Rf.rfine evT
  split
  · exact ⟨by omega, .inl (by omega)⟩
  · exact ⟨by omega, .inr rfl⟩⟩
theorem Rf.evS_bd {r : Rf} (ho : r.Ok) {a : Int} (a0 : 0 ≤ a) (a1 : a ≤ 1000) : 0 ≤ r.evS a ∧ r.evS a ≤ 136000 := by
  have := sumTo_bd (t := r.drips (evT (2 * r.w + 1).toNat a)) (n := 136) fun i _ => (evT_rains ho a0 a1).drips_bd i
  unfold Rf.evS
  omega

/-- n is the least amount by which too much drips, and 1001 where there is none. -/
def Rf.Least (r : Rf) (b : Int) (n : Nat) : Prop := n ≤ 1001 ∧ (∀ m : Nat, m < n → r.evS m ≤ b) ∧ (n < 1001 → b < r.evS n)
theorem Rf.least_of (r : Rf) (b : Int) : ∀ k : Nat, k ≤ 1001 → (∀ m : Nat, m < 1001 - k → r.evS m ≤ b) → ∃ n, r.Least b n
  | 0, _, h => ⟨1001, by omega, h, by omega⟩
  | k + 1, hk, h => by
    by_cases hb : r.evS ((1001 - (k + 1) : Nat) : Int) ≤ b
    · refine r.least_of b k (by omega) fun m hm => ?_
      by_cases e : m = 1001 - (k + 1)
      · subst e; exact hb
      · exact h m (by omega)
    · exact ⟨1001 - (k + 1), by omega, h, fun _ => by omega⟩
theorem Rf.least_ex (r : Rf) (b : Int) : ∃ n, r.Least b n := r.least_of b 1001 (by omega) fun m hm => by omega
noncomputable def Rf.lr (r : Rf) (b : Int) : Nat := Classical.choose (r.least_ex b)
theorem Rf.lr_is (r : Rf) (b : Int) : r.Least b (r.lr b) := Classical.choose_spec (r.least_ex b)
theorem Rf.lr_le (r : Rf) (b : Int) : r.lr b ≤ 1001 := (r.lr_is b).1
/-- An amount is below the least one just where it does not drip too much. -/
theorem Rf.lr_over {r : Rf} {b : Int} {m : Nat} (_hm : m ≤ 1000) (h : b < r.evS m) : r.lr b ≤ m := by
  by_cases e : r.lr b ≤ m
  · exact e
  · have := (r.lr_is b).2.1 m (by omega); omega
theorem Rf.lr_under {r : Rf} {b : Int} {m : Nat} (hm : m ≤ 1000) (h : ¬ b < r.evS m) : m + 1 ≤ r.lr b := by
  by_cases e : m + 1 ≤ r.lr b
  · exact e
  · have h1 := (r.lr_is b).2.2 (by omega)
    have h2 := r.evS_mono (a := (r.lr b : Nat)) (b := m) (by omega) (by omega)
    omega
/-- What LeastRain answers. -/
noncomputable def Rf.lrC (r : Rf) (b : Int) : Int := if r.told (decide (0 ≤ b)) ≠ 0 then r.told (decide (0 ≤ b)) else if r.lr b < 1001 then 0 else 6
noncomputable def Rf.lrV (r : Rf) (b : Int) : Int := if r.lrC b = 0 then r.lr b else 0
end Go.Proofs.Ytcopdilmkfmpiaa
