/- The first number below another one of which something holds. -/
import Derived.Test.YtppohghejhcilaaDoorTy
namespace Go.Proofs.YtppohghejhcilaaDoor
open Go.RowKit

/-- The first k below n of which p holds, or -1. -/
def firstI (p : Nat → Bool) : Nat → Int
  | 0 => -1
  | n + 1 => if 0 ≤ firstI p n then firstI p n else if p n then n else -1
theorem firstI_miss {p : Nat → Bool} : ∀ {n : Nat}, (∀ j, j < n → p j = false) → firstI p n = -1
  | 0, _ => rfl
  | n + 1, h => by
    have := firstI_miss (n := n) fun j hj => h j (by omega)
    unfold firstI
    rw [this, if_neg (by omega), h n (by omega)]
    rfl
theorem firstI_hit {p : Nat → Bool} : ∀ {n k : Nat}, k < n → (∀ j, j < k → p j = false) → p k = true → firstI p n = k
  | 0, k, hk, _, _ => by omega
  | n + 1, k, hk, h, hp => by
    unfold firstI
    by_cases e : k = n
    · subst e
      rw [firstI_miss h, if_neg (by omega), hp]; rfl
    · rw [firstI_hit (n := n) (by omega) h hp, if_pos (by omega)]
theorem firstI_bd (p : Nat → Bool) : ∀ n : Nat, -1 ≤ firstI p n ∧ firstI p n < n
  | 0 => by simp [firstI]
  | n + 1 => by
    have := firstI_bd p n
    unfold firstI
    split
    · omega
    · split <;> omega
theorem firstI_of {p : Nat → Bool} {n : Nat} (h : firstI p n = -1) : ∀ j, j < n → p j = false := by
  induction n with
  | zero => intro j hj; omega
  | succ n ih =>
    intro j hj
    unfold firstI at h
    split at h
    · omega
    · rename_i h1
      have h2 : firstI p n = -1 := by have := firstI_bd p n; omega
      split at h
      · omega
      · rename_i h3
        by_cases e : j = n
        · subst e; simpa using h3
        · exact ih h2 j (by omega)
theorem firstI_congr {p q : Nat → Bool} : ∀ {n : Nat}, (∀ j, j < n → p j = q j) → firstI p n = firstI q n
  | 0, _ => rfl
  | n + 1, h => by unfold firstI; rw [firstI_congr fun j hj => h j (by omega), h n (by omega)]
/-- Some k below n of which p holds. -/
def anyI (p : Nat → Bool) (n : Nat) : Bool := decide (0 ≤ firstI p n)
theorem anyI_f {p : Nat → Bool} {n : Nat} : anyI p n = false ↔ ∀ j, j < n → p j = false := by
  unfold anyI
  constructor
  · intro h
    have := firstI_bd p n
    exact firstI_of (by simp at h; omega)
  · intro h
    rw [firstI_miss h]; rfl

theorem anyI_succ (p : Nat → Bool) (n : Nat) : anyI p (n + 1) = (anyI p n || p n) := by
  have hb := firstI_bd p n
  unfold anyI
  rw [show firstI p (n + 1) = (if 0 ≤ firstI p n then firstI p n else if p n then (n : Int) else -1) from rfl]
  by_cases h : 0 ≤ firstI p n
  · rw [if_pos h]; simp [h]
  · rw [if_neg h]
    cases hp : p n <;> simp [h]
theorem anyI_zero (p : Nat → Bool) : anyI p 0 = false := rfl
theorem anyI_t {p : Nat → Bool} {n k : Nat} (hk : k < n) (h : p k = true) : anyI p n = true := by
  cases hq : anyI p n with
  | true => rfl
  | false => rw [anyI_f.1 hq k hk] at h; cases h
end Go.Proofs.YtppohghejhcilaaDoor
