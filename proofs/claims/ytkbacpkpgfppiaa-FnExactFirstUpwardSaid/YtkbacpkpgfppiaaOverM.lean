/- What laps over what: one relation, told in two ways; contracts of l04Over and lapsOverSome. -/
import Derived.Test.YtkbacpkpgfppiaaLifted
namespace Go.Proofs.Ytkbacpkpgfppiaa
open Go.RowKit

/-- Whether the tile a, b laps over the tile u, t. -/
def Rf.over (r : Rf) (a b u t : Int) : Bool := decide (a + 1 = u) && inB (2 * b + r.by a - (2 * t + r.by u)) (-1) 1
theorem Rf.over_laps {r : Rf} (ho : r.Ok) {a b u t : Int} (_ha : 0 ≤ a ∧ a < r.h) (hb : 0 ≤ b ∧ b < r.w) (hu : 0 ≤ u ∧ u < r.h) (ht : 0 ≤ t ∧ t < r.w) : r.over a b u t = true ↔ a + 1 = u ∧ t ∈ r.laps a b (a + 1) := by
  have hw := ho.2.1
  unfold Rf.over
  rw [Bool.and_eq_true, decide_eq_true_eq]
  refine and_congr_right fun e => ?_
  subst e
  have h1 : r.by a = 0 ∧ r.by (a + 1) = 1 ∨ r.by a = 1 ∧ r.by (a + 1) = 0 := by unfold Rf.by; omega
  unfold Rf.laps
  rw [if_pos hu, List.mem_filter]
  simp only [List.mem_cons, List.not_mem_nil, or_false, decide_eq_true_eq, inB]
  generalize hk : a + 1 = k at *
  unfold Rf.tile
  rcases h1 with ⟨e1, e2⟩ | ⟨e1, e2⟩
  all_goals
    rw [e1, e2]
    constructor
    · intro h
      refine ⟨?_, ht.1⟩
      split <;> split <;> omega
    · rintro ⟨h, _⟩
      split at h <;> split at h <;> omega
/-- Whether the tile a, b laps over one of n places. -/
def Rf.lapsOver (r : Rf) (a b : Int) (f : Nat → Int) (n : Nat) : Bool := anyI (fun q => hasP f n (plF (a + 1) (r.laps a b (a + 1)) (q * 2)) (plF (a + 1) (r.laps a b (a + 1)) (q * 2 + 1))) (r.laps a b (a + 1)).length
theorem anyI_iff {p : Nat → Bool} {n : Nat} : anyI p n = true ↔ ∃ k, k < n ∧ p k = true := by
  constructor
  · intro h
    refine Classical.byContradiction fun hn => ?_
    rw [anyI_f.2 fun j hj => ?_] at h
    · cases h
    · cases hp : p j with
      | false => rfl
      | true => exact absurd ⟨j, hj, hp⟩ hn
  · rintro ⟨k, hk, hp⟩
    exact anyI_t hk hp
theorem Rf.lapsOver_iff {r : Rf} (ho : r.Ok) {a b : Int} (ha : 0 ≤ a ∧ a < r.h) (hb : 0 ≤ b ∧ b < r.w) {f : Nat → Int} {n : Nat} (hp : r.okP f n) : r.lapsOver a b f n = true ↔ ∃ k, k < n ∧ r.over a b (f (k * 2)) (f (k * 2 + 1)) = true := by
  unfold Rf.lapsOver hasP
  rw [anyI_iff]
  constructor
  · rintro ⟨q, hq, h⟩
    obtain ⟨k, hk, h⟩ := anyI_iff.1 h
    rw [decide_eq_true_eq, plF_even, plF_odd] at h
    refine ⟨k, hk, ?_⟩
    have hk2 := hp k hk
    rw [Rf.over_laps ho ha hb ⟨hk2.1, hk2.2.1⟩ ⟨hk2.2.2.1, hk2.2.2.2⟩]
    refine ⟨h.1.symm, ?_⟩
    rw [h.2, List.getD_eq_getElem?_getD, List.getElem?_eq_getElem hq, Option.getD_some]
    exact List.getElem_mem _
  · rintro ⟨k, hk, h⟩
    have hk2 := hp k hk
    rw [Rf.over_laps ho ha hb ⟨hk2.1, hk2.2.1⟩ ⟨hk2.2.2.1, hk2.2.2.2⟩] at h
    obtain ⟨q, hq, e⟩ := List.getElem_of_mem h.2
    refine ⟨q, hq, anyI_t hk ?_⟩
    rw [decide_eq_true_eq, plF_even, plF_odd, List.getD_eq_getElem?_getD, List.getElem?_eq_getElem hq, Option.getD_some, e]
    exact ⟨h.1.symm, rfl⟩

/-- An upward order, told by pairs. -/
def Rf.down (r : Rf) (f : Nat → Int) (i : Nat) : Bool := anyI (fun k => r.over (f (k * 2)) (f (k * 2 + 1)) (f (i * 2)) (f (i * 2 + 1))) i
def Rf.upB (r : Rf) (f : Nat → Int) (n : Nat) : Bool := !(anyI (r.down f) n)
theorem Rf.upB_iff {r : Rf} (ho : r.Ok) {f : Nat → Int} {n : Nat} (hp : r.okP f n) : r.upB f n = !(anyI (fun k => r.lapsOver (f (k * 2)) (f (k * 2 + 1)) (fun x => f (x + (k + 1) * 2)) (n - (k + 1))) n) := by
  unfold Rf.upB
  congr 1
  rw [Bool.eq_iff_iff, anyI_iff, anyI_iff]
  have key : ∀ k, k < n → (r.lapsOver (f (k * 2)) (f (k * 2 + 1)) (fun x => f (x + (k + 1) * 2)) (n - (k + 1)) = true ↔ ∃ i, k < i ∧ i < n ∧ r.over (f (k * 2)) (f (k * 2 + 1)) (f (i * 2)) (f (i * 2 + 1)) = true) := fun k hk => by
    have hk2 := hp k hk
    rw [Rf.lapsOver_iff ho ⟨hk2.1, hk2.2.1⟩ ⟨hk2.2.2.1, hk2.2.2.2⟩ (fun q hq => by
      have h := hp (q + (k + 1)) (by omega)
      unfold Rf.inP at h ⊢
      dsimp only
      rw [show q * 2 + (k + 1) * 2 = (q + (k + 1)) * 2 by omega, show q * 2 + 1 + (k + 1) * 2 = (q + (k + 1)) * 2 + 1 by omega]
      exact h)]
    constructor
    · rintro ⟨q, hq, h⟩
      refine ⟨q + (k + 1), by omega, by omega, ?_⟩
      rw [show q * 2 + (k + 1) * 2 = (q + (k + 1)) * 2 by omega, show q * 2 + 1 + (k + 1) * 2 = (q + (k + 1)) * 2 + 1 by omega] at h
      exact h
    · rintro ⟨i, h1, h2, h⟩
      refine ⟨i - (k + 1), by omega, ?_⟩
      rw [show (i - (k + 1)) * 2 + (k + 1) * 2 = i * 2 by omega, show (i - (k + 1)) * 2 + 1 + (k + 1) * 2 = i * 2 + 1 by omega]
      exact h
  constructor
  · rintro ⟨i, hi, h⟩
    obtain ⟨k, hk, h⟩ := anyI_iff.1 h
    exact ⟨k, by omega, (key k (by omega)).2 ⟨i, hk, hi, h⟩⟩
  · rintro ⟨k, hk, h⟩
    obtain ⟨i, h1, h2, h3⟩ := (key k hk).1 h
    exact ⟨i, h2, anyI_t h1 h3⟩
end Go.Proofs.Ytkbacpkpgfppiaa
