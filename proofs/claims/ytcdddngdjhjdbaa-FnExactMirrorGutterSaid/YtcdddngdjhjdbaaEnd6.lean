/- EndOf: both sides. -/
import Derived.Test.YtcdddngdjhjdbaaFlS
namespace Go.Proofs.Ytcdddngdjhjdbaa
open Go.RowKit

theorem Gt.to_cases {g : Gt} {j : Nat} (hj : (j : Int) < g.n) : g.to j = -1 ∨ ∃ q : Nat, g.to j = q ∧ (q : Int) < g.n ∧ g.h q < g.h j := by
  unfold Gt.to Gt.toB
  by_cases h : g.pipe j = true ∨ g.leaf j = true
  · rw [if_pos h]; exact .inl rfl
  rw [if_neg h]
  simp only [Gt.toK]
  by_cases h1 : 0 < j ∧ g.h (j - 1) < g.h j
  · rw [if_pos h1, if_pos h1]
    by_cases h2 : (j : Int) + 1 < g.n ∧ g.h (j + 1) < g.h (j - 1)
    · rw [if_pos h2]; exact .inr ⟨j + 1, by omega, by omega, by omega⟩
    · rw [if_neg h2]; exact .inr ⟨j - 1, by omega, by omega, h1.2⟩
  · rw [if_neg h1, if_neg h1]
    by_cases h2 : (j : Int) + 1 < g.n ∧ g.h (j + 1) < g.h j
    · rw [if_pos h2]; exact .inr ⟨j + 1, by omega, by omega, h2.2⟩
    · rw [if_neg h2]; exact .inl rfl
/-- The water of a cell ends in a cell. -/
inductive Gt.Ends (g : Gt) : Nat → Nat → Prop
  | stay (j : Nat) : g.to j = -1 → Gt.Ends g j j
  | go (j q e : Nat) : g.to j = q → Gt.Ends g q e → Gt.Ends g j e
theorem Gt.ends_ex {g : Gt} (ho : g.Ok) : ∀ (m j : Nat), (g.h j).toNat ≤ m → (j : Int) < g.n → ∃ e, g.Ends j e ∧ (e : Int) < g.n
  | m, j, hm, hj => by
    rcases Gt.to_cases hj with h | ⟨q, hq, hn, hh⟩
    · exact ⟨j, .stay j h, hj⟩
    · have h0 := (ho.hs q (by have := ho.n17; omega)).1
      cases m with
      | zero => have := (ho.hs j (by have := ho.n17; omega)).1; omega
      | succ m =>
        obtain ⟨e, he, hen⟩ := Gt.ends_ex ho m q (by omega) hn
        exact ⟨e, .go j q e hq he, hen⟩
open Classical in
noncomputable def Gt.endN (g : Gt) (j : Nat) : Nat := if h : ∃ e, g.Ends j e ∧ (e : Int) < g.n then h.choose else 0
theorem Gt.endN_is {g : Gt} {j : Nat} (ho : g.Ok) (hj : (j : Int) < g.n) : g.Ends j (g.endN j) ∧ (g.endN j : Int) < g.n := by
  have h := Gt.ends_ex ho _ j (Nat.le_refl _) hj
  unfold Gt.endN
  rw [dif_pos h]
  exact h.choose_spec
theorem Gt.Ends.at_stay {g : Gt} {j e : Nat} (h : g.Ends j e) (hs : g.to j = -1) : e = j := by
  cases h with
  | stay _ _ => rfl
  | go _ q _ hq _ => omega
theorem Gt.Ends.at_go {g : Gt} {j q e : Nat} (h : g.Ends j e) (hs : g.to j = q) : g.Ends q e := by
  cases h with
  | stay _ h => omega
  | go _ q' _ hq hr => obtain rfl : q' = q := by omega
                       exact hr

/-- The code of a gutter and of a number that has to be as told. -/
noncomputable def Gt.ask (g : Gt) (fine : Bool) : Int := if g.ok = true then (if fine = true then 0 else 2) else 1
theorem outB_in {x : Int} {g : Gt} : outB x 0 (g.n - 1) = !(inB x 0 (g.n - 1)) := by
  unfold outB inB
  by_cases h : 0 ≤ x ∧ x ≤ g.n - 1
  · simp [h] <;> omega
  · simp [h] <;> omega
noncomputable def Gt.endV (g : Gt) (y : Int) : Int := if g.ask (inB y 0 (g.n - 1)) = 0 then (g.endN y.toNat : Int) else 0
theorem Gt.ask_0 {g : Gt} {fine : Bool} (h : g.ask fine = 0) : g.Ok ∧ fine = true := by
  unfold Gt.ask at h
  split at h
  · rename_i h1
    split at h
    · rename_i h2; exact ⟨Gt.Ok_of h1, h2⟩
    · omega
  · omega
theorem inB_of {x lo hi : Int} (h : inB x lo hi = true) : lo ≤ x ∧ x ≤ hi := by simpa [inB] using h

end Go.Proofs.Ytcdddngdjhjdbaa
