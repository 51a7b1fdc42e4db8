/- MirrorGutter: mathematics. -/
import Derived.Test.YtcdddngdjhjdbaaR32
import Derived.Test.YtcdddngdjhjdbaaSite
import Derived.Test.YtcdddngdjhjdbaaCln
namespace Go.Proofs.Ytcdddngdjhjdbaa
open Go.RowKit

theorem Gt.leaf_bit {g : Gt} {L : Nat} (h : g.l = L) (hL : L < 2 ^ 32) (j : Nat) : g.leaf j = L.testBit j := by
  unfold Gt.leaf
  rw [h]
  have e : ((L : Int) / 2 ^ j) = ((L / 2 ^ j : Nat) : Int) := by rw [Int.natCast_ediv, Int.natCast_pow]; rfl
  have h1 : bits BinOp.and IntKind.u32 ((L / 2 ^ j : Nat) : Int) 1 = ((L / 2 ^ j &&& 1 : Nat) : Int) := and32_num (b := 1) (Nat.lt_of_le_of_lt (Nat.div_le_self _ _) hL) (by decide)
  rw [e, h1, Nat.and_one_is_mod, Nat.testBit_eq_decide_div_mod_eq]
  by_cases q : L / 2 ^ j % 2 = 1
  · rw [q]; rfl
  · have : L / 2 ^ j % 2 = 0 := by omega
    rw [this]; rfl
/-- The leaves of the first k cells of N, exchanged. -/
def Gt.mirL (g : Gt) (N : Nat) : Nat → Nat
  | 0 => 0
  | k + 1 => if g.leaf k = true then g.mirL N k ||| 2 ^ (N - 1 - k) else g.mirL N k
theorem Gt.mirL_s (g : Gt) (N k : Nat) : g.mirL N (k + 1) = if g.leaf k = true then g.mirL N k ||| 2 ^ (N - 1 - k) else g.mirL N k := rfl
theorem Gt.mirL_lt {g : Gt} {N : Nat} (hN : N ≤ 32) : ∀ k, k ≤ N → g.mirL N k < 2 ^ 32
  | 0, _ => by show 0 < 2 ^ 32; decide
  | k + 1, hk => by
    have ih := Gt.mirL_lt (g := g) hN k (by omega)
    rw [Gt.mirL_s]
    split
    · exact Nat.or_lt_two_pow ih (Nat.pow_lt_pow_right (by omega) (by omega))
    · exact ih
theorem Gt.mirL_bit {g : Gt} {N : Nat} : ∀ k, k ≤ N → ∀ j, (g.mirL N k).testBit j = (decide (j < N ∧ N - 1 - j < k) && g.leaf (N - 1 - j))
  | 0, _, j => by simp [Gt.mirL]
  | k + 1, hk, j => by
    have ih := Gt.mirL_bit (g := g) k (show k ≤ N by omega) j
    by_cases e : j < N ∧ N - 1 - j = k
    · have ek := e.2
      subst ek
      have ih0 : (g.mirL N (N - 1 - j)).testBit j = false := by rw [ih]; simp
      have hj : N - 1 - (N - 1 - j) = j := by omega
      rw [Gt.mirL_s]
      cases hl : g.leaf (N - 1 - j) with
      | true =>
        rw [if_pos rfl, Nat.testBit_or, ih0, Nat.testBit_two_pow, hj]
        simp; omega
      | false => rw [if_neg (by decide), ih0]; simp
    · have h1 : (decide (j < N ∧ N - 1 - j < k + 1)) = decide (j < N ∧ N - 1 - j < k) := by
        congr 1
        apply propext
        constructor <;> intro h <;> omega
      rw [h1, ← ih, Gt.mirL_s]
      split
      · rw [Nat.testBit_or, Nat.testBit_two_pow]
        have : ¬ N - 1 - k = j := by omega
        simp [this]
      · rfl
theorem Gt.mirL_rev {g : Gt} {L N : Nat} (h : g.l = L) (hL : L < 2 ^ 32) (hN : N ≤ 32) : rev32 L / 2 ^ (32 - N) = g.mirL N N := Nat.eq_of_testBit_eq fun j => by
  rw [Nat.testBit_div_two_pow, Gt.mirL_bit N (Nat.le_refl _)]
  by_cases hj : j < N
  · rw [rev32_bit _ _ (by omega), Gt.leaf_bit h hL]
    have : 31 - (j + (32 - N)) = N - 1 - j := by omega
    rw [this]
    have h2 : (j < N ∧ N - 1 - j < N) := by omega
    simp [h2]
  · have h3 : rev32 L < 2 ^ (j + (32 - N)) := Nat.lt_of_lt_of_le (rev32_lt hL) (Nat.pow_le_pow_right (by omega) (by omega))
    rw [Nat.testBit_lt_two_pow h3]
    have h2 : ¬ (j < N ∧ N - 1 - j < N) := by omega
    simp [h2]
/-- A gutter with left and right exchanged. -/
def Gt.mir (g : Gt) : Gt where
  n := g.n
  d := g.d
  h i := if (i : Int) < g.n then g.h (g.n.toNat - 1 - i) else 0
  l := (g.mirL g.n.toNat g.n.toNat : Nat)
  m := g.m
  p i := if i % 2 = 0 then g.n - 1 - g.p ((g.m - 1 - i / 2) * 2) else g.p ((g.m - 1 - i / 2) * 2 + 1)
noncomputable def Gt.mrG (g : Gt) : Gt := if g.ok = true then g.mir else Gt.zero
noncomputable def Gt.mrC (g : Gt) : Int := if g.ok = true then 0 else 1
theorem Gt.mr_t {g : Gt} (h : g.ok = true) : g.mrG = g.mir ∧ g.mrC = 0 := ⟨if_pos h, if_pos h⟩
theorem Gt.mr_f {g : Gt} (h : g.ok = false) : g.mrG = Gt.zero ∧ g.mrC = 1 := ⟨if_neg (by simp [h]), if_neg (by simp [h])⟩
theorem Gt.mrG_le {g : Gt} (h : g.m ≤ 2000000) : g.mrG.m ≤ 2000000 := by
  unfold Gt.mrG
  split
  · exact h
  · exact Nat.zero_le _
end Go.Proofs.Ytcdddngdjhjdbaa
