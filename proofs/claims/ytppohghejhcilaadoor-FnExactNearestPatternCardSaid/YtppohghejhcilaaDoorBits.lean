/- Bits of bytes: asked, set, counted, turned round. -/
import Derived.Test.YtppohghejhcilaaDoorNums
import Derived.IntWalk
import Derived.Laws.Entries
namespace Go.Proofs.YtppohghejhcilaaDoor
open Go.RowKit

theorem bit8_num : ∀ (s : Fin 256) (k : Fin 8), (bits BinOp.and IntKind.u8 (((s.val : Nat) : Int) / 2 ^ k.val) 1 == 1) = s.val.testBit k.val := by decide +kernel
theorem or8_num : ∀ (s : Fin 256) (k : Fin 8), bits BinOp.or IntKind.u8 ((s.val : Nat) : Int) (2 ^ k.val % 256) = ((s.val ||| 2 ^ k.val : Nat) : Int) := by decide +kernel
theorem xor8_num {a b : Nat} (ha : a < 256) (hb : b < 256) : bits BinOp.xor IntKind.u8 (a : Int) (b : Int) = ((a ^^^ b : Nat) : Int) := by
  have hx : a ^^^ b < 256 := Nat.xor_lt_two_pow (n := 8) ha hb
  have h8 : IntKind.u8.bits = 8 := rfl
  unfold bits
  simp only [h8, BitVec.ofInt_natCast, BitVec.toNat_xor, BitVec.toNat_ofNat]
  rw [Nat.mod_eq_of_lt (show a < 2 ^ 8 from ha), Nat.mod_eq_of_lt (show b < 2 ^ 8 from hb)]
  exact IntWalk.u8_in _ (by omega)
theorem or8_lt {a k : Nat} (h : a < 256) (hk : k < 8) : a ||| 2 ^ k < 256 := Nat.or_lt_two_pow (n := 8) h (Nat.pow_lt_pow_right (by omega) hk)
theorem bit8_or {a k j : Nat} : (a ||| 2 ^ k).testBit j = (a.testBit j || decide (k = j)) := by rw [Nat.testBit_or, Nat.testBit_two_pow]
/-- Two bytes with the same bits. -/
theorem bits256 {a b : Nat} (ha : a < 256) (hb : b < 256) (h : ∀ j, j < 8 → a.testBit j = b.testBit j) : a = b := Nat.eq_of_testBit_eq fun j => by
  by_cases hj : j < 8
  · exact h j hj
  · have h2 : 256 ≤ 2 ^ j := show 2 ^ 8 ≤ 2 ^ j from Nat.pow_le_pow_right (by omega) (by omega)
    rw [Nat.testBit_lt_two_pow (Nat.lt_of_lt_of_le ha h2), Nat.testBit_lt_two_pow (Nat.lt_of_lt_of_le hb h2)]
/-- How many of the first k bits are set. -/
def pop (n : Nat) : Nat → Nat
  | 0 => 0
  | k + 1 => pop n k + n / 2 ^ k % 2
theorem pop_le (n : Nat) : ∀ k, pop n k ≤ k
  | 0 => Nat.le_refl _
  | k + 1 => by have := pop_le n k; have := Nat.mod_lt (n / 2 ^ k) (show 0 < 2 by omega); show pop n k + _ ≤ _; omega
/-- The bits of a byte of n tiles in the other order. -/
def rev (n m : Nat) : Nat → Nat
  | 0 => 0
  | k + 1 => if n.testBit k = true then rev n m k ||| 2 ^ (m - 1 - k) else rev n m k
theorem rev_lt (n m : Nat) (hm : m ≤ 8) : ∀ k, rev n m k < 256
  | 0 => by show 0 < 256; omega
  | k + 1 => by
    have := rev_lt n m hm k
    simp only [rev]
    split
    · exact or8_lt this (by omega)
    · exact this
end Go.Proofs.YtppohghejhcilaaDoor
