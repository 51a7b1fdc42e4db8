/- The 32 bits of a number in the other order. -/
import Derived.Test.YtcdddngdjhjdbaaHelp
import Derived.Test.YtcdddngdjhjdbaaNums
import Derived.IntWalk
import Derived.Laws.Entries
namespace Go.Proofs.Ytcdddngdjhjdbaa
open Go.RowKit

theorem and32_num {a b : Nat} (ha : a < 2 ^ 32) (hb : b < 2 ^ 32) : bits BinOp.and IntKind.u32 (a : Int) (b : Int) = ((a &&& b : Nat) : Int) := by
  have hx : a &&& b < 2 ^ 32 := Nat.lt_of_le_of_lt Nat.and_le_left ha
  have h32 : IntKind.u32.bits = 32 := rfl
  unfold bits
  simp only [h32, BitVec.ofInt_natCast, BitVec.toNat_and, BitVec.toNat_ofNat]
  rw [Nat.mod_eq_of_lt ha, Nat.mod_eq_of_lt hb]
  exact IntWalk.u32_in _ (by omega)
theorem or32_num {a b : Nat} (ha : a < 2 ^ 32) (hb : b < 2 ^ 32) : bits BinOp.or IntKind.u32 (a : Int) (b : Int) = ((a ||| b : Nat) : Int) := by
  have hx : a ||| b < 2 ^ 32 := Nat.or_lt_two_pow ha hb
  have h32 : IntKind.u32.bits = 32 := rfl
  unfold bits
  simp only [h32, BitVec.ofInt_natCast, BitVec.toNat_or, BitVec.toNat_ofNat]
  rw [Nat.mod_eq_of_lt ha, Nat.mod_eq_of_lt hb]
  exact IntWalk.u32_in _ (by omega)
/-- Groups of s bits exchanged: m is the mask of the lower ones. -/
def swp (s m x : Nat) : Nat := (x / 2 ^ s &&& m) ||| ((x &&& m) * 2 ^ s)
/-- The bytes in the other order. -/
def swpB (x : Nat) : Nat := swp 16 65535 (swp 8 16711935 x)
def rev32 (x : Nat) : Nat := swpB (swp 4 252645135 (swp 2 858993459 (swp 1 1431655765 x)))
theorem swp_bit (s m x i : Nat) : (swp s m x).testBit i = ((x.testBit (i + s) && m.testBit i) || (decide (s ≤ i) && (x.testBit (i - s) && m.testBit (i - s)))) := by
  unfold swp
  rw [Nat.testBit_or, Nat.testBit_and, Nat.testBit_div_two_pow, Nat.mul_comm, Nat.testBit_two_pow_mul, Nat.testBit_and]
def sgm (s m i : Nat) : Nat := if m.testBit i = true then i + s else i - s
theorem swp_at {s m : Nat} (hm : ∀ i : Fin 32, (m.testBit i.val && !(decide (s ≤ i.val) && m.testBit (i.val - s))) || (!m.testBit i.val && (decide (s ≤ i.val) && m.testBit (i.val - s))) = true) (x i : Nat) (hi : i < 32) : (swp s m x).testBit i = x.testBit (sgm s m i) := by
  have h := hm ⟨i, hi⟩
  rw [swp_bit]
  unfold sgm
  dsimp only at h
  cases h1 : m.testBit i <;> cases h2 : decide (s ≤ i) <;> cases h3 : m.testBit (i - s) <;> rw [h1, h2, h3] at h <;> simp_all
theorem rev32_bit (x : Nat) (i : Nat) (hi : i < 32) : (rev32 x).testBit i = x.testBit (31 - i) := by
  have k : ∀ i : Fin 32, (sgm 16 65535 i.val < 32 ∧ sgm 8 16711935 (sgm 16 65535 i.val) < 32 ∧ sgm 4 252645135 (sgm 8 16711935 (sgm 16 65535 i.val)) < 32 ∧ sgm 2 858993459 (sgm 4 252645135 (sgm 8 16711935 (sgm 16 65535 i.val))) < 32) ∧ sgm 1 1431655765 (sgm 2 858993459 (sgm 4 252645135 (sgm 8 16711935 (sgm 16 65535 i.val)))) = 31 - i.val := by decide +kernel
  obtain ⟨⟨k1, k2, k3, k4⟩, k5⟩ := k ⟨i, hi⟩
  dsimp only at k1 k2 k3 k4 k5
  unfold rev32 swpB
  rw [swp_at (by decide +kernel) _ _ hi, swp_at (by decide +kernel) _ _ k1, swp_at (by decide +kernel) _ _ k2, swp_at (by decide +kernel) _ _ k3, swp_at (by decide +kernel) _ _ k4, k5]
theorem swp_num {x : Nat} (hx : x < 2 ^ 32) (s m P : Nat) (hP : P = 2 ^ s) (hm : m * P < 2 ^ 32) (h0 : 0 < P) :
    bits BinOp.or .u32 (bits BinOp.and .u32 ((x : Int) / (P : Int)) (m : Int)) (bits BinOp.and .u32 (x : Int) (m : Int) * (P : Int) % 4294967296) = ((swp s m x : Nat) : Int) ∧ swp s m x < 2 ^ 32 := by
  have hmm : m < 2 ^ 32 := Nat.lt_of_le_of_lt (Nat.le_mul_of_pos_right m h0) hm
  have hd : x / P < 2 ^ 32 := Nat.lt_of_le_of_lt (Nat.div_le_self _ _) hx
  have hle : (x &&& m) * P < 2 ^ 32 := Nat.lt_of_le_of_lt (Nat.mul_le_mul_right P Nat.and_le_right) hm
  have ha : x / P &&& m < 2 ^ 32 := Nat.lt_of_le_of_lt Nat.and_le_right hmm
  rw [← Int.natCast_ediv, and32_num hd hmm, and32_num hx hmm, ← Int.natCast_mul]
  rw [show ((((x &&& m) * P : Nat) : Int) % 4294967296) = (((x &&& m) * P : Nat) : Int) by omega]
  rw [or32_num ha hle]
  unfold swp
  rw [← hP]
  exact ⟨rfl, Nat.or_lt_two_pow ha hle⟩
theorem swp16_num {y : Nat} (hy : y < 2 ^ 32) : bits BinOp.or .u32 ((y : Int) / 65536) ((y : Int) * 65536 % 4294967296) = ((swp 16 65535 y : Nat) : Int) ∧ swp 16 65535 y < 2 ^ 32 := by
  have ha : y / 65536 < 2 ^ 32 := by omega
  have e1 : y / 65536 &&& 65535 = y / 65536 := by
    have := Nat.and_two_pow_sub_one_eq_mod (y / 65536) 16
    rw [show (2 : Nat) ^ 16 - 1 = 65535 from rfl, show (2 : Nat) ^ 16 = 65536 from rfl] at this
    rw [this]; omega
  have e2 : (y &&& 65535) * 65536 = y * 65536 % 4294967296 := by
    have := Nat.and_two_pow_sub_one_eq_mod y 16
    rw [show (2 : Nat) ^ 16 - 1 = 65535 from rfl, show (2 : Nat) ^ 16 = 65536 from rfl] at this
    rw [this]; omega
  have hb : y * 65536 % 4294967296 < 2 ^ 32 := Nat.mod_lt _ (by decide)
  have h := or32_num ha hb
  have e3 : swp 16 65535 y = y / 65536 ||| y * 65536 % 4294967296 := by
    show (y / 65536 &&& 65535) ||| ((y &&& 65535) * 65536) = _
    rw [e1, e2]
  rw [e3]
  refine ⟨?_, Nat.or_lt_two_pow ha hb⟩
  rw [← h]
  congr 1 <;> omega
set_option maxRecDepth 100000 in
set_option maxHeartbeats 1000000 in
theorem bswap32_any (x : Nat) (w : World) (hx : x < 2 ^ 32) :
    Calls Try.prog 95 #[.int .u32 (x : Int)] w fun e w' => e = .returned (.int .u32 (swpB x : Int)) ∧ w = w' := by
  have h8 : bits BinOp.or .u32 (bits BinOp.and .u32 ((x : Int) / 256) 16711935) (bits BinOp.and .u32 (x : Int) 16711935 * 256 % 4294967296) = ((swp 8 16711935 x : Nat) : Int) := (swp_num hx 8 16711935 256 rfl (by decide) (by decide)).1
  have h16 := swp16_num (swp_num hx 8 16711935 256 rfl (by decide) (by decide)).2
  go_enter Try.func95, Try.ntmps95
  go_wp2
  go_ret
  refine ⟨?_, rfl⟩
  rfl
set_option maxRecDepth 100000 in
set_option maxHeartbeats 1000000 in
theorem rev32_any (x : Nat) (w : World) (hx : x < 2 ^ 32) :
    Calls Try.prog 51 #[.int .u32 (x : Int)] w fun e w' => e = .returned (.int .u32 (rev32 x : Int)) ∧ w = w' := by
  have k1 := (swp_num hx 1 1431655765 2 rfl (by decide) (by decide)).2
  have k2 := (swp_num k1 2 858993459 4 rfl (by decide) (by decide)).2
  have k4 := (swp_num k2 4 252645135 16 rfl (by decide) (by decide)).2
  have h1 : bits BinOp.or .u32 (bits BinOp.and .u32 ((x : Int) / 2) 1431655765) (bits BinOp.and .u32 (x : Int) 1431655765 * 2 % 4294967296) = ((swp 1 1431655765 x : Nat) : Int) := (swp_num hx 1 1431655765 2 rfl (by decide) (by decide)).1
  have h2 := fun (y : Nat) (hy : y < 2 ^ 32) => (show bits BinOp.or .u32 (bits BinOp.and .u32 ((y : Int) / 4) 858993459) (bits BinOp.and .u32 (y : Int) 858993459 * 4 % 4294967296) = ((swp 2 858993459 y : Nat) : Int) from (swp_num hy 2 858993459 4 rfl (by decide) (by decide)).1)
  have h4 := fun (y : Nat) (hy : y < 2 ^ 32) => (show bits BinOp.or .u32 (bits BinOp.and .u32 ((y : Int) / 16) 252645135) (bits BinOp.and .u32 (y : Int) 252645135 * 16 % 4294967296) = ((swp 4 252645135 y : Nat) : Int) from (swp_num hy 4 252645135 16 rfl (by decide) (by decide)).1)
  have hv : bits BinOp.or .u32 (bits BinOp.and .u32 (bits BinOp.or .u32 (bits BinOp.and .u32 (bits BinOp.or .u32 (bits BinOp.and .u32 ((x : Int) / 2) 1431655765) (bits BinOp.and .u32 (x : Int) 1431655765 * 2 % 4294967296) / 4) 858993459) (bits BinOp.and .u32 (bits BinOp.or .u32 (bits BinOp.and .u32 ((x : Int) / 2) 1431655765) (bits BinOp.and .u32 (x : Int) 1431655765 * 2 % 4294967296)) 858993459 * 4 % 4294967296) / 16) 252645135) (bits BinOp.and .u32 (bits BinOp.or .u32 (bits BinOp.and .u32 (bits BinOp.or .u32 (bits BinOp.and .u32 ((x : Int) / 2) 1431655765) (bits BinOp.and .u32 (x : Int) 1431655765 * 2 % 4294967296) / 4) 858993459) (bits BinOp.and .u32 (bits BinOp.or .u32 (bits BinOp.and .u32 ((x : Int) / 2) 1431655765) (bits BinOp.and .u32 (x : Int) 1431655765 * 2 % 4294967296)) 858993459 * 4 % 4294967296)) 252645135 * 16 % 4294967296) = ((swp 4 252645135 (swp 2 858993459 (swp 1 1431655765 x)) : Nat) : Int) := by rw [h1, h2 _ k1, h4 _ k2]
  have CB := bswap32_any (swp 4 252645135 (swp 2 858993459 (swp 1 1431655765 x))) w k4
  clear h1 h2 h4
  go_enter Try.func51, Try.ntmps51
  go_wp2_with fail
  refine CB.mono ?_
  rintro e w1 ⟨rfl, rfl⟩
  go_wp2_with fail
  go_ret
  exact ⟨rfl, rfl⟩
theorem rev32_lt {x : Nat} (hx : x < 2 ^ 32) : rev32 x < 2 ^ 32 :=
  (swp16_num (swp_num (swp_num (swp_num (swp_num hx 1 1431655765 2 rfl (by decide) (by decide)).2 2 858993459 4 rfl (by decide) (by decide)).2 4 252645135 16 rfl (by decide) (by decide)).2 8 16711935 256 rfl (by decide) (by decide)).2).2
end Go.Proofs.Ytcdddngdjhjdbaa
