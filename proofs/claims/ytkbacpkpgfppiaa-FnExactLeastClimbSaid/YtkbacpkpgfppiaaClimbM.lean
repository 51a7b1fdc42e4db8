/- Climbing for a list of places: its mathematics; the model's side. -/
import Derived.Test.YtkbacpkpgfppiaaLadS
namespace Go.Proofs.Ytkbacpkpgfppiaa
open Go.RowKit

def mxI (a b : Int) : Int := if b < a then a else b
theorem mxI_bd {a b B : Int} (ha : 0 ≤ a ∧ a ≤ B) (hb : 0 ≤ b ∧ b ≤ B) : 0 ≤ mxI a b ∧ mxI a b ≤ B := by unfold mxI; split <;> omega
/-- Behind k places: what has been climbed, and how high the highest one of those at hand is. -/
def clm (h : Int) (f : Nat → Int) (y : Nat) : Nat → Int × Int
  | 0 => (0, 0)
  | k + 1 => if k % y = 0 then ((clm h f y k).1 + 2 * (clm h f y k).2, mxI 0 (h - f (k * 2))) else ((clm h f y k).1, mxI (clm h f y k).2 (h - f (k * 2)))
def tot (h : Int) (f : Nat → Int) (y k : Nat) : Int := (clm h f y k).1 + 2 * (clm h f y k).2
theorem clm_yes {h : Int} {f : Nat → Int} {y k : Nat} (e : k % y = 0) : clm h f y (k + 1) = ((clm h f y k).1 + 2 * (clm h f y k).2, mxI 0 (h - f (k * 2))) := by rw [clm, if_pos e]
theorem clm_no {h : Int} {f : Nat → Int} {y k : Nat} (e : ¬ k % y = 0) : clm h f y (k + 1) = ((clm h f y k).1, mxI (clm h f y k).2 (h - f (k * 2))) := by rw [clm, if_neg e]
theorem clm_bd {h : Int} {f : Nat → Int} {y : Nat} : ∀ {k : Nat}, (∀ q, q < k → 0 ≤ h - f (q * 2) ∧ h - f (q * 2) ≤ 8) → (0 ≤ (clm h f y k).1 ∧ (clm h f y k).1 ≤ 16 * k) ∧ 0 ≤ (clm h f y k).2 ∧ (clm h f y k).2 ≤ 8
  | 0, _ => by simp [clm]
  | k + 1, hf => by
    obtain ⟨⟨a1, a2⟩, a3, a4⟩ := clm_bd (y := y) (k := k) fun q hq => hf q (by omega)
    have hk := hf k (by omega)
    by_cases e : k % y = 0
    · rw [clm_yes e]
      have := mxI_bd (B := 8) (a := 0) ⟨by omega, by omega⟩ hk
      dsimp only
      omega
    · rw [clm_no e]
      have := mxI_bd (B := 8) ⟨a3, a4⟩ hk
      dsimp only
      omega
/-- The highest one of e places from place k on. -/
def pmx (h : Int) (f : Nat → Int) (k : Nat) : Nat → Int
  | 0 => 0
  | e + 1 => mxI (pmx h f k e) (h - f ((k + e) * 2))
theorem clm_part {h : Int} {f : Nat → Int} {y j : Nat} : ∀ {e : Nat}, e + 1 ≤ y → clm h f y (j * y + (e + 1)) = (tot h f y (j * y), pmx h f (j * y) (e + 1))
  | 0, hy => by
    rw [clm_yes (by simp)]
    rfl
  | e + 1, hy => by
    have := clm_part (h := h) (f := f) (j := j) (e := e) (y := y) (by omega)
    rw [show j * y + (e + 1 + 1) = (j * y + (e + 1)) + 1 from rfl, clm_no (by
      rw [Nat.add_comm, Nat.add_mul_mod_self_right, Nat.mod_eq_of_lt (by omega)]; omega), this]
    rfl
theorem tot_part {h : Int} {f : Nat → Int} {y j e : Nat} (he : e ≤ y) : tot h f y (j * y + e) = tot h f y (j * y) + 2 * pmx h f (j * y) e := by
  cases e with
  | zero => simp [pmx]
  | succ e => unfold tot; rw [clm_part he]; rfl
theorem tot_bd {h : Int} {f : Nat → Int} {y k : Nat} (hf : ∀ q, q < k → 0 ≤ h - f (q * 2) ∧ h - f (q * 2) ≤ 8) : 0 ≤ tot h f y k ∧ tot h f y k ≤ 16 * k + 16 := by
  obtain ⟨⟨a1, a2⟩, a3, a4⟩ := clm_bd (y := y) hf
  unfold tot; omega
theorem pmx_bd {h : Int} {f : Nat → Int} {k : Nat} : ∀ {e : Nat}, (∀ q, q < e → 0 ≤ h - f ((k + q) * 2) ∧ h - f ((k + q) * 2) ≤ 8) → 0 ≤ pmx h f k e ∧ pmx h f k e ≤ 8
  | 0, _ => by simp [pmx]
  | e + 1, hf => mxI_bd (pmx_bd fun q hq => hf q (by omega)) (hf e (by omega))
theorem Rf.climb_bd {r : Rf} (ho : r.Ok) {f : Nat → Int} {n : Nat} (hp : r.okP f n) : ∀ q, q < n → 0 ≤ r.h - f (q * 2) ∧ r.h - f (q * 2) ≤ 8 := fun q hq => by
  have h2 := ho.2.2.2.1
  have h := hp q hq
  unfold Rf.inP at h
  omega

theorem l00Max_b (a b : Int) (w : World) :
    Calls Try.prog 85 #[.int .i64 a, .int .i64 b] w fun e w' => e = .returned (.int .i64 (mxI a b)) ∧ w = w' := by
  by_cases h : b < a
  · rw [show mxI a b = a from if_pos h]
    go_enter Try.func85, Try.ntmps85
    go_wp2
    go_ret
    exact ⟨rfl, rfl⟩
  · rw [show mxI a b = b from if_neg h]
    go_enter Try.func85, Try.ntmps85
    go_wp2
    go_ret
    exact ⟨rfl, rfl⟩

set_option maxRecDepth 100000 in
set_option maxHeartbeats 2000000 in
theorem l04Climbs_any (n0 B n y : Nat) (c : Array Value) (r : Rf) (f : Nat → Int) (u : Option Addr) (w : World) (hr : rowAt w n0 = some c) (hR : IsRoof c r) (ho : r.Ok)
    (hv : IsList w B (.slice u n n) 2 n (fun i => .int .i8 (f i))) (hn : n ≤ 8) (hp : r.okP f n) (hy : 1 ≤ y ∧ y ≤ 20) :
    Calls Try.prog 43 #[.pointer (some ⟨n0, 0, none⟩), .slice u n n, .int .i64 y] w fun e w' => e = .returned (.int .i64 (tot r.h f y n)) ∧ Below w.heap.size w w' := by
  have HV := Lib.hid hv
  have HR := Lib.hid hr
  have HP := Lib.hid hp
  have HB8 := Lib.hid (Rf.climb_bd ho hp)
  have y0 : 1 ≤ (y : Int) := by omega
  have y1 : (y : Int) ≤ 20 := by omega
  have hh0 := ho.2.2.1
  have hh1 := ho.2.2.2.1
  clear hv hr hp
  go_enter Try.func43, Try.ntmps43
  go_wp2_with fail
  go_loopw [7, 8, 9] (fun s m x W => ∃ k : Nat, k ≤ n ∧ x = .int .i64 k ∧ s = .int .i64 (clm r.h f y k).1 ∧ m = .int .i64 (clm r.h f y k).2 ∧ Below w.heap.size w W) (fun _ _ x _ => n - (intOf x).toNat)
  case atStart => exact ⟨0, by omega, rfl, rfl, rfl, Below.refl _ _⟩
  case round =>
    obtain ⟨k, hk, rfl, rfl, rfl, hB⟩ := hrel
    have HB := Lib.hid hB
    clear hB
    obtain ⟨⟨s0, s1⟩, m0, m1⟩ := clm_bd (h := r.h) (f := f) (y := y) (k := k) fun q hq => HB8.out q (by omega)
    have hk8 : (k : Int) ≤ 8 := by omega
    have s2 : (clm r.h f y k).1 ≤ 128 := by omega
    by_cases hlt : k < n
    · obtain ⟨gg, rfl, c0, c1⟩ := (HV.out.below HB.out (Nat.le_refl _)).pl hlt
      obtain ⟨i, j, e0, e1, i8, j8, _, _, ih, _⟩ := Rf.inP_nat ho (HP.out k hlt)
      rw [e0] at c0
      rw [e1] at c1
      have hi0 : 0 ≤ (k : Int) := by omega
      have hi1 : (k : Int) < n := by omega
      have CC := l04Climb_any n0 c r i j wr (brow HB.out HR.out) hR i8
      by_cases e : k % y = 0
      · have eb : ((k : Int) % (y : Int) == 0) = true := by
          rw [show (k : Int) % (y : Int) = ((k % y : Nat) : Int) from (Int.natCast_emod k y).symm, e]; rfl
        have HX := Lib.hid (clm_yes (h := r.h) (f := f) e)
        rw [e0] at HX
        generalize (clm r.h f y k).1 = s at *
        generalize (clm r.h f y k).2 = m at *
        clear e e0 e1 s1
        go_wp2_with fail
        refine CC.mono ?_
        rintro e w1 ⟨rfl, b1⟩
        have B1 := Lib.hid (bnext HB.out b1 HB.out.size)
        clear b1 c0 c1 eb CC
        go_wp2_with fail
        refine (l00Max_b _ _ _).mono ?_
        rintro e w2 ⟨rfl, rfl⟩
        go_wp2_with fail
        exact ⟨⟨k + 1, by omega, by go_num, by rw [HX.out], by rw [HX.out], B1.out⟩, by simp [intOf]; omega⟩
      · have eb : ((k : Int) % (y : Int) == 0) = false := by
          rw [show (k : Int) % (y : Int) = ((k % y : Nat) : Int) from (Int.natCast_emod k y).symm]
          simp; omega
        have HX := Lib.hid (clm_no (h := r.h) (f := f) e)
        rw [e0] at HX
        generalize (clm r.h f y k).1 = s at *
        generalize (clm r.h f y k).2 = m at *
        clear e e0 e1 s1
        go_wp2_with fail
        refine CC.mono ?_
        rintro e w1 ⟨rfl, b1⟩
        have B1 := Lib.hid (bnext HB.out b1 HB.out.size)
        clear b1 c0 c1 eb CC
        go_wp2_with fail
        refine (l00Max_b _ _ _).mono ?_
        rintro e w2 ⟨rfl, rfl⟩
        go_wp2_with fail
        exact ⟨⟨k + 1, by omega, by go_num, by rw [HX.out], by rw [HX.out], B1.out⟩, by simp [intOf]; omega⟩
    · obtain rfl : k = n := by omega
      have HT : Hid (tot r.h f y k = (clm r.h f y k).1 + 2 * (clm r.h f y k).2) := Lib.hid rfl
      generalize (clm r.h f y k).1 = s at *
      generalize (clm r.h f y k).2 = m at *
      go_wp2_with fail
      go_ret
      exact ⟨by rw [HT.out]; rfl, HB.out⟩
end Go.Proofs.Ytkbacpkpgfppiaa
