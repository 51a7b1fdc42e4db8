/- Climbing for a list of places, whatever the capacity: the model. -/
import Derived.Test.YtkbacpkpgfppiaaClimbM
namespace Go.Proofs.Ytkbacpkpgfppiaa
open Go.RowKit

set_option maxRecDepth 100000 in
set_option maxHeartbeats 2000000 in
theorem l04ClimbsC_any (n0 B n y cp : Nat) (c : Array Value) (r : Rf) (f : Nat → Int) (u : Option Addr) (w : World) (hr : rowAt w n0 = some c) (hR : IsRoof c r) (ho : r.Ok)
    (hv : IsList w B (.slice u n cp) 2 n (fun i => .int .i8 (f i))) (hn : n ≤ 8) (hp : r.okP f n) (hy : 1 ≤ y ∧ y ≤ 20) :
    Calls Try.prog 43 #[.pointer (some ⟨n0, 0, none⟩), .slice u n cp, .int .i64 y] w fun e w' => e = .returned (.int .i64 (tot r.h f y n)) ∧ Below w.heap.size w w' := by
  have HV := Lib.hid hv
  have HR := Lib.hid hr
  have HP := Lib.hid hp
  have HB8 := Lib.hid (Rf.climb_bd ho hp)
  have y0 : 1 ≤ (y : Int) := by omega
  have y1 : (y : Int) ≤ 20 := by omega
  have hh0 := ho.2.2.1
  have hh1 := ho.2.2.2.1
  clear hv hr hp
  go_enter Try.func43, Try.ntmps43
  go_wp2_with fail
  go_loopw [7, 8, 9] (fun s m x W => ∃ k : Nat, k ≤ n ∧ x = .int .i64 k ∧ s = .int .i64 (clm r.h f y k).1 ∧ m = .int .i64 (clm r.h f y k).2 ∧ Below w.heap.size w W) (fun _ _ x _ => n - (intOf x).toNat)
  case atStart => exact ⟨0, by omega, rfl, rfl, rfl, Below.refl _ _⟩
  case round =>
    obtain ⟨k, hk, rfl, rfl, rfl, hB⟩ := hrel
    have HB := Lib.hid hB
    clear hB
    obtain ⟨⟨s0, s1⟩, m0, m1⟩ := clm_bd (h := r.h) (f := f) (y := y) (k := k) fun q hq => HB8.out q (by omega)
    have hk8 : (k : Int) ≤ 8 := by omega
    have s2 : (clm r.h f y k).1 ≤ 128 := by omega
    by_cases hlt : k < n
    · obtain ⟨gg, rfl, c0, c1⟩ := (HV.out.below HB.out (Nat.le_refl _)).pl hlt
      obtain ⟨i, j, e0, e1, i8, j8, _, _, ih, _⟩ := Rf.inP_nat ho (HP.out k hlt)
      rw [e0] at c0
      rw [e1] at c1
      have hi0 : 0 ≤ (k : Int) := by omega
      have hi1 : (k : Int) < n := by omega
      have CC := l04Climb_any n0 c r i j wr (brow HB.out HR.out) hR i8
      by_cases e : k % y = 0
      · have eb : ((k : Int) % (y : Int) == 0) = true := by
          rw [show (k : Int) % (y : Int) = ((k % y : Nat) : Int) from (Int.natCast_emod k y).symm, e]; rfl
        have HX := Lib.hid (clm_yes (h := r.h) (f := f) e)
        rw [e0] at HX
        generalize (clm r.h f y k).1 = s at *
        generalize (clm r.h f y k).2 = m at *
        clear e e0 e1 s1
        go_wp2_with fail
        refine CC.mono ?_
        rintro e w1 ⟨rfl, b1⟩
        have B1 := Lib.hid (bnext HB.out b1 HB.out.size)
        clear b1 c0 c1 eb CC
        go_wp2_with fail
        refine (l00Max_b _ _ _).mono ?_
        rintro e w2 ⟨rfl, rfl⟩
        go_wp2_with fail
        exact ⟨⟨k + 1, by omega, by go_num, by rw [HX.out], by rw [HX.out], B1.out⟩, by simp [intOf]; omega⟩
      · have eb : ((k : Int) % (y : Int) == 0) = false := by
          rw [show (k : Int) % (y : Int) = ((k % y : Nat) : Int) from (Int.natCast_emod k y).symm]
          simp; omega
        have HX := Lib.hid (clm_no (h := r.h) (f := f) e)
        rw [e0] at HX
        generalize (clm r.h f y k).1 = s at *
        generalize (clm r.h f y k).2 = m at *
        clear e e0 e1 s1
        go_wp2_with fail
        refine CC.mono ?_
        rintro e w1 ⟨rfl, b1⟩
        have B1 := Lib.hid (bnext HB.out b1 HB.out.size)
        clear b1 c0 c1 eb CC
        go_wp2_with fail
        refine (l00Max_b _ _ _).mono ?_
        rintro e w2 ⟨rfl, rfl⟩
        go_wp2_with fail
        exact ⟨⟨k + 1, by omega, by go_num, by rw [HX.out], by rw [HX.out], B1.out⟩, by simp [intOf]; omega⟩
    · obtain rfl : k = n := by omega
      have HT : Hid (tot r.h f y k = (clm r.h f y k).1 + 2 * (clm r.h f y k).2) := Lib.hid rfl
      generalize (clm r.h f y k).1 = s at *
      generalize (clm r.h f y k).2 = m at *
      go_wp2_with fail
      go_ret
      exact ⟨by rw [HT.out]; rfl, HB.out⟩
end Go.Proofs.Ytkbacpkpgfppiaa
