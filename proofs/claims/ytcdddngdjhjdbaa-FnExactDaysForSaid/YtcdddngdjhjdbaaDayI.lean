/- DaysFor: the program's side. -/
import Derived.Test.YtcdddngdjhjdbaaDayY
namespace Go.Proofs.Ytcdddngdjhjdbaa
open Go.RowKit

def daysM (m : Nat) (g : Nat → Int) (y : Int) : Nat := if timC m g y = 0 then m else 0
def daysN (m : Nat) (g : Nat → Int) (y : Int) : Nat := if timC m g y = 0 then (dayS g y m).1 else 0
theorem daysM_le {m : Nat} {g : Nat → Int} {y : Int} (h : m ≤ 2000000) : daysM m g y ≤ 2000000 := by unfold daysM; split <;> omega
set_option maxRecDepth 100000 in
set_option maxHeartbeats 1000000 in
theorem implDaysFor_v (b m : Nat) (g : Nat → Int) (v : Value) (y : Int) (w : World) (hv : IsList w b v 1 m (fun i => .int .i64 (g i))) (hm : m ≤ 2000000) (_hb : ∀ i, i < m → -9223372036854775808 ≤ g i ∧ g i ≤ 9223372036854775807) :
    Calls Try.prog 10 #[v, .int .i64 y] w (GivesT w 1 .i64 (daysM m g y) (fun i => dayD g y i) [.int .i64 (daysN m g y), .int .i64 (timC m g y)]) := by
  have HV := Lib.hid hv
  have CC := fun W h => checkTimes_any b m v g y W h hm
  have CP := fun W h h8 hy hg => firstPlan_any b m v g y W h h8 hy hg
  obtain ⟨av, cv, rfl⟩ := hv.shape
  have hv2 := hv
  clear hv
  by_cases hc : timC m g y = 0
  · obtain ⟨⟨hy, hg⟩, h8⟩ := timC_ok hc
    have e0 := Lib.hid (show daysM m g y = m from if_pos hc)
    have e1 := Lib.hid (show daysN m g y = (dayS g y m).1 from if_pos hc)
    have e2 := Lib.hid hc
    have CP := fun W h => CP W h h8 hy hg
    rw [hc] at CC
    clear hc hy hg h8
    go_enter Try.func10, Try.ntmps10
    go_wp2_with fail
    refine (CC _ hv2).mono ?_
    rintro e w1 ⟨rfl, b1⟩
    have V1 := Lib.hid (hv2.below b1 (Nat.le_refl _))
    clear hv2
    go_wp2_with fail
    refine (CP _ V1.out).mono ?_
    rintro e w2 ⟨ud, ul, rfl, ⟨o2, l2⟩, b2⟩
    obtain ⟨ad, cd, rfl⟩ := owns_shape o2
    obtain ⟨al, cl, rfl⟩ := l2.shape
    have B2 := bnext b1 b2 b1.size
    have L2 := Lib.hid (IsList.of_intsV o2)
    have hz1 := b1.size
    clear b1 b2 o2 l2
    go_wp2_with fail
    go_quiet (fail)
    go_wp2_with fail
    go_ret3
    rw [e0.out, e1.out, e2.out]
    exact ⟨.slice ad m cd, rfl, (L2.out.below (below_drewN ((Below.refl _ _).alloc (Nat.le_refl _) _) _) (Nat.le_refl _)).mono hz1, below_drewN (B2.alloc B2.size _) _⟩
  · have e0 := Lib.hid (show daysM m g y = 0 from if_neg hc)
    have e1 := Lib.hid (show daysN m g y = 0 from if_neg hc)
    have hcb : (timC m g y != 0) = true := by simp [hc]
    generalize timC m g y = q at *
    go_enter Try.func10, Try.ntmps10
    go_wp2_with fail
    refine (CC _ hv2).mono ?_
    rintro e w1 ⟨rfl, b1⟩
    go_wp2_with fail
    go_ret3
    rw [e0.out, e1.out]
    exact ⟨_, rfl, .inl ⟨rfl, none, 0, rfl⟩, b1⟩
end Go.Proofs.Ytcdddngdjhjdbaa
