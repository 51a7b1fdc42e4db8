/- LeastClimb: both sides. -/
import Derived.Test.YtkbacpkpgfppiaaClimbF
import Derived.Test.YtkbacpkpgfppiaaClimbIC
import Derived.Test.YtkbacpkpgfppiaaClimbMC
import Derived.Test.YtkbacpkpgfppiaaSrtB
import Derived.Test.YtkbacpkpgfppiaaSrtT
namespace Go.Proofs.Ytkbacpkpgfppiaa
open Go.RowKit

/-- What is climbed for the sorted places. -/
noncomputable def Rf.lclV (r : Rf) (f : Nat → Int) (n : Nat) (y : Int) : Int := if r.clbC f n y = 0 then tot r.h (srt f n) y.toNat n else 0
theorem Rf.okP_srt {r : Rf} {f : Nat → Int} {n : Nat} (h : r.okP f n) : r.okP (srt f n) n := fun k hk => AllE.srt (Q := fun a b => 0 ≤ a ∧ a < r.h ∧ 0 ≤ b ∧ b < r.w) (n := n) h (Nat.le_refl _) k hk
theorem Rf.okP_q {r : Rf} {f : Nat → Int} {n : Nat} (ho : r.Ok) (h : r.okP f n) : AllE PlQ n f := fun k hk => by
  obtain ⟨i, j, e0, e1, i8, j8, _⟩ := Rf.inP_nat ho (h k hk)
  rw [e0, e1]
  exact ⟨by omega, by omega⟩

set_option maxRecDepth 100000 in
set_option maxHeartbeats 1000000 in
theorem specLeastClimb_any (c : Array Value) (r : Rf) (B n : Nat) (f : Nat → Int) (u : Option Addr) (y : Int) (w : World) (hR : IsRoof c r) (hv : IsList w B (.slice u n n) 2 n (fun i => .int .i8 (f i))) (hn : n ≤ 2000000) (hf : ∀ i, i < n * 2 → -128 ≤ f i ∧ f i ≤ 127) :
    Calls Try.prog 12 #[.agg c, .slice u n n, .int .i64 y] w fun e w' => e = .returned (.tuple #[.int .i64 (r.lclV f n y), .int .i64 (r.clbC f n y)]) ∧ Below w.heap.size w w' := by
  have hc := hR.size
  have HV := Lib.hid hv
  clear hv
  have p0 := rowAt_alloc_at w c 31 w.heap.size rfl
  have LA := fun W k hr H1 => l04Asked_any w.heap.size 0 B 0 n c r (fun _ => 0) f (.slice k 0 0) (.slice u n n) (inB y 1 20) W hr hR (IsList.none0 _ _ _ _ _ _) (by omega) H1 hn hf
  rw [show r.wcode (fun _ => 0) 0 f n (inB y 1 20) = r.clbC f n y from rfl] at LA
  by_cases hk : r.clbC f n y = 0
  · have hb1 : (r.clbC f n y != 0) = false := by simp [hk]
    have hV : r.lclV f n y = tot r.h (srt f n) y.toNat n := by unfold Rf.lclV; rw [if_pos hk]
    obtain ⟨ho, hy, hp, hn8⟩ := Rf.clb_in hk
    have HP := Lib.hid (Rf.okP_srt hp)
    have HQ := Lib.hid (Rf.okP_q ho hp)
    have HK := Lib.hid hk
    obtain ⟨z, rfl⟩ : ∃ z : Nat, y = z := ⟨y.toNat, by omega⟩
    have hz : 1 ≤ z ∧ z ≤ 20 := by omega
    rw [hV, Int.toNat_natCast]
    clear hk hV hp
    go_enter Try.func12, Try.ntmps12
    go_wp2_with fail
    refine gen_callsC fun W hW => ?_
    have P0 : rowAt W w.heap.size = some c := by rw [hW]; exact (rowAt_alloc_past _ _ _ (by simp <;> omega)).trans p0
    have PB : Below w.heap.size w W := by rw [hW]; exact ((Below.refl _ _).alloc (Nat.le_refl _) _).alloc (by simp) _
    clear hW p0
    refine (l04Carry_any (z : Int) _).mono ?_
    rintro e w1 ⟨rfl, rfl⟩
    go_wp2_with fail
    refine (LA _ _ P0 (HV.out.below PB (Nat.le_refl _))).mono ?_
    rintro e w2 ⟨rfl, b2⟩
    have PB2 := Lib.hid (bnext PB b2 PB.size)
    have P2 := Lib.hid (brow b2 P0)
    clear b2 P0 PB LA
    go_wp2_with fail
    refine (l04Sorted_any B n _ f _ (HV.out.below PB2.out (Nat.le_refl _)) (by omega)).mono ?_
    rintro e w3 ⟨a3, cap3, rfl, hc3, l3, b3⟩
    have PB3 := Lib.hid (bnext PB2.out b3 PB2.out.size)
    have P3 := Lib.hid (brow b3 P2.out)
    have L3 := Lib.hid l3
    clear b3 l3
    go_wp2_with fail
    refine (l04ClimbsC_any w.heap.size _ n z cap3 c r (srt f n) a3 _ P3.out hR ho L3.out hn8 HP.out hz).mono ?_
    rintro e w4 ⟨rfl, b4⟩
    have PB4 := Lib.hid (bnext PB3.out b4 PB3.out.size)
    clear b4
    go_wp2_with fail
    go_ret2
    exact ⟨by simp [HK.out], PB4.out⟩
  · have hb1 : (r.clbC f n y != 0) = true := by simp [hk]
    have hV : r.lclV f n y = 0 := by unfold Rf.lclV; rw [if_neg hk]
    rw [hV]
    clear hk hV
    go_enter Try.func12, Try.ntmps12
    go_wp2_with fail
    refine gen_callsC fun W hW => ?_
    have P0 : rowAt W w.heap.size = some c := by rw [hW]; exact (rowAt_alloc_past _ _ _ (by simp <;> omega)).trans p0
    have PB : Below w.heap.size w W := by rw [hW]; exact ((Below.refl _ _).alloc (Nat.le_refl _) _).alloc (by simp) _
    clear hW p0
    refine (l04Carry_any y _).mono ?_
    rintro e w1 ⟨rfl, rfl⟩
    go_wp2_with fail
    refine (LA _ _ P0 (HV.out.below PB (Nat.le_refl _))).mono ?_
    rintro e w2 ⟨rfl, b2⟩
    have PB2 := Lib.hid (bnext PB b2 PB.size)
    have P2 := Lib.hid (brow b2 P0)
    clear b2 P0 PB LA
    go_wp2_with fail
    go_ret2
    exact ⟨rfl, PB2.out⟩

set_option maxRecDepth 100000 in
set_option maxHeartbeats 2000000 in
theorem implLeastClimb_any (c : Array Value) (r : Rf) (B n : Nat) (f : Nat → Int) (u : Option Addr) (y : Int) (w : World) (hR : IsRoof c r) (hv : IsList w B (.slice u n n) 2 n (fun i => .int .i8 (f i))) (hn : n ≤ 2000000) (_hf : ∀ i, i < n * 2 → -128 ≤ f i ∧ f i ≤ 127) :
    Calls Try.prog 15 #[.agg c, .slice u n n, .int .i64 y] w fun e w' => e = .returned (.tuple #[.int .i64 (r.lclV f n y), .int .i64 (r.clbC f n y)]) ∧ Below w.heap.size w w' := by
  have hc := hR.size
  have HV := Lib.hid hv
  clear hv
  have p0 := rowAt_alloc_at w c 31 w.heap.size rfl
  have CW := fun W B' k H2 H3 => checkWork_any B B' 0 n 1 c r (fun _ => 0) f (bnd3 y 1 20) (.slice none 0 0) (.slice u n n) (.slice (some ⟨k, 0, none⟩) 1 1) W hR ⟨none, 0, rfl, .inl rfl⟩ (by omega) H2 hn H3 (by omega)
  rw [fineB_bnd, show r.wcode (fun _ => 0) 0 f n (inB y 1 20) = r.clbC f n y from rfl] at CW
  by_cases hk : r.clbC f n y = 0
  · have hb1 : (r.clbC f n y != 0) = false := by simp [hk]
    have hV : r.lclV f n y = tot r.h (srt f n) y.toNat n := by unfold Rf.lclV; rw [if_pos hk]
    obtain ⟨ho, hy, hp, hn8⟩ := Rf.clb_in hk
    have HP := Lib.hid (Rf.okP_srt hp)
    have HQ := Lib.hid (Rf.okP_q ho hp)
    have HK := Lib.hid hk
    obtain ⟨z, rfl⟩ : ∃ z : Nat, y = z := ⟨y.toNat, by omega⟩
    have hz : 1 ≤ z ∧ z ≤ 20 := by omega
    rw [hV, Int.toNat_natCast]
    clear hk hV hp
    go_enter Try.func15, Try.ntmps15
    go_wp2_with fail
    refine gen_world fun W hW => ?_
    have P0 : Hid (rowAt W w.heap.size = some c) := Lib.hid (by rw [hW]; exact p0)
    have PB : Hid (Below w.heap.size w W) := Lib.hid (by rw [hW]; exact (Below.refl _ _).alloc (Nat.le_refl _) _)
    clear hW p0
    refine wp_region_held_drew (S := fun w' => Below W.heap.size W w') (by kernel_rfl) ((Below.refl _ _).drew) (fun hH => ?_)
    refine wpAnyH_take (i := 0) (v := .agg c) rfl (by kernel_rfl) (by kernel_rfl) (by kernel_rfl) (fun _ _ _ h => h) (Or.inl ⟨by rfl, ?_⟩) hH ?_
    · intro w1 hS; (try dsimp only at hS); have s0 := brow hS P0.out; go_simp
    (try simp only [List.getElem_toArray]); (try simp only [List.getElem_cons_succ]); (try simp only [List.getElem_cons_zero]); (try simp only [Act.put]); (try simp only [List.setIfInBounds_toArray]); (try simp only [List.set_cons_succ]); (try simp only [List.set_cons_zero])
    refine wpAnyH_take (i := 1) (v := .slice u n n) rfl (by kernel_rfl) (by kernel_rfl) (by kernel_rfl) (fun _ _ _ h => h) (Or.inl ⟨by rfl, ?_⟩) hH ?_
    · intro w1 hS; (try dsimp only at hS); go_simp
    (try simp only [List.getElem_toArray]); (try simp only [List.getElem_cons_succ]); (try simp only [List.getElem_cons_zero]); (try simp only [Act.put]); (try simp only [List.setIfInBounds_toArray]); (try simp only [List.set_cons_succ]); (try simp only [List.set_cons_zero])
    refine wpAnyH_take (i := 2) (v := .int .i64 z) rfl (by kernel_rfl) (by kernel_rfl) (by kernel_rfl) (fun _ _ _ h => h) (Or.inl ⟨by rfl, ?_⟩) hH ?_
    · intro w1 hS; (try dsimp only at hS); go_simp
    (try simp only [List.getElem_toArray]); (try simp only [List.getElem_cons_succ]); (try simp only [List.getElem_cons_zero]); (try simp only [Act.put]); (try simp only [List.setIfInBounds_toArray]); (try simp only [List.set_cons_succ]); (try simp only [List.set_cons_zero])
    refine wpAnyH_ready (rs := [3]) (by kernel_rfl) (by simp) (AllReadyH.cons rfl (fun K hK => ?_) AllReadyH.nil)
    go_simp
    refine (carried_any (z : Int) _).mono ?_
    rintro x wx ⟨rfl, bx⟩
    go_simp
    refine hK.out _ _ (bnext hH bx hH.size) (fun hG => ?_)
    clear hK K hH bx
    replace hH := hG
    clear hG
    (try simp only [List.getElem_toArray]); (try simp only [List.getElem_cons_succ]); (try simp only [List.getElem_cons_zero]); (try simp only [Act.put]); (try simp only [List.setIfInBounds_toArray]); (try simp only [List.set_cons_succ]); (try simp only [List.set_cons_zero])
    refine wpAnyH_ready (rs := [4]) (by kernel_rfl) (by simp) (AllReadyH.cons rfl (fun K hK => ?_) AllReadyH.nil)
    go_simp
    refine hK.out _ _ (hH.alloc hH.size _) (fun hG => ?_)
    clear hK K hH
    replace hH := hG
    clear hG
    (try simp only [List.getElem_toArray]); (try simp only [List.getElem_cons_succ]); (try simp only [List.getElem_cons_zero]); (try simp only [Act.put]); (try simp only [List.setIfInBounds_toArray]); (try simp only [List.set_cons_succ]); (try simp only [List.set_cons_zero])
    refine wpAnyH_ready (rs := [5]) (by kernel_rfl) (by simp) (AllReadyH.cons rfl (fun K hK => ?_) AllReadyH.nil)
    go_simp
    refine (CW _ 0 _ (HV.out.below (bnext PB.out hH PB.out.size) (Nat.le_refl _)) (IsList.lit3 (rowAt_alloc_at _ _ _ _ rfl) (Nat.zero_le _))).mono ?_
    rintro x wx ⟨rfl, bx⟩
    go_simp
    refine hK.out _ _ (bnext hH bx hH.size) (fun hG => ?_)
    clear hK K hH bx
    replace hH := hG
    clear hG
    (try simp only [List.getElem_toArray]); (try simp only [List.getElem_cons_succ]); (try simp only [List.getElem_cons_zero]); (try simp only [Act.put]); (try simp only [List.setIfInBounds_toArray]); (try simp only [List.set_cons_succ]); (try simp only [List.set_cons_zero])
    refine wpAnyH_take (i := 6) (v := .int .i64 (r.clbC f n (z : Int))) rfl (by kernel_rfl) (by kernel_rfl) (by kernel_rfl) (fun _ _ _ h => h) (Or.inl ⟨by rfl, ?_⟩) hH ?_
    · intro w1 hS; (try dsimp only at hS); go_simp
    (try simp only [List.getElem_toArray]); (try simp only [List.getElem_cons_succ]); (try simp only [List.getElem_cons_zero]); (try simp only [Act.put]); (try simp only [List.setIfInBounds_toArray]); (try simp only [List.set_cons_succ]); (try simp only [List.set_cons_zero])
    refine wpAnyH_done (by kernel_rfl) ?_ _
    have B1 := Lib.hid (bnext PB.out hH PB.out.size)
    have P1 := brow hH P0.out
    clear hH P0
    go_wp2_with fail
    refine gen_world fun W4 hW4 => ?_
    rw [← hW4] at B1 P1
    clear hW4
    refine wp_region_held_drew (S := fun w' => Below W4.heap.size W4 w') (by kernel_rfl) ((Below.refl _ _).drew) (fun hH => ?_)
    refine wpAnyH_take (i := 0) (v := .agg c) rfl (by kernel_rfl) (by kernel_rfl) (by kernel_rfl) (fun _ _ _ h => h) (Or.inl ⟨by rfl, ?_⟩) hH ?_
    · intro w1 hS; (try dsimp only at hS); have s0 := brow hS P1; go_simp
    (try simp only [List.getElem_toArray]); (try simp only [List.getElem_cons_succ]); (try simp only [List.getElem_cons_zero]); (try simp only [Act.put]); (try simp only [List.setIfInBounds_toArray]); (try simp only [List.set_cons_succ]); (try simp only [List.set_cons_zero])
    refine wpAnyH_take (i := 1) (v := .slice u n n) rfl (by kernel_rfl) (by kernel_rfl) (by kernel_rfl) (fun _ _ _ h => h) (Or.inl ⟨by rfl, ?_⟩) hH ?_
    · intro w1 hS; (try dsimp only at hS); go_simp
    (try simp only [List.getElem_toArray]); (try simp only [List.getElem_cons_succ]); (try simp only [List.getElem_cons_zero]); (try simp only [Act.put]); (try simp only [List.setIfInBounds_toArray]); (try simp only [List.set_cons_succ]); (try simp only [List.set_cons_zero])
    refine wpAnyH_take (i := 3) (v := .int .i64 (z : Int)) rfl (by kernel_rfl) (by kernel_rfl) (by kernel_rfl) (fun _ _ _ h => h) (Or.inl ⟨by rfl, ?_⟩) hH ?_
    · intro w1 hS; (try dsimp only at hS); go_simp
    (try simp only [List.getElem_toArray]); (try simp only [List.getElem_cons_succ]); (try simp only [List.getElem_cons_zero]); (try simp only [Act.put]); (try simp only [List.setIfInBounds_toArray]); (try simp only [List.set_cons_succ]); (try simp only [List.set_cons_zero])
    refine wpAnyH_ready (rs := [2]) (by kernel_rfl) (by simp) (AllReadyH.cons rfl (fun K hK => ?_) AllReadyH.nil)
    go_simp
    refine (sortedBy_any B n _ f _ (HV.out.below (bnext B1.out hH B1.out.size) (Nat.le_refl _)) hn8 HQ.out).mono ?_
    rintro x wx ⟨a3, cap3, rfl, hc3, l3, bx⟩
    have L3 := Lib.hid l3
    clear l3
    go_simp
    refine hK.out _ _ (bnext hH bx hH.size) (fun hG => ?_)
    clear hK K hH bx
    replace hH := hG
    clear hG
    (try simp only [List.getElem_toArray]); (try simp only [List.getElem_cons_succ]); (try simp only [List.getElem_cons_zero]); (try simp only [Act.put]); (try simp only [List.setIfInBounds_toArray]); (try simp only [List.set_cons_succ]); (try simp only [List.set_cons_zero])
    refine wpAnyH_ready (rs := [4]) (by kernel_rfl) (by simp) (AllReadyH.cons rfl (fun K hK => ?_) AllReadyH.nil)
    go_simp
    refine (climbsForC_any _ n z cap3 hc3 c r (srt f n) a3 _ hR ho L3.out hn8 HP.out hz).mono ?_
    rintro x wx ⟨rfl, bx⟩
    go_simp
    refine hK.out _ _ (bnext hH bx hH.size) (fun hG => ?_)
    clear hK K hH bx
    replace hH := hG
    clear hG
    (try simp only [List.getElem_toArray]); (try simp only [List.getElem_cons_succ]); (try simp only [List.getElem_cons_zero]); (try simp only [Act.put]); (try simp only [List.setIfInBounds_toArray]); (try simp only [List.set_cons_succ]); (try simp only [List.set_cons_zero])
    refine wpAnyH_take (i := 5) (v := .int .i64 (tot r.h (srt f n) z n)) rfl (by kernel_rfl) (by kernel_rfl) (by kernel_rfl) (fun _ _ _ h => h) (Or.inl ⟨by rfl, ?_⟩) hH ?_
    · intro w1 hS; (try dsimp only at hS); go_simp
    (try simp only [List.getElem_toArray]); (try simp only [List.getElem_cons_succ]); (try simp only [List.getElem_cons_zero]); (try simp only [Act.put]); (try simp only [List.setIfInBounds_toArray]); (try simp only [List.set_cons_succ]); (try simp only [List.set_cons_zero])
    refine wpAnyH_take (i := 6) (v := .int .i64 0) rfl (by kernel_rfl) (by kernel_rfl) (by kernel_rfl) (fun _ _ _ h => h) (Or.inl ⟨by rfl, ?_⟩) hH ?_
    · intro w1 hS; (try dsimp only at hS); go_simp
    (try simp only [List.getElem_toArray]); (try simp only [List.getElem_cons_succ]); (try simp only [List.getElem_cons_zero]); (try simp only [Act.put]); (try simp only [List.setIfInBounds_toArray]); (try simp only [List.set_cons_succ]); (try simp only [List.set_cons_zero])
    refine wpAnyH_done (by kernel_rfl) ?_ _
    have B9 := Lib.hid (bnext B1.out hH B1.out.size)
    clear hH
    go_wp2_with fail
    go_ret2
    exact ⟨by simp [HK.out], B9.out⟩
  · have hb1 : (r.clbC f n y != 0) = true := by simp [hk]
    have hV : r.lclV f n y = 0 := by unfold Rf.lclV; rw [if_neg hk]
    rw [hV]
    clear hk hV
    go_enter Try.func15, Try.ntmps15
    go_wp2_with fail
    refine gen_world fun W hW => ?_
    have P0 : Hid (rowAt W w.heap.size = some c) := Lib.hid (by rw [hW]; exact p0)
    have PB : Hid (Below w.heap.size w W) := Lib.hid (by rw [hW]; exact (Below.refl _ _).alloc (Nat.le_refl _) _)
    clear hW p0
    refine wp_region_held_drew (S := fun w' => Below W.heap.size W w') (by kernel_rfl) ((Below.refl _ _).drew) (fun hH => ?_)
    refine wpAnyH_take (i := 0) (v := .agg c) rfl (by kernel_rfl) (by kernel_rfl) (by kernel_rfl) (fun _ _ _ h => h) (Or.inl ⟨by rfl, ?_⟩) hH ?_
    · intro w1 hS; (try dsimp only at hS); have s0 := brow hS P0.out; go_simp
    (try simp only [List.getElem_toArray]); (try simp only [List.getElem_cons_succ]); (try simp only [List.getElem_cons_zero]); (try simp only [Act.put]); (try simp only [List.setIfInBounds_toArray]); (try simp only [List.set_cons_succ]); (try simp only [List.set_cons_zero])
    refine wpAnyH_take (i := 1) (v := .slice u n n) rfl (by kernel_rfl) (by kernel_rfl) (by kernel_rfl) (fun _ _ _ h => h) (Or.inl ⟨by rfl, ?_⟩) hH ?_
    · intro w1 hS; (try dsimp only at hS); go_simp
    (try simp only [List.getElem_toArray]); (try simp only [List.getElem_cons_succ]); (try simp only [List.getElem_cons_zero]); (try simp only [Act.put]); (try simp only [List.setIfInBounds_toArray]); (try simp only [List.set_cons_succ]); (try simp only [List.set_cons_zero])
    refine wpAnyH_take (i := 2) (v := .int .i64 y) rfl (by kernel_rfl) (by kernel_rfl) (by kernel_rfl) (fun _ _ _ h => h) (Or.inl ⟨by rfl, ?_⟩) hH ?_
    · intro w1 hS; (try dsimp only at hS); go_simp
    (try simp only [List.getElem_toArray]); (try simp only [List.getElem_cons_succ]); (try simp only [List.getElem_cons_zero]); (try simp only [Act.put]); (try simp only [List.setIfInBounds_toArray]); (try simp only [List.set_cons_succ]); (try simp only [List.set_cons_zero])
    refine wpAnyH_ready (rs := [3]) (by kernel_rfl) (by simp) (AllReadyH.cons rfl (fun K hK => ?_) AllReadyH.nil)
    go_simp
    refine (carried_any y _).mono ?_
    rintro x wx ⟨rfl, bx⟩
    go_simp
    refine hK.out _ _ (bnext hH bx hH.size) (fun hG => ?_)
    clear hK K hH bx
    replace hH := hG
    clear hG
    (try simp only [List.getElem_toArray]); (try simp only [List.getElem_cons_succ]); (try simp only [List.getElem_cons_zero]); (try simp only [Act.put]); (try simp only [List.setIfInBounds_toArray]); (try simp only [List.set_cons_succ]); (try simp only [List.set_cons_zero])
    refine wpAnyH_ready (rs := [4]) (by kernel_rfl) (by simp) (AllReadyH.cons rfl (fun K hK => ?_) AllReadyH.nil)
    go_simp
    refine hK.out _ _ (hH.alloc hH.size _) (fun hG => ?_)
    clear hK K hH
    replace hH := hG
    clear hG
    (try simp only [List.getElem_toArray]); (try simp only [List.getElem_cons_succ]); (try simp only [List.getElem_cons_zero]); (try simp only [Act.put]); (try simp only [List.setIfInBounds_toArray]); (try simp only [List.set_cons_succ]); (try simp only [List.set_cons_zero])
    refine wpAnyH_ready (rs := [5]) (by kernel_rfl) (by simp) (AllReadyH.cons rfl (fun K hK => ?_) AllReadyH.nil)
    go_simp
    refine (CW _ 0 _ (HV.out.below (bnext PB.out hH PB.out.size) (Nat.le_refl _)) (IsList.lit3 (rowAt_alloc_at _ _ _ _ rfl) (Nat.zero_le _))).mono ?_
    rintro x wx ⟨rfl, bx⟩
    go_simp
    refine hK.out _ _ (bnext hH bx hH.size) (fun hG => ?_)
    clear hK K hH bx
    replace hH := hG
    clear hG
    (try simp only [List.getElem_toArray]); (try simp only [List.getElem_cons_succ]); (try simp only [List.getElem_cons_zero]); (try simp only [Act.put]); (try simp only [List.setIfInBounds_toArray]); (try simp only [List.set_cons_succ]); (try simp only [List.set_cons_zero])
    refine wpAnyH_take (i := 6) (v := .int .i64 (r.clbC f n y)) rfl (by kernel_rfl) (by kernel_rfl) (by kernel_rfl) (fun _ _ _ h => h) (Or.inl ⟨by rfl, ?_⟩) hH ?_
    · intro w1 hS; (try dsimp only at hS); go_simp
    (try simp only [List.getElem_toArray]); (try simp only [List.getElem_cons_succ]); (try simp only [List.getElem_cons_zero]); (try simp only [Act.put]); (try simp only [List.setIfInBounds_toArray]); (try simp only [List.set_cons_succ]); (try simp only [List.set_cons_zero])
    refine wpAnyH_done (by kernel_rfl) ?_ _
    have B1 := Lib.hid (bnext PB.out hH PB.out.size)
    have P1 := brow hH P0.out
    clear hH P0
    go_wp2_with fail
    go_ret2
    exact ⟨rfl, B1.out⟩
end Go.Proofs.Ytkbacpkpgfppiaa
