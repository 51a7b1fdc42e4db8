/- ClimbsFor: contracts of both sides. -/
import Derived.Test.YtkimngffbioeeaaClimbI
import Derived.Test.YtkimngffbioeeaaAskC
import Derived.Test.YtkimngffbioeeaaLadA
namespace Go.Proofs.Ytkimngffbioeeaa
open Go.RowKit

/-- What is climbed for the places, and the code. -/
noncomputable def Rf.clbC (r : Rf) (f : Nat → Int) (n : Nat) (y : Int) : Int := r.wcode (fun _ => 0) 0 f n (inB y 1 20)
noncomputable def Rf.clbV (r : Rf) (f : Nat → Int) (n : Nat) (y : Int) : Int := if r.clbC f n y = 0 then tot r.h f y.toNat n else 0
theorem Rf.clb_in {r : Rf} {f : Nat → Int} {n : Nat} {y : Int} (h : r.clbC f n y = 0) : r.Ok ∧ (1 ≤ y ∧ y ≤ 20) ∧ r.okP f n ∧ n ≤ 8 := by
  obtain ⟨ho, hf, _, hp, _, hn⟩ := Rf.wcode_zero h
  exact ⟨ho, by simpa [inB] using hf, hp, hn⟩

theorem carried_any (y : Int) (w : World) :
    Calls Try.prog 75 #[.int .i64 y] w fun e w' => e = .returned (.agg #[.int .i64 y, .int .i64 1, .int .i64 20]) ∧ Below w.heap.size w w' := by
  go_enter Try.func75, Try.ntmps75
  go_wp2
  refine bodyPost_ret (v := .agg #[.int .i64 y, .int .i64 1, .int .i64 20]) (by simp [results, Try.results75, go_sem]) rfl ⟨rfl, ?_⟩
  exact (Below.refl _ _).alloc (Nat.le_refl _) _

set_option maxRecDepth 100000 in
set_option maxHeartbeats 1000000 in
theorem specClimbsFor_any (c : Array Value) (r : Rf) (B n : Nat) (f : Nat → Int) (u : Option Addr) (y : Int) (w : World) (hR : IsRoof c r) (hv : IsList w B (.slice u n n) 2 n (fun i => .int .i8 (f i))) (hn : n ≤ 2000000) (hf : ∀ i, i < n * 2 → -128 ≤ f i ∧ f i ≤ 127) :
    Calls Try.prog 36 #[.agg c, .slice u n n, .int .i64 y] w fun e w' => e = .returned (.tuple #[.int .i64 (r.clbV f n y), .int .i64 (r.clbC f n y)]) ∧ Below w.heap.size w w' := by
  have hc := hR.size
  have HV := Lib.hid hv
  clear hv
  have p0 := rowAt_alloc_at w c 30 w.heap.size rfl
  have LA := fun W k hr H1 => l04Asked_any w.heap.size 0 B 0 n c r (fun _ => 0) f (.slice k 0 0) (.slice u n n) (inB y 1 20) W hr hR (IsList.none0 _ _ _ _ _ _) (by omega) H1 hn hf
  rw [show r.wcode (fun _ => 0) 0 f n (inB y 1 20) = r.clbC f n y from rfl] at LA
  by_cases hk : r.clbC f n y = 0
  · have hb1 : (r.clbC f n y != 0) = false := by simp [hk]
    have hV : r.clbV f n y = tot r.h f y.toNat n := by unfold Rf.clbV; rw [if_pos hk]
    obtain ⟨ho, hy, hp, hn8⟩ := Rf.clb_in hk
    have HP := Lib.hid hp
    have HK := Lib.hid hk
    obtain ⟨z, rfl⟩ : ∃ z : Nat, y = z := ⟨y.toNat, by omega⟩
    have hz : 1 ≤ z ∧ z ≤ 20 := by omega
    rw [hV, Int.toNat_natCast]
    clear hk hV hp
    go_enter Try.func36, Try.ntmps36
    go_wp2_with fail
    refine gen_callsC fun W hW => ?_
    have P0 : rowAt W w.heap.size = some c := by rw [hW]; exact (rowAt_alloc_past _ _ _ (by simp <;> omega)).trans p0
    have PB : Below w.heap.size w W := by rw [hW]; exact ((Below.refl _ _).alloc (Nat.le_refl _) _).alloc (by simp) _
    clear hW p0
    refine (l04Carry_any (z : Int) _).mono ?_
    rintro e w1 ⟨rfl, rfl⟩
    go_wp2_with fail
    refine (LA _ _ P0 (HV.out.below PB (Nat.le_refl _))).mono ?_
    rintro e w2 ⟨rfl, b2⟩
    have PB2 := Lib.hid (bnext PB b2 PB.size)
    have P2 := Lib.hid (brow b2 P0)
    clear b2 P0 PB LA
    go_wp2_with fail
    refine (l04Climbs_any w.heap.size B n z c r f u _ P2.out hR ho (HV.out.below PB2.out (Nat.le_refl _)) hn8 HP.out hz).mono ?_
    rintro e w3 ⟨rfl, b3⟩
    have PB3 := Lib.hid (bnext PB2.out b3 PB2.out.size)
    clear b3
    go_wp2_with fail
    go_ret2
    exact ⟨by simp [HK.out], PB3.out⟩
  · have hb1 : (r.clbC f n y != 0) = true := by simp [hk]
    have hV : r.clbV f n y = 0 := by unfold Rf.clbV; rw [if_neg hk]
    rw [hV]
    clear hk hV
    go_enter Try.func36, Try.ntmps36
    go_wp2_with fail
    refine gen_callsC fun W hW => ?_
    have P0 : rowAt W w.heap.size = some c := by rw [hW]; exact (rowAt_alloc_past _ _ _ (by simp <;> omega)).trans p0
    have PB : Below w.heap.size w W := by rw [hW]; exact ((Below.refl _ _).alloc (Nat.le_refl _) _).alloc (by simp) _
    clear hW p0
    refine (l04Carry_any y _).mono ?_
    rintro e w1 ⟨rfl, rfl⟩
    go_wp2_with fail
    refine (LA _ _ P0 (HV.out.below PB (Nat.le_refl _))).mono ?_
    rintro e w2 ⟨rfl, b2⟩
    have PB2 := Lib.hid (bnext PB b2 PB.size)
    have P2 := Lib.hid (brow b2 P0)
    clear b2 P0 PB LA
    go_wp2_with fail
    go_ret2
    exact ⟨rfl, PB2.out⟩

set_option maxRecDepth 100000 in
set_option maxHeartbeats 2000000 in
theorem implClimbsFor_any (c : Array Value) (r : Rf) (B n : Nat) (f : Nat → Int) (u : Option Addr) (y : Int) (w : World) (hR : IsRoof c r) (hv : IsList w B (.slice u n n) 2 n (fun i => .int .i8 (f i))) (hn : n ≤ 2000000) (_hf : ∀ i, i < n * 2 → -128 ≤ f i ∧ f i ≤ 127) :
    Calls Try.prog 37 #[.agg c, .slice u n n, .int .i64 y] w fun e w' => e = .returned (.tuple #[.int .i64 (r.clbV f n y), .int .i64 (r.clbC f n y)]) ∧ Below w.heap.size w w' := by
  have hc := hR.size
  have HV := Lib.hid hv
  clear hv
  have p0 := rowAt_alloc_at w c 30 w.heap.size rfl
  have CW := fun W B' k H2 H3 => checkWork_any B B' 0 n 1 c r (fun _ => 0) f (bnd3 y 1 20) (.slice none 0 0) (.slice u n n) (.slice (some ⟨k, 0, none⟩) 1 1) W hR ⟨none, 0, rfl, .inl rfl⟩ (by omega) H2 hn H3 (by omega)
  rw [fineB_bnd, show r.wcode (fun _ => 0) 0 f n (inB y 1 20) = r.clbC f n y from rfl] at CW
  by_cases hk : r.clbC f n y = 0
  · have hb1 : (r.clbC f n y != 0) = false := by simp [hk]
    have hV : r.clbV f n y = tot r.h f y.toNat n := by unfold Rf.clbV; rw [if_pos hk]
    obtain ⟨ho, hy, hp, hn8⟩ := Rf.clb_in hk
    have HP := Lib.hid hp
    have HK := Lib.hid hk
    obtain ⟨z, rfl⟩ : ∃ z : Nat, y = z := ⟨y.toNat, by omega⟩
    have hz : 1 ≤ z ∧ z ≤ 20 := by omega
    rw [hV, Int.toNat_natCast]
    clear hk hV hp
    go_enter Try.func37, Try.ntmps37
    go_wp2_with fail
    refine gen_world fun W hW => ?_
    have P0 : Hid (rowAt W w.heap.size = some c) := Lib.hid (by rw [hW]; exact p0)
    have PB : Hid (Below w.heap.size w W) := Lib.hid (by rw [hW]; exact (Below.refl _ _).alloc (Nat.le_refl _) _)
    clear hW p0
    refine wp_region_held_drew (S := fun w' => Below W.heap.size W w') (by kernel_rfl) ((Below.refl _ _).drew) (fun hH => ?_)
    refine wpAnyH_take (i := 0) (v := .agg c) rfl (by kernel_rfl) (by kernel_rfl) (by kernel_rfl) (fun _ _ _ h => h) (Or.inl ⟨by rfl, ?_⟩) hH ?_
    · intro w1 hS; (try dsimp only at hS); have s0 := brow hS P0.out; go_simp
    (try simp only [List.getElem_toArray]); (try simp only [List.getElem_cons_succ]); (try simp only [List.getElem_cons_zero]); (try simp only [Act.put]); (try simp only [List.setIfInBounds_toArray]); (try simp only [List.set_cons_succ]); (try simp only [List.set_cons_zero])
    refine wpAnyH_take (i := 1) (v := .slice u n n) rfl (by kernel_rfl) (by kernel_rfl) (by kernel_rfl) (fun _ _ _ h => h) (Or.inl ⟨by rfl, ?_⟩) hH ?_
    · intro w1 hS; (try dsimp only at hS); go_simp
    (try simp only [List.getElem_toArray]); (try simp only [List.getElem_cons_succ]); (try simp only [List.getElem_cons_zero]); (try simp only [Act.put]); (try simp only [List.setIfInBounds_toArray]); (try simp only [List.set_cons_succ]); (try simp only [List.set_cons_zero])
    refine wpAnyH_take (i := 2) (v := .int .i64 z) rfl (by kernel_rfl) (by kernel_rfl) (by kernel_rfl) (fun _ _ _ h => h) (Or.inl ⟨by rfl, ?_⟩) hH ?_
    · intro w1 hS; (try dsimp only at hS); go_simp
    (try simp only [List.getElem_toArray]); (try simp only [List.getElem_cons_succ]); (try simp only [List.getElem_cons_zero]); (try simp only [Act.put]); (try simp only [List.setIfInBounds_toArray]); (try simp only [List.set_cons_succ]); (try simp only [List.set_cons_zero])
    refine wpAnyH_ready (rs := [3]) (by kernel_rfl) (by simp) (AllReadyH.cons rfl (fun K hK => ?_) AllReadyH.nil)
    go_simp
    refine (carried_any (z : Int) _).mono ?_
    rintro x wx ⟨rfl, bx⟩
    go_simp
    refine hK.out _ _ (bnext hH bx hH.size) (fun hG => ?_)
    clear hK K hH bx
    replace hH := hG
    clear hG
    (try simp only [List.getElem_toArray]); (try simp only [List.getElem_cons_succ]); (try simp only [List.getElem_cons_zero]); (try simp only [Act.put]); (try simp only [List.setIfInBounds_toArray]); (try simp only [List.set_cons_succ]); (try simp only [List.set_cons_zero])
    refine wpAnyH_ready (rs := [4]) (by kernel_rfl) (by simp) (AllReadyH.cons rfl (fun K hK => ?_) AllReadyH.nil)
    go_simp
    refine hK.out _ _ (hH.alloc hH.size _) (fun hG => ?_)
    clear hK K hH
    replace hH := hG
    clear hG
    (try simp only [List.getElem_toArray]); (try simp only [List.getElem_cons_succ]); (try simp only [List.getElem_cons_zero]); (try simp only [Act.put]); (try simp only [List.setIfInBounds_toArray]); (try simp only [List.set_cons_succ]); (try simp only [List.set_cons_zero])
    refine wpAnyH_ready (rs := [5]) (by kernel_rfl) (by simp) (AllReadyH.cons rfl (fun K hK => ?_) AllReadyH.nil)
    go_simp
    refine (CW _ 0 _ (HV.out.below (bnext PB.out hH PB.out.size) (Nat.le_refl _)) (IsList.lit3 (rowAt_alloc_at _ _ _ _ rfl) (Nat.zero_le _))).mono ?_
    rintro x wx ⟨rfl, bx⟩
    go_simp
    refine hK.out _ _ (bnext hH bx hH.size) (fun hG => ?_)
    clear hK K hH bx
    replace hH := hG
    clear hG
    (try simp only [List.getElem_toArray]); (try simp only [List.getElem_cons_succ]); (try simp only [List.getElem_cons_zero]); (try simp only [Act.put]); (try simp only [List.setIfInBounds_toArray]); (try simp only [List.set_cons_succ]); (try simp only [List.set_cons_zero])
    refine wpAnyH_take (i := 6) (v := .int .i64 (r.clbC f n (z : Int))) rfl (by kernel_rfl) (by kernel_rfl) (by kernel_rfl) (fun _ _ _ h => h) (Or.inl ⟨by rfl, ?_⟩) hH ?_
    · intro w1 hS; (try dsimp only at hS); go_simp
    (try simp only [List.getElem_toArray]); (try simp only [List.getElem_cons_succ]); (try simp only [List.getElem_cons_zero]); (try simp only [Act.put]); (try simp only [List.setIfInBounds_toArray]); (try simp only [List.set_cons_succ]); (try simp only [List.set_cons_zero])
    refine wpAnyH_done (by kernel_rfl) ?_ _
    have B1 := Lib.hid (bnext PB.out hH PB.out.size)
    have P1 := brow hH P0.out
    clear hH P0
    go_wp2_with fail
    refine (climbsFor_any B n z c r f u _ hR ho (HV.out.below B1.out (Nat.le_refl _)) hn8 HP.out hz).mono ?_
    rintro e w3 ⟨rfl, b3⟩
    have PB3 := Lib.hid (bnext B1.out b3 B1.out.size)
    clear b3
    go_wp2_with fail
    go_ret2
    exact ⟨by simp [HK.out], PB3.out⟩
  · have hb1 : (r.clbC f n y != 0) = true := by simp [hk]
    have hV : r.clbV f n y = 0 := by unfold Rf.clbV; rw [if_neg hk]
    rw [hV]
    clear hk hV
    go_enter Try.func37, Try.ntmps37
    go_wp2_with fail
    refine gen_world fun W hW => ?_
    have P0 : Hid (rowAt W w.heap.size = some c) := Lib.hid (by rw [hW]; exact p0)
    have PB : Hid (Below w.heap.size w W) := Lib.hid (by rw [hW]; exact (Below.refl _ _).alloc (Nat.le_refl _) _)
    clear hW p0
    refine wp_region_held_drew (S := fun w' => Below W.heap.size W w') (by kernel_rfl) ((Below.refl _ _).drew) (fun hH => ?_)
    refine wpAnyH_take (i := 0) (v := .agg c) rfl (by kernel_rfl) (by kernel_rfl) (by kernel_rfl) (fun _ _ _ h => h) (Or.inl ⟨by rfl, ?_⟩) hH ?_
    · intro w1 hS; (try dsimp only at hS); have s0 := brow hS P0.out; go_simp
    (try simp only [List.getElem_toArray]); (try simp only [List.getElem_cons_succ]); (try simp only [List.getElem_cons_zero]); (try simp only [Act.put]); (try simp only [List.setIfInBounds_toArray]); (try simp only [List.set_cons_succ]); (try simp only [List.set_cons_zero])
    refine wpAnyH_take (i := 1) (v := .slice u n n) rfl (by kernel_rfl) (by kernel_rfl) (by kernel_rfl) (fun _ _ _ h => h) (Or.inl ⟨by rfl, ?_⟩) hH ?_
    · intro w1 hS; (try dsimp only at hS); go_simp
    (try simp only [List.getElem_toArray]); (try simp only [List.getElem_cons_succ]); (try simp only [List.getElem_cons_zero]); (try simp only [Act.put]); (try simp only [List.setIfInBounds_toArray]); (try simp only [List.set_cons_succ]); (try simp only [List.set_cons_zero])
    refine wpAnyH_take (i := 2) (v := .int .i64 y) rfl (by kernel_rfl) (by kernel_rfl) (by kernel_rfl) (fun _ _ _ h => h) (Or.inl ⟨by rfl, ?_⟩) hH ?_
    · intro w1 hS; (try dsimp only at hS); go_simp
    (try simp only [List.getElem_toArray]); (try simp only [List.getElem_cons_succ]); (try simp only [List.getElem_cons_zero]); (try simp only [Act.put]); (try simp only [List.setIfInBounds_toArray]); (try simp only [List.set_cons_succ]); (try simp only [List.set_cons_zero])
    refine wpAnyH_ready (rs := [3]) (by kernel_rfl) (by simp) (AllReadyH.cons rfl (fun K hK => ?_) AllReadyH.nil)
    go_simp
    refine (carried_any y _).mono ?_
    rintro x wx ⟨rfl, bx⟩
    go_simp
    refine hK.out _ _ (bnext hH bx hH.size) (fun hG => ?_)
    clear hK K hH bx
    replace hH := hG
    clear hG
    (try simp only [List.getElem_toArray]); (try simp only [List.getElem_cons_succ]); (try simp only [List.getElem_cons_zero]); (try simp only [Act.put]); (try simp only [List.setIfInBounds_toArray]); (try simp only [List.set_cons_succ]); (try simp only [List.set_cons_zero])
    refine wpAnyH_ready (rs := [4]) (by kernel_rfl) (by simp) (AllReadyH.cons rfl (fun K hK => ?_) AllReadyH.nil)
    go_simp
    refine hK.out _ _ (hH.alloc hH.size _) (fun hG => ?_)
    clear hK K hH
    replace hH := hG
    clear hG
    (try simp only [List.getElem_toArray]); (try simp only [List.getElem_cons_succ]); (try simp only [List.getElem_cons_zero]); (try simp only [Act.put]); (try simp only [List.setIfInBounds_toArray]); (try simp only [List.set_cons_succ]); (try simp only [List.set_cons_zero])
    refine wpAnyH_ready (rs := [5]) (by kernel_rfl) (by simp) (AllReadyH.cons rfl (fun K hK => ?_) AllReadyH.nil)
    go_simp
    refine (CW _ 0 _ (HV.out.below (bnext PB.out hH PB.out.size) (Nat.le_refl _)) (IsList.lit3 (rowAt_alloc_at _ _ _ _ rfl) (Nat.zero_le _))).mono ?_
    rintro x wx ⟨rfl, bx⟩
    go_simp
    refine hK.out _ _ (bnext hH bx hH.size) (fun hG => ?_)
    clear hK K hH bx
    replace hH := hG
    clear hG
    (try simp only [List.getElem_toArray]); (try simp only [List.getElem_cons_succ]); (try simp only [List.getElem_cons_zero]); (try simp only [Act.put]); (try simp only [List.setIfInBounds_toArray]); (try simp only [List.set_cons_succ]); (try simp only [List.set_cons_zero])
    refine wpAnyH_take (i := 6) (v := .int .i64 (r.clbC f n y)) rfl (by kernel_rfl) (by kernel_rfl) (by kernel_rfl) (fun _ _ _ h => h) (Or.inl ⟨by rfl, ?_⟩) hH ?_
    · intro w1 hS; (try dsimp only at hS); go_simp
    (try simp only [List.getElem_toArray]); (try simp only [List.getElem_cons_succ]); (try simp only [List.getElem_cons_zero]); (try simp only [Act.put]); (try simp only [List.setIfInBounds_toArray]); (try simp only [List.set_cons_succ]); (try simp only [List.set_cons_zero])
    refine wpAnyH_done (by kernel_rfl) ?_ _
    have B1 := Lib.hid (bnext PB.out hH PB.out.size)
    have P1 := brow hH P0.out
    clear hH P0
    go_wp2_with fail
    go_ret2
    exact ⟨rfl, B1.out⟩
end Go.Proofs.Ytkimngffbioeeaa
