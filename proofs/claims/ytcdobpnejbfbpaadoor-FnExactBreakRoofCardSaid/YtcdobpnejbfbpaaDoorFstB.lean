/- FirstBreak, OldestOf: both sides. -/
import Derived.Test.YtcdobpnejbfbpaaDoorYear
import Derived.Test.YtcdobpnejbfbpaaDoorOldI
import Derived.Test.YtcdobpnejbfbpaaDoorOldS
import Derived.Deep.RegionHeld3
namespace Go.Proofs.YtcdobpnejbfbpaaDoor
open Go.RowKit

/-- The oldest tile of a roof, and its age. -/
def Rf.oldAt (r : Rf) (t : Nat → Int) : Nat × Nat := oldP t (plUpto r.h.toNat r.w.toNat (r.h.toNat * r.w.toNat))
def Rf.oldV (r : Rf) (t : Nat → Int) : Int := t ((r.oldAt t).1 * 8 + (r.oldAt t).2)
theorem Rf.oldAt_in {r : Rf} {t : Nat → Int} (ho : r.Ok) : (r.oldAt t).1 < 8 ∧ (r.oldAt t).2 < 8 := by
  have h := oldP_in (t := t) (h := r.h.toNat) (w := r.w.toNat) (by have := ho.2.2.1; omega) (by have := ho.1; omega) (plUpto r.h.toNat r.w.toNat (r.h.toNat * r.w.toNat))
  have h1 := ho.2.2.2.1
  have h2 := ho.2.1
  unfold Rf.oldAt
  omega
theorem Rf.oldV_bd {r : Rf} {t : Nat → Int} (h : r.Aged t) (hb : ∀ i, i < 64 → 0 ≤ t i) : 0 ≤ r.oldV t ∧ r.oldV t ≤ 100 := by
  have hi := Rf.oldAt_in (t := t) h.1
  have hl : (r.oldAt t).1 * 8 + (r.oldAt t).2 < 64 := by omega
  exact ⟨hb _ hl, (h.2 _ hl).1⟩
theorem oldest_ok (c d : Array Value) (r : Rf) (t : Nat → Int) (w : World) (hR : IsRoof c r) (hA : IsU8 d 64 t) (ho : r.Ok) :
    Calls Tryd.prog 47 #[.agg c, .func (.func 48) #[.agg d] #[]] w fun e w' => e = .returned (.tuple #[.agg #[.int .i8 ((r.oldAt t).1 : Int), .int .i8 ((r.oldAt t).2 : Int)], .int .i64 (r.oldV t)]) ∧ Below w.heap.size w w' :=
  oldest_any 48 #[.agg d] #[] t (enters_of Tryd.func48 (by kernel_rfl) rfl) c r r.h.toNat r.w.toNat (by have := ho.2.2.1; omega) (by have := ho.1; omega) (by have := ho.2.2.2.1; omega) (by have := ho.2.1; omega) (by have := ho.2.2.1; omega) (by have := ho.1; omega) w hR (ageOf_num d t w hA) _ rfl
theorem l07Oldest_ok (k n : Nat) (c d : Array Value) (r : Rf) (t : Nat → Int) (w : World) (hr : rowAt w k = some c) (hR : IsRoof c r) (hd : rowAt w n = some d) (hA : IsU8 d 64 t) (ho : r.Ok) :
    Calls Tryd.prog 52 #[.pointer (some ⟨k, 0, none⟩), .pointer (some ⟨n, 0, none⟩)] w fun e w' => e = .returned (.tuple #[.agg #[.int .i8 ((r.oldAt t).1 : Int), .int .i8 ((r.oldAt t).2 : Int)], .int .i64 (r.oldV t)]) ∧ Below w.heap.size w w' :=
  l07Oldest_any k n c d r t r.h.toNat r.w.toNat (by have := ho.2.2.1; omega) (by have := ho.1; omega) (by have := ho.2.2.2.1; omega) (by have := ho.2.1; omega) (by have := ho.2.2.1; omega) (by have := ho.1; omega) w hr hR hd hA _ rfl

noncomputable def Rf.fbV (r : Rf) (t : Nat → Int) (y : Int) : Int := if r.ageC t (inB y 1 100) = 0 then maxI 0 (y + 1 - r.oldV t) else 0
noncomputable def Rf.fbC (r : Rf) (t : Nat → Int) (y : Int) : Int := r.ageC t (inB y 1 100)

set_option maxRecDepth 100000 in
set_option maxHeartbeats 2000000 in
theorem implFirstBreak_any (c d : Array Value) (r : Rf) (t : Nat → Int) (y : Int) (w : World) (hR : IsRoof c r) (hA : IsU8 d 64 t) (hT : ErrT w) :
    Calls Tryd.prog 28 #[.agg c, .agg d, .int .i64 y] w fun e w' => e = .returned (.tuple #[.int .i64 (r.fbV t y), .int .i64 (r.fbC t y)]) ∧ Below w.heap.size w w' := by
  obtain ⟨q0, q1, pB⟩ := two_boxes w c d 30 27
  have hc := hR.size
  have hd := hA.size
  have hn0 := fun w => run_neq_nil_nil_at (P := Tryd.prog) (w := w) 70 (by kernel_rfl)
  have hnv := fun w => run_neq_iface_nil (P := Tryd.prog) (w := w) 70 (by kernel_rfl) 97 (.agg #[])
  have hnr := fun w => run_neq_iface_nil (P := Tryd.prog) (w := w) 70 (by kernel_rfl) 101 (.agg #[])
  by_cases ha : r.Aged t
  · cases hf : inB y 1 100 with
    | true =>
      have hv : r.fbV t y = maxI 0 (y + 1 - r.oldV t) := if_pos (Rf.ageC_ok ha hf)
      have hcd : r.fbC t y = 0 := Rf.ageC_ok ha hf
      have hfine : fineB (bn3 y 1 100) 1 = true := by rw [fineB_bn3]; exact hf
      have yb : 1 ≤ y ∧ y ≤ 100 := by simpa [inB] using hf
      have vb := Rf.oldV_bd ha hA.lo
      rw [hv, hcd]
      have CK := fun W v h0 => checkAges_ok 0 1 c d r t v (bn3 y 1 100) W hR hA ha h0
      have CO := fun W => oldest_ok c d r t W hR hA ha.1
      clear hv hcd hf
      generalize r.oldV t = v at *
      obtain ⟨m, hm⟩ : ∃ m, maxI 0 (y + 1 - v) = m := ⟨_, rfl⟩
      have hmx : (y + 1 - v ≤ 0 ∧ m = 0) ∨ (0 < y + 1 - v ∧ m = y + 1 - v) := by
        rw [← hm]; unfold maxI; split <;> omega
      rw [hm]
      clear hm
      generalize (r.oldAt t).1 = p1 at *
      generalize (r.oldAt t).2 = p2 at *
      go_enter Tryd.func28, Tryd.ntmps28
      go_wp2_with fail
      refine gen_world fun W hW => ?_
      rw [← hW] at q0 q1 pB
      clear hW
      refine wp_region_held_drew (S := fun w' => Below W.heap.size W w') (by kernel_rfl) ((Below.refl _ _).drew) (fun hH => ?_)
      refine wpAnyH_take (i := 0) (v := .agg c) rfl (by kernel_rfl) (by kernel_rfl) (by kernel_rfl) (fun _ _ _ h => h) (Or.inl ⟨by rfl, ?_⟩) hH ?_
      · intro w1 hS; (try dsimp only at hS); have s0 := brow hS q0; go_simp
      (try simp only [List.getElem_toArray]); (try simp only [List.getElem_cons_succ]); (try simp only [List.getElem_cons_zero]); (try simp only [Act.put]); (try simp only [List.setIfInBounds_toArray]); (try simp only [List.set_cons_succ]); (try simp only [List.set_cons_zero])
      refine wpAnyH_take (i := 1) (v := .agg d) rfl (by kernel_rfl) (by kernel_rfl) (by kernel_rfl) (fun _ _ _ h => h) (Or.inl ⟨by rfl, ?_⟩) hH ?_
      · intro w1 hS; (try dsimp only at hS); have s1 := brow hS q1; go_simp
      (try simp only [List.getElem_toArray]); (try simp only [List.getElem_cons_succ]); (try simp only [List.getElem_cons_zero]); (try simp only [Act.put]); (try simp only [List.setIfInBounds_toArray]); (try simp only [List.set_cons_succ]); (try simp only [List.set_cons_zero])
      refine wpAnyH_take (i := 2) (v := .int .i64 y) rfl (by kernel_rfl) (by kernel_rfl) (by kernel_rfl) (fun _ _ _ h => h) (Or.inl ⟨by rfl, ?_⟩) hH ?_
      · intro w1 hS; (try dsimp only at hS); go_simp
      (try simp only [List.getElem_toArray]); (try simp only [List.getElem_cons_succ]); (try simp only [List.getElem_cons_zero]); (try simp only [Act.put]); (try simp only [List.setIfInBounds_toArray]); (try simp only [List.set_cons_succ]); (try simp only [List.set_cons_zero])
      refine wpAnyH_ready (rs := [3]) (by kernel_rfl) (by simp) (AllReadyH.cons rfl (fun K hK => ?_) AllReadyH.nil)
      go_simp
      refine (lived_any y _).mono ?_
      rintro x wx ⟨rfl, bx⟩
      go_simp
      refine hK.out _ _ (bnext hH bx hH.size) (fun hG => ?_)
      clear hK K hH bx
      replace hH := hG
      clear hG
      (try simp only [List.getElem_toArray]); (try simp only [List.getElem_cons_succ]); (try simp only [List.getElem_cons_zero]); (try simp only [Act.put]); (try simp only [List.setIfInBounds_toArray]); (try simp only [List.set_cons_succ]); (try simp only [List.set_cons_zero])
      refine wpAnyH_ready (rs := [4]) (by kernel_rfl) (by simp) (AllReadyH.cons rfl (fun K hK => ?_) AllReadyH.nil)
      go_simp
      refine hK.out _ _ (hH.alloc hH.size _) (fun hG => ?_)
      clear hK K hH
      replace hH := hG
      clear hG
      (try simp only [List.getElem_toArray]); (try simp only [List.getElem_cons_succ]); (try simp only [List.getElem_cons_zero]); (try simp only [Act.put]); (try simp only [List.setIfInBounds_toArray]); (try simp only [List.set_cons_succ]); (try simp only [List.set_cons_zero])
      refine wpAnyH_ready (rs := [5]) (by kernel_rfl) (by simp) (AllReadyH.cons rfl (fun K hK => ?_) AllReadyH.nil)
      go_simp
      refine (CK _ _ (IsList.li3 (rowAt_alloc_at _ _ _ _ rfl) (Nat.zero_le _)) (by omega) hfine).mono ?_
      rintro x wx ⟨rfl, bx⟩
      go_simp
      refine hK.out _ _ (bnext hH bx hH.size) (fun hG => ?_)
      clear hK K hH bx
      replace hH := hG
      clear hG
      (try simp only [List.getElem_toArray]); (try simp only [List.getElem_cons_succ]); (try simp only [List.getElem_cons_zero]); (try simp only [Act.put]); (try simp only [List.setIfInBounds_toArray]); (try simp only [List.set_cons_succ]); (try simp only [List.set_cons_zero])
      refine wpAnyH_take (i := 6) (v := .nilIface) rfl (by kernel_rfl) (by kernel_rfl) (by kernel_rfl) (fun _ _ _ h => h) (Or.inl ⟨by rfl, ?_⟩) hH ?_
      · intro w1 hS; (try dsimp only at hS); go_simp
      (try simp only [List.getElem_toArray]); (try simp only [List.getElem_cons_succ]); (try simp only [List.getElem_cons_zero]); (try simp only [Act.put]); (try simp only [List.setIfInBounds_toArray]); (try simp only [List.set_cons_succ]); (try simp only [List.set_cons_zero])
      refine wpAnyH_done (by kernel_rfl) ?_ _
      have B1 := bnext pB hH pB.size
      have p0 := brow hH q0
      have p1 := brow hH q1
      clear hH q0 q1 pB CK
      go_wp2_with fail
      refine (CO _).mono ?_
      rintro e w1 ⟨rfl, b1⟩
      have B2 := bnext B1 b1 B1.size
      clear b1 B1 p0 p1 CO
      rcases hmx with ⟨h1, rfl⟩ | ⟨h1, h2⟩
      · have hm1 : ¬ 0 < y + 1 - v := by omega
        clear h1
        go_wp2_with fail
        go_ret2
        exact ⟨rfl, B2.alloc B2.size _⟩
      · have H2 := Lib.hid h2
        clear h2
        go_wp2_with fail
        go_ret2
        exact ⟨by rw [H2.out]; rfl, B2.alloc B2.size _⟩
    | false =>
      have hv : r.fbV t y = 0 := if_neg (by rw [Rf.ageC_r ha hf]; decide)
      have hcd : r.fbC t y = 2 := Rf.ageC_r ha hf
      have hfine : fineB (bn3 y 1 100) 1 = false := by rw [fineB_bn3]; exact hf
      rw [hv, hcd]
      have CK := fun W v h0 => checkAges_r 0 1 c d r t v (bn3 y 1 100) W hR hA ha h0
      clear hv hcd hf
      go_enter Tryd.func28, Tryd.ntmps28
      go_wp2_with fail
      refine gen_world fun W hW => ?_
      rw [← hW] at q0 q1 pB
      clear hW
      refine wp_region_held_drew (S := fun w' => Below W.heap.size W w') (by kernel_rfl) ((Below.refl _ _).drew) (fun hH => ?_)
      refine wpAnyH_take (i := 0) (v := .agg c) rfl (by kernel_rfl) (by kernel_rfl) (by kernel_rfl) (fun _ _ _ h => h) (Or.inl ⟨by rfl, ?_⟩) hH ?_
      · intro w1 hS; (try dsimp only at hS); have s0 := brow hS q0; go_simp
      (try simp only [List.getElem_toArray]); (try simp only [List.getElem_cons_succ]); (try simp only [List.getElem_cons_zero]); (try simp only [Act.put]); (try simp only [List.setIfInBounds_toArray]); (try simp only [List.set_cons_succ]); (try simp only [List.set_cons_zero])
      refine wpAnyH_take (i := 1) (v := .agg d) rfl (by kernel_rfl) (by kernel_rfl) (by kernel_rfl) (fun _ _ _ h => h) (Or.inl ⟨by rfl, ?_⟩) hH ?_
      · intro w1 hS; (try dsimp only at hS); have s1 := brow hS q1; go_simp
      (try simp only [List.getElem_toArray]); (try simp only [List.getElem_cons_succ]); (try simp only [List.getElem_cons_zero]); (try simp only [Act.put]); (try simp only [List.setIfInBounds_toArray]); (try simp only [List.set_cons_succ]); (try simp only [List.set_cons_zero])
      refine wpAnyH_take (i := 2) (v := .int .i64 y) rfl (by kernel_rfl) (by kernel_rfl) (by kernel_rfl) (fun _ _ _ h => h) (Or.inl ⟨by rfl, ?_⟩) hH ?_
      · intro w1 hS; (try dsimp only at hS); go_simp
      (try simp only [List.getElem_toArray]); (try simp only [List.getElem_cons_succ]); (try simp only [List.getElem_cons_zero]); (try simp only [Act.put]); (try simp only [List.setIfInBounds_toArray]); (try simp only [List.set_cons_succ]); (try simp only [List.set_cons_zero])
      refine wpAnyH_ready (rs := [3]) (by kernel_rfl) (by simp) (AllReadyH.cons rfl (fun K hK => ?_) AllReadyH.nil)
      go_simp
      refine (lived_any y _).mono ?_
      rintro x wx ⟨rfl, bx⟩
      go_simp
      refine hK.out _ _ (bnext hH bx hH.size) (fun hG => ?_)
      clear hK K hH bx
      replace hH := hG
      clear hG
      (try simp only [List.getElem_toArray]); (try simp only [List.getElem_cons_succ]); (try simp only [List.getElem_cons_zero]); (try simp only [Act.put]); (try simp only [List.setIfInBounds_toArray]); (try simp only [List.set_cons_succ]); (try simp only [List.set_cons_zero])
      refine wpAnyH_ready (rs := [4]) (by kernel_rfl) (by simp) (AllReadyH.cons rfl (fun K hK => ?_) AllReadyH.nil)
      go_simp
      refine hK.out _ _ (hH.alloc hH.size _) (fun hG => ?_)
      clear hK K hH
      replace hH := hG
      clear hG
      (try simp only [List.getElem_toArray]); (try simp only [List.getElem_cons_succ]); (try simp only [List.getElem_cons_zero]); (try simp only [Act.put]); (try simp only [List.setIfInBounds_toArray]); (try simp only [List.set_cons_succ]); (try simp only [List.set_cons_zero])
      refine wpAnyH_ready (rs := [5]) (by kernel_rfl) (by simp) (AllReadyH.cons rfl (fun K hK => ?_) AllReadyH.nil)
      go_simp
      refine (CK _ _ (IsList.li3 (rowAt_alloc_at _ _ _ _ rfl) (Nat.zero_le _)) (by omega) hfine).mono ?_
      rintro x wx ⟨rfl, bx⟩
      go_simp
      refine hK.out _ _ (bnext hH bx hH.size) (fun hG => ?_)
      clear hK K hH bx
      replace hH := hG
      clear hG
      (try simp only [List.getElem_toArray]); (try simp only [List.getElem_cons_succ]); (try simp only [List.getElem_cons_zero]); (try simp only [Act.put]); (try simp only [List.setIfInBounds_toArray]); (try simp only [List.set_cons_succ]); (try simp only [List.set_cons_zero])
      refine wpAnyH_take (i := 6) (v := .iface 101 (.agg #[])) rfl (by kernel_rfl) (by kernel_rfl) (by kernel_rfl) (fun _ _ _ h => h) (Or.inl ⟨by rfl, ?_⟩) hH ?_
      · intro w1 hS; (try dsimp only at hS); go_simp
      (try simp only [List.getElem_toArray]); (try simp only [List.getElem_cons_succ]); (try simp only [List.getElem_cons_zero]); (try simp only [Act.put]); (try simp only [List.setIfInBounds_toArray]); (try simp only [List.set_cons_succ]); (try simp only [List.set_cons_zero])
      refine wpAnyH_done (by kernel_rfl) ?_ _
      have B1 := bnext pB hH pB.size
      have T1 := hT.below B1
      clear hH q0 q1 pB CK
      go_wp2_with fail
      refine (yearCode_R _ T1).mono ?_
      rintro e w1 ⟨rfl, b1⟩
      have B2 := bnext B1 b1 B1.size
      clear b1 B1 T1
      go_wp2_with fail
      go_ret2
      exact ⟨rfl, B2⟩
  · have hv : r.fbV t y = 0 := if_neg (by rw [Rf.ageC_v ha]; decide)
    have hcd : r.fbC t y = 1 := Rf.ageC_v ha
    rw [hv, hcd]
    have CV := fun W v => checkAges_v c d r t v W hR hA ha
    clear hv hcd
    go_enter Tryd.func28, Tryd.ntmps28
    go_wp2_with fail
    refine gen_world fun W hW => ?_
    rw [← hW] at q0 q1 pB
    clear hW
    refine wp_region_held_drew (S := fun w' => Below W.heap.size W w') (by kernel_rfl) ((Below.refl _ _).drew) (fun hH => ?_)
    refine wpAnyH_take (i := 0) (v := .agg c) rfl (by kernel_rfl) (by kernel_rfl) (by kernel_rfl) (fun _ _ _ h => h) (Or.inl ⟨by rfl, ?_⟩) hH ?_
    · intro w1 hS; (try dsimp only at hS); have s0 := brow hS q0; go_simp
    (try simp only [List.getElem_toArray]); (try simp only [List.getElem_cons_succ]); (try simp only [List.getElem_cons_zero]); (try simp only [Act.put]); (try simp only [List.setIfInBounds_toArray]); (try simp only [List.set_cons_succ]); (try simp only [List.set_cons_zero])
    refine wpAnyH_take (i := 1) (v := .agg d) rfl (by kernel_rfl) (by kernel_rfl) (by kernel_rfl) (fun _ _ _ h => h) (Or.inl ⟨by rfl, ?_⟩) hH ?_
    · intro w1 hS; (try dsimp only at hS); have s1 := brow hS q1; go_simp
    (try simp only [List.getElem_toArray]); (try simp only [List.getElem_cons_succ]); (try simp only [List.getElem_cons_zero]); (try simp only [Act.put]); (try simp only [List.setIfInBounds_toArray]); (try simp only [List.set_cons_succ]); (try simp only [List.set_cons_zero])
    refine wpAnyH_take (i := 2) (v := .int .i64 y) rfl (by kernel_rfl) (by kernel_rfl) (by kernel_rfl) (fun _ _ _ h => h) (Or.inl ⟨by rfl, ?_⟩) hH ?_
    · intro w1 hS; (try dsimp only at hS); go_simp
    (try simp only [List.getElem_toArray]); (try simp only [List.getElem_cons_succ]); (try simp only [List.getElem_cons_zero]); (try simp only [Act.put]); (try simp only [List.setIfInBounds_toArray]); (try simp only [List.set_cons_succ]); (try simp only [List.set_cons_zero])
    refine wpAnyH_ready (rs := [3]) (by kernel_rfl) (by simp) (AllReadyH.cons rfl (fun K hK => ?_) AllReadyH.nil)
    go_simp
    refine (lived_any y _).mono ?_
    rintro x wx ⟨rfl, bx⟩
    go_simp
    refine hK.out _ _ (bnext hH bx hH.size) (fun hG => ?_)
    clear hK K hH bx
    replace hH := hG
    clear hG
    (try simp only [List.getElem_toArray]); (try simp only [List.getElem_cons_succ]); (try simp only [List.getElem_cons_zero]); (try simp only [Act.put]); (try simp only [List.setIfInBounds_toArray]); (try simp only [List.set_cons_succ]); (try simp only [List.set_cons_zero])
    refine wpAnyH_ready (rs := [4]) (by kernel_rfl) (by simp) (AllReadyH.cons rfl (fun K hK => ?_) AllReadyH.nil)
    go_simp
    refine hK.out _ _ (hH.alloc hH.size _) (fun hG => ?_)
    clear hK K hH
    replace hH := hG
    clear hG
    (try simp only [List.getElem_toArray]); (try simp only [List.getElem_cons_succ]); (try simp only [List.getElem_cons_zero]); (try simp only [Act.put]); (try simp only [List.setIfInBounds_toArray]); (try simp only [List.set_cons_succ]); (try simp only [List.set_cons_zero])
    refine wpAnyH_ready (rs := [5]) (by kernel_rfl) (by simp) (AllReadyH.cons rfl (fun K hK => ?_) AllReadyH.nil)
    go_simp
    refine (CV _ _).mono ?_
    rintro x wx ⟨rfl, bx⟩
    go_simp
    refine hK.out _ _ (bnext hH bx hH.size) (fun hG => ?_)
    clear hK K hH bx
    replace hH := hG
    clear hG
    (try simp only [List.getElem_toArray]); (try simp only [List.getElem_cons_succ]); (try simp only [List.getElem_cons_zero]); (try simp only [Act.put]); (try simp only [List.setIfInBounds_toArray]); (try simp only [List.set_cons_succ]); (try simp only [List.set_cons_zero])
    refine wpAnyH_take (i := 6) (v := .iface 97 (.agg #[])) rfl (by kernel_rfl) (by kernel_rfl) (by kernel_rfl) (fun _ _ _ h => h) (Or.inl ⟨by rfl, ?_⟩) hH ?_
    · intro w1 hS; (try dsimp only at hS); go_simp
    (try simp only [List.getElem_toArray]); (try simp only [List.getElem_cons_succ]); (try simp only [List.getElem_cons_zero]); (try simp only [Act.put]); (try simp only [List.setIfInBounds_toArray]); (try simp only [List.set_cons_succ]); (try simp only [List.set_cons_zero])
    refine wpAnyH_done (by kernel_rfl) ?_ _
    have B1 := bnext pB hH pB.size
    have T1 := hT.below B1
    clear hH q0 q1 pB CV
    go_wp2_with fail
    refine (yearCode_V _ T1).mono ?_
    rintro e w1 ⟨rfl, b1⟩
    have B2 := bnext B1 b1 B1.size
    clear b1 B1 T1
    go_wp2_with fail
    go_ret2
    exact ⟨rfl, B2⟩

set_option maxRecDepth 100000 in
set_option maxHeartbeats 2000000 in
theorem specFirstBreak_any (c d : Array Value) (r : Rf) (t : Nat → Int) (y : Int) (w : World) (hR : IsRoof c r) (hA : IsU8 d 64 t) :
    Calls Tryd.prog 27 #[.agg c, .agg d, .int .i64 y] w fun e w' => e = .returned (.tuple #[.int .i64 (r.fbV t y), .int .i64 (r.fbC t y)]) ∧ Below w.heap.size w w' := by
  obtain ⟨p0, p1, pB⟩ := two_boxes w c d 30 27
  by_cases hz : r.ageC t (inB y 1 100) = 0
  · have hv : r.fbV t y = maxI 0 (y + 1 - r.oldV t) := if_pos hz
    have hcd : r.fbC t y = 0 := hz
    have hzb : (r.ageC t (inB y 1 100) != 0) = false := by simp [hz]
    have ha : r.Aged t := by
      rcases Classical.em (r.Aged t) with h | h
      · exact h
      · rw [Rf.ageC_v h] at hz; cases hz
    have hf : inB y 1 100 = true := by
      cases hf : inB y 1 100 with
      | true => rfl
      | false => rw [Rf.ageC_r ha hf] at hz; cases hz
    have yb : 1 ≤ y ∧ y ≤ 100 := by simpa [inB] using hf
    have vb := Rf.oldV_bd ha hA.lo
    rw [hv, hcd]
    have CA := fun W h0 h1 => l07Asked_any w.heap.size (w.heap.size + 1) c d r t (inB y 1 100) W h0 hR h1 hA
    have CO := fun W h0 h1 => l07Oldest_ok w.heap.size (w.heap.size + 1) c d r t W h0 hR h1 hA ha.1
    have CL := fun W => l07Life_any y W
    generalize r.ageC t (inB y 1 100) = k at *
    generalize inB y 1 100 = fb at *
    generalize r.oldV t = v at *
    clear hv hcd hz hf
    go_enter Tryd.func27, Tryd.ntmps27
    go_wp2_with fail
    refine (CL _).mono ?_
    rintro e w1 ⟨rfl, rfl⟩
    go_wp2_with fail
    refine (CA _ p0 p1).mono ?_
    rintro e w1 ⟨rfl, b1⟩
    have r0 := brow b1 p0
    have r1 := brow b1 p1
    have B1 := bnext pB b1 pB.size
    clear b1 p0 p1 pB CA CL
    go_wp2_with fail
    refine (CO _ r0 r1).mono ?_
    rintro e w2 ⟨rfl, b2⟩
    have B2 := bnext B1 b2 B1.size
    clear b2 B1 r0 r1 CO
    go_wp2_with fail
    refine (l00Max_any _ _ _).mono ?_
    rintro e w3 ⟨rfl, rfl⟩
    go_wp2_with fail
    go_ret2
    exact ⟨rfl, B2.alloc B2.size _⟩
  · have hv : r.fbV t y = 0 := if_neg hz
    have hcd : r.fbC t y = r.ageC t (inB y 1 100) := rfl
    have hzb : (r.ageC t (inB y 1 100) != 0) = true := by simp [hz]
    rw [hv, hcd]
    have CA := fun W h0 h1 => l07Asked_any w.heap.size (w.heap.size + 1) c d r t (inB y 1 100) W h0 hR h1 hA
    have CL := fun W => l07Life_any y W
    generalize r.ageC t (inB y 1 100) = k at *
    generalize inB y 1 100 = fb at *
    clear hv hcd hz
    go_enter Tryd.func27, Tryd.ntmps27
    go_wp2_with fail
    refine (CL _).mono ?_
    rintro e w1 ⟨rfl, rfl⟩
    go_wp2_with fail
    refine (CA _ p0 p1).mono ?_
    rintro e w1 ⟨rfl, b1⟩
    have B1 := bnext pB b1 pB.size
    clear b1 p0 p1 pB CA CL
    go_wp2_with fail
    go_ret2
    exact ⟨rfl, B1⟩
end Go.Proofs.YtcdobpnejbfbpaaDoor
