/- laws.FnExactDripAfter returns true for every roof, rain and list of places, and leaves them as they were. The sentinels stand in package-level variables: they are listed, and tied by the card. -/
import Derived.Test.YtoibolmippfcgaaDoorCards
import Derived.Test.YtoibolmippfcgaaDoorTie
import Derived.Test.YtoibolmippfcgaaDoorLaidN
import Derived.Test.YtoibolmippfcgaaDoorErr
import Derived.Test.YtoibolmippfcgaaDoorArgL
import Derived.Test.YtoibolmippfcgaaDoorBox
import Derived.Test.YtoibolmippfcgaaDoorRain
import Derived.Test.YtoibolmippfcgaaDoorHeld
import Derived.Test.YtoibolmippfcgaaDoorDAfter
namespace Go.Proofs.YtoibolmippfcgaaDoor
open Go.RowKit

set_option maxRecDepth 100000 in
set_option maxHeartbeats 4000000 in
theorem law_walk_FnExactDripAfter (a : Nat → Addr) {w : World} {c : Array Value} {r : Rf} (hR : IsRoof c r) {d : Array Value} {t : Nat → Int} (hT : IsRain d t) {v : Value} {n : Nat} {f : Nat → Int} (hv : ArgL w v n f) (hm : n ≤ maxLen) (hf : ∀ i, i < n * 2 → -128 ≤ f i ∧ f i ≤ 127) (hE : Errs a w) :
    Calls Tryd.prog 3 #[.agg c, .agg d, v] w fun e w' => e = .returned (.bool true) ∧ Below w.heap.size w w' := by
  have pb := boxes2 w c d 26 28
  have hc := hR.size
  have hd := hT.size
  have HV := Lib.hid (hv.below pb.bel (Nat.le_refl _))
  have HE := Lib.hid hE
  obtain ⟨av, cv, rfl⟩ := hv.shape
  clear hv hE
  by_cases hl : n ≤ 1048576
  · have hl1 : (n : Int) ≤ 1048576 := by omega
    have CS := fun u b w (hu : IsList w b u 2 n (fun i => .int .i8 (f i))) => specDripAfter_any b n c d r t f u w hR hT hu (by omega) hf
    have CI := fun u b w hE (hu : IsList w b u 2 n (fun i => .int .i8 (f i))) => implDripAfter_any a b n c d r t f u w hE hR hT hu (by omega)
    have hne0 : ((r.dV t f n) != (r.dV t f n)) = false := by simp
    generalize (r.dV t f n) = v0 at *
    have hne1 : ((r.pcode t f n true) != (r.pcode t f n true)) = false := by simp
    generalize (r.pcode t f n true) = v1 at *
    go_enter Tryd.func3, Tryd.ntmps3
    go_wp2_with fail
    refine gen_callsL fun W hW => ?_
    rw [← hW] at pb HV
    clear hW
    refine (szPlaceS_t _ n f _ HV.out hl).mono ?_
    rintro e w1 ⟨rfl, rfl⟩
    go_wp2_with fail
    refine wp_region_held_drew (S := (fun w' => Boxes (w.heap.size + 1 + 1) w [(w.heap.size + 1, d), (w.heap.size, c)] w' ∧ ArgL w' (.slice av n cv) n f)) (by kernel_rfl) (⟨pb.drew, HV.out⟩) (fun hH => ?_)
    refine wpAnyH_take (i := 0) (v := .agg c) rfl (by kernel_rfl) (by kernel_rfl) (by kernel_rfl) (fun _ _ _ h => h) (Or.inl ⟨by rfl, ?_⟩) hH ?_
    · intro w1 hS; (try dsimp only at hS); obtain ⟨hb, _⟩ := hS; have s0 := hb.rows (w.heap.size, c) (by simp); have s1 := hb.rows (w.heap.size + 1, d) (by simp); dsimp only at s0 s1; go_simp
    (try simp only [List.getElem_toArray]); (try simp only [List.getElem_cons_succ]); (try simp only [List.getElem_cons_zero]); (try simp only [Act.put]); (try simp only [List.setIfInBounds_toArray]); (try simp only [List.set_cons_succ]); (try simp only [List.set_cons_zero])
    refine wpAnyH_take (i := 2) (v := .agg d) rfl (by kernel_rfl) (by kernel_rfl) (by kernel_rfl) (fun _ _ _ h => h) (Or.inl ⟨by rfl, ?_⟩) hH ?_
    · intro w1 hS; (try dsimp only at hS); obtain ⟨hb, _⟩ := hS; have s0 := hb.rows (w.heap.size, c) (by simp); have s1 := hb.rows (w.heap.size + 1, d) (by simp); dsimp only at s0 s1; go_simp
    (try simp only [List.getElem_toArray]); (try simp only [List.getElem_cons_succ]); (try simp only [List.getElem_cons_zero]); (try simp only [Act.put]); (try simp only [List.setIfInBounds_toArray]); (try simp only [List.set_cons_succ]); (try simp only [List.set_cons_zero])
    refine wpAnyH_take (i := 4) (v := .slice av n cv) rfl (by kernel_rfl) (by kernel_rfl) (by kernel_rfl) (fun _ _ _ h => h) (Or.inl ⟨by rfl, ?_⟩) hH ?_
    · intro w1 hS; (try dsimp only at hS); obtain ⟨hb, _⟩ := hS; have s0 := hb.rows (w.heap.size, c) (by simp); have s1 := hb.rows (w.heap.size + 1, d) (by simp); dsimp only at s0 s1; go_simp
    (try simp only [List.getElem_toArray]); (try simp only [List.getElem_cons_succ]); (try simp only [List.getElem_cons_zero]); (try simp only [Act.put]); (try simp only [List.setIfInBounds_toArray]); (try simp only [List.set_cons_succ]); (try simp only [List.set_cons_zero])
    refine wpAnyH_ready (rs := [1]) (by kernel_rfl) (by simp) (AllReadyH.cons rfl (fun K hK => ?_) AllReadyH.nil)
    go_simp
    refine (toRoof_any c r _ hR).mono ?_
    rintro x wx ⟨rfl, bx⟩
    go_simp
    refine hK.out _ _ (⟨hH.1.call bx, hH.2.below bx (Nat.le_refl _)⟩) (fun hG => ?_)
    clear hK K hH bx
    replace hH := hG
    clear hG
    (try simp only [List.getElem_toArray]); (try simp only [List.getElem_cons_succ]); (try simp only [List.getElem_cons_zero]); (try simp only [Act.put]); (try simp only [List.setIfInBounds_toArray]); (try simp only [List.set_cons_succ]); (try simp only [List.set_cons_zero])
    refine wpAnyH_ready (rs := [3]) (by kernel_rfl) (by simp) (AllReadyH.cons rfl (fun K hK => ?_) AllReadyH.nil)
    go_simp
    refine (toRain_any d t _ hT).mono ?_
    rintro x wx ⟨rfl, bx⟩
    go_simp
    refine hK.out _ _ (⟨hH.1.call bx, hH.2.below bx (Nat.le_refl _)⟩) (fun hG => ?_)
    clear hK K hH bx
    replace hH := hG
    clear hG
    (try simp only [List.getElem_toArray]); (try simp only [List.getElem_cons_succ]); (try simp only [List.getElem_cons_zero]); (try simp only [Act.put]); (try simp only [List.setIfInBounds_toArray]); (try simp only [List.set_cons_succ]); (try simp only [List.set_cons_zero])
    refine wpAnyH_ready (rs := [5]) (by kernel_rfl) (by simp) (AllReadyH.cons rfl (fun K hK => ?_) AllReadyH.nil)
    go_simp
    refine (toPlaceS_any _ n f _ hH.2 hl).mono ?_
    rintro x wx ⟨u, rfl, lx, bx⟩
    go_simp
    refine hK.out _ _ (⟨hH.1.call bx, hH.2.below bx (Nat.le_refl _)⟩) (fun hG => ?_)
    clear hK K hH bx
    replace hH := hG
    clear hG
    (try simp only [List.getElem_toArray]); (try simp only [List.getElem_cons_succ]); (try simp only [List.getElem_cons_zero]); (try simp only [Act.put]); (try simp only [List.setIfInBounds_toArray]); (try simp only [List.set_cons_succ]); (try simp only [List.set_cons_zero])
    refine wpAnyH_ready (rs := [6]) (by kernel_rfl) (by simp) (AllReadyH.cons rfl (fun K hK => ?_) AllReadyH.nil)
    go_simp
    refine (CS _ _ _ lx).mono ?_
    rintro x wx ⟨rfl, bx⟩
    go_simp
    refine hK.out _ _ (⟨hH.1.call bx, hH.2.below bx (Nat.le_refl _)⟩) (fun hG => ?_)
    clear hK K hH bx
    replace hH := hG
    clear hG
    (try simp only [List.getElem_toArray]); (try simp only [List.getElem_cons_succ]); (try simp only [List.getElem_cons_zero]); (try simp only [Act.put]); (try simp only [List.setIfInBounds_toArray]); (try simp only [List.set_cons_succ]); (try simp only [List.set_cons_zero])
    refine wpAnyH_take (i := 7) (v := .tuple #[.int .i64 v0, .int .i64 v1]) rfl (by kernel_rfl) (by kernel_rfl) (by kernel_rfl) (fun _ _ _ h => h) (Or.inl ⟨by rfl, ?_⟩) hH ?_
    · intro w1 hS; (try dsimp only at hS); go_simp
    (try simp only [List.getElem_toArray]); (try simp only [List.getElem_cons_succ]); (try simp only [List.getElem_cons_zero]); (try simp only [Act.put]); (try simp only [List.setIfInBounds_toArray]); (try simp only [List.set_cons_succ]); (try simp only [List.set_cons_zero])
    refine wpAnyH_take (i := 8) (v := .int .i64 v0) rfl (by kernel_rfl) (by kernel_rfl) (by kernel_rfl) (fun _ _ _ h => h) (Or.inl ⟨by rfl, ?_⟩) hH ?_
    · intro w1 hS; (try dsimp only at hS); go_simp
    (try simp only [List.getElem_toArray]); (try simp only [List.getElem_cons_succ]); (try simp only [List.getElem_cons_zero]); (try simp only [Act.put]); (try simp only [List.setIfInBounds_toArray]); (try simp only [List.set_cons_succ]); (try simp only [List.set_cons_zero])
    refine wpAnyH_take (i := 9) (v := .int .i64 v1) rfl (by kernel_rfl) (by kernel_rfl) (by kernel_rfl) (fun _ _ _ h => h) (Or.inl ⟨by rfl, ?_⟩) hH ?_
    · intro w1 hS; (try dsimp only at hS); go_simp
    (try simp only [List.getElem_toArray]); (try simp only [List.getElem_cons_succ]); (try simp only [List.getElem_cons_zero]); (try simp only [Act.put]); (try simp only [List.setIfInBounds_toArray]); (try simp only [List.set_cons_succ]); (try simp only [List.set_cons_zero])
    refine wpAnyH_take (i := 10) (v := .int .i64 v0) rfl (by kernel_rfl) (by kernel_rfl) (by kernel_rfl) (fun _ _ _ h => h) (Or.inl ⟨by rfl, ?_⟩) hH ?_
    · intro w1 hS; (try dsimp only at hS); go_simp
    (try simp only [List.getElem_toArray]); (try simp only [List.getElem_cons_succ]); (try simp only [List.getElem_cons_zero]); (try simp only [Act.put]); (try simp only [List.setIfInBounds_toArray]); (try simp only [List.set_cons_succ]); (try simp only [List.set_cons_zero])
    refine wpAnyH_take (i := 11) (v := .int .i64 v1) rfl (by kernel_rfl) (by kernel_rfl) (by kernel_rfl) (fun _ _ _ h => h) (Or.inl ⟨by rfl, ?_⟩) hH ?_
    · intro w1 hS; (try dsimp only at hS); go_simp
    (try simp only [List.getElem_toArray]); (try simp only [List.getElem_cons_succ]); (try simp only [List.getElem_cons_zero]); (try simp only [Act.put]); (try simp only [List.setIfInBounds_toArray]); (try simp only [List.set_cons_succ]); (try simp only [List.set_cons_zero])
    refine wpAnyH_done (by kernel_rfl) ?_ _
    have HH := Lib.hid hH
    clear hH lx pb HV CS
    go_wp2_with fail
    refine (toPlaceS_any _ n f _ HH.out.2 hl).mono ?_
    rintro e w2 ⟨x2, rfl, l2, b2⟩
    have HB2 := Lib.hid (HH.out.1.call b2)
    have HV2 := Lib.hid (HH.out.2.below b2 (Nat.le_refl _))
    obtain ⟨ax, cx, rfl⟩ := l2.shape
    have HL2 := Lib.hid l2
    obtain ⟨bx2, hbx2⟩ : ∃ B, IsList w2 B (.slice ax n cx) 2 n (fun i => .int .i8 (f i)) := ⟨_, HL2.out⟩
    replace HL2 := Lib.hid hbx2
    clear b2 l2 hbx2
    go_wp2_with fail
    refine wp_region_held_drew (S := (fun w' => (Boxes (w.heap.size + 1 + 1) w [(w.heap.size + 1, d), (w.heap.size, c)] w' ∧ ArgL w' (.slice av n cv) n f) ∧ IsList w' bx2 (.slice ax n cx) 2 n (fun i => .int .i8 (f i)))) (by kernel_rfl) (⟨⟨HB2.out.drew, HV2.out⟩, HL2.out⟩) (fun hH => ?_)
    refine wpAnyH_take (i := 0) (v := .agg c) rfl (by kernel_rfl) (by kernel_rfl) (by kernel_rfl) (fun _ _ _ h => h) (Or.inl ⟨by rfl, ?_⟩) hH ?_
    · intro w1 hS; (try dsimp only at hS); obtain ⟨⟨hb, _⟩, _⟩ := hS; have s0 := hb.rows (w.heap.size, c) (by simp); have s1 := hb.rows (w.heap.size + 1, d) (by simp); dsimp only at s0 s1; go_simp
    (try simp only [List.getElem_toArray]); (try simp only [List.getElem_cons_succ]); (try simp only [List.getElem_cons_zero]); (try simp only [Act.put]); (try simp only [List.setIfInBounds_toArray]); (try simp only [List.set_cons_succ]); (try simp only [List.set_cons_zero])
    refine wpAnyH_take (i := 2) (v := .agg d) rfl (by kernel_rfl) (by kernel_rfl) (by kernel_rfl) (fun _ _ _ h => h) (Or.inl ⟨by rfl, ?_⟩) hH ?_
    · intro w1 hS; (try dsimp only at hS); obtain ⟨⟨hb, _⟩, _⟩ := hS; have s0 := hb.rows (w.heap.size, c) (by simp); have s1 := hb.rows (w.heap.size + 1, d) (by simp); dsimp only at s0 s1; go_simp
    (try simp only [List.getElem_toArray]); (try simp only [List.getElem_cons_succ]); (try simp only [List.getElem_cons_zero]); (try simp only [Act.put]); (try simp only [List.setIfInBounds_toArray]); (try simp only [List.set_cons_succ]); (try simp only [List.set_cons_zero])
    refine wpAnyH_take (i := 4) (v := .slice ax n cx) rfl (by kernel_rfl) (by kernel_rfl) (by kernel_rfl) (fun _ _ _ h => h) (Or.inl ⟨by rfl, ?_⟩) hH ?_
    · intro w1 hS; (try dsimp only at hS); obtain ⟨⟨hb, _⟩, _⟩ := hS; have s0 := hb.rows (w.heap.size, c) (by simp); have s1 := hb.rows (w.heap.size + 1, d) (by simp); dsimp only at s0 s1; go_simp
    (try simp only [List.getElem_toArray]); (try simp only [List.getElem_cons_succ]); (try simp only [List.getElem_cons_zero]); (try simp only [Act.put]); (try simp only [List.setIfInBounds_toArray]); (try simp only [List.set_cons_succ]); (try simp only [List.set_cons_zero])
    refine wpAnyH_ready (rs := [1]) (by kernel_rfl) (by simp) (AllReadyH.cons rfl (fun K hK => ?_) AllReadyH.nil)
    go_simp
    refine (toRoof_any c r _ hR).mono ?_
    rintro x wy ⟨rfl, bx⟩
    go_simp
    refine hK.out _ _ (⟨⟨hH.1.1.call bx, hH.1.2.below bx (Nat.le_refl _)⟩, hH.2.below bx (Nat.le_refl _)⟩) (fun hG => ?_)
    clear hK K hH bx
    replace hH := hG
    clear hG
    (try simp only [List.getElem_toArray]); (try simp only [List.getElem_cons_succ]); (try simp only [List.getElem_cons_zero]); (try simp only [Act.put]); (try simp only [List.setIfInBounds_toArray]); (try simp only [List.set_cons_succ]); (try simp only [List.set_cons_zero])
    refine wpAnyH_ready (rs := [3]) (by kernel_rfl) (by simp) (AllReadyH.cons rfl (fun K hK => ?_) AllReadyH.nil)
    go_simp
    refine (toRain_any d t _ hT).mono ?_
    rintro x wy ⟨rfl, bx⟩
    go_simp
    refine hK.out _ _ (⟨⟨hH.1.1.call bx, hH.1.2.below bx (Nat.le_refl _)⟩, hH.2.below bx (Nat.le_refl _)⟩) (fun hG => ?_)
    clear hK K hH bx
    replace hH := hG
    clear hG
    (try simp only [List.getElem_toArray]); (try simp only [List.getElem_cons_succ]); (try simp only [List.getElem_cons_zero]); (try simp only [Act.put]); (try simp only [List.setIfInBounds_toArray]); (try simp only [List.set_cons_succ]); (try simp only [List.set_cons_zero])
    refine wpAnyH_ready (rs := [5]) (by kernel_rfl) (by simp) (AllReadyH.cons rfl (fun K hK => ?_) AllReadyH.nil)
    go_simp
    refine (CI _ _ _ (HE.out.below hH.1.1.bel) hH.2).mono ?_
    rintro x wy ⟨rfl, bx⟩
    go_simp
    refine hK.out _ _ (⟨⟨hH.1.1.call bx, hH.1.2.below bx (Nat.le_refl _)⟩, hH.2.below bx (Nat.le_refl _)⟩) (fun hG => ?_)
    clear hK K hH bx
    replace hH := hG
    clear hG
    (try simp only [List.getElem_toArray]); (try simp only [List.getElem_cons_succ]); (try simp only [List.getElem_cons_zero]); (try simp only [Act.put]); (try simp only [List.setIfInBounds_toArray]); (try simp only [List.set_cons_succ]); (try simp only [List.set_cons_zero])
    refine wpAnyH_take (i := 6) (v := .tuple #[.int .i64 v0, .int .i64 v1]) rfl (by kernel_rfl) (by kernel_rfl) (by kernel_rfl) (fun _ _ _ h => h) (Or.inl ⟨by rfl, ?_⟩) hH ?_
    · intro w1 hS; (try dsimp only at hS); go_simp
    (try simp only [List.getElem_toArray]); (try simp only [List.getElem_cons_succ]); (try simp only [List.getElem_cons_zero]); (try simp only [Act.put]); (try simp only [List.setIfInBounds_toArray]); (try simp only [List.set_cons_succ]); (try simp only [List.set_cons_zero])
    refine wpAnyH_take (i := 7) (v := .int .i64 v0) rfl (by kernel_rfl) (by kernel_rfl) (by kernel_rfl) (fun _ _ _ h => h) (Or.inl ⟨by rfl, ?_⟩) hH ?_
    · intro w1 hS; (try dsimp only at hS); go_simp
    (try simp only [List.getElem_toArray]); (try simp only [List.getElem_cons_succ]); (try simp only [List.getElem_cons_zero]); (try simp only [Act.put]); (try simp only [List.setIfInBounds_toArray]); (try simp only [List.set_cons_succ]); (try simp only [List.set_cons_zero])
    refine wpAnyH_take (i := 8) (v := .int .i64 v1) rfl (by kernel_rfl) (by kernel_rfl) (by kernel_rfl) (fun _ _ _ h => h) (Or.inl ⟨by rfl, ?_⟩) hH ?_
    · intro w1 hS; (try dsimp only at hS); go_simp
    (try simp only [List.getElem_toArray]); (try simp only [List.getElem_cons_succ]); (try simp only [List.getElem_cons_zero]); (try simp only [Act.put]); (try simp only [List.setIfInBounds_toArray]); (try simp only [List.set_cons_succ]); (try simp only [List.set_cons_zero])
    refine wpAnyH_take (i := 9) (v := .int .i64 v0) rfl (by kernel_rfl) (by kernel_rfl) (by kernel_rfl) (fun _ _ _ h => h) (Or.inl ⟨by rfl, ?_⟩) hH ?_
    · intro w1 hS; (try dsimp only at hS); go_simp
    (try simp only [List.getElem_toArray]); (try simp only [List.getElem_cons_succ]); (try simp only [List.getElem_cons_zero]); (try simp only [Act.put]); (try simp only [List.setIfInBounds_toArray]); (try simp only [List.set_cons_succ]); (try simp only [List.set_cons_zero])
    refine wpAnyH_take (i := 10) (v := .int .i64 v1) rfl (by kernel_rfl) (by kernel_rfl) (by kernel_rfl) (fun _ _ _ h => h) (Or.inl ⟨by rfl, ?_⟩) hH ?_
    · intro w1 hS; (try dsimp only at hS); go_simp
    (try simp only [List.getElem_toArray]); (try simp only [List.getElem_cons_succ]); (try simp only [List.getElem_cons_zero]); (try simp only [Act.put]); (try simp only [List.setIfInBounds_toArray]); (try simp only [List.set_cons_succ]); (try simp only [List.set_cons_zero])
    refine wpAnyH_done (by kernel_rfl) ?_ _
    have HH2 := Lib.hid hH
    clear hH HH HB2 HV2 HL2 CI
    go_wp2_with fail
    refine (toPlaceS_any _ n f _ HH2.out.1.2 hl).mono ?_
    rintro e w5 ⟨x3, rfl, l3, b3⟩
    have HL3 := Lib.hid (HH2.out.2.below b3 (Nat.le_refl _))
    have HB3 := Lib.hid (HH2.out.1.1.call b3)
    have HL4 := Lib.hid l3
    clear b3 l3
    go_wp2_with fail
    refine (eqPlaceS_same n f _ _ _ _ _ HL3.out HL4.out (by omega)).mono ?_
    rintro e w6 ⟨rfl, b6⟩
    have HB6 := Lib.hid (HB3.out.call b6)
    clear b6
    go_wp2_with fail
    go_ret
    exact ⟨rfl, HB6.out.bel⟩
  · have hl1 : (1048576 : Int) < n := by omega
    go_enter Tryd.func3, Tryd.ntmps3
    go_wp2_with fail
    refine gen_callsL fun W hW => ?_
    rw [← hW] at pb HV
    clear hW
    refine (szPlaceS_f _ n f _ HV.out (by omega) hm).mono ?_
    rintro e w1 ⟨rfl, rfl⟩
    go_wp2_with fail
    go_ret
    exact ⟨rfl, pb.bel⟩

namespace LFnExactDripAfter
open Go.RowKit Go.ChangeShapes Go.WideShapes Go.ChangeAt
theorem own : ownKnob Tryd.prog.godebug = none := by kernel_rfl
theorem laidOut : laidOutB Tryd.prog = true := by kernel_rfl
theorem door_met (os : Os) (args : Array Value) : laidMetH Tryd.prog Rows.fnExactDripAfterRow.laid ((World.doorLaid Tryd.prog 400 os).forCall (fun _ _ => 0) ⟨#[], args, []⟩).memory :=
  laidMetH_of_parts3 (fuel := 8) (laidMet_of_run' 8 (by kernel_rfl) (by kernel_rfl)) (by kernel_rfl) (by kernel_rfl)
set_option maxRecDepth 100000 in
theorem lifted (os : Os) (started : os.Started) (H : Type) (enc : TypeId × Value → H) :
    ReturnsInHanded {} Tryd.checked os 3 .any (fun w args => (Rows.fnExactDripAfterSpec.pre enc Tryd.prog Tryd.f3 [] false w args ∧ laidMetH Tryd.prog Rows.fnExactDripAfterRow.laid w) ∧ sizedMet enc Tryd.prog Tryd.f3 (OpenSpec.ofChange Rows.fnExactDripAfterSpec) false w args)
      (Rows.fnExactDripAfterSpec.post enc Tryd.prog Tryd.f3 false true false false) := by
  refine returnsInHanded_of_change_and (C := Tryd.checked) (X := fun w _ => laidMetH Tryd.prog Rows.fnExactDripAfterRow.laid w) (fun _ _ _ hh h => h.of_heap hh) own started (by kernel_rfl) Tryd.func3
    (ChangeSpec.witness_shaped (enc := enc) (C := Tryd.checked) (os := os) (X := fun w _ => laidMetH Tryd.prog Rows.fnExactDripAfterRow.laid w) false (World.doorLaid Tryd.prog 400 os) #[.agg Tryd.zeroCells26, .agg (Array.replicate 17 (.int .i16 0)), .slice none 0 0] 8 rfl (World.shaped_of_RefB (by kernel_rfl) (by kernel_rfl)) (by kernel_rfl) (by kernel_rfl) (by kernel_rfl) (door_met os _)) ?_
  intro W base args ds gs before hval0 hW _ _ hL _
  have hval : ∀ (j : Nat) t v, Tryd.f3.params[j]? = some t → args[j]? = some v → Value.okWide Tryd.prog W .any base t v := hval0
  have hW' := hW
  obtain ⟨p, q, hA0, hV, rfl, hfz, hnd⟩ := hW
  have hA : DataW.TrodAll enc Tryd.prog W 0 (fun _ => true) true Tryd.f3.params.toList args.toList ds p := hA0
  rw [Tryd.params3] at hA hval
  obtain ⟨v0, vs0, d0, ds0, p0, q0, hargs, rfl, rfl, h0, r0⟩ := trodAll_cons hA
  obtain ⟨v1, vs1, d1, ds1, p1, q1, rfl, rfl, rfl, h1, r1⟩ := trodAll_cons r0
  obtain ⟨v2, vs2, d2, ds2, p2, q2, rfl, rfl, rfl, h2, r2⟩ := trodAll_cons r1
  obtain ⟨rfl, rfl, rfl⟩ := trodAll_nil r2
  obtain rfl : args = #[v0, v1, v2] := by cases args; simp_all
  obtain ⟨g0, g1, g2, g3, g4, g5, rfl⟩ := len6 (trodVars_len hV)
  have k0 := h0
  have lt0 : ∀ x ∈ p0, x.block < W.heap.size := by obtain ⟨m, hm⟩ := k0; exact DataW.trod_lt m _ _ _ hm
  have k1 := h1
  have lt1 : ∀ x ∈ p1, x.block < W.heap.size := by obtain ⟨m, hm⟩ := k1; exact DataW.trod_lt m _ _ _ hm
  have k2 := h2
  have lt2 : ∀ x ∈ p2, x.block < W.heap.size := by obtain ⟨m, hm⟩ := k2; exact DataW.trod_lt m _ _ _ hm
  obtain ⟨c0, f0, rfl, wf0⟩ := open_roof (hval 0 26 v0 rfl rfl) h0
  obtain ⟨c1, f1, rfl, wf1⟩ := open_rain (hval 1 28 v1 rfl rfl) h1
  obtain ⟨len2, cells2, hL2, hm2, hb2⟩ := open_pls (hval 2 29 v2 rfl rfl) h2
  clear hA0 hval0
  obtain ⟨a, hE⟩ := errs_of hL
  refine ((law_walk_FnExactDripAfter a wf0 wf1 hL2 hm2 hb2 hE)).mono fun e W' ⟨he, bel⟩ => ?_
  subst he
  exact ⟨_, rfl, _, _, _, [], _, _, hW', trodAll_mk1 (shut_bool Tryd.underlying4 _), (trodAll_cons_mk (Below.trod laidOut (by kernel_rfl) (of_decide_eq_true (by kernel_rfl)) k0 bel lt0) (trodAll_cons_mk (Below.trod laidOut (by kernel_rfl) (of_decide_eq_true (by kernel_rfl)) k1 bel lt1) (trodAll_cons_mk (Below.trod laidOut (by kernel_rfl) (of_decide_eq_true (by kernel_rfl)) k2 bel lt2) trodAll_mk0))), Below.trodVars laidOut bel (by kernel_rfl) hV, bel.frame _, fun h => by cases h⟩

theorem over : Rows.FnExactDripAfterSaid :=
  OpenClaim.holds_of_wide 3 Tryd.f3 rfl rfl rfl rfl rfl rfl rfl ⟨rfl, rfl, rfl, rfl, rfl⟩ rfl rfl rfl rfl rfl (by kernel_rfl) Tryd.func3 (by kernel_rfl)
    (of_decide_eq_true (by kernel_rfl)) (by unfold Func.isWrapper; first | (rw [if_pos (by decide +kernel)]; kernel_rfl) | (rw [if_neg (by decide +kernel)]; exact ⟨rfl, rfl⟩))
    (fun os started H enc _ => lifted os started H enc)

theorem proved : Rows.FnExactDripAfterCardSaid :=
  Claim7.holds_tied_plain_at .later [] Rows.fnExactDripAfterCard.laidKinds true Rows.fnExactDripAfterCard.stood.harness Rows.fnExactDripAfterCard.stood.looks
    over (fun _ h => by cases h) (by kernel_rfl) (fun _ h => by cases h) fnExactDripAfter_row_tie rfl ⟨rfl, rfl⟩ (by kernel_rfl) rfl
    (fun f fn hf hfn => by
      obtain rfl : f = 3 := Option.some.inj ((show Tryd.prog.funcNamed "loop.example/g01376/laws.FnExactDripAfter" = some 3 by kernel_rfl).symm.trans hf) |>.symm
      obtain rfl : fn = Tryd.f3 := (Option.some.inj (Tryd.func3.symm.trans hfn)).symm
      exact ⟨by kernel_rfl, fun j t ht => by
        rw [Tryd.params3] at ht
        have hm : t ∈ [26, 28, 29] := by simpa using Array.mem_of_getElem? ht
        have hall : ([26, 28, 29].all fun u => !Tryd.prog.wantsStandIn u) = true := by kernel_rfl
        exact (show Tryd.prog.wantsStandIn t = false by simpa using List.all_eq_true.1 hall t hm)⟩)
    (by kernel_rfl)
end LFnExactDripAfter

end Go.Proofs.YtoibolmippfcgaaDoor
