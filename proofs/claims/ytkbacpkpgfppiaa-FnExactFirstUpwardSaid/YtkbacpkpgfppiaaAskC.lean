/- Chapter 4: checkWork, checkLadders, checkWalk, carried. -/
import Derived.Test.YtkbacpkpgfppiaaAskW
namespace Go.Proofs.Ytkbacpkpgfppiaa
open Go.RowKit

set_option maxRecDepth 100000 in
set_option maxHeartbeats 2000000 in
theorem checkWork_any (b2 b3 m n k : Nat) (c : Array Value) (r : Rf) (g f h : Nat → Int) (v1 v2 v3 : Value) (w : World) (hR : IsRoof c r)
    (hv1 : NumsAt w v1 m g) (hm : m ≤ 2000000) (hv2 : IsList w b2 v2 2 n (fun i => .int .i8 (f i))) (hn : n ≤ 2000000) (hv3 : IsList w b3 v3 3 k (fun i => .int .i64 (h i))) (hk : k ≤ 2000000) :
    Calls Try.prog 46 #[.agg c, v1, v2, v3] w fun e w' => e = .returned (.int .i64 (r.wcode g m f n (fineB h k))) ∧ Below w.heap.size w w' := by
  have hc := hR.size
  have eg : ∀ args w, (callFunc 90 args).run Try.prog w = .ok (.enter 90 args) w := enters_of Try.func90 (by kernel_rfl) rfl
  have p0 : Hid (rowAt (w.alloc (.cells c 31)) w.heap.size = some c) := Lib.hid (rowAt_alloc_at w c 31 w.heap.size rfl)
  have pB : Hid (Below w.heap.size w (w.alloc (.cells c 31))) := Lib.hid ((Below.refl _ _).alloc (Nat.le_refl _) _)
  have HV1 := Lib.hid (hv1.below pB.out (Nat.le_refl _))
  have HV2 := Lib.hid (hv2.below pB.out (Nat.le_refl _))
  have HV3 := Lib.hid (hv3.below pB.out (Nat.le_refl _))
  obtain ⟨a1, c1, rfl⟩ := hv1.shape
  obtain ⟨a2, c2, rfl⟩ := hv2.shape
  obtain ⟨a3, c3, rfl⟩ := hv3.shape
  clear hv1 hv2 hv3
  have CO := fun W H => hasOut_any b3 k (.slice a3 k c3) h W H hk
  have CC := fun W B hr H => hasFuncI_any 90 #[.pointer (some ⟨B, 0, none⟩)] (fun x => outB x 0 (2 * r.w)) eg (.slice a1 m c1) m g W (noCell_pred B c r W hr hR) H hm
  have CH := fun W H => hasAll_any b2 n c r (.slice a2 n c2) f W hR H hn
  simp only [Rf.anyC] at CC
  by_cases ho : r.Ok
  · cases hf : anyI (outs h) k with
    | true =>
      have HC : Hid (r.wcode g m f n (fineB h k) = 2) := Lib.hid (by
        have e : (fineB h k && r.ocB g m && r.okB f n) = false := by simp [fineB, hf]
        rw [Rf.wcode_told (by rw [e, Rf.told_out ho]; omega), e, Rf.told_out ho])
      rw [hf] at CO
      clear hf
      go_enter Try.func46, Try.ntmps46
      go_wp2_with fail
      refine (implValid_t c r _ hR ho).mono ?_
      rintro e w1 ⟨rfl, b1⟩
      have B1 := Lib.hid (bnext pB.out b1 pB.out.size)
      have q3 := HV3.out.below b1 (Nat.le_refl _)
      clear b1
      go_wp2_with fail
      refine (CO _ q3).mono ?_
      rintro e w2 ⟨rfl, b2⟩
      have B2 := Lib.hid (bnext B1.out b2 B1.out.size)
      clear b2 q3
      go_wp2_with fail
      go_ret
      exact ⟨by rw [HC.out]; rfl, B2.out⟩
    | false =>
      have hfine : fineB h k = true := by simp [fineB, hf]
      rw [hf] at CO
      rw [hfine]
      clear hf hfine
      cases hg : r.ocB g m with
      | false =>
        have HC : Hid (r.wcode g m f n true = 2) := Lib.hid (by
          have e : (true && r.ocB g m && r.okB f n) = false := by simp [hg]
          rw [Rf.wcode_told (by rw [e, Rf.told_out ho]; omega), e, Rf.told_out ho])
        simp only [hg, Bool.not_false] at CC
        clear hg
        go_enter Try.func46, Try.ntmps46
        go_wp2_with fail
        refine (implValid_t c r _ hR ho).mono ?_
        rintro e w1 ⟨rfl, b1⟩
        have B1 := Lib.hid (bnext pB.out b1 pB.out.size)
        have q0 := Lib.hid (brow b1 p0.out)
        have q1 := Lib.hid (HV1.out.below b1 (Nat.le_refl _))
        have q3 := HV3.out.below b1 (Nat.le_refl _)
        clear b1
        go_wp2_with fail
        refine (CO _ q3).mono ?_
        rintro e w2 ⟨rfl, b2⟩
        have B2 := Lib.hid (bnext B1.out b2 B1.out.size)
        have q0' := Lib.hid (brow b2 q0.out)
        have q1' := Lib.hid (q1.out.below b2 (Nat.le_refl _))
        clear b2 q3 q0 q1
        go_wp2_with fail
        refine (CC _ _ q0'.out q1'.out).mono ?_
        rintro e w3 ⟨rfl, b3⟩
        have B3 := Lib.hid (bnext B2.out b3 B2.out.size)
        clear b3 q0' q1'
        go_wp2_with fail
        go_ret
        exact ⟨by rw [HC.out]; rfl, B3.out⟩
      | true =>
        cases hp : r.okB f n with
        | false =>
          have HC : Hid (r.wcode g m f n true = 2) := Lib.hid (by
            have e : (true && r.ocB g m && r.okB f n) = false := by simp [hp]
            rw [Rf.wcode_told (by rw [e, Rf.told_out ho]; omega), e, Rf.told_out ho])
          simp only [hg, Bool.not_true] at CC
          simp only [hp] at CH
          clear hg hp
          go_enter Try.func46, Try.ntmps46
          go_wp2_with fail
          refine (implValid_t c r _ hR ho).mono ?_
          rintro e w1 ⟨rfl, b1⟩
          have B1 := Lib.hid (bnext pB.out b1 pB.out.size)
          have q0 := Lib.hid (brow b1 p0.out)
          have q1 := Lib.hid (HV1.out.below b1 (Nat.le_refl _))
          have q2 := Lib.hid (HV2.out.below b1 (Nat.le_refl _))
          have q3 := HV3.out.below b1 (Nat.le_refl _)
          clear b1
          go_wp2_with fail
          refine (CO _ q3).mono ?_
          rintro e w2 ⟨rfl, b2⟩
          have B2 := Lib.hid (bnext B1.out b2 B1.out.size)
          have q0' := Lib.hid (brow b2 q0.out)
          have q1' := Lib.hid (q1.out.below b2 (Nat.le_refl _))
          have q2' := Lib.hid (q2.out.below b2 (Nat.le_refl _))
          clear b2 q3 q0 q1 q2
          go_wp2_with fail
          refine (CC _ _ q0'.out q1'.out).mono ?_
          rintro e w3 ⟨rfl, b3⟩
          have B3 := Lib.hid (bnext B2.out b3 B2.out.size)
          have q0 := brow b3 q0'.out
          have q2 := Lib.hid (q2'.out.below b3 (Nat.le_refl _))
          clear b3 q0' q1' q2'
          go_wp2_with fail
          refine (CH _ q2.out).mono ?_
          rintro e w4 ⟨rfl, b4⟩
          have B4 := Lib.hid (bnext B3.out b4 B3.out.size)
          clear b4 q0 q2
          go_wp2_with fail
          go_ret
          exact ⟨by rw [HC.out]; rfl, B4.out⟩
        | true =>
          have HT : Hid (r.told (true && r.ocB g m && r.okB f n) = 0) := Lib.hid (by rw [hg, hp]; exact Rf.told_in ho)
          simp only [hg, Bool.not_true] at CC
          simp only [hp] at CH
          clear hg hp
          have key : ∀ (x : Int), r.wcode g m f n true = x → ((8 : Int) < m ∧ x = 3 ∨ ¬ (8 : Int) < m ∧ (8 : Int) < n ∧ x = 3 ∨ ¬ (8 : Int) < m ∧ ¬ (8 : Int) < n ∧ x = 0) := fun x hx => by
            subst hx
            by_cases h1 : 8 < m
            · exact .inl ⟨by omega, Rf.wcode_many HT.out (.inl h1)⟩
            · by_cases h2 : 8 < n
              · exact .inr (.inl ⟨by omega, by omega, Rf.wcode_many HT.out (.inr h2)⟩)
              · exact .inr (.inr ⟨by omega, by omega, Rf.wcode_in HT.out (by omega) (by omega)⟩)
          generalize r.wcode g m f n true = x at key ⊢
          have key' := key x rfl
          clear key HT
          rcases key' with ⟨h1, hx⟩ | ⟨h1, h2, hx⟩ | ⟨h1, h2, hx⟩
          all_goals
            subst hx
            go_enter Try.func46, Try.ntmps46
            go_wp2_with fail
            refine (implValid_t c r _ hR ho).mono ?_
            rintro e w1 ⟨rfl, b1⟩
            have B1 := Lib.hid (bnext pB.out b1 pB.out.size)
            have q0 := Lib.hid (brow b1 p0.out)
            have q1 := Lib.hid (HV1.out.below b1 (Nat.le_refl _))
            have q2 := Lib.hid (HV2.out.below b1 (Nat.le_refl _))
            have q3 := HV3.out.below b1 (Nat.le_refl _)
            clear b1
            go_wp2_with fail
            refine (CO _ q3).mono ?_
            rintro e w2 ⟨rfl, b2⟩
            have B2 := Lib.hid (bnext B1.out b2 B1.out.size)
            have q0' := Lib.hid (brow b2 q0.out)
            have q1' := Lib.hid (q1.out.below b2 (Nat.le_refl _))
            have q2' := Lib.hid (q2.out.below b2 (Nat.le_refl _))
            clear b2 q3 q0 q1 q2
            go_wp2_with fail
            refine (CC _ _ q0'.out q1'.out).mono ?_
            rintro e w3 ⟨rfl, b3⟩
            have B3 := Lib.hid (bnext B2.out b3 B2.out.size)
            have q0 := brow b3 q0'.out
            have q2 := Lib.hid (q2'.out.below b3 (Nat.le_refl _))
            clear b3 q0' q1' q2'
            go_wp2_with fail
            refine (CH _ q2.out).mono ?_
            rintro e w4 ⟨rfl, b4⟩
            have B4 := Lib.hid (bnext B3.out b4 B3.out.size)
            clear b4 q0 q2
            go_wp2_with fail
            go_ret
            exact ⟨rfl, B4.out⟩
  · have HC : Hid (r.wcode g m f n (fineB h k) = 1) := Lib.hid (by
      rw [Rf.wcode_told (by rw [Rf.told_no ho]; omega), Rf.told_no ho])
    clear CO CC CH
    go_enter Try.func46, Try.ntmps46
    go_wp2_with fail
    refine (implValid_f c r _ hR ho).mono ?_
    rintro e w1 ⟨rfl, b1⟩
    have B1 := Lib.hid (bnext pB.out b1 pB.out.size)
    clear b1
    go_wp2_with fail
    go_ret
    exact ⟨by rw [HC.out]; rfl, B1.out⟩
end Go.Proofs.Ytkbacpkpgfppiaa
