/- Places that lie anywhere: whether there is one; lapsOverSome. -/
import Derived.Test.YtkbacpkpgfppiaaOverS
namespace Go.Proofs.Ytkbacpkpgfppiaa
open Go.RowKit

set_option maxRecDepth 100000 in
set_option maxHeartbeats 1000000 in
theorem indexA_any (n : Nat) (v : Value) (f : Nat → Int) (a b : Int) (w : World) (hv : ArgL w v n f) (hn : n ≤ 2000000) :
    Calls Try.prog 156 #[v, .agg #[.int .i8 a, .int .i8 b]] w fun e w' => e = .returned (.int .i64 (firstI (fun q => decide (f (q * 2) = a ∧ f (q * 2 + 1) = b)) n)) ∧ Below w.heap.size w w' := by
  obtain ⟨av, cv, rfl⟩ := hv.shape
  go_enter Try.func156, Try.ntmps156
  go_wp2_with fail
  refine gen_world fun W0 hW => ?_
  have pB : Hid (Below w.heap.size w W0) := Lib.hid (by rw [hW]; exact (Below.refl _ _).alloc (Nat.le_refl _) _)
  have pX : Hid (rowAt W0 w.heap.size = some #[.int .i8 a, .int .i8 b]) := Lib.hid (by rw [hW]; exact rowAt_alloc_at _ _ _ _ rfl)
  have HV := Lib.hid (hv.below pB.out (Nat.le_refl _))
  clear hW hv
  go_loopg [5, 8] n (fun gg _ i' W => ∃ k : Nat, k ≤ n ∧ n - k ≤ gg ∧ i' = .int .i64 k ∧ Hid (∀ q, q < k → decide (f (q * 2) = a ∧ f (q * 2 + 1) = b) = false) ∧ Below W0.heap.size W0 W)
  case atStart => exact ⟨0, by omega, by omega, rfl, Lib.hid (by omega), Below.refl _ _⟩
  case round =>
    obtain ⟨k, hk, hg, rfl, hF, hB⟩ := hrel
    by_cases hlt : k < n
    · obtain ⟨gg, o, rfl, c0, c1⟩ := (HV.out.below hB (Nat.le_refl _)).at hlt
      have x0 := cell_of_rowAt (brow hB pX.out) 0
      have x1 := cell_of_rowAt (brow hB pX.out) 1
      have hi0 : 0 ≤ (k : Int) := by omega
      have hi1 : (k : Int) < n := by omega
      have HB := Lib.hid hB
      clear hB
      by_cases hx : f (k * 2) = a ∧ f (k * 2 + 1) = b
      · have HX : Hid (decide (f (k * 2) = a ∧ f (k * 2 + 1) = b) = true) := Lib.hid (by simp [hx.1, hx.2])
        obtain ⟨h0, h1⟩ := hx
        have e0 : (a == f (k * 2)) = true := by simp [h0]
        have e1 : (b == f (k * 2 + 1)) = true := by simp [h1]
        clear h0 h1
        go_wp2_with fail
        go_quiet (fail)
        go_wp2_with fail
        go_ret
        exact ⟨by rw [firstI_hit hlt hF.out HX.out]; rfl, below_drewN (pB.out.trans (HB.out.mono pB.out.size)) _⟩
      · have HX : Hid (decide (f (k * 2) = a ∧ f (k * 2 + 1) = b) = false) := Lib.hid (decide_eq_false hx)
        by_cases h0 : f (k * 2) = a
        · have h1 : ¬ f (k * 2 + 1) = b := fun e => hx ⟨h0, e⟩
          have e0 : (a == f (k * 2)) = true := by simp [h0]
          have e1 : (b == f (k * 2 + 1)) = false := by simp [Ne.symm h1]
          clear h0 h1 hx
          go_wp2_with fail
          go_quiet (fail)
          go_wp2_with fail
          go_roundg (n - (k + 1))
          case measure => omega
          case rel =>
            refine ⟨k + 1, by omega, by omega, by go_num, Lib.hid (fun q hq => ?_), below_drewN HB.out _⟩
            by_cases e : q = k
            · subst e; exact HX.out
            · exact hF.out q (by omega)
        · have e0 : (a == f (k * 2)) = false := by simp [Ne.symm h0]
          clear h0 hx
          go_wp2_with fail
          go_quiet (fail)
          go_wp2_with fail
          go_roundg (n - (k + 1))
          case measure => omega
          case rel =>
            refine ⟨k + 1, by omega, by omega, by go_num, Lib.hid (fun q hq => ?_), below_drewN HB.out _⟩
            by_cases e : q = k
            · subst e; exact HX.out
            · exact hF.out q (by omega)
    · obtain rfl : k = n := by omega
      go_wp2_with fail
      go_ret
      exact ⟨by rw [firstI_miss hF.out]; rfl, pB.out.trans (hB.mono pB.out.size)⟩
set_option maxRecDepth 100000 in
theorem containsA_any (n : Nat) (v : Value) (f : Nat → Int) (a b : Int) (w : World) (hv : ArgL w v n f) (hn : n ≤ 2000000) :
    Calls Try.prog 122 #[v, .agg #[.int .i8 a, .int .i8 b]] w fun e w' => e = .returned (.bool (hasP f n a b)) ∧ Below w.heap.size w w' := by
  have hbd := firstI_bd (fun q => decide (f (q * 2) = a ∧ f (q * 2 + 1) = b)) n
  have HV := Lib.hid (hv.below ((Below.refl w.heap.size w).alloc (Nat.le_refl _) (.cells #[.int .i8 a, .int .i8 b] 58)) (Nat.le_refl _))
  obtain ⟨av, cv, rfl⟩ := hv.shape
  have CX := fun W H => indexA_any n (.slice av n cv) f a b W H hn
  unfold hasP anyI
  generalize firstI (fun q => decide (f (q * 2) = a ∧ f (q * 2 + 1) = b)) n = z at *
  clear hv
  by_cases hz : 0 ≤ z
  · have hd : decide (0 ≤ z) = true := by simp [hz]
    rw [hd]
    go_enter Try.func122, Try.ntmps122
    go_wp2_with fail
    refine (CX _ HV.out).mono ?_
    rintro e w1 ⟨rfl, b1⟩
    go_wp2_with fail
    go_ret
    exact ⟨rfl, ((Below.refl _ _).alloc (Nat.le_refl _) _).trans (b1.mono (by simp))⟩
  · have hd : decide (0 ≤ z) = false := by simp; omega
    rw [hd]
    go_enter Try.func122, Try.ntmps122
    go_wp2_with fail
    refine (CX _ HV.out).mono ?_
    rintro e w1 ⟨rfl, b1⟩
    go_wp2_with fail
    go_ret
    exact ⟨rfl, ((Below.refl _ _).alloc (Nat.le_refl _) _).trans (b1.mono (by simp))⟩


set_option maxRecDepth 100000 in
set_option maxHeartbeats 1000000 in
theorem overSome_pred (B n : Nat) (v : Value) (f : Nat → Int) (w : World) (hb : rowAt w B = some #[v]) (hv : ArgL w v n f) (hn : n ≤ 2000000) :
    PredP 150 #[.pointer (some ⟨B, 0, none⟩)] (fun a b => hasP f n a b) w := fun a b W hB => by
  have HV := Lib.hid (hv.below hB (Nat.le_refl _))
  obtain ⟨av, cv, rfl⟩ := hv.shape
  have q0 : (W.alloc (.cells #[.int .i8 a, .int .i8 b] 58)).cell? ⟨B, 0, none⟩ = some (.slice av n cv) := (cell_of_rowAt ((rowAt_alloc_past _ _ _ (rowAt_lt (brow hB hb))).trans (brow hB hb)) 0).trans rfl
  clear hv hb hB
  show Calls Try.prog 150 #[.agg #[.int .i8 a, .int .i8 b], .pointer (some ⟨B, 0, none⟩)] W _
  go_enter Try.func150, Try.ntmps150
  go_wp2_with fail
  refine gen_callsC fun W0 hW => ?_
  have pB := Lib.hid (show Below W.heap.size W W0 by rw [hW]; exact (Below.refl _ _).alloc (Nat.le_refl _) _)
  clear hW q0
  refine (containsA_any n (.slice av n cv) f a b _ (HV.out.below pB.out (Nat.le_refl _)) hn).mono ?_
  rintro e w1 ⟨rfl, b1⟩
  have B1 := Lib.hid (bnext pB.out b1 pB.out.size)
  clear b1
  go_wp2_with fail
  go_ret
  exact ⟨rfl, B1.out⟩

set_option maxRecDepth 100000 in
set_option maxHeartbeats 1000000 in
theorem lapsOverSome_any (n : Nat) (c : Array Value) (r : Rf) (i j : Nat) (v : Value) (f : Nat → Int) (w : World) (hR : IsRoof c r) (ho : r.Ok) (hi : i < 8) (hj : j < 8) (hjw : (j : Int) < r.w) (hv : ArgL w v n f) (hn : n ≤ 2000000) :
    Calls Try.prog 105 #[.agg c, .agg #[.int .i8 i, .int .i8 j], v] w fun e w' => e = .returned (.bool (r.lapsOver i j f n)) ∧ Below w.heap.size w w' := by
  have hc := hR.size
  have eg : ∀ args w, (callFunc 150 args).run Try.prog w = .ok (.enter 150 args) w := enters_of Try.func150 (by kernel_rfl) rfl
  have CB := fun W => below_any c r i j W hR ho hi hj hjw
  have hle := r.laps_le i j (i + 1)
  unfold Rf.lapsOver
  generalize r.laps i j (i + 1) = L at *
  obtain ⟨av, cv, rfl⟩ := hv.shape
  obtain ⟨W0, hW⟩ : ∃ W0, W0 = ((w.alloc (.cells c 31)).alloc (.cells #[.int .i8 i, .int .i8 j] 58)).alloc (.cells #[.slice av n cv] 33) := ⟨_, rfl⟩
  have pB := Lib.hid (show Below w.heap.size w W0 by rw [hW]; exact (((Below.refl _ _).alloc (Nat.le_refl _) _).alloc (by simp) _).alloc (by simp <;> omega) _)
  have P2 := Lib.hid (show rowAt W0 (w.heap.size + 1 + 1) = some #[.slice av n cv] by rw [hW]; exact rowAt_alloc_at _ _ _ _ (by simp))
  have HV := Lib.hid (hv.below pB.out (Nat.le_refl _))
  have HW := Lib.hid hW
  clear hv hW
  go_enter Try.func105, Try.ntmps105
  go_wp2_with fail
  rw [← HW.out]
  clear HW
  refine (CB _).mono ?_
  rintro e w1 ⟨va, rfl, la, b1⟩
  obtain ⟨aa, ca, rfl⟩ := la.shape
  have LA := Lib.hid la
  have B1 := Lib.hid (bnext pB.out b1 pB.out.size)
  have P3 := Lib.hid (brow b1 P2.out)
  have HV1 := Lib.hid (HV.out.below b1 (Nat.le_refl _))
  clear la b1 CB
  go_wp2_with fail
  refine (hasFuncP_any 150 _ (fun a b => hasP f n a b) eg _ L.length _ _ _ (overSome_pred _ n _ f _ P3.out HV1.out hn) LA.out (by omega)).mono ?_
  rintro e w2 ⟨rfl, b2⟩
  have B2 := Lib.hid (bnext B1.out b2 B1.out.size)
  clear b2
  go_wp2_with fail
  go_ret
  exact ⟨rfl, B2.out⟩
end Go.Proofs.Ytkbacpkpgfppiaa
