/- CanReach, LadderFor: the program's side. -/
import Derived.Test.YtkimngffbioeeaaLadF
namespace Go.Proofs.Ytkimngffbioeeaa
open Go.RowKit

set_option maxHeartbeats 1000000 in
theorem indexI_any (x : Int) (v : Value) (n : Nat) (f : Nat → Int) (w : World) (hv : NumsAt w v n f) (hn : n ≤ 2000000) :
    Calls Try.prog 104 #[v, .int .i64 x] w fun e w' => e = .returned (.int .i64 (firstI (fun i => x == f i) n)) ∧ Below w.heap.size w w' := by
  have HV := Lib.hid hv
  obtain ⟨a, cap, rfl⟩ := hv.shape
  clear hv
  go_enter Try.func104, Try.ntmps104
  go_wp2_with fail
  go_loopg [5, 8] n (fun gg _ i W => ∃ k : Nat, k ≤ n ∧ n - k ≤ gg ∧ i = .int .i64 k ∧ Hid (∀ j, j < k → (x == f j) = false) ∧ Below w.heap.size w W)
  case atStart => exact ⟨0, by omega, by omega, rfl, Lib.hid (by omega), Below.refl _ _⟩
  case round =>
    obtain ⟨k, hk, hg, rfl, hF, hB⟩ := hrel
    by_cases hlt : k < n
    · obtain ⟨b, o, rfl, cc⟩ := (HV.out.below hB (Nat.le_refl _)).at hlt
      have hi0 : 0 ≤ (k : Int) := by omega
      have hi1 : (k : Int) < n := by omega
      have HB := Lib.hid hB
      clear hB
      cases hq : (x == f k) with
      | true =>
        have HQ := Lib.hid hq
        go_wp2_with fail
        go_ret
        exact ⟨by rw [firstI_hit hlt hF.out HQ.out]; rfl, HB.out⟩
      | false =>
        have HQ := Lib.hid hq
        go_wp2_with fail
        go_roundg (n - (k + 1))
        case measure => omega
        case rel => exact ⟨k + 1, by omega, by omega, by go_num, Lib.hid (fun j hj => by
          by_cases e : j = k
          · subst e; exact HQ.out
          · exact hF.out j (by omega)), HB.out⟩
    · obtain rfl : k = n := by omega
      go_wp2_with fail
      go_ret
      exact ⟨by rw [firstI_miss hF.out]; rfl, hB⟩
theorem containsI_any (x : Int) (v : Value) (n : Nat) (f : Nat → Int) (w : World) (hv : NumsAt w v n f) (hn : n ≤ 2000000) :
    Calls Try.prog 62 #[v, .int .i64 x] w fun e w' => e = .returned (.bool (anyI (fun i => x == f i) n)) ∧ Below w.heap.size w w' := by
  have hbd := firstI_bd (fun i => x == f i) n
  have CX := indexI_any x v n f w hv hn
  obtain ⟨a, cap, rfl⟩ := hv.shape
  unfold anyI
  generalize firstI (fun i => x == f i) n = z at *
  clear hv
  by_cases hz : 0 ≤ z
  · have hd : decide (0 ≤ z) = true := by simp [hz]
    rw [hd]
    go_enter Try.func62, Try.ntmps62
    go_wp2_with fail
    refine CX.mono ?_
    rintro e w1 ⟨rfl, b1⟩
    go_wp2_with fail
    go_ret
    exact ⟨rfl, b1⟩
  · have hd : decide (0 ≤ z) = false := by simp; omega
    rw [hd]
    go_enter Try.func62, Try.ntmps62
    go_wp2_with fail
    refine CX.mono ?_
    rintro e w1 ⟨rfl, b1⟩
    go_wp2_with fail
    go_ret
    exact ⟨rfl, b1⟩
theorem Rf.any_miss (r : Rf) (y : Int) (g : Nat → Int) (m : Nat) (f : Nat → Int) (n : Nat) : anyI (fun i => (-1 : Int) == r.lad y g m f i) n = anyI (r.miss y g m f) n := by
  unfold anyI
  rw [firstI_congr fun j _ => ?_]
  have := r.lad_bd y g m f j
  unfold Rf.miss
  by_cases h : r.lad y g m f j < 0
  · have e : r.lad y g m f j = -1 := by omega
    rw [e]; rfl
  · have e : ¬ (-1 : Int) = r.lad y g m f j := by omega
    simp [h, e]

set_option maxRecDepth 100000 in
set_option maxHeartbeats 2000000 in
theorem laddersFor_any (B2 m n : Nat) (c : Array Value) (r : Rf) (g f : Nat → Int) (v1 v2 : Value) (y : Int) (w : World) (hR : IsRoof c r) (ho : r.Ok) (hv1 : NumsAt w v1 m g) (hm : m ≤ 2000000) (hv2 : IsList w B2 v2 2 n (fun i => .int .i8 (f i))) (hn : n ≤ 2000000) (hp : r.okP f n) (hy : 0 ≤ y ∧ y ≤ 8) :
    Calls Try.prog 63 #[.agg c, v1, .int .i64 y, v2] w (GivesN w n (r.lad y g m f)) := by
  obtain ⟨i0, hi0, hz0, hz1, hz2⟩ := info_parts A_infoI
  have hc := hR.size
  have HV1 := Lib.hid hv1
  have HV2 := Lib.hid hv2
  have HP := Lib.hid hp
  obtain ⟨a1, c1, rfl⟩ := hv1.shape
  obtain ⟨a2, c2, rfl⟩ := hv2.shape
  clear hv1 hv2 hp
  have eg : ∀ args w, (callFunc 106 args).run Try.prog w = .ok (.enter 106 args) w := enters_of Try.func106 (by kernel_rfl) rfl
  go_enter Try.func63, Try.ntmps63
  obtain ⟨Wb, hWb⟩ : ∃ Wb, Wb = (w.alloc (.cells c 30)).alloc (.cells #[.int .i64 y] 2) := ⟨_, rfl⟩
  have pb : Below w.heap.size w Wb := by rw [hWb]; exact ((Below.refl _ _).alloc (Nat.le_refl _) _).alloc (by simp) _
  have hsz0 : Wb.heap.size = w.heap.size + 1 + 1 := by rw [hWb]; simp
  have p0 : rowAt Wb w.heap.size = some c := by rw [hWb]; exact (rowAt_alloc_past _ _ _ (by simp)).trans (rowAt_alloc_at w c _ _ rfl)
  have p1 : rowAt Wb (w.heap.size + 1) = some #[.int .i64 y] := by rw [hWb]; exact rowAt_alloc_at _ _ _ _ (by simp)
  have P0 := Lib.hid p0
  have P1 := Lib.hid p1
  have PB := Lib.hid pb
  have WB := Lib.hid hWb
  have SZ := Lib.hid hsz0
  clear p0 p1 pb hWb hsz0
  go_wp2_with (at_make; rw [← WB.out]; refine wpList_make_full _ rfl _ _ 35 rfl Wb.heap.size 2 i0 (.int .i64 0) 1 Try.underlying35 hi0 hz0 hz1 .i64 .i64 n n n rfl rfl rfl rfl (by rw [hz2]; omega) (by unfold maxLen; omega) (by simp) ?_)
  intro w1 own1 grow1
  have rg : ∃ cur, rowAt w1 Wb.heap.size = some cur ∧ cur.size = n := by
    obtain ⟨hl, ⟨h, _⟩ | ⟨g', cap', cur, he, hg, hh, hn', hm', hs, ht⟩⟩ := own1
    · cases h
    · cases he
      exact ⟨cur, rowAt_of_heap hh, by omega⟩
  have B1 : Below Wb.heap.size Wb w1 := (Below.refl Wb.heap.size Wb).grown grow1 (by simp) (by intro x hx; cases hx)
  clear own1 grow1
  go_wp2_with fail
  go_loopw [18] (fun i W => ∃ (k : Nat) (cur : Array Value), k ≤ n ∧ i = .int .i64 k ∧ rowAt W Wb.heap.size = some cur ∧ cur.size = n ∧ Hid (∀ i, i < k → cur[i]? = some (.int .i64 (r.lad y g m f i))) ∧ Below Wb.heap.size Wb W) (fun i _ => n - (intOf i).toNat)
  case atStart =>
    obtain ⟨cur, hr, hs⟩ := rg
    exact ⟨0, cur, by omega, rfl, hr, hs, Lib.hid (by omega), B1⟩
  case round =>
    obtain ⟨k, cur, hk, rfl, hr, hs, hf, hB⟩ := hrel
    clear rg B1
    by_cases hlt : k < n
    · obtain ⟨gg, rfl, k0, k1⟩ := (HV2.out.below (PB.out.trans (hB.mono PB.out.size)) (Nat.le_refl _)).pl hlt
      obtain ⟨i, j, e0, e1, i8, j8, t0, t1, _, _⟩ := Rf.inP_nat ho (HP.out k hlt)
      rw [e0] at k0
      rw [e1] at k1
      have hi0' : 0 ≤ (k : Int) := by omega
      have hi1 : (k : Int) < n := by omega
      have hz : firstI (fun q => r.can y i j (g q)) m = r.lad y g m f k := by unfold Rf.lad; rw [t0, t1]
      have HR := Lib.hid hr
      have HB := Lib.hid hB
      have HS := Lib.hid hs
      have HZ := Lib.hid hz
      clear hr hB hs e0 e1 t0 t1 hz hz0 hz1 hi0
      go_wp2_with fail
      refine gen_callsC fun W hW => ?_
      have hX : rowAt W wr.heap.size = some #[.int .i8 i, .int .i8 j] := by rw [hW]; exact rowAt_alloc_at _ _ _ _ rfl
      have hBW : Below wr.heap.size wr W := by rw [hW]; exact (Below.refl _ _).alloc (Nat.le_refl _) _
      clear hW
      have B2 := Lib.hid (bnext HB.out hBW HB.out.size)
      have R2 := Lib.hid (brow hBW HR.out)
      refine (idxFuncI_any 106 _ (r.can y i j) eg (.slice a1 m c1) m g W (ladders_pred _ _ _ c r y i j W (brow B2.out P0.out) (brow B2.out P1.out) hX hR i8 j8 hy) (HV1.out.below (PB.out.trans (B2.out.mono PB.out.size)) (Nat.le_refl _)) hm).mono ?_
      rintro e w2 ⟨rfl, b2⟩
      rw [HZ.out]
      have r3 := brow b2 R2.out
      have B3 := Lib.hid (bnext B2.out b2 B2.out.size)
      have hfro := frozen_of_rowAt r3
      have hkc : k < cur.size := by rw [HS.out]; exact hlt
      have kk : w2.cell? ⟨Wb.heap.size, k, none⟩ = some cur[k] := by rw [cell_of_rowAt r3, Array.getElem?_eq_getElem hkc]
      have R3 := Lib.hid r3
      clear b2 r3 k0 k1 hX hBW B2 R2
      go_wp2_with fail
      have r1 := rowAt_setCell_at w2 Wb.heap.size k (.int .i64 (r.lad y g m f k)) (by simp [R3.out])
      rw [R3.out, Option.getD_some] at r1
      refine ⟨⟨k + 1, _, by omega, by go_num, r1, by simp [HS.out], Lib.hid ?_, B3.out.setCell (p := ⟨_, k, none⟩) (Nat.le_refl _) _⟩, by simp [intOf]; omega⟩
      intro i hi
      by_cases hi0 : i = k
      · subst hi0
        rw [Array.getElem?_setIfInBounds_self_of_lt hkc]
      · rw [Array.getElem?_setIfInBounds_ne (Ne.symm hi0)]
        exact hf.out i (by omega)
    · obtain rfl : k = n := by omega
      go_wp2_with fail
      go_ret
      exact ⟨_, rfl, .inr ⟨Wb.heap.size, _, cur, rfl, by rw [SZ.out]; omega, hr, by omega, fun i hi => hf.out i (by omega)⟩, PB.out.trans (hB.mono PB.out.size)⟩
end Go.Proofs.Ytkimngffbioeeaa
