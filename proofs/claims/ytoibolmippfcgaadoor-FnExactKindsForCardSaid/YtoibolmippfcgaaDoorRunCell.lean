/- The water that runs down in one cell: the program. -/
import Derived.Test.YtoibolmippfcgaaDoorRunF
import Derived.ScopeJumps
import Derived.WalkMore
import Derived.Deep.RegionHeld3
import Derived.Deep.DrawnRows
namespace Go.Proofs.YtoibolmippfcgaaDoor
open Go.RowKit
attribute [local go_sem ↓] Go.wp_at_zero Go.wp_at_succ

theorem wp_scope_loop {P : Program} {c X : Code} {a : Act} {w : World} {Q : Exit → Act → World → Prop} (l : Nat) (J : Act → World → Prop) (μ : Act → World → Nat) (hf : findLabel c l = some (Code.skip.seq X))
    (pass : ∀ a w, J a w → X.wp P (Exit.jump l (fun a' w' => J a' w' ∧ μ a' w' < μ a w) Q) a w) (first : (∀ a w, J a w → X.wp P (Exit.jump l J Q) a w) → c.wp P (Exit.jump l J Q) a w) : (Code.scope c).wp P Q a w :=
  wp_scope_jumps l J μ hf (first fun a w h => Code.wp_mono (fun e a' w' h' => by cases e <;> first | exact h' | exact ⟨h'.1, h'.2.1⟩) (pass a w h)) (fun a w h => wp_seq (wp_skip (pass a w h)))

set_option maxRecDepth 100000 in
set_option maxHeartbeats 4000000 in
theorem runCell_any (nf : Nat) (c F : Array Value) (r : Rf) (x : Int) (cell B2 B3 : Nat) (G D : Nat → Int) (w : World) (hR : IsRoof c r) (ho : r.Ok) (hx : (cell : Int) ≤ 2 * r.w) (x0 : 0 ≤ x) (x1 : x ≤ 1000)
    (hf : rowAt w nf = some F) (hF : IsFlow F G D) (hG : G cell = x) (h2 : rowAt w B2 = some #[.int .i64 2]) (h3 : rowAt w B3 = some #[.int .i64 3]) (n2 : B2 ≠ nf) (n3 : B3 ≠ nf) (hh : Nat) (hhe : r.h = hh) :
    Calls Tryd.prog 62 #[.pointer (some ⟨nf, 0, none⟩), .agg c, .int .i64 cell, .agg (dripK B2 B3)] w fun e w' => e = .returned (.tuple #[]) ∧ (∃ F', rowAt w' nf = some F' ∧ IsFlow F' (flG r x cell hh G) (flD r x cell hh D)) ∧ Sole nf w w' := by
  have hnf := rowAt_lt hf
  have hw1 := ho.1
  have hw8 := ho.2.1
  have hh1 := ho.2.2.1
  have hh8 := ho.2.2.2.1
  have hce : cell < 17 := by omega
  have hc0 : (0 : Int) ≤ cell := by omega
  have hc1 : (cell : Int) < 17 := by omega
  have hhp : 0 < hh := by omega
  have hhm : hh ≤ 8 := by omega
  have HH := Lib.hid hhe
  have HG := Lib.hid hG
  have hcs := hR.size
  have hk1 := hR.high (by omega)
  rw [hhe] at hk1
  obtain ⟨p0, p1, pB⟩ := two_boxes w c (dripK B2 B3) 33 79
  clear hhe hG
  go_enter Tryd.func62, Tryd.ntmps62
  go_wp2_with fail
  refine gen_world fun w0 hW => ?_
  rw [← hW] at p0 p1 pB
  have hs0 : w0.heap.size = w.heap.size + 1 + 1 := by rw [hW]; simp
  have q0 : rowAt w0 nf = some F := by rw [hW, rowAt_alloc_past _ _ _ (by simp; omega), rowAt_alloc_past _ _ _ hnf]; exact hf
  have g2 : rowAt w0 B2 = some #[.int .i64 2] := by rw [hW, rowAt_alloc_past _ _ _ (by have := rowAt_lt h2; simp; omega), rowAt_alloc_past _ _ _ (rowAt_lt h2)]; exact h2
  have g3 : rowAt w0 B3 = some #[.int .i64 3] := by rw [hW, rowAt_alloc_past _ _ _ (by have := rowAt_lt h3; simp; omega), rowAt_alloc_past _ _ _ (rowAt_lt h3)]; exact h3
  clear hW
  have S0 := Lib.hid (Sole.of_below pB hnf)
  have P0 := Lib.hid p0
  have P1 := Lib.hid p1
  have P2 := Lib.hid g2
  have P3 := Lib.hid g3
  have hn0 : nf < w0.heap.size := by omega
  refine wp_scope_loop 0 (fun a' W => ∃ (k : Nat) (ab : Int) (F' : Array Value) (u10 u11 u12 u13 u14 u15 u16 u17 u18 u19 u20 u21 u22 u23 u24 u25 u26 u27 u28 u29 u30 u31 u32 u33 u34 u35 u36 u37 u38 u39 u40 u41 u42 u43 u44 u45 u46 u47 u48 u49 u50 u51 u52 u53 u54 u55 u56 u57 u58 : Value), a' = { tmps := #[.pointer (some ⟨nf, 0, none⟩), .agg c, .int .i64 cell, .agg (dripK B2 B3), undef, .pointer (some ⟨w.heap.size, 0, none⟩), undef, .pointer (some ⟨w.heap.size + 1, 0, none⟩), .int .i64 k, .int .i64 ab, u10, u11, u12, u13, u14, u15, u16, u17, u18, u19, u20, u21, u22, u23, u24, u25, u26, u27, u28, u29, u30, u31, u32, u33, u34, u35, u36, u37, u38, u39, u40, u41, u42, u43, u44, u45, u46, u47, u48, u49, u50, u51, u52, u53, u54, u55, u56, u57, u58], defers := [] } ∧ ab = r.abv cell k ∧ k < hh ∧ rowAt W nf = some F' ∧ IsFlow F' (flG r x cell k G) (flD r x cell k D) ∧ Sole nf w0 W) (fun a' _ => hh - (intOf (a'.tmps.getD 8 undef)).toNat) rfl ?pass ?first
  case first =>
    intro key
    go_wp2_with fail
    go_step3
    rename_i hK
    refine hK _ _ (key _ _ ⟨0, 0, F, _, _, _, _, _, _, _, _, _, _, _, _, _, _, _, _, _, _, _, _, _, _, _, _, _, _, _, _, _, _, _, _, _, _, _, _, _, _, _, _, _, _, _, _, _, _, _, _, _, rfl, rfl, by omega, q0, hF.congr (flG_zero r hce HG.out) (flD_zero r), Sole.refl _ _⟩)
  case pass =>
    clear p0 p1 pB q0 g2 g3 hF hf h2 h3
    rintro a W ⟨k, _, F', u10, u11, u12, u13, u14, u15, u16, u17, u18, u19, u20, u21, u22, u23, u24, u25, u26, u27, u28, u29, u30, u31, u32, u33, u34, u35, u36, u37, u38, u39, u40, u41, u42, u43, u44, u45, u46, u47, u48, u49, u50, u51, u52, u53, u54, u55, u56, u57, u58, rfl, rfl, hk, hf', hF', hS⟩
    have P0 := (hS.rows w.heap.size (by omega) (by omega)).trans P0.out
    have hcG : W.cell? ⟨nf, k * 17 + cell, none⟩ = some (.int .i64 (r.come x cell k)) := by rw [cell_of_rowAt hf', hF'.comes _ (by omega), flG_at r hce]
    obtain ⟨hy0, hy1⟩ := r.come_bd cell x0 k
    have hk9 : (k : Int) < 9 := by omega
    have hk8 : (k : Int) < 8 := by omega
    have hk0 : (0 : Int) ≤ k := by omega
    have hb := Rf.over_bd cell hR ho (show k < 8 by omega)
    have C0 := fun w => kindOver_any c r k cell w hR ho (by omega) hx
    have hd := Lib.hid (r.dripAt_bd cell k x0)
    have hsu := Lib.hid (r.come_succ x cell k)
    have hdd : r.dripAt x cell k = drip1 (r.over k cell) (r.abv cell k) (r.come x cell k) := rfl
    have hab : r.abv cell (k + 1) = r.over k cell := rfl
    obtain ⟨q, hq⟩ : ∃ q, q = r.over k cell := ⟨_, rfl⟩
    rw [← hq] at hb C0 hdd hab
    generalize hY : r.come x cell k = y at *
    have hcase : q = 0 ∨ q = 1 ∨ q = 2 ∨ q = 3 := by omega
    have HQ := Lib.hid hq
    have HA := Lib.hid hab
    have HD := Lib.hid hdd
    have HY := Lib.hid hY
    clear hq hb hab hdd hY
    rcases hcase with rfl | rfl | rfl | rfl
    · skip
      go_wp2_with fail
      go_region_held3 (fun w' => w'.cell? ⟨nf, k * 17 + cell, none⟩ = some (.int .i64 y) ∧ rowAt w' w.heap.size = some c ∧ rowAt w' nf = some F' ∧ Sole nf w0 w')
        (first | exact ⟨hcG, P0, hf', hS.drew⟩ | exact keepF (by assumption) hn0 (by assumption))
        ((go_at_call 88; (with_reducible refine (C0 _).mono ?_); rintro e wx ⟨rfl, bx⟩))
      rename_i hg
      have R0 := hg.2.1
      have R1 := (hg.2.2.2.rows (w.heap.size + 1) (by omega) (by omega)).trans P1.out
      have R2 := (hg.2.2.2.rows B2 (by have := rowAt_lt P2.out; omega) n2).trans P2.out
      have R3 := (hg.2.2.2.rows B3 (by have := rowAt_lt P3.out; omega) n3).trans P3.out
      have RF := hg.2.2.1
      have RS := Lib.hid hg.2.2.2
      clear hg hcG P0 hf' hS C0
      have hK : wx.cell? ⟨w.heap.size + 1, 0, none⟩ = some (.func (.func 83) #[] #[]) := (cell_of_rowAt R1 0).trans rfl
      have hH : wx.cell? ⟨w.heap.size, 1, none⟩ = some (.int .i8 hh) := (cell_of_rowAt R0 1).trans (by rw [Array.getElem?_eq_getElem (by omega), hk1])
      have hfr := frozen_of_rowAt RF
      have h1 : wx.cell? ⟨nf, 153 + k * 17 + cell, none⟩ = some (.int .i32 (flD r x cell k D (k * 17 + cell))) := by rw [cell_of_rowAt RF, show 153 + k * 17 + cell = 153 + (k * 17 + cell) from by omega]; exact hF'.drips _ (by omega)
      have h2 : wx.cell? ⟨nf, (k + 1) * 17 + cell, none⟩ = some (.int .i64 (flG r x cell k G ((k + 1) * 17 + cell))) := by rw [cell_of_rowAt RF]; exact hF'.comes _ (by omega)
      have RFH := Lib.hid RF
      clear R0 R1 RF
      by_cases hlt : k + 1 < hh
      · go_wp2_with fail
        refine (drip0_any y (r.abv cell k) _).mono ?_
        rintro e wy ⟨rfl, rfl⟩
        clear R2 R3
        go_wp2_with fail
        go_step3
        exact ⟨rfl, ⟨k + 1, _, _, _, _, _, _, _, _, _, _, _, _, _, _, _, _, _, _, _, _, _, _, _, _, _, _, _, _, _, _, _, _, _, _, _, _, _, _, _, _, _, _, _, _, _, _, _, _, _, _, _, rfl, HA.out.symm, hlt, rows2 RFH.out, flow2 hF' hce (by omega) rfl rfl (by rw [HD.out, drip1_0]; try omega) (by have h1 := HD.out; have h2 := hsu.out; rw [drip1_0] at h1; omega), (RS.out.setCell _ _).setCell _ _⟩, by simp [intOf]; omega⟩
      · go_wp2_with fail
        refine (drip0_any y (r.abv cell k) _).mono ?_
        rintro e wy ⟨rfl, rfl⟩
        clear R2 R3
        go_wp2_with fail
        have hke : hh = k + 1 := by omega
        subst hke
        simp only [Exit.jump]
        go_end0
        refine ⟨rfl, ⟨_, rows2 RFH.out, flow2 hF' hce (by omega) rfl rfl (by rw [HD.out, drip1_0]; try omega) (by have h1 := HD.out; have h2 := hsu.out; rw [drip1_0] at h1; omega)⟩, S0.out.trans ((RS.out.setCell _ _).setCell _ _)⟩
    · skip
      go_wp2_with fail
      go_region_held3 (fun w' => w'.cell? ⟨nf, k * 17 + cell, none⟩ = some (.int .i64 y) ∧ rowAt w' w.heap.size = some c ∧ rowAt w' nf = some F' ∧ Sole nf w0 w')
        (first | exact ⟨hcG, P0, hf', hS.drew⟩ | exact keepF (by assumption) hn0 (by assumption))
        ((go_at_call 88; (with_reducible refine (C0 _).mono ?_); rintro e wx ⟨rfl, bx⟩))
      rename_i hg
      have R0 := hg.2.1
      have R1 := (hg.2.2.2.rows (w.heap.size + 1) (by omega) (by omega)).trans P1.out
      have R2 := (hg.2.2.2.rows B2 (by have := rowAt_lt P2.out; omega) n2).trans P2.out
      have R3 := (hg.2.2.2.rows B3 (by have := rowAt_lt P3.out; omega) n3).trans P3.out
      have RF := hg.2.2.1
      have RS := Lib.hid hg.2.2.2
      clear hg hcG P0 hf' hS C0
      have hK : wx.cell? ⟨w.heap.size + 1, 1, none⟩ = some (.func (.func 85) #[] #[.pointer (some ⟨B2, 0, none⟩)]) := (cell_of_rowAt R1 1).trans rfl
      have hH : wx.cell? ⟨w.heap.size, 1, none⟩ = some (.int .i8 hh) := (cell_of_rowAt R0 1).trans (by rw [Array.getElem?_eq_getElem (by omega), hk1])
      have hfr := frozen_of_rowAt RF
      have h1 : wx.cell? ⟨nf, 153 + k * 17 + cell, none⟩ = some (.int .i32 (flD r x cell k D (k * 17 + cell))) := by rw [cell_of_rowAt RF, show 153 + k * 17 + cell = 153 + (k * 17 + cell) from by omega]; exact hF'.drips _ (by omega)
      have h2 : wx.cell? ⟨nf, (k + 1) * 17 + cell, none⟩ = some (.int .i64 (flG r x cell k G ((k + 1) * 17 + cell))) := by rw [cell_of_rowAt RF]; exact hF'.comes _ (by omega)
      have RFH := Lib.hid RF
      clear R0 R1 RF
      by_cases hlt : k + 1 < hh
      · go_wp2_with fail
        refine (dripP_any y (r.abv cell k) 2 B2 _ R2 (by omega) (by omega) (by omega) (by omega)).mono ?_
        rintro e wy ⟨rfl, rfl⟩
        clear R2 R3
        go_wp2_with fail
        go_step3
        exact ⟨rfl, ⟨k + 1, _, _, _, _, _, _, _, _, _, _, _, _, _, _, _, _, _, _, _, _, _, _, _, _, _, _, _, _, _, _, _, _, _, _, _, _, _, _, _, _, _, _, _, _, _, _, _, _, _, _, _, rfl, HA.out.symm, hlt, rows2 RFH.out, flow2 hF' hce (by omega) rfl rfl (by rw [HD.out, drip1_1]; try omega) (by have h1 := HD.out; have h2 := hsu.out; rw [drip1_1] at h1; omega), (RS.out.setCell _ _).setCell _ _⟩, by simp [intOf]; omega⟩
      · go_wp2_with fail
        refine (dripP_any y (r.abv cell k) 2 B2 _ R2 (by omega) (by omega) (by omega) (by omega)).mono ?_
        rintro e wy ⟨rfl, rfl⟩
        clear R2 R3
        go_wp2_with fail
        have hke : hh = k + 1 := by omega
        subst hke
        simp only [Exit.jump]
        go_end0
        refine ⟨rfl, ⟨_, rows2 RFH.out, flow2 hF' hce (by omega) rfl rfl (by rw [HD.out, drip1_1]; try omega) (by have h1 := HD.out; have h2 := hsu.out; rw [drip1_1] at h1; omega)⟩, S0.out.trans ((RS.out.setCell _ _).setCell _ _)⟩
    · skip
      go_wp2_with fail
      go_region_held3 (fun w' => w'.cell? ⟨nf, k * 17 + cell, none⟩ = some (.int .i64 y) ∧ rowAt w' w.heap.size = some c ∧ rowAt w' nf = some F' ∧ Sole nf w0 w')
        (first | exact ⟨hcG, P0, hf', hS.drew⟩ | exact keepF (by assumption) hn0 (by assumption))
        ((go_at_call 88; (with_reducible refine (C0 _).mono ?_); rintro e wx ⟨rfl, bx⟩))
      rename_i hg
      have R0 := hg.2.1
      have R1 := (hg.2.2.2.rows (w.heap.size + 1) (by omega) (by omega)).trans P1.out
      have R2 := (hg.2.2.2.rows B2 (by have := rowAt_lt P2.out; omega) n2).trans P2.out
      have R3 := (hg.2.2.2.rows B3 (by have := rowAt_lt P3.out; omega) n3).trans P3.out
      have RF := hg.2.2.1
      have RS := Lib.hid hg.2.2.2
      clear hg hcG P0 hf' hS C0
      have hK : wx.cell? ⟨w.heap.size + 1, 2, none⟩ = some (.func (.func 85) #[] #[.pointer (some ⟨B3, 0, none⟩)]) := (cell_of_rowAt R1 2).trans rfl
      have hH : wx.cell? ⟨w.heap.size, 1, none⟩ = some (.int .i8 hh) := (cell_of_rowAt R0 1).trans (by rw [Array.getElem?_eq_getElem (by omega), hk1])
      have hfr := frozen_of_rowAt RF
      have h1 : wx.cell? ⟨nf, 153 + k * 17 + cell, none⟩ = some (.int .i32 (flD r x cell k D (k * 17 + cell))) := by rw [cell_of_rowAt RF, show 153 + k * 17 + cell = 153 + (k * 17 + cell) from by omega]; exact hF'.drips _ (by omega)
      have h2 : wx.cell? ⟨nf, (k + 1) * 17 + cell, none⟩ = some (.int .i64 (flG r x cell k G ((k + 1) * 17 + cell))) := by rw [cell_of_rowAt RF]; exact hF'.comes _ (by omega)
      have RFH := Lib.hid RF
      clear R0 R1 RF
      by_cases hlt : k + 1 < hh
      · go_wp2_with fail
        refine (dripP_any y (r.abv cell k) 3 B3 _ R3 (by omega) (by omega) (by omega) (by omega)).mono ?_
        rintro e wy ⟨rfl, rfl⟩
        clear R2 R3
        go_wp2_with fail
        go_step3
        exact ⟨rfl, ⟨k + 1, _, _, _, _, _, _, _, _, _, _, _, _, _, _, _, _, _, _, _, _, _, _, _, _, _, _, _, _, _, _, _, _, _, _, _, _, _, _, _, _, _, _, _, _, _, _, _, _, _, _, _, rfl, HA.out.symm, hlt, rows2 RFH.out, flow2 hF' hce (by omega) rfl rfl (by rw [HD.out, drip1_2]; try omega) (by have h1 := HD.out; have h2 := hsu.out; rw [drip1_2] at h1; omega), (RS.out.setCell _ _).setCell _ _⟩, by simp [intOf]; omega⟩
      · go_wp2_with fail
        refine (dripP_any y (r.abv cell k) 3 B3 _ R3 (by omega) (by omega) (by omega) (by omega)).mono ?_
        rintro e wy ⟨rfl, rfl⟩
        clear R2 R3
        go_wp2_with fail
        have hke : hh = k + 1 := by omega
        subst hke
        simp only [Exit.jump]
        go_end0
        refine ⟨rfl, ⟨_, rows2 RFH.out, flow2 hF' hce (by omega) rfl rfl (by rw [HD.out, drip1_2]; try omega) (by have h1 := HD.out; have h2 := hsu.out; rw [drip1_2] at h1; omega)⟩, S0.out.trans ((RS.out.setCell _ _).setCell _ _)⟩
    · by_cases h3 : r.abv cell k = 2
      · have hab3 := Lib.hid h3
        clear h3
        go_wp2_with fail
        go_region_held3 (fun w' => w'.cell? ⟨nf, k * 17 + cell, none⟩ = some (.int .i64 y) ∧ rowAt w' w.heap.size = some c ∧ rowAt w' nf = some F' ∧ Sole nf w0 w')
          (first | exact ⟨hcG, P0, hf', hS.drew⟩ | exact keepF (by assumption) hn0 (by assumption))
          ((go_at_call 88; (with_reducible refine (C0 _).mono ?_); rintro e wx ⟨rfl, bx⟩))
        rename_i hg
        have R0 := hg.2.1
        have R1 := (hg.2.2.2.rows (w.heap.size + 1) (by omega) (by omega)).trans P1.out
        have R2 := (hg.2.2.2.rows B2 (by have := rowAt_lt P2.out; omega) n2).trans P2.out
        have R3 := (hg.2.2.2.rows B3 (by have := rowAt_lt P3.out; omega) n3).trans P3.out
        have RF := hg.2.2.1
        have RS := Lib.hid hg.2.2.2
        clear hg hcG P0 hf' hS C0
        have hK : wx.cell? ⟨w.heap.size + 1, 3, none⟩ = some (.func (.func 87) #[] #[]) := (cell_of_rowAt R1 3).trans rfl
        have hH : wx.cell? ⟨w.heap.size, 1, none⟩ = some (.int .i8 hh) := (cell_of_rowAt R0 1).trans (by rw [Array.getElem?_eq_getElem (by omega), hk1])
        have hfr := frozen_of_rowAt RF
        have h1 : wx.cell? ⟨nf, 153 + k * 17 + cell, none⟩ = some (.int .i32 (flD r x cell k D (k * 17 + cell))) := by rw [cell_of_rowAt RF, show 153 + k * 17 + cell = 153 + (k * 17 + cell) from by omega]; exact hF'.drips _ (by omega)
        have h2 : wx.cell? ⟨nf, (k + 1) * 17 + cell, none⟩ = some (.int .i64 (flG r x cell k G ((k + 1) * 17 + cell))) := by rw [cell_of_rowAt RF]; exact hF'.comes _ (by omega)
        have RFH := Lib.hid RF
        clear R0 R1 RF
        by_cases hlt : k + 1 < hh
        · go_wp2_with fail
          refine (dripG_any y (r.abv cell k) _).mono ?_
          rw [if_pos hab3.out]
          rintro e wy ⟨rfl, rfl⟩
          clear R2 R3
          go_wp2_with fail
          go_step3
          exact ⟨rfl, ⟨k + 1, _, _, _, _, _, _, _, _, _, _, _, _, _, _, _, _, _, _, _, _, _, _, _, _, _, _, _, _, _, _, _, _, _, _, _, _, _, _, _, _, _, _, _, _, _, _, _, _, _, _, _, rfl, HA.out.symm, hlt, rows2 RFH.out, flow2 hF' hce (by omega) rfl rfl (by rw [HD.out, hab3.out, drip1_3t]) (by have h1 := HD.out; have h2 := hsu.out; rw [hab3.out, drip1_3t] at h1; omega), (RS.out.setCell _ _).setCell _ _⟩, by simp [intOf]; omega⟩
        · go_wp2_with fail
          refine (dripG_any y (r.abv cell k) _).mono ?_
          rw [if_pos hab3.out]
          rintro e wy ⟨rfl, rfl⟩
          clear R2 R3
          go_wp2_with fail
          have hke : hh = k + 1 := by omega
          subst hke
          simp only [Exit.jump]
          go_end0
          refine ⟨rfl, ⟨_, rows2 RFH.out, flow2 hF' hce (by omega) rfl rfl (by rw [HD.out, hab3.out, drip1_3t]) (by have h1 := HD.out; have h2 := hsu.out; rw [hab3.out, drip1_3t] at h1; omega)⟩, S0.out.trans ((RS.out.setCell _ _).setCell _ _)⟩
      · have hab3 := Lib.hid h3
        clear h3
        go_wp2_with fail
        go_region_held3 (fun w' => w'.cell? ⟨nf, k * 17 + cell, none⟩ = some (.int .i64 y) ∧ rowAt w' w.heap.size = some c ∧ rowAt w' nf = some F' ∧ Sole nf w0 w')
          (first | exact ⟨hcG, P0, hf', hS.drew⟩ | exact keepF (by assumption) hn0 (by assumption))
          ((go_at_call 88; (with_reducible refine (C0 _).mono ?_); rintro e wx ⟨rfl, bx⟩))
        rename_i hg
        have R0 := hg.2.1
        have R1 := (hg.2.2.2.rows (w.heap.size + 1) (by omega) (by omega)).trans P1.out
        have R2 := (hg.2.2.2.rows B2 (by have := rowAt_lt P2.out; omega) n2).trans P2.out
        have R3 := (hg.2.2.2.rows B3 (by have := rowAt_lt P3.out; omega) n3).trans P3.out
        have RF := hg.2.2.1
        have RS := Lib.hid hg.2.2.2
        clear hg hcG P0 hf' hS C0
        have hK : wx.cell? ⟨w.heap.size + 1, 3, none⟩ = some (.func (.func 87) #[] #[]) := (cell_of_rowAt R1 3).trans rfl
        have hH : wx.cell? ⟨w.heap.size, 1, none⟩ = some (.int .i8 hh) := (cell_of_rowAt R0 1).trans (by rw [Array.getElem?_eq_getElem (by omega), hk1])
        have hfr := frozen_of_rowAt RF
        have h1 : wx.cell? ⟨nf, 153 + k * 17 + cell, none⟩ = some (.int .i32 (flD r x cell k D (k * 17 + cell))) := by rw [cell_of_rowAt RF, show 153 + k * 17 + cell = 153 + (k * 17 + cell) from by omega]; exact hF'.drips _ (by omega)
        have h2 : wx.cell? ⟨nf, (k + 1) * 17 + cell, none⟩ = some (.int .i64 (flG r x cell k G ((k + 1) * 17 + cell))) := by rw [cell_of_rowAt RF]; exact hF'.comes _ (by omega)
        have RFH := Lib.hid RF
        clear R0 R1 RF
        by_cases hlt : k + 1 < hh
        · go_wp2_with fail
          refine (dripG_any y (r.abv cell k) _).mono ?_
          rw [if_neg hab3.out]
          rintro e wy ⟨rfl, rfl⟩
          clear R2 R3
          go_wp2_with fail
          go_step3
          exact ⟨rfl, ⟨k + 1, _, _, _, _, _, _, _, _, _, _, _, _, _, _, _, _, _, _, _, _, _, _, _, _, _, _, _, _, _, _, _, _, _, _, _, _, _, _, _, _, _, _, _, _, _, _, _, _, _, _, _, rfl, HA.out.symm, hlt, rows2 RFH.out, flow2 hF' hce (by omega) rfl rfl (by rw [HD.out, drip1_3f hab3.out]) (by have h1 := HD.out; have h2 := hsu.out; rw [drip1_3f hab3.out] at h1; omega), (RS.out.setCell _ _).setCell _ _⟩, by simp [intOf]; omega⟩
        · go_wp2_with fail
          refine (dripG_any y (r.abv cell k) _).mono ?_
          rw [if_neg hab3.out]
          rintro e wy ⟨rfl, rfl⟩
          clear R2 R3
          go_wp2_with fail
          have hke : hh = k + 1 := by omega
          subst hke
          simp only [Exit.jump]
          go_end0
          refine ⟨rfl, ⟨_, rows2 RFH.out, flow2 hF' hce (by omega) rfl rfl (by rw [HD.out, drip1_3f hab3.out]) (by have h1 := HD.out; have h2 := hsu.out; rw [drip1_3f hab3.out] at h1; omega)⟩, S0.out.trans ((RS.out.setCell _ _).setCell _ _)⟩
end Go.Proofs.YtoibolmippfcgaaDoor
