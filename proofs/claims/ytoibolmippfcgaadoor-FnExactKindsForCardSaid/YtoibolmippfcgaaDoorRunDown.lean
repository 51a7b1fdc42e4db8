/- What becomes of rain: the program. -/
import Derived.Test.YtoibolmippfcgaaDoorFlow
import Derived.Test.YtoibolmippfcgaaDoorRunCell
namespace Go.Proofs.YtoibolmippfcgaaDoor
open Go.RowKit

set_option maxRecDepth 100000 in
set_option maxHeartbeats 1000000 in
theorem runDown_any (c d : Array Value) (r : Rf) (t : Nat → Int) (w : World) (hR : IsRoof c r) (hT : IsRain d t) (ho : r.Rains t) :
    Calls Tryd.prog 39 #[.agg c, .agg d] w fun e w' => e = .returned (.agg (mkF (r.comes t) (r.drips t))) ∧ Below w.heap.size w w' := by
  have hc := hR.size
  have hd := hT.size
  have hw1 := ho.1.1
  have hw8 := ho.1.2.1
  obtain ⟨hh, hhe⟩ := Int.eq_ofNat_of_zero_le (show 0 ≤ r.h by have := ho.1.2.2.1; omega)
  obtain ⟨m, hm⟩ := Int.eq_ofNat_of_zero_le (show 0 ≤ 2 * r.w + 1 by omega)
  have HH := Lib.hid hhe
  have HO := Lib.hid ho.bd
  clear hhe
  go_enter Tryd.func39, Tryd.ntmps39
  go_wp2_with fail
  refine gen_calls fun W0 hW => ?_
  have hz : Tryd.zeroCells87 = mkF (fun _ => 0) (fun _ => 0) := by kernel_rfl
  have hs0 : W0.heap.size = w.heap.size + 1 + 1 + 1 + 1 := by rw [hW]; simp
  have p0 : rowAt W0 w.heap.size = some c := by rw [hW, rowAt_alloc_past _ _ _ (by simp only [World.size_alloc]; omega), rowAt_alloc_past _ _ _ (by simp only [World.size_alloc]; omega), rowAt_alloc_past _ _ _ (by simp only [World.size_alloc]; omega), rowAt_alloc_at _ _ _ _ rfl]
  have p1 : rowAt W0 (w.heap.size + 1) = some d := by rw [hW, rowAt_alloc_past _ _ _ (by simp only [World.size_alloc]; omega), rowAt_alloc_past _ _ _ (by simp only [World.size_alloc]; omega), rowAt_alloc_at _ _ _ _ (by simp)]
  have p2 : rowAt W0 (w.heap.size + 1 + 1) = some (mkF (fun _ => 0) (fun _ => 0)) := by rw [hW, rowAt_alloc_past _ _ _ (by simp only [World.size_alloc]; omega), rowAt_alloc_at _ _ _ _ (by simp), hz]
  have p3 : rowAt W0 (w.heap.size + 1 + 1 + 1) = some (mkF (fun _ => 0) (fun _ => 0)) := by rw [hW, rowAt_alloc_at _ _ _ _ (by simp), hz]
  have pB : Below w.heap.size w W0 := by rw [hW]; exact ((((Below.refl _ _).alloc (Nat.le_refl _) _).alloc (by simp) _).alloc (by simp only [World.size_alloc]; omega) _).alloc (by simp only [World.size_alloc]; omega) _
  clear hW hz
  refine (drippers_any _).mono ?_
  rintro e w1 ⟨B2, B3, rfl, h2, h3, l2, l3, b1⟩
  have q0 := brow b1 p0
  have q1 := brow b1 p1
  have q2 := brow b1 p2
  have q3 := brow b1 p3
  have hs1 := b1.size
  have lt0 := rowAt_lt q0
  have lt1 := rowAt_lt q1
  have lt2 := rowAt_lt q2
  have lt3 := rowAt_lt q3
  have B1 := bnext pB b1 pB.size
  have hk4 : (dripK B2 B3).size = 4 := rfl
  have hko := ones_dripK B2 B3
  clear b1 p0 p1 p2 p3 pB
  go_wp2_with fail
  refine (across_any c r _ hR).mono ?_
  rintro e w2 ⟨rfl, b2⟩
  rw [hm]
  have s0 := brow b2 ((rowAt_alloc_past _ _ _ lt0).trans q0)
  have s1 := brow b2 ((rowAt_alloc_past _ _ _ lt1).trans q1)
  have s2 := brow b2 ((rowAt_alloc_past _ _ _ lt2).trans q2)
  have s3 := brow b2 ((rowAt_alloc_past _ _ _ lt3).trans q3)
  have s4 := brow b2 (rowAt_alloc_at w1 (dripK B2 B3) 79 _ rfl)
  have t2 := brow b2 ((rowAt_alloc_past _ _ _ (rowAt_lt h2)).trans h2)
  have t3 := brow b2 ((rowAt_alloc_past _ _ _ (rowAt_lt h3)).trans h3)
  have B4 := bnext (B1.alloc B1.size _) b2 (by simp only [World.size_alloc]; omega)
  have lt4 := rowAt_lt s4
  clear b2 q0 q1 q2 q3 B1 h2 h3
  go_wp2_with fail
  have hne0 : w.heap.size ≠ w.heap.size + 1 + 1 + 1 := by omega
  have hne : w1.heap.size ≠ w.heap.size + 1 + 1 + 1 := by omega
  have hgm : r.fullG t m = r.comes t := by unfold Rf.comes; rw [hm]; rfl
  have hdm : r.fullD t m = r.drips t := by unfold Rf.drips; rw [hm]; rfl
  have HGM := Lib.hid hgm
  have HDM := Lib.hid hdm
  have S0 := Lib.hid s0
  have S1 := Lib.hid s1
  have S2 := Lib.hid s2
  have S4 := Lib.hid s4
  have T2 := Lib.hid t2
  have T3 := Lib.hid t3
  have n2 : B2 ≠ w.heap.size + 1 + 1 + 1 := by omega
  have n3 : B3 ≠ w.heap.size + 1 + 1 + 1 := by omega
  have m17 : m ≤ 17 := by omega
  have hnf : w.heap.size + 1 + 1 + 1 < w2.heap.size := by omega
  clear hgm hdm
  go_loopw [11] (fun i W => ∃ (k : Nat) (F : Array Value), k ≤ m ∧ i = .int .i64 k ∧ rowAt W (w.heap.size + 1 + 1 + 1) = some F ∧ IsFlow F (r.fullG t k) (r.fullD t k) ∧ Sole (w.heap.size + 1 + 1 + 1) w2 W) (fun i _ => m - (intOf i).toNat)
  case atStart => exact ⟨0, _, by omega, rfl, s3, (isFlow_mkF _ _).congr (fun i _ => by unfold Rf.fullG; rw [if_neg (by omega)]) (fun i _ => by unfold Rf.fullD; rw [if_neg (by omega)]), Sole.refl _ _⟩
  case round =>
    obtain ⟨k, F, hk, rfl, hF, hFl, hS⟩ := hrel
    clear s0 s1 s2 s3 s4 t2 t3
    by_cases hlt : k < m
    · have s0 := (hS.rows w.heap.size (by omega) (by omega)).trans S0.out
      have s4 := (hS.rows w1.heap.size (by omega) hne).trans S4.out
      have hcw : wr.cell? ⟨w.heap.size + 1, k, none⟩ = some (.int .i16 (t k)) := (cell_of_rowAt ((hS.rows (w.heap.size + 1) (by omega) (by omega)).trans S1.out) k).trans (hT.isK.get (by omega))
      have hfr := frozen_of_rowAt hF
      have hf1 : wr.cell? ⟨w.heap.size + 1 + 1 + 1, k, none⟩ = some (.int .i64 (r.fullG t k k)) := by rw [cell_of_rowAt hF]; exact hFl.comes _ (by omega)
      have x0 := (HO.out k (by omega)).1
      have x1 := (HO.out k (by omega)).2
      have k0 : (0 : Int) ≤ k := by omega
      have k1 : (k : Int) < 17 := by omega
      have HF := Lib.hid hF
      clear hF
      go_wp2_with fail
      have r1 := rowAt_setCell_at wr (w.heap.size + 1 + 1 + 1) k (.int .i64 (t k)) (by simp [HF.out])
      rw [HF.out, Option.getD_some] at r1
      have u2 := (rowAt_setCell_ne wr (w.heap.size + 1 + 1 + 1) B2 k (.int .i64 (t k)) n2).trans ((hS.rows B2 (rowAt_lt T2.out) n2).trans T2.out)
      have u3 := (rowAt_setCell_ne wr (w.heap.size + 1 + 1 + 1) B3 k (.int .i64 (t k)) n3).trans ((hS.rows B3 (rowAt_lt T3.out) n3).trans T3.out)
      refine (runCell_any (w.heap.size + 1 + 1 + 1) c _ r (t k) k B2 B3 _ _ _ hR ho.1 (by omega) x0 x1 r1 (hFl.setG k (t k) (by omega)) (upd_at _ _ _) u2 u3 n2 n3 hh HH.out).mono ?_
      rintro e wy ⟨rfl, ⟨F', hF', hFl'⟩, hS'⟩
      have hF2 := Lib.hid hF'
      clear hF' r1 u2 u3 hcw hfr hf1 s0 s4
      go_wp2_with fail
      exact ⟨⟨k + 1, F', by omega, by go_num, hF2.out, hFl'.congr (fullG_succ (by omega) HH.out) (fullD_succ (by omega) HH.out), (hS.setCell _ _).trans hS'⟩, by simp [intOf]; omega⟩
    · obtain rfl : k = m := by omega
      have s2 := (hS.rows (w.heap.size + 1 + 1) (by omega) (by omega)).trans S2.out
      have hz1 : (mkF (fun _ => 0) (fun _ => 0)).size = 289 := (isFlow_mkF _ _).size
      have hz2 := hFl.size
      have hz3 := hFl.ones
      have hq : F = mkF (r.comes t) (r.drips t) := by rw [← HGM.out, ← HDM.out]; exact hFl.eq
      have HQ := Lib.hid hq
      clear hq
      have HS := Lib.hid hS
      clear hS
      go_wp2_with fail
      refine bodyPost_ret (v := .agg F) (results_row1 rfl _ _ (w.heap.size + 1 + 1) F rfl (by simp [go_sem, s2]) Tryd.underlying87 rfl (by kernel_rfl) hz2) rfl ⟨by rw [← HQ.out], ?_⟩
      exact below_setRow (B4.trans (HS.out.below.mono (by omega))) (by omega) _
end Go.Proofs.YtoibolmippfcgaaDoor
