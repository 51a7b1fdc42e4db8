/- MirrorGutter: the document's side, walked. -/
import Derived.Test.YtcdddngdjhjdbaaMgS
import Derived.Test.YtcdddngdjhjdbaaGutG
import Derived.StillTailTactics
namespace Go.Proofs.Ytcdddngdjhjdbaa
open Go.RowKit

set_option maxRecDepth 100000 in
set_option maxHeartbeats 4000000 in
theorem specMirrorGutter_any (b : Nat) (c : Array Value) (g : Gt) (v : Value) (w : World) (hG : IsGut c g v) (hv : IsList w b v 2 g.m (pipeV g.p)) (hm : g.m ≤ 2000000) :
    Calls Try.prog 22 #[.agg c] w (GivesGutT w g.mrG [.int .i64 g.mrC]) := by
  have hc := hG.size
  obtain ⟨i0, hi0, hz0, hz1, hz2⟩ := info_parts A_infoPp
  obtain ⟨av, cv, rfl⟩ := hG.vs
  have hA := gutAt_box hG hv
  obtain ⟨W0, hW0⟩ : ∃ W0, W0 = (w.alloc (.cells c 54)).alloc (.cells zeroG 54) := ⟨_, rfl⟩
  have hb : Below (w.alloc (.cells c 54)).heap.size (w.alloc (.cells c 54)) W0 := by rw [hW0]; exact (Below.refl _ _).alloc (Nat.le_refl _) _
  have hA0 := Lib.hid (hA.below hb (Nat.le_refl _))
  have B0 : Below w.heap.size w W0 := by rw [hW0]; exact ((Below.refl _ _).alloc (Nat.le_refl _) _).alloc (by simp) _
  have r0 : rowAt W0 (w.heap.size + 1) = some zeroG := by rw [hW0]; exact rowAt_alloc_at _ _ _ _ (by simp)
  unfold zeroG at hW0
  have hozl := isGut_zero.ones
  unfold zeroG at hozl
  have hzs : zeroG.size = 21 := rfl
  have CK := fun W H => l06Ok_any w.heap.size b c g (.slice av g.m cv) W H hm
  clear hA hb hv
  cases ho : g.ok with
  | false =>
    obtain ⟨e1, e2⟩ := Gt.mr_f ho
    have E1 := Lib.hid e1
    have E2 := Lib.hid e2
    rw [ho] at CK
    clear e1 e2 ho hG
    go_enter Try.func22, Try.ntmps22
    go_wp2_with fail
    rw [← hW0]
    refine (CK _ hA0.out).mono ?_
    rintro e w1 ⟨rfl, b1⟩
    have s1 := brow b1 r0
    have B1 := bnext B0 b1 B0.size
    have lt1 := rowAt_lt s1
    have B9 := Lib.hid B1
    clear b1 r0 B0 hA0 hW0 CK B1
    go_wp2_with fail
    exact bodyPost_ret (v := .tuple #[.agg zeroG, .int .i64 1]) (results_row2 (m := 21) rfl _ _ (w.heap.size + 1) _ _ rfl rfl (rowAt_setRow_at _ _ _ (by rw [s1]; rfl)) Try.underlying54 rfl (by kernel_rfl) rfl) rfl ⟨zeroG, .slice none 0 0, by rw [E2.out], by rw [E1.out]; exact isGut_zero, by rw [E1.out]; exact .inl ⟨rfl, none, 0, rfl⟩, below_setRow B9.out (by omega) _⟩
  | true =>
    obtain ⟨e1, e2⟩ := Gt.mr_t ho
    have E1 := Lib.hid e1
    have E2 := Lib.hid e2
    have hO := Lib.hid (Gt.Ok_of ho)
    have n1 := hO.out.n1
    have n17 := hO.out.n17
    obtain ⟨N, hN⟩ := Int.eq_ofNat_of_zero_le (show 0 ≤ g.n by omega)
    have HI := Lib.hid (hdG_is (g := g) (N := N) ⟨hG.n0, hG.n1⟩ ⟨hG.d0, hG.d1⟩)
    have HGb := Lib.hid (fun i (hi : i < 17) => And.intro (hG.h0 i hi) (hG.h1 i hi))
    have HG := Lib.hid hG
    have HN := Lib.hid hN
    have N1 : 1 ≤ N := by omega
    have N17 : N ≤ 17 := by omega
    rw [ho] at CK
    have z0 : ∀ W, rowAt W w.heap.size = some c → W.cell? ⟨w.heap.size, 0, none⟩ = some (.int .i8 N) := fun W h => (cell_of_rowAt h 0).trans (hG.get0.trans (by rw [hN]))
    have z1 : ∀ W, rowAt W w.heap.size = some c → W.cell? ⟨w.heap.size, 1, none⟩ = some (.int .i16 g.d) := fun W h => (cell_of_rowAt h 1).trans hG.get1
    have Z0 := Lib.hid z0
    have Z1 := Lib.hid z1
    rw [hN] at HI
    have CL := fun j W H hj => l06Leaf_any w.heap.size b c g (.slice av g.m cv) j W H hj
    clear e1 e2 ho hG z0 z1 n1 n17 hN
    generalize g.d = D at *
    go_enter Try.func22, Try.ntmps22
    go_wp2_with fail
    rw [← hW0]
    refine (CK _ hA0.out).mono ?_
    rintro e w1 ⟨rfl, b1⟩
    have A1 := Lib.hid (hA0.out.below b1 (Nat.le_refl _))
    have s1 := brow b1 r0
    have c0 := Z0.out _ A1.out.row
    have c1 := Z1.out _ A1.out.row
    have B1 := Lib.hid (bnext B0 b1 B0.size)
    have lt1 := rowAt_lt s1
    have lt0 : w.heap.size < w1.heap.size := A1.out.lt
    have S1 := Lib.hid s1
    clear b1 r0 B0 hA0 hW0 CK s1
    have hoh : Ones (hdG N D) := HI.out.ones
    unfold hdG at hoh
    have HB := Lib.hid (show Below w1.heap.size w1 (w1.alloc (.cells (hdG N D) 54)) from (Below.refl _ _).alloc (Nat.le_refl _) _)
    have HR := Lib.hid (show rowAt (w1.alloc (.cells (hdG N D) 54)) w1.heap.size = some (hdG N D) from rowAt_alloc_at _ _ _ _ rfl)
    go_wp2_with fail
    go_loopw [6] (fun i W => ∃ (k : Nat) (cu : Array Value), k ≤ N ∧ i = .int .i64 k ∧ rowAt W w1.heap.size = some cu ∧ Hid (IsGut cu (g.stg N k) (.slice none 0 0)) ∧ Below w1.heap.size w1 W) (fun i _ => N - (intOf i).toNat)
    case atStart => exact ⟨0, hdG N D, by omega, rfl, HR.out, HI, HB.out⟩
    case round =>
      clear HR HB HI c0 c1 hozl hoh
      obtain ⟨k, cu, hk, rfl, hr, hI, hB⟩ := hrel
      have k0 : 0 ≤ (k : Int) := by omega
      by_cases hlt : k < N
      · obtain ⟨r, hkr⟩ : ∃ r, k + r + 1 = N := ⟨N - 1 - k, by omega⟩
        have er : (N : Int) - 1 - k = r := by omega
        have kl : (k : Int) ≤ N - 1 := by omega
        have k17 : (k : Int) < 17 := by omega
        have r17 : (r : Int) < 17 := by omega
        have r0 : (0 : Int) ≤ r := by omega
        have A2 := A1.out.below hB (Nat.le_refl _)
        have ch : wr.cell? ⟨w.heap.size, 2 + k, none⟩ = some (.int .i8 (g.h k)) := (cell_of_rowAt A2.row _).trans (HG.out.getH (by omega))
        have hs := hI.out.size
        have cc : wr.cell? ⟨w1.heap.size, 2 + r, none⟩ = some (cu[2 + r]'(by omega)) := (cell_of_rowAt hr _).trans (Array.getElem?_eq_getElem (by omega))
        have fc := frozen_of_rowAt hr (2 + r)
        have lk := rowAt_lt hr
        have HL := Lib.hid (CL k (wr.setCell ⟨w1.heap.size, 2 + r, none⟩ (.int .i8 (g.h k))) (A1.out.below (hB.setCell (p := ⟨w1.heap.size, 2 + r, none⟩) (Nat.le_refl _) _) (Nat.le_refl _)) (by omega))
        have R1 := rowAt_setCell_at wr w1.heap.size (2 + r) (.int .i8 (g.h k)) (by rw [hr]; rfl)
        rw [hr, Option.getD_some] at R1
        have HI2 := Lib.hid (hI.out.stg_h hkr N17 (HGb.out k (by omega)))
        have B2 := Lib.hid (hB.setCell (p := ⟨w1.heap.size, 2 + r, none⟩) (Nat.le_refl _) (.int .i8 (g.h k)))
        have HRR := Lib.hid R1
        have HS := Lib.hid (Gt.mirL_s g N k)
        clear A2 hr hI hB R1 CL
        generalize g.h k = x at *
        go_wp2_with fail
        refine HL.out.mono ?_
        rintro e w3 ⟨rfl, b3⟩
        have R3 := brow b3 HRR.out
        have B3 := Lib.hid (bnext B2.out b3 (B2.out.size))
        have hM := Gt.mirL_lt (g := g) (N := N) (by omega) k (by omega)
        have hM2 := Lib.hid (Gt.mirL_lt (g := g) (N := N) (by omega) (k + 1) (by omega))
        have ks := HI2.out.size
        have c19 : w3.cell? ⟨w1.heap.size, 19, none⟩ = some (.int .u32 ((g.mirL N k : Nat) : Int)) := (cell_of_rowAt R3 _).trans HI2.out.getL
        have f19 := frozen_of_rowAt R3 19
        have l3 := rowAt_lt R3
        have HR3 := Lib.hid R3
        have r32 : (r : Int) < 32 := by omega
        clear b3 R3 HRR ch cc fc B2 HL
        cases hlf : g.leaf k with
        | true =>
          have hor : bits BinOp.or IntKind.u32 ((g.mirL N k : Nat) : Int) (2 ^ r % 4294967296) = ((g.mirL N (k + 1) : Nat) : Int) := by
            have e : ((2 : Int) ^ r % 4294967296) = ((2 ^ r : Nat) : Int) := by
              have h1 : (2 : Nat) ^ r < 2 ^ 32 := Nat.pow_lt_pow_right (by omega) (by omega)
              have h2 : (2 : Int) ^ r = ((2 ^ r : Nat) : Int) := by rw [Int.natCast_pow]; rfl
              rw [h2]
              generalize (2 : Nat) ^ r = q at h1 ⊢
              omega
            rw [e, or32_num hM (Nat.pow_lt_pow_right (by omega) (by omega)), HS.out, hlf, if_pos rfl, show N - 1 - k = r by omega]
          have HI3 := Lib.hid (show IsGut _ (g.stg N (k + 1)) _ from HI2.out.setL hM2.out)
          have R5 := Lib.hid (show rowAt (w3.setCell ⟨w1.heap.size, 19, none⟩ (.int .u32 ((g.mirL N (k + 1) : Nat) : Int))) w1.heap.size = some ((cu.setIfInBounds (2 + r) (.int .i8 x)).setIfInBounds 19 (.int .u32 ((g.mirL N (k + 1) : Nat) : Int))) from by
            have := rowAt_setCell_at w3 w1.heap.size 19 (.int .u32 ((g.mirL N (k + 1) : Nat) : Int)) (by rw [HR3.out]; rfl)
            rw [HR3.out, Option.getD_some] at this
            exact this)
          generalize g.mirL N (k + 1) = M2 at *
          generalize g.mirL N k = M at *
          clear hlf
          go_wp2_with fail
          exact ⟨⟨k + 1, _, by omega, by go_num, R5.out, HI3, B3.out.setCell (p := ⟨w1.heap.size, 19, none⟩) (Nat.le_refl _) _⟩, by simp [intOf]; omega⟩
        | false =>
          have hML : g.mirL N (k + 1) = g.mirL N k := by rw [HS.out, hlf]; rfl
          have h4 : { g.stg N (k + 1) with l := ((g.mirL N k : Nat) : Int) } = g.stg N (k + 1) := by unfold Gt.stg; rw [hML]
          have HI3 := Lib.hid (h4 ▸ HI2.out)
          clear hlf hML h4
          go_wp2_with fail
          exact ⟨⟨k + 1, _, by omega, by go_num, HR3.out, HI3, B3.out⟩, by simp [intOf]; omega⟩
      · obtain rfl : k = N := by omega
        have A2 := A1.out.below hB (Nat.le_refl _)
        have c20 : wr.cell? ⟨w.heap.size, 20, none⟩ = some (.slice av g.m cv) := (cell_of_rowAt A2.row _).trans HG.out.getP
        have HR := Lib.hid hr
        have HB := Lib.hid hB
        have hm4 := hO.out.m4
        clear A2 hr hB
        obtain ⟨M, hM⟩ : ∃ M, g.m = M := ⟨_, rfl⟩
        rw [hM] at c20 hm4
        go_wp2_with fail
        go_loopw [7] (fun i W => ∃ (q : Nat) (cu : Array Value) (a : Option Addr) (cp : Nat), q ≤ M ∧ i = .int .i64 ((M : Int) - 1 - q) ∧ rowAt W w1.heap.size = some cu ∧ Hid (IsGut cu { g.stg k k with m := q, p := g.mir.p } (.slice a q cp)) ∧ Hid (W.ownsRow (w1.heap.size + 1) 90 2 (.slice a q cp) q (pipesV g.mir.p q)) ∧ w1.heap.size + 1 ≤ W.heap.size ∧ Below w1.heap.size w1 W) (fun i _ => (intOf i + 1).toNat)
        case atStart => exact ⟨0, cu, none, 0, by omega, by first | rfl | (congr 1; omega), HR.out, Lib.hid (hI.out.p_any rfl g.mir.p), Lib.hid (World.ownsRow_nil _ _ _ _), rowAt_lt HR.out, HB.out⟩
        case round =>
          clear HR HB hI c20
          obtain ⟨q, cu, a, cp, hq, rfl, hr, hI, hO2, hsz, hB⟩ := hrel
          by_cases hlt : q < M
          · obtain ⟨j, hj⟩ : ∃ j, j + q + 1 = M := ⟨M - 1 - q, by omega⟩
            have ej : (M : Int) - 1 - q = j := by omega
            rw [ej]
            have hrc : rowAt wr w.heap.size = some c := (A1.out.below hB (Nat.le_refl _)).row
            have z0 := Z0.out
            have z20 : ∀ W, rowAt W w.heap.size = some c → W.cell? ⟨w.heap.size, 20, none⟩ = some (.slice av M cv) := fun W h => by rw [← hM]; exact (cell_of_rowAt h _).trans HG.out.getP
            have hpl := A1.out.pipes
            rw [hM] at hpl
            obtain ⟨h0, _⟩ | ⟨gv, cap, cur, e3, hgv, hrv1, hsv, hfv⟩ := hpl
            · omega
            cases e3
            have lgv1 := rowAt_lt hrv1
            have hrv := brow hB hrv1
            have y0 : ∀ W, rowAt W gv = some cur → W.cell? ⟨gv, j * 2, none⟩ = some (.int .i8 (g.p (j * 2))) := fun W h => (cell_of_rowAt h _).trans ((hfv _ (by omega)).trans (congrArg some (pipeV_0 _ _)))
            have y1 : ∀ W, rowAt W gv = some cur → W.cell? ⟨gv, j * 2 + 1, none⟩ = some (.int .i16 (g.p (j * 2 + 1))) := fun W h => (cell_of_rowAt h _).trans ((hfv _ (by omega)).trans (congrArg some (pipeV_1 _ _)))
            have k20 : wr.cell? ⟨w1.heap.size, 20, none⟩ = some (.slice a q cp) := (cell_of_rowAt hr _).trans hI.out.getP
            have hpo := hO.out.ps j (by omega)
            have hx0 := hpo.1
            have hx1 := hpo.2.1
            have hnk := HN.out
            have j0 : 0 ≤ (j : Int) := by omega
            have j1 : (j : Int) < M := by omega
            have e0 : g.mir.p (q * 2) = k - 1 - g.p (j * 2) := by
              show (if q * 2 % 2 = 0 then _ else _) = _
              rw [if_pos (by omega), show g.m - 1 - q * 2 / 2 = j by omega, hnk]
            have e1 : g.mir.p (q * 2 + 1) = g.p (j * 2 + 1) := by
              show (if (q * 2 + 1) % 2 = 0 then _ else _) = _
              rw [if_neg (by omega), show g.m - 1 - (q * 2 + 1) / 2 = j by omega]
            have HPS := Lib.hid (pipesV_succ g.mir.p q)
            rw [e0, e1] at HPS
            have HPB := Lib.hid (Gt.mir_p hO.out (q + 1) (by omega))
            have lk := rowAt_lt hr
            have lgv := rowAt_lt hrv
            have e8 : IntKind.i8.wrap ((k : Int) - 1) = k - 1 := IntWalk.i8_in _ (by omega)
            have lc := rowAt_lt hrc
            have HR := Lib.hid hr
            rw [hnk] at hx1
            clear hr hrv1 hsv hfv e0 e1 hpo hnk
            generalize g.p (j * 2) = x at *
            generalize g.p (j * 2 + 1) = z at *
            have e9 : IntKind.i8.wrap ((k : Int) - 1 - x) = k - 1 - x := IntWalk.i8_in _ (by omega)
            go_wp2_with fail
            refine wp_region_held_drew (S := fun w' => rowAt w' w.heap.size = some c ∧ rowAt w' gv = some cur) (by kernel_rfl) (⟨hrc, hrv⟩) (fun hH => ?_)
            refine wpAnyH_take (i := 0) (v := .pointer (some ⟨w1.heap.size, 20, none⟩)) rfl (by kernel_rfl) (by kernel_rfl) (by kernel_rfl) (fun _ _ _ h => h) (Or.inl ⟨by rfl, ?_⟩) hH ?_
            · intro w1' hS; (try dsimp only at hS); obtain ⟨s0, s1⟩ := hS; go_simp
            (try simp only [List.getElem_toArray]); (try simp only [List.getElem_cons_succ]); (try simp only [List.getElem_cons_zero]); (try simp only [Act.put]); (try simp only [List.setIfInBounds_toArray]); (try simp only [List.set_cons_succ]); (try simp only [List.set_cons_zero])
            refine wpAnyH_take (i := 2) (v := .pointer (some ⟨w.heap.size, 0, none⟩)) rfl (by kernel_rfl) (by kernel_rfl) (by kernel_rfl) (fun _ _ _ h => h) (Or.inl ⟨by rfl, ?_⟩) hH ?_
            · intro w1' hS; (try dsimp only at hS); obtain ⟨s0, s1⟩ := hS; go_simp
            (try simp only [List.getElem_toArray]); (try simp only [List.getElem_cons_succ]); (try simp only [List.getElem_cons_zero]); (try simp only [Act.put]); (try simp only [List.setIfInBounds_toArray]); (try simp only [List.set_cons_succ]); (try simp only [List.set_cons_zero])
            refine wpAnyH_take (i := 3) (v := .int .i8 k) rfl (by kernel_rfl) (by kernel_rfl) (by kernel_rfl) (fun _ _ _ h => h) (Or.inl ⟨by rfl, ?_⟩) hH ?_
            · intro w1' hS; (try dsimp only at hS); obtain ⟨s0, s1⟩ := hS; have u := z0 _ s0; go_simp
            (try simp only [List.getElem_toArray]); (try simp only [List.getElem_cons_succ]); (try simp only [List.getElem_cons_zero]); (try simp only [Act.put]); (try simp only [List.setIfInBounds_toArray]); (try simp only [List.set_cons_succ]); (try simp only [List.set_cons_zero])
            refine wpAnyH_take (i := 4) (v := .int .i8 (k - 1)) rfl (by kernel_rfl) (by kernel_rfl) (by kernel_rfl) (fun _ _ _ h => h) (Or.inl ⟨by rfl, ?_⟩) hH ?_
            · intro w1' hS; (try dsimp only at hS); obtain ⟨s0, s1⟩ := hS; go_simp
            (try simp only [List.getElem_toArray]); (try simp only [List.getElem_cons_succ]); (try simp only [List.getElem_cons_zero]); (try simp only [Act.put]); (try simp only [List.setIfInBounds_toArray]); (try simp only [List.set_cons_succ]); (try simp only [List.set_cons_zero])
            refine wpAnyH_take (i := 5) (v := .pointer (some ⟨w.heap.size, 20, none⟩)) rfl (by kernel_rfl) (by kernel_rfl) (by kernel_rfl) (fun _ _ _ h => h) (Or.inl ⟨by rfl, ?_⟩) hH ?_
            · intro w1' hS; (try dsimp only at hS); obtain ⟨s0, s1⟩ := hS; go_simp
            (try simp only [List.getElem_toArray]); (try simp only [List.getElem_cons_succ]); (try simp only [List.getElem_cons_zero]); (try simp only [Act.put]); (try simp only [List.setIfInBounds_toArray]); (try simp only [List.set_cons_succ]); (try simp only [List.set_cons_zero])
            refine wpAnyH_take (i := 6) (v := .slice (some ⟨gv, 0, none⟩) M cv) rfl (by kernel_rfl) (by kernel_rfl) (by kernel_rfl) (fun _ _ _ h => h) (Or.inl ⟨by rfl, ?_⟩) hH ?_
            · intro w1' hS; (try dsimp only at hS); obtain ⟨s0, s1⟩ := hS; have u := z20 _ s0; go_simp
            (try simp only [List.getElem_toArray]); (try simp only [List.getElem_cons_succ]); (try simp only [List.getElem_cons_zero]); (try simp only [Act.put]); (try simp only [List.setIfInBounds_toArray]); (try simp only [List.set_cons_succ]); (try simp only [List.set_cons_zero])
            refine wpAnyH_take (i := 7) (v := .int .i64 j) rfl (by kernel_rfl) (by kernel_rfl) (by kernel_rfl) (fun _ _ _ h => h) (Or.inl ⟨by rfl, ?_⟩) hH ?_
            · intro w1' hS; (try dsimp only at hS); obtain ⟨s0, s1⟩ := hS; go_simp
            (try simp only [List.getElem_toArray]); (try simp only [List.getElem_cons_succ]); (try simp only [List.getElem_cons_zero]); (try simp only [Act.put]); (try simp only [List.setIfInBounds_toArray]); (try simp only [List.set_cons_succ]); (try simp only [List.set_cons_zero])
            refine wpAnyH_take (i := 8) (v := .pointer (some ⟨gv, j * 2, none⟩)) rfl (by kernel_rfl) (by kernel_rfl) (by kernel_rfl) (fun _ _ _ h => h) (Or.inl ⟨by rfl, ?_⟩) hH ?_
            · intro w1' hS; (try dsimp only at hS); obtain ⟨s0, s1⟩ := hS; go_simp
            (try simp only [List.getElem_toArray]); (try simp only [List.getElem_cons_succ]); (try simp only [List.getElem_cons_zero]); (try simp only [Act.put]); (try simp only [List.setIfInBounds_toArray]); (try simp only [List.set_cons_succ]); (try simp only [List.set_cons_zero])
            refine wpAnyH_take (i := 9) (v := .pointer (some ⟨gv, j * 2, none⟩)) rfl (by kernel_rfl) (by kernel_rfl) (by kernel_rfl) (fun _ _ _ h => h) (Or.inl ⟨by rfl, ?_⟩) hH ?_
            · intro w1' hS; (try dsimp only at hS); obtain ⟨s0, s1⟩ := hS; go_simp
            (try simp only [List.getElem_toArray]); (try simp only [List.getElem_cons_succ]); (try simp only [List.getElem_cons_zero]); (try simp only [Act.put]); (try simp only [List.setIfInBounds_toArray]); (try simp only [List.set_cons_succ]); (try simp only [List.set_cons_zero])
            refine wpAnyH_take (i := 10) (v := .int .i8 x) rfl (by kernel_rfl) (by kernel_rfl) (by kernel_rfl) (fun _ _ _ h => h) (Or.inl ⟨by rfl, ?_⟩) hH ?_
            · intro w1' hS; (try dsimp only at hS); obtain ⟨s0, s1⟩ := hS; have u := y0 _ s1; go_simp
            (try simp only [List.getElem_toArray]); (try simp only [List.getElem_cons_succ]); (try simp only [List.getElem_cons_zero]); (try simp only [Act.put]); (try simp only [List.setIfInBounds_toArray]); (try simp only [List.set_cons_succ]); (try simp only [List.set_cons_zero])
            refine wpAnyH_take (i := 11) (v := .int .i8 (k - 1 - x)) rfl (by kernel_rfl) (by kernel_rfl) (by kernel_rfl) (fun _ _ _ h => h) (Or.inl ⟨by rfl, ?_⟩) hH ?_
            · intro w1' hS; (try dsimp only at hS); obtain ⟨s0, s1⟩ := hS; go_simp
            (try simp only [List.getElem_toArray]); (try simp only [List.getElem_cons_succ]); (try simp only [List.getElem_cons_zero]); (try simp only [Act.put]); (try simp only [List.setIfInBounds_toArray]); (try simp only [List.set_cons_succ]); (try simp only [List.set_cons_zero])
            refine wpAnyH_take (i := 12) (v := .pointer (some ⟨w.heap.size, 20, none⟩)) rfl (by kernel_rfl) (by kernel_rfl) (by kernel_rfl) (fun _ _ _ h => h) (Or.inl ⟨by rfl, ?_⟩) hH ?_
            · intro w1' hS; (try dsimp only at hS); obtain ⟨s0, s1⟩ := hS; go_simp
            (try simp only [List.getElem_toArray]); (try simp only [List.getElem_cons_succ]); (try simp only [List.getElem_cons_zero]); (try simp only [Act.put]); (try simp only [List.setIfInBounds_toArray]); (try simp only [List.set_cons_succ]); (try simp only [List.set_cons_zero])
            refine wpAnyH_take (i := 13) (v := .slice (some ⟨gv, 0, none⟩) M cv) rfl (by kernel_rfl) (by kernel_rfl) (by kernel_rfl) (fun _ _ _ h => h) (Or.inl ⟨by rfl, ?_⟩) hH ?_
            · intro w1' hS; (try dsimp only at hS); obtain ⟨s0, s1⟩ := hS; have u := z20 _ s0; go_simp
            (try simp only [List.getElem_toArray]); (try simp only [List.getElem_cons_succ]); (try simp only [List.getElem_cons_zero]); (try simp only [Act.put]); (try simp only [List.setIfInBounds_toArray]); (try simp only [List.set_cons_succ]); (try simp only [List.set_cons_zero])
            refine wpAnyH_take (i := 14) (v := .int .i64 j) rfl (by kernel_rfl) (by kernel_rfl) (by kernel_rfl) (fun _ _ _ h => h) (Or.inl ⟨by rfl, ?_⟩) hH ?_
            · intro w1' hS; (try dsimp only at hS); obtain ⟨s0, s1⟩ := hS; go_simp
            (try simp only [List.getElem_toArray]); (try simp only [List.getElem_cons_succ]); (try simp only [List.getElem_cons_zero]); (try simp only [Act.put]); (try simp only [List.setIfInBounds_toArray]); (try simp only [List.set_cons_succ]); (try simp only [List.set_cons_zero])
            refine wpAnyH_take (i := 15) (v := .pointer (some ⟨gv, j * 2, none⟩)) rfl (by kernel_rfl) (by kernel_rfl) (by kernel_rfl) (fun _ _ _ h => h) (Or.inl ⟨by rfl, ?_⟩) hH ?_
            · intro w1' hS; (try dsimp only at hS); obtain ⟨s0, s1⟩ := hS; go_simp
            (try simp only [List.getElem_toArray]); (try simp only [List.getElem_cons_succ]); (try simp only [List.getElem_cons_zero]); (try simp only [Act.put]); (try simp only [List.setIfInBounds_toArray]); (try simp only [List.set_cons_succ]); (try simp only [List.set_cons_zero])
            refine wpAnyH_take (i := 16) (v := .pointer (some ⟨gv, j * 2 + 1, none⟩)) rfl (by kernel_rfl) (by kernel_rfl) (by kernel_rfl) (fun _ _ _ h => h) (Or.inl ⟨by rfl, ?_⟩) hH ?_
            · intro w1' hS; (try dsimp only at hS); obtain ⟨s0, s1⟩ := hS; go_simp
            (try simp only [List.getElem_toArray]); (try simp only [List.getElem_cons_succ]); (try simp only [List.getElem_cons_zero]); (try simp only [Act.put]); (try simp only [List.setIfInBounds_toArray]); (try simp only [List.set_cons_succ]); (try simp only [List.set_cons_zero])
            refine wpAnyH_take (i := 17) (v := .int .i16 z) rfl (by kernel_rfl) (by kernel_rfl) (by kernel_rfl) (fun _ _ _ h => h) (Or.inl ⟨by rfl, ?_⟩) hH ?_
            · intro w1' hS; (try dsimp only at hS); obtain ⟨s0, s1⟩ := hS; have u := y1 _ s1; go_simp
            (try simp only [List.getElem_toArray]); (try simp only [List.getElem_cons_succ]); (try simp only [List.getElem_cons_zero]); (try simp only [Act.put]); (try simp only [List.setIfInBounds_toArray]); (try simp only [List.set_cons_succ]); (try simp only [List.set_cons_zero])
            refine wpAnyH_take (i := 18) (v := .agg #[.int .i8 (k - 1 - x), .int .i16 z]) rfl (by kernel_rfl) (by kernel_rfl) (by kernel_rfl) (fun _ _ _ h => h) (Or.inl ⟨by rfl, ?_⟩) hH ?_
            · intro w1' hS; (try dsimp only at hS); obtain ⟨s0, s1⟩ := hS; go_simp
            (try simp only [List.getElem_toArray]); (try simp only [List.getElem_cons_succ]); (try simp only [List.getElem_cons_zero]); (try simp only [Act.put]); (try simp only [List.setIfInBounds_toArray]); (try simp only [List.set_cons_succ]); (try simp only [List.set_cons_zero])
            refine wpAnyH_ready (rs := [1, 19]) (by kernel_rfl) (by simp) (AllReadyH.cons rfl (fun K hK => ?_) (AllReadyH.cons rfl (fun K hK => ?_) AllReadyH.nil))
            · go_simp
              refine hK.out _ _ hH (fun hG => ?_)
              clear hK K hH
              replace hH := hG
              clear hG
              (try simp only [List.getElem_toArray]); (try simp only [List.getElem_cons_succ]); (try simp only [List.getElem_cons_zero]); (try simp only [Act.put]); (try simp only [List.setIfInBounds_toArray]); (try simp only [List.set_cons_succ]); (try simp only [List.set_cons_zero])
              refine wpAnyH_ready (rs := [19]) (by kernel_rfl) (by simp) (AllReadyH.cons rfl (fun K hK => ?_) AllReadyH.nil)
              go_simp
              refine hK.out _ _ (⟨(rowAt_alloc_past _ _ _ lc).trans hH.1, (rowAt_alloc_past _ _ _ lgv).trans hH.2⟩) (fun hG => ?_)
              clear hK K hH
              replace hH := hG
              clear hG
              (try simp only [List.getElem_toArray]); (try simp only [List.getElem_cons_succ]); (try simp only [List.getElem_cons_zero]); (try simp only [Act.put]); (try simp only [List.setIfInBounds_toArray]); (try simp only [List.set_cons_succ]); (try simp only [List.set_cons_zero])
              refine wpAnyH_ready (rs := [20]) (by kernel_rfl) (by simp) (AllReadyH.cons rfl (fun K hK => ?_) AllReadyH.nil)
              refine step_append_own rfl (.tmp 54) (.tmp 72) 52 rfl (w1.heap.size + 1) 90 i0 (.agg #[.int .i8 0, .int .i16 0]) 2 4 Try.underlying52 hi0 hz0 hz1 hz2 rfl (by decide) (.slice a q cp) q _ rfl (World.ownsRow.drew (World.ownsRow.alloc hO2.out _)) ⟨wr.heap.size, 0, none⟩ 1 1 [.int .i8 (k - 1 - x), .int .i16 z] rfl rfl (cell_two_new _ _ _ _) (by simp [Value.oneCell']) (by unfold maxLen; omega) (by omega) (by simp; omega) ?_
              intro v5 w5 own5 grow5
              obtain ⟨a5, c5, rfl⟩ := owns_shape own5
              have t5 : rowAt w5 w1.heap.size = some cu := rowAt_grown grow5 ((rowAt_alloc_past _ _ _ lk).trans HR.out) (fun e => by have := (hO2.out.lt _ e).1; omega)
              have f5 := frozen_of_rowAt t5 20
              have q5 : w5.cell? ⟨w1.heap.size, 20, none⟩ = some (.slice a q cp) := (cell_of_rowAt t5 _).trans hI.out.getP
              have l5 := rowAt_lt t5
              refine hK.out _ _ (⟨rowAt_grown grow5 hH.1 (fun e => by have := (hO2.out.lt _ e).1; omega), rowAt_grown grow5 hH.2 (fun e => by have := (hO2.out.lt _ e).1; omega)⟩) (fun hG => ?_)
              clear hK K hH
              replace hH := hG
              clear hG
              (try simp only [List.getElem_toArray]); (try simp only [List.getElem_cons_succ]); (try simp only [List.getElem_cons_zero]); (try simp only [Act.put]); (try simp only [List.setIfInBounds_toArray]); (try simp only [List.set_cons_succ]); (try simp only [List.set_cons_zero])
              refine wpAnyH_take (i := 21) (v := .pointer (some ⟨w1.heap.size, 20, none⟩)) rfl (by kernel_rfl) (by kernel_rfl) (by kernel_rfl) (fun _ _ _ h => h) (Or.inl ⟨by rfl, ?_⟩) hH ?_
              · intro w1' hS; (try dsimp only at hS); obtain ⟨s0, s1⟩ := hS; go_simp
              (try simp only [List.getElem_toArray]); (try simp only [List.getElem_cons_succ]); (try simp only [List.getElem_cons_zero]); (try simp only [Act.put]); (try simp only [List.setIfInBounds_toArray]); (try simp only [List.set_cons_succ]); (try simp only [List.set_cons_zero])
              refine wpAnyH_ready (rs := [22]) (by kernel_rfl) (by simp) (AllReadyH.cons rfl (fun K hK => ?_) AllReadyH.nil)
              go_simp
              refine hK.out _ _ (⟨(rowAt_setCell_ne _ _ _ _ _ (by omega)).trans hH.1, (rowAt_setCell_ne _ _ _ _ _ (by omega)).trans hH.2⟩) (fun hG => ?_)
              clear hK K hH
              replace hH := hG
              clear hG
              (try simp only [List.getElem_toArray]); (try simp only [List.getElem_cons_succ]); (try simp only [List.getElem_cons_zero]); (try simp only [Act.put]); (try simp only [List.setIfInBounds_toArray]); (try simp only [List.set_cons_succ]); (try simp only [List.set_cons_zero])
              refine wpAnyH_done (by kernel_rfl) ?_ _
              have D5 := Lib.hid (owns_cellV own5 (show w1.heap.size < w1.heap.size + 1 by omega) 20 (.slice a5 (q + 1) c5))
              have B5 := Lib.hid (((hB.alloc hB.size (.cells #[.int .i8 (k - 1 - x), .int .i16 z] 90)).drew.grown grow5 (by simp; omega) (fun y hy => by have := (hO2.out.lt y hy).1; omega)).setCell (p := ⟨w1.heap.size, 20, none⟩) (Nat.le_refl _) (.slice a5 (q + 1) c5))
              have R5 := rowAt_setCell_at w5 w1.heap.size 20 (.slice a5 (q + 1) c5) (by rw [t5]; rfl)
              rw [t5, Option.getD_some] at R5
              have R6 := Lib.hid R5
              have I6 := Lib.hid (hI.out.newP g.mir.p (q + 1) a5 c5 HPB.out)
              clear own5 grow5 hH t5 f5 q5 R5
              go_wp2_with fail
              refine ⟨⟨q + 1, _, a5, c5, by omega, ?_, R6.out, I6, Lib.hid (HPS.out ▸ D5.out), by simp <;> omega, B5.out⟩, by simp [intOf] <;> omega⟩
              rw [show (M : Int) - 1 - ((q + 1 : Nat) : Int) = (j : Int) - 1 by omega]
            · go_simp
              refine hK.out _ _ (⟨(rowAt_alloc_past _ _ _ lc).trans hH.1, (rowAt_alloc_past _ _ _ lgv).trans hH.2⟩) (fun hG => ?_)
              clear hK K hH
              replace hH := hG
              clear hG
              (try simp only [List.getElem_toArray]); (try simp only [List.getElem_cons_succ]); (try simp only [List.getElem_cons_zero]); (try simp only [Act.put]); (try simp only [List.setIfInBounds_toArray]); (try simp only [List.set_cons_succ]); (try simp only [List.set_cons_zero])
              refine wpAnyH_ready (rs := [1]) (by kernel_rfl) (by simp) (AllReadyH.cons rfl (fun K hK => ?_) AllReadyH.nil)
              go_simp
              refine hK.out _ _ hH (fun hG => ?_)
              clear hK K hH
              replace hH := hG
              clear hG
              (try simp only [List.getElem_toArray]); (try simp only [List.getElem_cons_succ]); (try simp only [List.getElem_cons_zero]); (try simp only [Act.put]); (try simp only [List.setIfInBounds_toArray]); (try simp only [List.set_cons_succ]); (try simp only [List.set_cons_zero])
              refine wpAnyH_ready (rs := [20]) (by kernel_rfl) (by simp) (AllReadyH.cons rfl (fun K hK => ?_) AllReadyH.nil)
              refine step_append_own rfl (.tmp 54) (.tmp 72) 52 rfl (w1.heap.size + 1) 90 i0 (.agg #[.int .i8 0, .int .i16 0]) 2 4 Try.underlying52 hi0 hz0 hz1 hz2 rfl (by decide) (.slice a q cp) q _ rfl (World.ownsRow.drew (World.ownsRow.alloc hO2.out _)) ⟨wr.heap.size, 0, none⟩ 1 1 [.int .i8 (k - 1 - x), .int .i16 z] rfl rfl (cell_two_new _ _ _ _) (by simp [Value.oneCell']) (by unfold maxLen; omega) (by omega) (by simp; omega) ?_
              intro v5 w5 own5 grow5
              obtain ⟨a5, c5, rfl⟩ := owns_shape own5
              have t5 : rowAt w5 w1.heap.size = some cu := rowAt_grown grow5 ((rowAt_alloc_past _ _ _ lk).trans HR.out) (fun e => by have := (hO2.out.lt _ e).1; omega)
              have f5 := frozen_of_rowAt t5 20
              have q5 : w5.cell? ⟨w1.heap.size, 20, none⟩ = some (.slice a q cp) := (cell_of_rowAt t5 _).trans hI.out.getP
              have l5 := rowAt_lt t5
              refine hK.out _ _ (⟨rowAt_grown grow5 hH.1 (fun e => by have := (hO2.out.lt _ e).1; omega), rowAt_grown grow5 hH.2 (fun e => by have := (hO2.out.lt _ e).1; omega)⟩) (fun hG => ?_)
              clear hK K hH
              replace hH := hG
              clear hG
              (try simp only [List.getElem_toArray]); (try simp only [List.getElem_cons_succ]); (try simp only [List.getElem_cons_zero]); (try simp only [Act.put]); (try simp only [List.setIfInBounds_toArray]); (try simp only [List.set_cons_succ]); (try simp only [List.set_cons_zero])
              refine wpAnyH_take (i := 21) (v := .pointer (some ⟨w1.heap.size, 20, none⟩)) rfl (by kernel_rfl) (by kernel_rfl) (by kernel_rfl) (fun _ _ _ h => h) (Or.inl ⟨by rfl, ?_⟩) hH ?_
              · intro w1' hS; (try dsimp only at hS); obtain ⟨s0, s1⟩ := hS; go_simp
              (try simp only [List.getElem_toArray]); (try simp only [List.getElem_cons_succ]); (try simp only [List.getElem_cons_zero]); (try simp only [Act.put]); (try simp only [List.setIfInBounds_toArray]); (try simp only [List.set_cons_succ]); (try simp only [List.set_cons_zero])
              refine wpAnyH_ready (rs := [22]) (by kernel_rfl) (by simp) (AllReadyH.cons rfl (fun K hK => ?_) AllReadyH.nil)
              go_simp
              refine hK.out _ _ (⟨(rowAt_setCell_ne _ _ _ _ _ (by omega)).trans hH.1, (rowAt_setCell_ne _ _ _ _ _ (by omega)).trans hH.2⟩) (fun hG => ?_)
              clear hK K hH
              replace hH := hG
              clear hG
              (try simp only [List.getElem_toArray]); (try simp only [List.getElem_cons_succ]); (try simp only [List.getElem_cons_zero]); (try simp only [Act.put]); (try simp only [List.setIfInBounds_toArray]); (try simp only [List.set_cons_succ]); (try simp only [List.set_cons_zero])
              refine wpAnyH_done (by kernel_rfl) ?_ _
              have D5 := Lib.hid (owns_cellV own5 (show w1.heap.size < w1.heap.size + 1 by omega) 20 (.slice a5 (q + 1) c5))
              have B5 := Lib.hid (((hB.alloc hB.size (.cells #[.int .i8 (k - 1 - x), .int .i16 z] 90)).drew.grown grow5 (by simp; omega) (fun y hy => by have := (hO2.out.lt y hy).1; omega)).setCell (p := ⟨w1.heap.size, 20, none⟩) (Nat.le_refl _) (.slice a5 (q + 1) c5))
              have R5 := rowAt_setCell_at w5 w1.heap.size 20 (.slice a5 (q + 1) c5) (by rw [t5]; rfl)
              rw [t5, Option.getD_some] at R5
              have R6 := Lib.hid R5
              have I6 := Lib.hid (hI.out.newP g.mir.p (q + 1) a5 c5 HPB.out)
              clear own5 grow5 hH t5 f5 q5 R5
              go_wp2_with fail
              refine ⟨⟨q + 1, _, a5, c5, by omega, ?_, R6.out, I6, Lib.hid (HPS.out ▸ D5.out), by simp <;> omega, B5.out⟩, by simp [intOf] <;> omega⟩
              rw [show (M : Int) - 1 - ((q + 1 : Nat) : Int) = (j : Int) - 1 by omega]
          · obtain rfl : q = M := by omega
            have A2 := A1.out.below hB (Nat.le_refl _)
            have s1 := (rowAt_below hB (w.heap.size + 1) lt1).trans S1.out
            have HI := Lib.hid hI.out
            have hso : Ones cu := hI.out.ones
            have hss : cu.size = 21 := hI.out.size
            have lk := rowAt_lt hr
            have HL := Lib.hid (IsList.of_pipesV hO2.out)
            have HB := Lib.hid hB
            clear A2 hI hO2 hB
            go_wp2_with fail
            refine bodyPost_ret (v := .tuple #[.agg cu, .int .i64 0]) (results_row2 (m := 21) rfl _ _ (w.heap.size + 1) _ _ rfl rfl (rowAt_setRow_at _ _ _ (by rw [s1]; rfl)) Try.underlying54 rfl (by kernel_rfl) hss) rfl ⟨cu, .slice a q cp, by rw [E2.out], ?_, ?_, below_setRow (bnext B1.out HB.out B1.out.size) (by omega) _⟩
            · rw [E1.out, ← Gt.stg_end HN.out, hM]; exact HI.out
            · rw [E1.out]
              show IsList _ _ _ 2 g.m _
              rw [hM]
              exact (HL.out.setRowV (by omega) _).mono (by omega)
end Go.Proofs.Ytcdddngdjhjdbaa
