/- The sums of drips by courses: contracts of both sides. -/
import Derived.Test.YtnjodicaehiadaaCellS
namespace Go.Proofs.Ytnjodicaehiadaa
open Go.RowKit

/-- The sum of what drips in a course, of the first n cells. -/
def rowTo (D : Nat → Int) (c n : Nat) : Int := sumTo (fun k => D (c * 17 + k)) n
theorem rowTo_bd {D : Nat → Int} (hb : ∀ i, i < 136 → 0 ≤ D i ∧ D i ≤ 1000) {c n : Nat} (hc : c < 8) (hn : n ≤ 17) : 0 ≤ rowTo D c n ∧ rowTo D c n ≤ 17000 := by
  have := sumTo_bd (t := fun k => D (c * 17 + k)) (B := 1000) (n := n) fun i hi => hb _ (by omega)
  unfold rowTo; omega
theorem rowTo_succ (D : Nat → Int) (c n : Nat) : rowTo D c n + D (c * 17 + n) = rowTo D c (n + 1) := rfl

set_option maxRecDepth 100000 in
set_option maxHeartbeats 2000000 in
theorem courseSums_any (X : Array Value) (D : Nat → Int) (q : Nat) (w : World) (hX : IsK .i32 X 136 D) (hb : ∀ i, i < 136 → 0 ≤ D i ∧ D i ≤ 1000) (q8 : q ≤ 8) :
    Calls Try.prog 65 #[.agg X, .int .i8 q] w (GivesL w q fun k => rowTo D k 17) := by
  have hd := hX.size
  have hd' : X.size = 8 * 17 := by omega
  have h1 := hX.ones
  have HB := Lib.hid hb; clear hb
  obtain ⟨i0, hi0, hz0, hz1, hz2⟩ := info_parts A_infoI
  go_enter Try.func65, Try.ntmps65
  go_wp2_with (at_make; refine wpList_make_full _ rfl _ _ 44 rfl w.heap.size 2 i0 (.int .i64 0) 1 Try.underlying44 hi0 hz0 hz1 .i8 .i8 q q q rfl rfl rfl rfl (by rw [hz2]; omega) (by unfold maxLen; omega) (by simp) ?_)
  intro w1 own1 grow1
  have rg := made_row own1
  have B1 : Below w.heap.size w w1 := ((Below.refl w.heap.size w).alloc (Nat.le_refl _) _).grown grow1 (by simp) (by intro x hx; cases hx)
  have rx : rowAt w1 w.heap.size = some X := (grown_row grow1 (by simp) (by intro x hx; cases hx)).trans (rowAt_alloc_at _ _ _ _ rfl)
  clear own1 grow1
  have RX := Lib.hid rx
  have lg : w.heap.size + 1 < w1.heap.size := rowAt_lt rg
  clear rx
  go_wp2_with fail
  go_loopw [13] (fun i W => ∃ k : Nat, k ≤ q ∧ i = .int .i64 k ∧ rowAt W (w.heap.size + 1) = some (mkI .i64 q fun c => if c < k then rowTo D c 17 else 0) ∧ Sole (w.heap.size + 1) w1 W) (fun i _ => q - (intOf i).toNat)
  case atStart => exact ⟨0, by omega, rfl, rg.trans (congrArg some (mkI_congr fun i _ => by rw [if_neg (by omega)])), Sole.refl _ _⟩
  case round =>
    obtain ⟨k, hk, rfl, r0, hS⟩ := hrel
    clear rg
    by_cases hlt : k < q
    · have hs8 : (X.extract (k * 17) (k * 17 + 17)).size = 17 := by simp; omega
      have hrow := hX.extract (k * 17) 17 (by omega)
      have k0 : (0 : Int) ≤ k := by omega
      have k1 : (k : Int) < q := by omega
      have k2 : (k : Int) < 8 := by omega
      have hk8 : k * 17 + 17 ≤ 136 := by omega
      have rx := (hS.rows w.heap.size (by omega) (by omega)).trans RX.out
      go_wp2_with fail
      obtain ⟨wo, hwo⟩ : ∃ wo : World, wo = wr := ⟨_, rfl⟩
      rw [← hwo] at hS r0 ⊢
      clear hwo rx
      have R0 := Lib.hid r0
      go_loopw [19] (fun i W' => ∃ j : Nat, j ≤ 17 ∧ i = .int .i64 j ∧ rowAt W' (w.heap.size + 1) = some (mkI .i64 q fun c => if c < k then rowTo D c 17 else if c = k then rowTo D k j else 0) ∧ Sole (w.heap.size + 1) w1 W') (fun i _ => 17 - (intOf i).toNat)
      case atStart => exact ⟨0, by omega, rfl, R0.out.trans (congrArg some (mkI_congr fun i _ => by
        by_cases h : i < k
        · rw [if_pos h, if_pos h]
        · rw [if_neg h, if_neg h]
          split <;> rfl)), hS⟩
      case round =>
        clear r0 hS
        obtain ⟨j, hj, rfl, sg, hS⟩ := hrel
        by_cases hjl : j < 17
        · have cg : wr.cell? ⟨w.heap.size + 1, k, none⟩ = some (.int .i64 (rowTo D k j)) := by rw [cell_of_rowAt sg, (isK_mkI _ _ _).get hlt, if_neg (by omega), if_pos rfl]
          have hj1 : j < (X.extract (k * 17) (k * 17 + 17)).size := by omega
          have h0 := hrow.cell j hj1
          have fg := frozen_of_rowAt sg
          have x0 := HB.out (k * 17 + j) (by omega)
          have x1 := rowTo_bd HB.out (c := k) (n := j) (by omega) (by omega)
          have HX := Lib.hid (rowTo_succ D k j)
          have j0 : (0 : Int) ≤ j := by omega
          have j2 : (j : Int) < 17 := by omega
          have SG := Lib.hid sg
          clear sg
          go_wp2_with fail
          refine ⟨⟨j + 1, by omega, by go_num, ?_, hS.setCell _ _⟩, by simp [intOf]; omega⟩
          rw [rowAt_setCell_at _ _ _ _ (by rw [SG.out]; rfl), SG.out, Option.getD_some, HX.out]
          refine congrArg some (((isK_mkI _ _ _).set k _).congr fun i hi => ?_).eq
          by_cases hij : i = k
          · subst hij; rw [upd_at, if_neg (by omega), if_pos rfl]
          · rw [upd_ne _ _ hij]
            by_cases h : i < k
            · rw [if_pos h, if_pos h]
            · rw [if_neg h, if_neg h, if_neg hij, if_neg hij]
        · obtain rfl : j = 17 := by omega
          go_wp2_with fail
          refine ⟨⟨k + 1, by omega, by go_num, sg.trans (congrArg some (mkI_congr fun i hi => ?_)), hS⟩, by simp [intOf]; omega⟩
          by_cases h : i < k
          · rw [if_pos h, if_pos (by omega)]
          · by_cases h' : i = k
            · subst h'; rw [if_neg h, if_pos rfl, if_pos (by omega)]
            · rw [if_neg h, if_neg h', if_neg (by omega)]
    · obtain rfl : k = q := by omega
      go_wp2_with fail
      go_ret
      refine ⟨_, rfl, .inr ⟨_, k, _, rfl, by omega, r0, by simp, fun i hi => by rw [(isK_mkI _ _ _).get (by omega), if_pos (by omega)]⟩, B1.trans (hS.below.mono (by omega))⟩

theorem keepRc {B n m o : Nat} {w W w1 : World} {c : Array Value} {l : List Value} {v : Value} (b : Below W.heap.size W w1) (h : W.cell? ⟨n, o, none⟩ = some v ∧ rowAt W n = some c ∧ rowAt W m = some l.toArray ∧ W.rangeAt m 0 l ∧ Below B w W ∧ B ≤ W.heap.size) :
    w1.cell? ⟨n, o, none⟩ = some v ∧ rowAt w1 n = some c ∧ rowAt w1 m = some l.toArray ∧ w1.rangeAt m 0 l ∧ Below B w w1 ∧ B ≤ w1.heap.size :=
  ⟨(cell_of_rowAt (brow b h.2.1) o).trans ((cell_of_rowAt h.2.1 o).symm.trans h.1), keepR b h.2⟩

set_option maxRecDepth 100000 in
set_option maxHeartbeats 4000000 in
theorem implCourseDrips_any (c d : Array Value) (r : Rf) (t : Nat → Int) (w : World) (hR : IsRoof c r) (hT : IsRain d t) :
    Calls Try.prog 33 #[.agg c, .agg d] w (GivesInts w (r.rlen t r.h.toNat) (fun k => rowTo (r.drips t) k 17) (r.rcode t)) := by
  have hc := hR.size
  have hd := hT.size
  obtain ⟨p0, p1, pB⟩ := two_boxes w c d 30 32
  by_cases ho : r.Rains t
  · rw [Rf.rcode_t ho, Rf.rlen_t ho]
    obtain ⟨q, hq⟩ := Int.eq_ofNat_of_zero_le (show 0 ≤ r.h by have := ho.1.2.2.1; omega)
    have q8 : q ≤ 8 := by have := ho.1.2.2.2.1; omega
    have hk1 := hR.high (by omega)
    rw [hq] at hk1
    rw [hq, show ((q : Int)).toNat = q from rfl]
    clear hq
    obtain ⟨l, hl0⟩ : ∃ l, l = d.toList := ⟨_, rfl⟩
    have hd' : l.toArray = d := by rw [hl0, Array.toArray_toList]
    have hT' : IsRain l.toArray t := by rw [hd']; exact hT
    have HL := Lib.hid (show l.length = 17 by rw [hl0]; simpa using hd)
    have HD := Lib.hid hd'
    have CR := fun w => runDown_any c l.toArray r t w hR hT' ho
    clear hl0 hd' hT'
    have hF := (isFlow_mkF (r.comes t) (r.drips t)).size
    have hE := (isFlow_mkF (r.comes t) (r.drips t)).dripsK
    generalize mkF (r.comes t) (r.drips t) = F at CR hF hE
    have hX := isK_mkI .i32 136 (r.drips t)
    generalize mkI .i32 136 (r.drips t) = X at hX hE
    have CC := fun w => courseSums_any X (r.drips t) q w hX (fun i _ => ho.drips_bd i) q8
    go_enter Try.func33, Try.ntmps33
    go_wp2_with fail
    refine (implValidRain_t c d r t _ hR hT ho).mono ?_
    rintro e w1 ⟨rfl, b1⟩
    have q0 := brow b1 p0
    have q1 := brow b1 p1
    have B1 := bnext pB b1 pB.size
    clear b1 p0 p1 pB
    go_wp2_with fail
    have hu := Try.underlying32
    have hi : (Try.prog.info? 32).map (·.size) = some l.length := by rw [HL.out]; kernel_rfl
    rw [← HD.out] at q1
    have c1 : w1.cell? ⟨w.heap.size, 1, none⟩ = some (.int .i8 q) := (cell_of_rowAt q0 1).trans (by rw [Array.getElem?_eq_getElem (by omega), hk1])
    go_region_held3 (fun w' => w'.cell? ⟨w.heap.size, 1, none⟩ = some (.int .i8 q) ∧ rowAt w' w.heap.size = some c ∧ rowAt w' (w.heap.size + 1) = some l.toArray ∧ w'.rangeAt (w.heap.size + 1) 0 l ∧ Below w.heap.size w w' ∧ w.heap.size ≤ w'.heap.size)
      (first | exact ⟨c1, keepR0 q0 q1 B1 B1.size⟩ | exact keepRc (by assumption) (by assumption))
      (first | (go_at_call 60; (with_reducible refine (CR _).mono ?_); rintro x wx ⟨rfl, bx⟩) | (go_at_call 65; have hle := keepRsz (And.right (by assumption)); (with_reducible refine (CC _).mono ?_); rintro x wx ⟨v, rfl, lx, bx⟩; replace lx := lx.mono hle))
    rename_i g
    go_wp2_with fail
    go_ret2
    exact ⟨_, rfl, lx, g.2.2.2.2.1⟩
  · rw [Rf.rcode_f ho, Rf.rlen_f ho]
    go_enter Try.func33, Try.ntmps33
    go_wp2_with fail
    refine (implValidRain_f c d r t _ hR hT ho).mono ?_
    rintro e w1 ⟨rfl, b1⟩
    have B1 := bnext pB b1 pB.size
    clear b1 p0 p1 pB
    go_wp2_with fail
    go_ret2
    exact ⟨_, rfl, .inl ⟨rfl, _, _, rfl⟩, B1⟩

set_option maxRecDepth 100000 in
set_option maxHeartbeats 2000000 in
theorem specCourseDrips_any (c d : Array Value) (r : Rf) (t : Nat → Int) (w : World) (hR : IsRoof c r) (hT : IsRain d t) :
    Calls Try.prog 32 #[.agg c, .agg d] w (GivesInts w (r.rlen t r.h.toNat) (fun k => rowTo (r.drips t) k 17) (r.rcode t)) := by
  have hc := hR.size
  obtain ⟨p0, p1, pB⟩ := two_boxes w c d 30 32
  by_cases ho : r.Rains t
  · rw [Rf.rcode_t ho, Rf.rlen_t ho]
    obtain ⟨q, hq⟩ := Int.eq_ofNat_of_zero_le (show 0 ≤ r.h by have := ho.1.2.2.1; omega)
    have q8 : q ≤ 8 := by have := ho.1.2.2.2.1; omega
    have hk1 := hR.high (by omega)
    rw [hq] at hk1
    rw [hq, show ((q : Int)).toNat = q from rfl]
    have HK := Lib.hid hk1
    clear hq hk1
    have hz : Try.zeroCells43 = mkI .i32 136 (fun _ => 0) := by kernel_rfl
    have hzs : Try.zeroCells43.size = 136 := by rw [hz]; simp
    have hzo : Ones Try.zeroCells43 := by rw [hz]; exact (isK_mkI _ _ _).ones
    have HB := Lib.hid fun i (_ : i < 136) => ho.drips_bd i
    obtain ⟨i0, hi0, hz0, hz1, hz2⟩ := info_parts A_infoI
    clear hz
    go_enter Try.func32, Try.ntmps32
    go_wp2_with fail
    refine (l02Ok_t w.heap.size (w.heap.size + 1) c d r t _ p0 hR p1 hT ho).mono ?_
    rintro e w0 ⟨rfl, b0⟩
    have q0 := brow b0 p0
    have q1 := brow b0 p1
    have B0 := bnext pB b0 pB.size
    clear b0 p0 p1 pB
    go_wp2_with fail
    refine (l02Run_any w.heap.size (w.heap.size + 1) c d r t _ q0 hR q1 hT ho).mono ?_
    rintro e w1 ⟨v, rfl, hl, b1⟩
    have z2 : (mkI .i32 136 (r.drips t)).size = 136 := by simp
    have z3 : (mkI .i32 136 (r.comeAll t)).size = 136 := by simp
    have o2 := (isK_mkI .i32 136 (r.drips t)).ones
    have o3 := (isK_mkI .i32 136 (r.comeAll t)).ones
    have hX := isK_mkI .i32 136 (r.drips t)
    generalize mkI .i32 136 (r.drips t) = X at *
    generalize mkI .i32 136 (r.comeAll t) = Y at *
    have s0 := brow b1 q0
    have B1 := bnext B0 b1 B0.size
    have sz1 := B1.size
    have ls0 := rowAt_lt s0
    clear hl b1 q0 q1 B0
    go_wp2_with fail
    refine gen_world fun W hW => ?_
    have p0 : rowAt W w1.heap.size = some X := by rw [hW, rowAt_alloc_past _ _ _ (by simp only [World.size_alloc]; omega), rowAt_alloc_past _ _ _ (by simp only [World.size_alloc]; omega), rowAt_alloc_at _ _ _ _ rfl]
    have pN : rowAt W w.heap.size = some c := by rw [hW, rowAt_alloc_past _ _ _ (by simp only [World.size_alloc]; omega), rowAt_alloc_past _ _ _ (by simp only [World.size_alloc]; omega), rowAt_alloc_past _ _ _ (by omega)]; exact s0
    have own : W.ownsRow (w1.heap.size + 1 + 1) 2 1 (.slice (some ⟨w1.heap.size + 1 + 1, 0, none⟩) 0 0) 0 [] :=
      ⟨rfl, .inr ⟨_, 0, #[], rfl, by omega, by rw [hW]; exact heap_alloc_here _ _ _ (by simp), Nat.le_refl _, Nat.zero_le _, rfl, rfl⟩⟩
    have pB : Below w.heap.size w W := by rw [hW]; exact ((B1.alloc sz1 _).alloc (by simp; omega) _).alloc (by simp; omega) _
    have hsW : w1.heap.size + 1 + 1 ≤ W.heap.size := by rw [hW]; simp
    clear hW o2 o3 z2 z3 hzs hzo s0 B1
    go_loopw [9, 10] (fun v i W => ∃ k : Nat, k ≤ q ∧ i = .int .i64 k ∧ W.ownsRow (w1.heap.size + 1 + 1) 2 1 v k (intsOf (fun k => rowTo (r.drips t) k 17) k) ∧ rowAt W w1.heap.size = some X ∧ rowAt W w.heap.size = some c ∧ Below w.heap.size w W ∧ w1.heap.size + 1 + 1 ≤ W.heap.size) (fun _ i _ => q - (intOf i).toNat)
    case atStart => exact ⟨0, by omega, rfl, own, p0, pN, pB, hsW⟩
    case round =>
      obtain ⟨k, hk, rfl, hown, r0, rN, hB, hsz⟩ := hrel
      clear own p0 pN pB hsW
      have hcH : wr.cell? ⟨w.heap.size, 1, none⟩ = some (.int .i8 q) := (cell_of_rowAt rN 1).trans (by rw [Array.getElem?_eq_getElem (by omega), HK.out])
      by_cases hlt : k < q
      · have k0 : (0 : Int) ≤ k := by omega
        have k1 : (k : Int) < 8 := by omega
        have HC := Lib.hid (cell_of_rowAt r0)
        have R0 := Lib.hid r0
        have RN := Lib.hid rN
        clear r0 rN
        go_wp2_with fail
        clear hcH
        obtain ⟨wo, hwo⟩ : ∃ wo : World, wo = wr := ⟨_, rfl⟩
        rw [← hwo] at hown hB hsz HC R0 RN ⊢
        clear hwo
        go_loop [11, 12] (fun s i => ∃ j : Nat, j ≤ 17 ∧ i = .int .i64 j ∧ s = .int .i64 (rowTo (r.drips t) k j)) (fun _ i => 17 - (intOf i).toNat)
        case atStart => exact ⟨0, by omega, rfl, rfl⟩
        case round =>
          obtain ⟨j, hj, rfl, rfl⟩ := hrel
          by_cases hjl : j < 17
          · have h0 : wo.cell? ⟨w1.heap.size, k * 17 + j, none⟩ = some (.int .i32 (r.drips t (k * 17 + j))) := (HC.out _).trans (hX.get (by omega))
            have j0 : (0 : Int) ≤ j := by omega
            have j1 : (j : Int) < 17 := by omega
            have x0 := HB.out (k * 17 + j) (by omega)
            have x1 := rowTo_bd HB.out (c := k) (n := j) (by omega) (by omega)
            have HX := Lib.hid (rowTo_succ (r.drips t) k j)
            go_wp2_with fail
            refine ⟨⟨j + 1, by omega, by go_num, by rw [HX.out]⟩, by simp [intOf]; omega⟩
          · obtain rfl : j = 17 := by omega
            go_wp2_with (at_builtin; refine wpList_append_own _ rfl _ _ 44 rfl (w1.heap.size + 1 + 1) 2 i0 (.int .i64 0) 1 8 Try.underlying44 hi0 hz0 hz1 hz2 rfl (by decide) _ _ _ rfl (hown.alloc _) ⟨wo.heap.size, 0, none⟩ 1 1 [.int .i64 (rowTo (r.drips t) k 17)] rfl rfl (cell_one_new _ _ _) (by simp [Value.oneCell']) ?c3 ?c4 ?c5 ?_)
            case c3 => unfold maxLen; omega
            case c4 => omega
            case c5 => first | omega | (simp; omega)
            intro v3 w3 own3 grow3 _
            rw [intsOf_succ (fun k => rowTo (r.drips t) k 17)] at own3
            have hrow : ∀ y, y < w1.heap.size + 1 + 1 → rowAt w3 y = rowAt wo y := fun y hy => (grown_row grow3 (by simp; omega) (fun z hz => by have := (hown.lt z hz).1; omega)).trans (rowAt_alloc_past _ _ _ (by omega))
            have b0 := Lib.hid ((hrow _ (by omega)).trans R0.out)
            have bN := Lib.hid ((hrow _ (by omega)).trans RN.out)
            have B3 : Below w.heap.size w w3 := (hB.alloc hB.size _).grown grow3 (by have := hB.size; simp; omega) (by intro x hx; have := (hown.lt x hx).1; omega)
            have hsz3 : w1.heap.size + 1 + 1 ≤ w3.heap.size := by have := grow3.size; simp at this; omega
            clear hrow grow3
            go_wp2_with fail
            exact ⟨⟨k + 1, by omega, by go_num, own3, b0.out, bN.out, B3, hsz3⟩, by simp [intOf]; omega⟩
      · obtain rfl : k = q := by omega
        have hl := IsList.of_ints hown
        clear hown
        go_wp2_with fail
        go_ret2
        exact ⟨_, rfl, hl.mono (by omega), hB⟩
  · rw [Rf.rcode_f ho, Rf.rlen_f ho]
    go_enter Try.func32, Try.ntmps32
    go_wp2_with fail
    refine (l02Ok_f w.heap.size (w.heap.size + 1) c d r t _ p0 hR p1 hT ho).mono ?_
    rintro e w1 ⟨rfl, b1⟩
    have B1 := bnext pB b1 pB.size
    clear b1 p0 p1 pB
    go_wp2_with fail
    go_ret2
    exact ⟨_, rfl, .inl ⟨rfl, _, _, rfl⟩, B1.alloc B1.size _⟩
end Go.Proofs.Ytnjodicaehiadaa
