/- The sums of drips by cells: contracts of both sides' small functions. -/
import Derived.Test.YtcbgdhbjopjdnaaDripS
import Derived.Test.YtcbgdhbjopjdnaaCells
import Derived.RegionTactic
import Derived.OwnWalk
import Derived.Deep.RegionHeld3
namespace Go.Proofs.Ytcbgdhbjopjdnaa
open Go.RowKit

/-- A call that gives a list of n numbers in a block of its own. -/
def GivesL (w : World) (n : Nat) (f : Nat → Int) (e : Ending) (w' : World) : Prop :=
  ∃ v, e = .returned v ∧ IsList w' w.heap.size v 1 n (fun i => .int .i64 (f i)) ∧ Below w.heap.size w w'

/-- The sum of what drips in a cell, of the first n courses. -/
def colTo (D : Nat → Int) (k n : Nat) : Int := sumTo (fun c => D (c * 17 + k)) n
theorem colTo_bd {D : Nat → Int} (hb : ∀ i, i < 136 → 0 ≤ D i ∧ D i ≤ 1000) {k n : Nat} (hk : k < 17) (hn : n ≤ 8) : 0 ≤ colTo D k n ∧ colTo D k n ≤ 8000 := by
  have := sumTo_bd (t := fun c => D (c * 17 + k)) (B := 1000) (n := n) fun i hi => hb _ (by omega)
  unfold colTo; omega
theorem colTo_succ (D : Nat → Int) (k n : Nat) : colTo D k n + D (n * 17 + k) = colTo D k (n + 1) := rfl

set_option maxRecDepth 100000 in
set_option maxHeartbeats 2000000 in
theorem l02Across_any (n m : Nat) (c d : Array Value) (r : Rf) (t : Nat → Int) (w : World) (hr : rowAt w n = some c) (hR : IsRoof c r) (hdd : rowAt w m = some d) (hT : IsRain d t) (ho : r.Rains t) :
    Calls Try.prog 23 #[.pointer (some ⟨n, 0, none⟩), .pointer (some ⟨m, 0, none⟩)] w (GivesL w (2 * r.w + 1).toNat fun k => colTo (r.drips t) k 8) := by
  have hn := rowAt_lt hr
  have hw1 := ho.1.1
  have hw8 := ho.1.2.1
  obtain ⟨q, hq⟩ := Int.eq_ofNat_of_zero_le (show 0 ≤ 2 * r.w + 1 by omega)
  have q17 : q ≤ 17 := by omega
  have hz : Try.zeroCells73 = mkI .i32 136 (fun _ => 0) := by kernel_rfl
  have hzs : Try.zeroCells73.size = 136 := by rw [hz]; simp
  have hzo : Ones Try.zeroCells73 := by rw [hz]; exact (isK_mkI _ _ _).ones
  have HB := Lib.hid fun i (_ : i < 136) => ho.drips_bd i
  have HQ := Lib.hid hq
  obtain ⟨i0, hi0, hz0, hz1, hz2⟩ := info_parts A_infoI
  clear hz hq
  go_enter Try.func23, Try.ntmps23
  go_wp2_with fail
  refine (l02Run_any n m c d r t _ hr hR hdd hT ho).mono ?_
  rintro e w1 ⟨v, rfl, hl, b1⟩
  have z2 : (mkI .i32 136 (r.drips t)).size = 136 := by simp
  have z3 : (mkI .i32 136 (r.comeAll t)).size = 136 := by simp
  have o2 := (isK_mkI .i32 136 (r.drips t)).ones
  have o3 := (isK_mkI .i32 136 (r.comeAll t)).ones
  have hX := isK_mkI .i32 136 (r.drips t)
  generalize mkI .i32 136 (r.drips t) = X at *
  generalize mkI .i32 136 (r.comeAll t) = Y at *
  clear hl
  have s1 := b1.size
  have rN := brow b1 hr
  go_wp2_with fail
  refine gen_world fun W hW => ?_
  have p0 : rowAt W w1.heap.size = some X := by rw [hW, rowAt_alloc_past _ _ _ (by simp only [World.size_alloc]; omega), rowAt_alloc_past _ _ _ (by simp only [World.size_alloc]; omega), rowAt_alloc_at _ _ _ _ rfl]
  have pN : rowAt W n = some c := by rw [hW, rowAt_alloc_past _ _ _ (by simp only [World.size_alloc]; omega), rowAt_alloc_past _ _ _ (by simp only [World.size_alloc]; omega), rowAt_alloc_past _ _ _ (by omega)]; exact rN
  have own : W.ownsRow (w1.heap.size + 1 + 1) 2 1 (.slice (some ⟨w1.heap.size + 1 + 1, 0, none⟩) 0 0) 0 [] :=
    ⟨rfl, .inr ⟨_, 0, #[], rfl, by omega, by rw [hW]; exact heap_alloc_here _ _ _ (by simp), Nat.le_refl _, Nat.zero_le _, rfl, rfl⟩⟩
  have pB : Below w.heap.size w W := by rw [hW]; exact ((b1.alloc b1.size _).alloc (by simp; omega) _).alloc (by simp; omega) _
  have hsW : w1.heap.size + 1 + 1 ≤ W.heap.size := by rw [hW]; simp
  clear hW b1 o2 o3 z2 z3 hzs hzo rN
  go_loopw [8, 9] (fun v i W => ∃ k : Nat, k ≤ q ∧ i = .int .i64 k ∧ W.ownsRow (w1.heap.size + 1 + 1) 2 1 v k (intsOf (fun k => colTo (r.drips t) k 8) k) ∧ rowAt W w1.heap.size = some X ∧ rowAt W n = some c ∧ Below w.heap.size w W ∧ w1.heap.size + 1 + 1 ≤ W.heap.size) (fun _ i _ => q - (intOf i).toNat)
  case atStart => exact ⟨0, by omega, rfl, own, p0, pN, pB, hsW⟩
  case round =>
    obtain ⟨k, hk, rfl, hown, r0, rN, hB, hsz⟩ := hrel
    clear own p0 pN pB hsW
    by_cases hlt : k < q
    · have k0 : (0 : Int) ≤ k := by omega
      have k1 : (k : Int) < 17 := by omega
      have HC := Lib.hid (cell_of_rowAt r0)
      have R0 := Lib.hid r0
      have RN := Lib.hid rN
      clear r0
      go_wp2_with fail
      refine (l01Cells_any n c r _ rN hR).mono ?_
      rw [HQ.out]
      rintro e w2 ⟨rfl, rfl⟩
      clear rN
      go_wp2_with fail
      obtain ⟨wo, hwo⟩ : ∃ wo : World, wo = wr := ⟨_, rfl⟩
      rw [← hwo] at hown hB hsz HC R0 RN ⊢
      clear hwo
      go_loop [10, 11] (fun s i => ∃ j : Nat, j ≤ 8 ∧ i = .int .i64 j ∧ s = .int .i64 (colTo (r.drips t) k j)) (fun _ i => 8 - (intOf i).toNat)
      case atStart => exact ⟨0, by omega, rfl, rfl⟩
      case round =>
        obtain ⟨j, hj, rfl, rfl⟩ := hrel
        by_cases hjl : j < 8
        · have h0 : wo.cell? ⟨w1.heap.size, j * 17 + k, none⟩ = some (.int .i32 (r.drips t (j * 17 + k))) := (HC.out _).trans (hX.get (by omega))
          have j0 : (0 : Int) ≤ j := by omega
          have j1 : (j : Int) < 8 := by omega
          have x0 := HB.out (j * 17 + k) (by omega)
          have x1 := colTo_bd HB.out (k := k) (n := j) (by omega) (by omega)
          have HX := Lib.hid (colTo_succ (r.drips t) k j)
          go_wp2_with fail
          refine ⟨⟨j + 1, by omega, by go_num, by rw [HX.out]⟩, by simp [intOf]; omega⟩
        · obtain rfl : j = 8 := by omega
          go_wp2_with (at_builtin; refine wpList_append_own _ rfl _ _ 40 rfl (w1.heap.size + 1 + 1) 2 i0 (.int .i64 0) 1 8 Try.underlying40 hi0 hz0 hz1 hz2 rfl (by decide) _ _ _ rfl (hown.alloc _) ⟨wo.heap.size, 0, none⟩ 1 1 [.int .i64 (colTo (r.drips t) k 8)] rfl rfl ?c1 ?c2 ?c3 ?c4 ?c5 ?_)
          case c3 => unfold maxLen; omega
          case c4 => omega
          case c5 => omega
          intro v3 w3 own3 grow3 _
          rw [intsOf_succ (fun k => colTo (r.drips t) k 8)] at own3
          have hrow : ∀ y, y < w1.heap.size + 1 + 1 → rowAt w3 y = rowAt wo y := fun y hy => (grown_row grow3 (by simp; omega) (fun z hz => by have := (hown.lt z hz).1; omega)).trans (rowAt_alloc_past _ _ _ (by omega))
          have b0 := Lib.hid ((hrow _ (by omega)).trans R0.out)
          have bN := Lib.hid ((hrow n (by omega)).trans RN.out)
          have B3 : Below w.heap.size w w3 := (hB.alloc hB.size _).grown grow3 (by have := hB.size; simp; omega) (by intro x hx; have := (hown.lt x hx).1; omega)
          have hsz3 : w1.heap.size + 1 + 1 ≤ w3.heap.size := by have := grow3.size; simp at this; omega
          clear hrow grow3
          go_wp2_with fail
          exact ⟨⟨k + 1, by omega, by go_num, own3, b0.out, bN.out, B3, hsz3⟩, by simp [intOf]; omega⟩
    · obtain rfl : k = q := by omega
      have hl := IsList.of_ints hown
      clear hown
      go_wp2_with fail
      refine (l01Cells_any n c r _ rN hR).mono ?_
      rw [HQ.out]
      rintro e w2 ⟨rfl, rfl⟩
      go_wp2_with fail
      go_ret
      refine ⟨_, rfl, ?_, hB⟩
      rw [HQ.out]
      exact hl.mono (by omega)

theorem made_row {w : World} {base g q : Nat} {e : TypeId} (h : w.ownsRow base e 1 (.slice (some ⟨g, 0, none⟩) q q) q (madeCells #[.int .i64 0] q).toList) : rowAt w g = some (mkI .i64 q fun _ => 0) := by
  obtain ⟨hl, ⟨h, _⟩ | ⟨g', cap, cur, he, hg, hh, hn, hm, hs, ht⟩⟩ := h
  · cases h
  · cases he
    rw [rowAt_of_heap hh]
    refine congrArg some (IsK.of_get (by omega) fun i hi => ?_).eq
    have h1 : cur[i]? = (cur.toList.take (q * 1))[i]? := by rw [List.getElem?_take, if_pos (by omega), Array.getElem?_toList]
    rw [h1, ht, toList_madeCells_one, List.getElem?_replicate, if_pos hi]

set_option maxRecDepth 100000 in
set_option maxHeartbeats 2000000 in
theorem cellSums_any (X : Array Value) (D : Nat → Int) (q : Nat) (w : World) (hX : IsK .i32 X 136 D) (hb : ∀ i, i < 136 → 0 ≤ D i ∧ D i ≤ 1000) (q17 : q ≤ 17) :
    Calls Try.prog 40 #[.agg X, .int .i64 q] w (GivesL w q fun k => colTo D k 8) := by
  have hd := hX.size
  have hd' : X.size = 8 * 17 := by omega
  have h1 := hX.ones
  have HB := Lib.hid hb; clear hb
  obtain ⟨i0, hi0, hz0, hz1, hz2⟩ := info_parts A_infoI
  go_enter Try.func40, Try.ntmps40
  go_wp2_with (at_make; refine wpList_make_full _ rfl _ _ 40 rfl w.heap.size 2 i0 (.int .i64 0) 1 Try.underlying40 hi0 hz0 hz1 .i64 .i64 q q q rfl rfl rfl rfl (by rw [hz2]; omega) (by unfold maxLen; omega) (by simp) ?_)
  intro w1 own1 grow1
  have rg := made_row own1
  have B1 : Below w.heap.size w w1 := ((Below.refl w.heap.size w).alloc (Nat.le_refl _) _).grown grow1 (by simp) (by intro x hx; cases hx)
  have rx : rowAt w1 w.heap.size = some X := (grown_row grow1 (by simp) (by intro x hx; cases hx)).trans (rowAt_alloc_at _ _ _ _ rfl)
  clear own1 grow1
  go_wp2_with fail
  go_loopw [12] (fun i W => ∃ k : Nat, k ≤ 8 ∧ i = .int .i64 k ∧ rowAt W (w.heap.size + 1) = some (mkI .i64 q fun cell => colTo D cell k) ∧ Below w.heap.size w W) (fun i _ => 8 - (intOf i).toNat)
  case atStart => exact ⟨0, by omega, rfl, rg, B1⟩
  case round =>
    obtain ⟨k, hk, rfl, r0, hB⟩ := hrel
    clear rg B1 rx
    by_cases hlt : k < 8
    · have hs8 : (X.extract (k * 17) (k * 17 + 17)).size = 17 := by simp; omega
      have ho8 : Ones (X.extract (k * 17) (k * 17 + 17)) := h1.extract _ _
      have hrow := hX.extract (k * 17) 17 (by omega)
      have k0 : (0 : Int) ≤ k := by omega
      have k1 : (k : Int) < 8 := by omega
      go_wp2_with fail
      refine gen_world fun W hW => ?_
      obtain ⟨b, hb⟩ : ∃ b, b = wr.heap.size := ⟨_, rfl⟩
      have rb : rowAt W b = some (X.extract (k * 17) (k * 17 + 17)) := by rw [hW]; exact rowAt_alloc_at _ _ _ _ hb
      have rg : rowAt W (w.heap.size + 1) = some (mkI .i64 q fun cell => colTo D cell k) := by rw [hW]; exact (rowAt_alloc_past _ _ _ (rowAt_lt r0)).trans r0
      have bW : Below w.heap.size w W := by rw [hW]; exact hB.alloc hB.size _
      have lb : b < W.heap.size := rowAt_lt rb
      have hbg : b ≠ w.heap.size + 1 := by have := rowAt_lt r0; omega
      rw [← hb]
      clear hW hb r0 hB
      have RB := Lib.hid rb
      go_loopw [17] (fun i W' => ∃ j : Nat, j ≤ q ∧ i = .int .i64 j ∧ rowAt W' (w.heap.size + 1) = some (mkI .i64 q fun cell => if cell < j then colTo D cell (k + 1) else colTo D cell k) ∧ Sole (w.heap.size + 1) W W') (fun i _ => q - (intOf i).toNat)
      case atStart => exact ⟨0, by omega, rfl, rg.trans (congrArg some (mkI_congr fun i _ => by rw [if_neg (by omega)])), Sole.refl _ _⟩
      case round =>
        clear rg rb
        obtain ⟨j, hj, rfl, sg, hS⟩ := hrel
        by_cases hjl : j < q
        · have sb := (hS.rows b lb hbg).trans RB.out
          have cb : wr.cell? ⟨b, j, none⟩ = some (.int .i32 (D (k * 17 + j))) := (cell_of_rowAt sb j).trans (hrow.get (by omega))
          have cg : wr.cell? ⟨w.heap.size + 1, j, none⟩ = some (.int .i64 (colTo D j k)) := by rw [cell_of_rowAt sg, (isK_mkI _ _ _).get hjl, if_neg (by omega)]
          have fg := frozen_of_rowAt sg
          have x0 := HB.out (k * 17 + j) (by omega)
          have x1 := colTo_bd HB.out (k := j) (n := k) (by omega) (by omega)
          have HX := Lib.hid (colTo_succ D j k)
          have j0 : (0 : Int) ≤ j := by omega
          have j1 : (j : Int) < q := by omega
          have j2 : (j : Int) < 17 := by omega
          have SG := Lib.hid sg
          clear sg sb
          go_wp2_with fail
          go_region
          go_wp2_with fail
          refine ⟨⟨j + 1, by omega, by go_num, ?_, (hS.setCell _ _).drew⟩, by simp [intOf]; omega⟩
          rw [rowAt_drew, rowAt_setCell_at _ _ _ _ (by rw [SG.out]; rfl), SG.out, Option.getD_some, HX.out]
          refine congrArg some (((isK_mkI _ _ _).set j _).congr fun i hi => ?_).eq
          by_cases hij : i = j
          · subst hij; rw [upd_at, if_pos (by omega)]
          · rw [upd_ne _ _ hij]
            by_cases h : i < j
            · rw [if_pos h, if_pos (by omega)]
            · rw [if_neg h, if_neg (by omega)]
        · obtain rfl : j = q := by omega
          go_wp2_with fail
          refine ⟨⟨k + 1, by omega, by go_num, sg.trans (congrArg some (mkI_congr fun i hi => by rw [if_pos hi])), bW.trans (hS.below.mono (by omega))⟩, by simp [intOf]; omega⟩
    · obtain rfl : k = 8 := by omega
      go_wp2_with fail
      go_ret
      refine ⟨_, rfl, .inr ⟨_, q, _, rfl, by omega, r0, by simp, fun i hi => (isK_mkI _ _ _).get (by omega)⟩, hB⟩

theorem keepRsz {B n m : Nat} {w W : World} {c : Array Value} {l : List Value} (h : rowAt W n = some c ∧ rowAt W m = some l.toArray ∧ W.rangeAt m 0 l ∧ Below B w W ∧ B ≤ W.heap.size) : B ≤ W.heap.size := h.2.2.2.2

set_option maxRecDepth 100000 in
set_option maxHeartbeats 4000000 in
theorem cellDrips_any (c d : Array Value) (r : Rf) (t : Nat → Int) (w : World) (hR : IsRoof c r) (hT : IsRain d t) (ho : r.Rains t) :
    Calls Try.prog 26 #[.agg c, .agg d] w (GivesL w (2 * r.w + 1).toNat fun k => colTo (r.drips t) k 8) := by
  have hw1 := ho.1.1
  have hw8 := ho.1.2.1
  obtain ⟨l⟩ := d
  obtain ⟨p0, p1, pB⟩ := two_boxes w c l.toArray 33 35
  have hc := hR.size
  have hl : l.length = 17 := by have := hT.size; simpa using this
  have hu := Try.underlying35
  have hi : (Try.prog.info? 35).map (·.size) = some l.length := by rw [hl]; kernel_rfl
  obtain ⟨q, hq⟩ := Int.eq_ofNat_of_zero_le (show 0 ≤ 2 * r.w + 1 by omega)
  have q17 : q ≤ 17 := by omega
  have CR := fun w => runDown_any c l.toArray r t w hR hT ho
  have CA := fun w => across_any c r w hR
  rw [hq] at CA
  have hF := (isFlow_mkF (r.comes t) (r.drips t)).size
  have hE := (isFlow_mkF (r.comes t) (r.drips t)).dripsK
  generalize mkF (r.comes t) (r.drips t) = F at CR hF hE
  have hX := isK_mkI .i32 136 (r.drips t)
  generalize mkI .i32 136 (r.drips t) = X at hX hE
  have CC := fun w => cellSums_any X (r.drips t) q w hX (fun i _ => ho.drips_bd i) q17
  have HQ := Lib.hid hq
  clear hq
  go_enter Try.func26, Try.ntmps26
  go_wp2_with fail
  refine gen_world fun W hW => ?_
  rw [← hW] at p0 p1 pB
  clear hW
  go_region_held3 (fun w' => rowAt w' w.heap.size = some c ∧ rowAt w' (w.heap.size + 1) = some l.toArray ∧ w'.rangeAt (w.heap.size + 1) 0 l ∧ Below w.heap.size w w' ∧ w.heap.size ≤ w'.heap.size)
    (first | exact keepR0 p0 p1 pB pB.size | exact keepR (by assumption) (by assumption))
    (first | (go_at_call 39; (with_reducible refine (CR _).mono ?_); rintro x wx ⟨rfl, bx⟩) | (go_at_call 25; (with_reducible refine (CA _).mono ?_); rintro x wx ⟨rfl, bx⟩) | (go_at_call 40; have hle := keepRsz (by assumption); (with_reducible refine (CC _).mono ?_); rintro x wx ⟨v, rfl, lx, bx⟩; replace lx := lx.mono hle))
  rename_i g
  go_wp2_with fail
  go_ret
  exact ⟨_, rfl, by rw [HQ.out]; exact lx, g.2.2.2.1⟩

noncomputable def Rf.rlen (r : Rf) (t : Nat → Int) (n : Nat) : Nat := if r.rok t = true then n else 0
theorem Rf.rlen_t {r : Rf} {t : Nat → Int} (h : r.Rains t) (n : Nat) : r.rlen t n = n := if_pos (Rf.rok_true h)
theorem Rf.cells_le (r : Rf) (t : Nat → Int) : r.rlen t (2 * r.w + 1).toNat ≤ 1000000 := by
  unfold Rf.rlen
  split
  · rename_i h; have := (Rf.Rains_of h).1.2.1; omega
  · omega
theorem Rf.courses_le (r : Rf) (t : Nat → Int) : r.rlen t r.h.toNat ≤ 1000000 := by
  unfold Rf.rlen
  split
  · rename_i h; have := (Rf.Rains_of h).1.2.2.2.1; omega
  · omega
theorem Rf.rlen_f {r : Rf} {t : Nat → Int} (h : ¬ r.Rains t) (n : Nat) : r.rlen t n = 0 := by simp [Rf.rlen, Rf.rok_false h]

end Go.Proofs.Ytcbgdhbjopjdnaa
