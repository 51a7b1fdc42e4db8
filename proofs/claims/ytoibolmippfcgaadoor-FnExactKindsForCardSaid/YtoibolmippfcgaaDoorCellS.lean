/- The sums of drips by cells: contracts of both sides' small functions. -/
import Derived.Test.YtoibolmippfcgaaDoorDripS
import Derived.Test.YtoibolmippfcgaaDoorCells
import Derived.RegionTactic
import Derived.OwnWalk
import Derived.Deep.RegionHeld3
namespace Go.Proofs.YtoibolmippfcgaaDoor
open Go.RowKit

/-- A call that gives a list of n numbers in a block of its own. -/
def GivesL (w : World) (n : Nat) (f : Nat → Int) (e : Ending) (w' : World) : Prop :=
  ∃ v, e = .returned v ∧ IsList w' w.heap.size v 1 n (fun i => .int .i64 (f i)) ∧ Below w.heap.size w w'

/-- The sum of what drips in a cell, of the first n courses. -/
def colTo (D : Nat → Int) (k n : Nat) : Int := sumTo (fun c => D (c * 17 + k)) n
theorem colTo_bd {D : Nat → Int} (hb : ∀ i, i < 136 → 0 ≤ D i ∧ D i ≤ 1000) {k n : Nat} (hk : k < 17) (hn : n ≤ 8) : 0 ≤ colTo D k n ∧ colTo D k n ≤ 8000 := by
  have := sumTo_bd (t := fun c => D (c * 17 + k)) (B := 1000) (n := n) fun i hi => hb _ (by omega)
  unfold colTo; omega
theorem colTo_succ (D : Nat → Int) (k n : Nat) : colTo D k n + D (n * 17 + k) = colTo D k (n + 1) := rfl

theorem made_row {w : World} {base g q : Nat} {e : TypeId} (h : w.ownsRow base e 1 (.slice (some ⟨g, 0, none⟩) q q) q (madeCells #[.int .i64 0] q).toList) : rowAt w g = some (mkI .i64 q fun _ => 0) := by
  obtain ⟨hl, ⟨h, _⟩ | ⟨g', cap, cur, he, hg, hh, hn, hm, hs, ht⟩⟩ := h
  · cases h
  · cases he
    rw [rowAt_of_heap hh]
    refine congrArg some (IsK.of_get (by omega) fun i hi => ?_).eq
    have h1 : cur[i]? = (cur.toList.take (q * 1))[i]? := by rw [List.getElem?_take, if_pos (by omega), Array.getElem?_toList]
    rw [h1, ht, toList_madeCells_one, List.getElem?_replicate, if_pos hi]

set_option maxRecDepth 100000 in
set_option maxHeartbeats 2000000 in
theorem cellSums_any (X : Array Value) (D : Nat → Int) (q : Nat) (w : World) (hX : IsK .i32 X 136 D) (hb : ∀ i, i < 136 → 0 ≤ D i ∧ D i ≤ 1000) (q17 : q ≤ 17) :
    Calls Tryd.prog 82 #[.agg X, .int .i64 q] w (GivesL w q fun k => colTo D k 8) := by
  have hd := hX.size
  have hd' : X.size = 8 * 17 := by omega
  have h1 := hX.ones
  have HB := Lib.hid hb; clear hb
  obtain ⟨i0, hi0, hz0, hz1, hz2⟩ := info_parts A_infoI
  go_enter Tryd.func82, Tryd.ntmps82
  go_wp2_with (at_make; refine wpList_make_full _ rfl _ _ 106 rfl w.heap.size 2 i0 (.int .i64 0) 1 Tryd.underlying106 hi0 hz0 hz1 .i64 .i64 q q q rfl rfl rfl rfl (by rw [hz2]; omega) (by unfold maxLen; omega) (by simp) ?_)
  intro w1 own1 grow1
  have rg := made_row own1
  have B1 : Below w.heap.size w w1 := ((Below.refl w.heap.size w).alloc (Nat.le_refl _) _).grown grow1 (by simp) (by intro x hx; cases hx)
  have rx : rowAt w1 w.heap.size = some X := (grown_row grow1 (by simp) (by intro x hx; cases hx)).trans (rowAt_alloc_at _ _ _ _ rfl)
  clear own1 grow1
  go_wp2_with fail
  go_loopw [12] (fun i W => ∃ k : Nat, k ≤ 8 ∧ i = .int .i64 k ∧ rowAt W (w.heap.size + 1) = some (mkI .i64 q fun cell => colTo D cell k) ∧ Below w.heap.size w W) (fun i _ => 8 - (intOf i).toNat)
  case atStart => exact ⟨0, by omega, rfl, rg, B1⟩
  case round =>
    obtain ⟨k, hk, rfl, r0, hB⟩ := hrel
    clear rg B1 rx
    by_cases hlt : k < 8
    · have hs8 : (X.extract (k * 17) (k * 17 + 17)).size = 17 := by simp; omega
      have ho8 : Ones (X.extract (k * 17) (k * 17 + 17)) := h1.extract _ _
      have hrow := hX.extract (k * 17) 17 (by omega)
      have k0 : (0 : Int) ≤ k := by omega
      have k1 : (k : Int) < 8 := by omega
      go_wp2_with fail
      refine gen_world fun W hW => ?_
      obtain ⟨b, hb⟩ : ∃ b, b = wr.heap.size := ⟨_, rfl⟩
      have rb : rowAt W b = some (X.extract (k * 17) (k * 17 + 17)) := by rw [hW]; exact rowAt_alloc_at _ _ _ _ hb
      have rg : rowAt W (w.heap.size + 1) = some (mkI .i64 q fun cell => colTo D cell k) := by rw [hW]; exact (rowAt_alloc_past _ _ _ (rowAt_lt r0)).trans r0
      have bW : Below w.heap.size w W := by rw [hW]; exact hB.alloc hB.size _
      have lb : b < W.heap.size := rowAt_lt rb
      have hbg : b ≠ w.heap.size + 1 := by have := rowAt_lt r0; omega
      rw [← hb]
      clear hW hb r0 hB
      have RB := Lib.hid rb
      go_loopw [17] (fun i W' => ∃ j : Nat, j ≤ q ∧ i = .int .i64 j ∧ rowAt W' (w.heap.size + 1) = some (mkI .i64 q fun cell => if cell < j then colTo D cell (k + 1) else colTo D cell k) ∧ Sole (w.heap.size + 1) W W') (fun i _ => q - (intOf i).toNat)
      case atStart => exact ⟨0, by omega, rfl, rg.trans (congrArg some (mkI_congr fun i _ => by rw [if_neg (by omega)])), Sole.refl _ _⟩
      case round =>
        clear rg rb
        obtain ⟨j, hj, rfl, sg, hS⟩ := hrel
        by_cases hjl : j < q
        · have sb := (hS.rows b lb hbg).trans RB.out
          have cb : wr.cell? ⟨b, j, none⟩ = some (.int .i32 (D (k * 17 + j))) := (cell_of_rowAt sb j).trans (hrow.get (by omega))
          have cg : wr.cell? ⟨w.heap.size + 1, j, none⟩ = some (.int .i64 (colTo D j k)) := by rw [cell_of_rowAt sg, (isK_mkI _ _ _).get hjl, if_neg (by omega)]
          have fg := frozen_of_rowAt sg
          have x0 := HB.out (k * 17 + j) (by omega)
          have x1 := colTo_bd HB.out (k := j) (n := k) (by omega) (by omega)
          have HX := Lib.hid (colTo_succ D j k)
          have j0 : (0 : Int) ≤ j := by omega
          have j1 : (j : Int) < q := by omega
          have j2 : (j : Int) < 17 := by omega
          have SG := Lib.hid sg
          clear sg sb
          go_wp2_with fail
          go_region
          go_wp2_with fail
          refine ⟨⟨j + 1, by omega, by go_num, ?_, (hS.setCell _ _).drew⟩, by simp [intOf]; omega⟩
          rw [rowAt_drew, rowAt_setCell_at _ _ _ _ (by rw [SG.out]; rfl), SG.out, Option.getD_some, HX.out]
          refine congrArg some (((isK_mkI _ _ _).set j _).congr fun i hi => ?_).eq
          by_cases hij : i = j
          · subst hij; rw [upd_at, if_pos (by omega)]
          · rw [upd_ne _ _ hij]
            by_cases h : i < j
            · rw [if_pos h, if_pos (by omega)]
            · rw [if_neg h, if_neg (by omega)]
        · obtain rfl : j = q := by omega
          go_wp2_with fail
          refine ⟨⟨k + 1, by omega, by go_num, sg.trans (congrArg some (mkI_congr fun i hi => by rw [if_pos hi])), bW.trans (hS.below.mono (by omega))⟩, by simp [intOf]; omega⟩
    · obtain rfl : k = 8 := by omega
      go_wp2_with fail
      go_ret
      refine ⟨_, rfl, .inr ⟨_, q, _, rfl, by omega, r0, by simp, fun i hi => (isK_mkI _ _ _).get (by omega)⟩, hB⟩

theorem keepRsz {B n m : Nat} {w W : World} {c : Array Value} {l : List Value} (h : rowAt W n = some c ∧ rowAt W m = some l.toArray ∧ W.rangeAt m 0 l ∧ Below B w W ∧ B ≤ W.heap.size) : B ≤ W.heap.size := h.2.2.2.2

noncomputable def Rf.rlen (r : Rf) (t : Nat → Int) (n : Nat) : Nat := if r.rok t = true then n else 0
theorem Rf.rlen_t {r : Rf} {t : Nat → Int} (h : r.Rains t) (n : Nat) : r.rlen t n = n := if_pos (Rf.rok_true h)
theorem Rf.cells_le (r : Rf) (t : Nat → Int) : r.rlen t (2 * r.w + 1).toNat ≤ 1000000 := by
  unfold Rf.rlen
  split
  · rename_i h; have := (Rf.Rains_of h).1.2.1; omega
  · omega
theorem Rf.courses_le (r : Rf) (t : Nat → Int) : r.rlen t r.h.toNat ≤ 1000000 := by
  unfold Rf.rlen
  split
  · rename_i h; have := (Rf.Rains_of h).1.2.2.2.1; omega
  · omega
theorem Rf.rlen_f {r : Rf} {t : Nat → Int} (h : ¬ r.Rains t) (n : Nat) : r.rlen t n = 0 := by simp [Rf.rlen, Rf.rok_false h]

end Go.Proofs.YtoibolmippfcgaaDoor
