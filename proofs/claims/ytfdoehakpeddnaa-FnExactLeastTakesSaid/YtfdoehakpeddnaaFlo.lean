/- All outlets, all sites, all flows of a gutter: the program's lists. -/
import Derived.Test.YtfdoehakpeddnaaFlw
import Derived.Laws.MakeOwn
import Derived.OwnWalk
import Derived.StillTailTactics
namespace Go.Proofs.Ytfdoehakpeddnaa
open Go.RowKit

/-- The cells of outlets. -/
def outC (p : Nat → Int) (i : Nat) : Value := if i % 2 = 0 then .int .i64 (p i) else .int .i32 (p i)
theorem outC_0 (p : Nat → Int) (k : Nat) : outC p (k * 2) = .int .i64 (p (k * 2)) := by unfold outC; rw [if_pos (by omega)]
theorem outC_1 (p : Nat → Int) (k : Nat) : outC p (k * 2 + 1) = .int .i32 (p (k * 2 + 1)) := by unfold outC; rw [if_neg (by omega)]
theorem A_infoOu : (Try.prog.info? 139).map (fun i => (i.zero, i.size, i.bytes)) = some (some (.agg #[.int .i64 0, .int .i32 0]), 2, 16) := by kernel_rfl
theorem A_infoSi : (Try.prog.info? 118).map (fun i => (i.zero, i.size, i.bytes)) = some (some .nilIface, 1, 16) := by kernel_rfl
theorem A_infoI6 : (Try.prog.info? 2).map (fun i => (i.zero, i.size, i.bytes)) = some (some (.int .i64 0), 1, 8) := by kernel_rfl
def Gives1 (w : World) (sz n : Nat) (f : Nat → Value) (e : Ending) (w' : World) : Prop :=
  ∃ a, e = .returned (.slice a n n) ∧ IsList w' w.heap.size (.slice a n n) sz n f ∧ Below w.heap.size w w'

set_option maxRecDepth 100000 in
set_option maxHeartbeats 2000000 in
theorem outlets_any (b : Nat) (c : Array Value) (g : Gt) (v : Value) (w : World) (hG : IsGut c g v) (hv : IsList w b v 2 g.m (pipeV g.p)) (hm : g.m ≤ 4) :
    Calls Try.prog 86 #[.agg c] w (Gives1 w 2 g.m (outC g.p)) := by
  have hc := hG.size
  have k20 := hG.pipes
  have hm0 : 0 ≤ (g.m : Int) := by omega
  have HG := Lib.hid hG
  have HV := Lib.hid hv
  obtain ⟨i0, hi0, hz0, hz1, hz2⟩ := info_parts A_infoOu
  obtain ⟨a, cap, rfl⟩ := hv.shape
  have rA : rowAt (w.alloc (.cells c 37)) w.heap.size = some c := rowAt_alloc_at _ _ _ _ rfl
  have hB0 : Below w.heap.size w (w.alloc (.cells c 37)) := (Below.refl _ _).alloc (Nat.le_refl _) _
  clear hG hv
  go_enter Try.func86, Try.ntmps86
  go_wp2_with (at_make; refine wpList_make_full _ rfl _ _ 78 rfl (w.heap.size + 1) 139 i0 (.agg #[.int .i64 0, .int .i32 0]) 2 Try.underlying78 hi0 hz0 hz1 .i64 .i64 g.m g.m g.m rfl rfl rfl rfl (by rw [hz2]; omega) (by unfold maxLen; omega) (by simp) ?_)
  intro w1 own1 grow1
  have rg : ∃ cur, rowAt w1 (w.heap.size + 1) = some cur ∧ cur.size = g.m * 2 := by
    obtain ⟨hl, ⟨h, _⟩ | ⟨g', cap', cur, he, hg, hh, hn', hm', hs, ht⟩⟩ := own1
    · cases h
    · cases he
      refine ⟨cur, ?_, hs⟩
      have := rowAt_of_heap hh
      simpa using this
  have B1 : Below w.heap.size w w1 := hB0.grown grow1 (by simp) (by intro x hx; cases hx)
  have r1 : rowAt w1 w.heap.size = some c := by
    have bb : Below (w.heap.size + 1) (w.alloc (.cells c 37)) w1 := (Below.refl (w.heap.size + 1) _).grown grow1 (by simp) (by intro x hx; cases hx)
    exact (rowAt_below bb _ (by omega)).trans rA
  have z20 : w1.cell? ⟨w.heap.size, 20, none⟩ = some (.slice a g.m cap) := by rw [cell_of_rowAt r1]; exact HG.out.getP
  have lt1 := rowAt_lt r1
  clear own1 grow1 rA hB0 r1
  go_wp2_with fail
  go_loopw [13] (fun i W => ∃ (k : Nat) (cur : Array Value), k ≤ g.m ∧ i = .int .i64 k ∧ rowAt W (w.heap.size + 1) = some cur ∧ cur.size = g.m * 2 ∧ Hid (∀ i, i < 2 * k → cur[i]? = some (outC g.p i)) ∧ Below w.heap.size w W) (fun i _ => g.m - (intOf i).toNat)
  case atStart =>
    obtain ⟨cur, hr, hs⟩ := rg
    exact ⟨0, cur, by omega, rfl, hr, hs, Lib.hid (by omega), B1⟩
  case round =>
    obtain ⟨k, cur, hk, rfl, hr, hs, hf, hB⟩ := hrel
    clear rg B1 z20 lt1
    by_cases hlt : k < g.m
    · obtain ⟨g', rfl, hg', hcs⟩ := (HV.out.below hB (Nat.le_refl _)).pipe hlt
      have c0 := (hcs k hlt).1
      have c1 := (hcs k hlt).2
      obtain ⟨⟨b0, b1⟩, b2, b3⟩ := HG.out.p0 k hlt
      have j0 : 0 ≤ (k : Int) := by omega
      have j1 : (k : Int) < g.m := by omega
      have lt := rowAt_lt hr
      have hfro := frozen_of_rowAt hr
      have hkc : k * 2 < cur.size := by omega
      have hkd : k * 2 + 1 < cur.size := by omega
      have k0 : wr.cell? ⟨w.heap.size + 1, k * 2, none⟩ = some cur[k * 2] := by rw [cell_of_rowAt hr, Array.getElem?_eq_getElem hkc]
      have k1 : wr.cell? ⟨w.heap.size + 1, k * 2 + 1, none⟩ = some cur[k * 2 + 1] := by rw [cell_of_rowAt hr, Array.getElem?_eq_getElem hkd]
      have HR := Lib.hid hr
      have HB := Lib.hid hB
      have HS := Lib.hid hs
      clear hcs hB hr hs
      go_wp2_with fail
      have r1 := rowAt_setCell_at wr (w.heap.size + 1) (k * 2) (.int .i64 (g.p (k * 2))) (by simp [HR.out])
      rw [HR.out, Option.getD_some] at r1
      have r3 := rowAt_setCell_at (wr.setCell ⟨w.heap.size + 1, k * 2, none⟩ (.int .i64 (g.p (k * 2)))) (w.heap.size + 1) (k * 2 + 1) (.int .i32 (g.p (k * 2 + 1))) (by simp [r1])
      rw [r1, Option.getD_some] at r3
      have BB := (HB.out.setCell (p := ⟨w.heap.size + 1, k * 2, none⟩) (by simp) (.int .i64 (g.p (k * 2)))).setCell (p := ⟨w.heap.size + 1, k * 2 + 1, none⟩) (by simp) (.int .i32 (g.p (k * 2 + 1)))
      refine ⟨⟨k + 1, _, by omega, by go_num, (rowAt_alloc_past _ _ _ (rowAt_lt r3)).trans r3, by simp [HS.out], Lib.hid ?_, BB.alloc BB.size _⟩, by simp [intOf]; omega⟩
      intro i hi
      by_cases hi1 : i = k * 2 + 1
      · subst hi1
        rw [Array.getElem?_setIfInBounds_self_of_lt (by simpa using hkd), outC_1]
      · rw [Array.getElem?_setIfInBounds_ne (Ne.symm hi1)]
        by_cases hi0 : i = k * 2
        · subst hi0
          rw [Array.getElem?_setIfInBounds_self_of_lt hkc, outC_0]
        · rw [Array.getElem?_setIfInBounds_ne (Ne.symm hi0)]
          exact hf.out i (by omega)
    · obtain rfl : k = g.m := by omega
      go_wp2_with fail
      go_ret
      exact ⟨_, rfl, .inr ⟨w.heap.size + 1, _, cur, rfl, by omega, hr, by omega, fun i hi => hf.out i (by omega)⟩, hB⟩

/-- The sites, behind k outlets. -/
def siteK (p : Nat → Int) : Nat → Nat → Value
  | 0, i => spotV i
  | k + 1, i => if (i : Int) = p (k * 2) then outV (p (k * 2)) (p (k * 2 + 1)) else siteK p k i
theorem siteK_is (p : Nat → Int) (i : Nat) : ∀ k, (siteK p k i = spotV i ∧ ∀ q, q < k → p (q * 2) ≠ i) ∨ ∃ x, siteK p k i = outV i x ∧ ∃ q, q < k ∧ p (q * 2) = i
  | 0 => .inl ⟨rfl, fun q hq => absurd hq (by omega)⟩
  | k + 1 => by
    simp only [siteK]
    by_cases h : (i : Int) = p (k * 2)
    · rw [if_pos h, ← h]; exact .inr ⟨_, rfl, k, by omega, h.symm⟩
    · rw [if_neg h]
      rcases siteK_is p i k with ⟨e, hq⟩ | ⟨x, e, q, hq, hp⟩
      · refine .inl ⟨e, fun q hq' => ?_⟩
        by_cases hqk : q = k
        · subst hqk; exact fun e => h e.symm
        · exact hq q (by omega)
      · exact .inr ⟨x, e, q, by omega, hp⟩

set_option maxRecDepth 100000 in
set_option maxHeartbeats 2000000 in
theorem sites_any (b : Nat) (c : Array Value) (g : Gt) (v : Value) (N : Nat) (w : World) (hG : IsGut c g v) (hv : IsList w b v 2 g.m (pipeV g.p)) (ho : g.Ok) (hN : g.n = N) :
    Calls Try.prog 102 #[.agg c] w (Gives1 w 1 N (siteK g.p g.m)) := by
  have hc := hG.size
  have hN1 : N ≤ 17 := by have := ho.n17; omega
  have k0 : ∀ h : 0 < c.size, c[0] = .int .i8 N := fun h => by rw [← hN]; exact hG.cells h
  have hN0 : 0 ≤ (N : Int) := by omega
  have CO := fun W H => outlets_any b c g v W hG H ho.m4
  have HP := Lib.hid (fun q (hq : q < g.m) => (⟨(ho.ps q hq).1, (ho.ps q hq).2.1, (ho.ps q hq).2.2.1, (ho.ps q hq).2.2.2.1⟩ : 0 ≤ g.p (q * 2) ∧ g.p (q * 2) < g.n ∧ 0 ≤ g.p (q * 2 + 1) ∧ g.p (q * 2 + 1) ≤ 1000))
  have HM := Lib.hid ho.m4
  have HV := Lib.hid hv
  have HNN := Lib.hid hN
  obtain ⟨i0, hi0, hz0, hz1, hz2⟩ := info_parts A_infoSi
  have rA : rowAt (w.alloc (.cells c 37)) w.heap.size = some c := rowAt_alloc_at _ _ _ _ rfl
  have hB0 : Below w.heap.size w (w.alloc (.cells c 37)) := (Below.refl _ _).alloc (Nat.le_refl _) _
  clear hG hv ho hN
  go_enter Try.func102, Try.ntmps102
  go_wp2_with (at_make; refine wpList_make_full _ rfl _ _ 145 rfl (w.heap.size + 1) 118 i0 .nilIface 1 Try.underlying145 hi0 hz0 hz1 .i8 .i8 N N N rfl rfl rfl rfl (by rw [hz2]; omega) (by unfold maxLen; omega) (by simp) ?_)
  intro w1 own1 grow1
  have rg : ∃ cur, rowAt w1 (w.heap.size + 1) = some cur ∧ cur.size = N := by
    obtain ⟨hl, ⟨h, _⟩ | ⟨g', cap', cur, he, hg, hh, hn', hm', hs, ht⟩⟩ := own1
    · cases h
    · cases he
      refine ⟨cur, ?_, by omega⟩
      have := rowAt_of_heap hh
      simpa using this
  have B1 : Below w.heap.size w w1 := hB0.grown grow1 (by simp) (by intro x hx; cases hx)
  have r1 : rowAt w1 w.heap.size = some c := by
    have bb : Below (w.heap.size + 1) (w.alloc (.cells c 37)) w1 := (Below.refl (w.heap.size + 1) _).grown grow1 (by simp) (by intro x hx; cases hx)
    exact (rowAt_below bb _ (by omega)).trans rA
  have lt1 := rowAt_lt r1
  clear own1 grow1 rA hB0
  go_wp2_with fail
  go_loopw [4, 12] (fun _ i W => ∃ (k : Nat) (cur : Array Value), k ≤ N ∧ i = .int .i64 k ∧ rowAt W (w.heap.size + 1) = some cur ∧ cur.size = N ∧ Hid (∀ i, i < k → cur[i]? = some (spotV i)) ∧ rowAt W w.heap.size = some c ∧ Below w.heap.size w W) (fun _ i _ => N - (intOf i).toNat)
  case atStart =>
    obtain ⟨cur, hr, hs⟩ := rg
    exact ⟨0, cur, by omega, rfl, hr, hs, Lib.hid (by omega), r1, B1⟩
  case round =>
    obtain ⟨k, cur, hk, rfl, hr, hs, hf, rC, hB⟩ := hrel
    clear rg B1 r1 lt1
    by_cases hlt : k < N
    · have j0 : 0 ≤ (k : Int) := by omega
      have j1 : (k : Int) < N := by omega
      have lt := rowAt_lt hr
      have hfro := frozen_of_rowAt hr
      have hkc : k < cur.size := by omega
      have kk : wr.cell? ⟨w.heap.size + 1, k, none⟩ = some cur[k] := by rw [cell_of_rowAt hr, Array.getElem?_eq_getElem hkc]
      have HR := Lib.hid hr
      have HB := Lib.hid hB
      have HS := Lib.hid hs
      have HC := Lib.hid rC
      clear hB hr hs rC
      go_wp2_with fail
      have r1 := rowAt_setCell_at wr (w.heap.size + 1) k (spotV k) (by simp [HR.out])
      rw [HR.out, Option.getD_some] at r1
      refine ⟨⟨k + 1, _, by omega, by go_num, r1, by simp [HS.out], Lib.hid ?_, (rowAt_setCell_ne _ _ _ _ _ (by omega)).trans HC.out, HB.out.setCell (p := ⟨w.heap.size + 1, k, none⟩) (by simp) _⟩, by simp [intOf]; omega⟩
      intro i hi
      by_cases hi0 : i = k
      · subst hi0
        rw [Array.getElem?_setIfInBounds_self_of_lt hkc]
      · rw [Array.getElem?_setIfInBounds_ne (Ne.symm hi0)]
        exact hf.out i (by omega)
    · obtain rfl : N = k := by omega
      have HL := Lib.hid (HV.out.below hB (Nat.le_refl _))
      go_wp2_with fail
      refine (CO _ HL.out).mono ?_
      rintro e w2 ⟨a2, rfl, l2, b2⟩
      have s0 : rowAt w2 (w.heap.size + 1) = some cur := brow b2 hr
      have B2 := bnext hB b2 hB.size
      have L2 := Lib.hid l2
      have lt2 : w.heap.size + 1 < wr.heap.size := rowAt_lt hr
      have HM2 := Lib.hid HM.out
      clear b2 hr rC l2 HL CO hB
      have base := Lib.hid lt2
      clear lt2
      generalize wr.heap.size = b0 at *
      go_wp2_with fail
      go_loopw [25] (fun i W => ∃ (k : Nat) (cur : Array Value), k ≤ g.m ∧ i = .int .i64 k ∧ rowAt W (w.heap.size + 1) = some cur ∧ cur.size = N ∧ Hid (∀ i, i < N → cur[i]? = some (siteK g.p k i)) ∧ Hid (IsList W b0 (.slice a2 g.m g.m) 2 g.m (outC g.p)) ∧ Below w.heap.size w W) (fun i _ => g.m - (intOf i).toNat)
      case atStart => exact ⟨0, cur, by omega, rfl, s0, hs, Lib.hid (fun i hi => hf.out i hi), L2, B2⟩
      case round =>
        clear s0 B2 L2 hf hs
        obtain ⟨k, cur, hk, rfl, hr, hs, hf, hL, hB⟩ := hrel
        by_cases hlt : k < g.m
        · obtain ⟨g', rfl, hg', c0, c1⟩ : ∃ g', a2 = some ⟨g', 0, none⟩ ∧ g' < wr.heap.size ∧ wr.cell? ⟨g', k * 2, none⟩ = some (.int .i64 (g.p (k * 2))) ∧ wr.cell? ⟨g', k * 2 + 1, none⟩ = some (.int .i32 (g.p (k * 2 + 1))) := by
            rcases hL.out with ⟨h0, _⟩ | ⟨g', cap', cur', e, hg, hr', hs', hf'⟩
            · omega
            · cases e
              exact ⟨g', rfl, rowAt_lt hr', by rw [cell_of_rowAt hr', ← outC_0]; exact hf' _ (by omega), by rw [cell_of_rowAt hr', ← outC_1]; exact hf' _ (by omega)⟩
          have hm4 := HM.out
          obtain ⟨p0, p1, p2, p3⟩ := HP.out k hlt
          have hpn : g.p (k * 2) < N := by rw [← HNN.out]; exact p1
          obtain ⟨q, hq⟩ := Int.eq_ofNat_of_zero_le p0
          have hqN : q < N := by omega
          have hqc : q < cur.size := by omega
          have HQ := Lib.hid hq
          rw [hq] at c0
          have j0 : 0 ≤ (k : Int) := by omega
          have j1 : (k : Int) < g.m := by omega
          have q0 : 0 ≤ (q : Int) := by omega
          have q1 : (q : Int) < N := by omega
          have lt := rowAt_lt hr
          clear p0 p1 hpn hq
          go_wp2_with fail
          refine gen_world fun W hW => ?_
          have y0 : W.cell? ⟨wr.heap.size, 0, none⟩ = some (.int .i64 (q : Int)) := by rw [hW]; simp [go_sem]
          have y1 : W.cell? ⟨wr.heap.size, 1, none⟩ = some (.int .i32 (g.p (k * 2 + 1))) := by rw [hW]; simp [go_sem]
          have y2 : wr.heap.size < W.heap.size := by rw [hW]; simp
          have rL : rowAt W (w.heap.size + 1) = some cur := by rw [hW]; exact (rowAt_alloc_past _ _ _ lt).trans hr
          have BW := Lib.hid (show Below w.heap.size w W from by rw [hW]; exact hB.alloc hB.size _)
          have LW := Lib.hid (show IsList W b0 (.slice (some ⟨g', 0, none⟩) g.m g.m) 2 g.m (outC g.p) from by rw [hW]; exact hL.out.below ((Below.refl _ _).alloc (Nat.le_refl _) _) (Nat.le_refl _))
          clear hW c0 c1 hL hB hr
          refine wp_region_held_drew (S := fun w' => (w'.cell? ⟨wr.heap.size, 0, none⟩ = some (.int .i64 (q : Int)) ∧ w'.cell? ⟨wr.heap.size, 1, none⟩ = some (.int .i32 (g.p (k * 2 + 1)))) ∧ wr.heap.size < w'.heap.size) (by kernel_rfl) (⟨⟨y0, y1⟩, y2⟩) (fun hH => ?_)
          refine wpAnyH_take (i := 0) (v := .slice (some ⟨w.heap.size + 1, 0, none⟩) N N) rfl (by kernel_rfl) (by kernel_rfl) (by kernel_rfl) (fun _ _ _ h => h) (Or.inl ⟨by rfl, ?_⟩) hH ?_
          · intro w1 hS; (try dsimp only at hS); go_simp
          (try simp only [List.getElem_toArray]); (try simp only [List.getElem_cons_succ]); (try simp only [List.getElem_cons_zero]); (try simp only [Act.put]); (try simp only [List.setIfInBounds_toArray]); (try simp only [List.set_cons_succ]); (try simp only [List.set_cons_zero])
          refine wpAnyH_take (i := 1) (v := .pointer (some ⟨wr.heap.size, 0, none⟩)) rfl (by kernel_rfl) (by kernel_rfl) (by kernel_rfl) (fun _ _ _ h => h) (Or.inl ⟨by rfl, ?_⟩) hH ?_
          · intro w1 hS; (try dsimp only at hS); go_simp
          (try simp only [List.getElem_toArray]); (try simp only [List.getElem_cons_succ]); (try simp only [List.getElem_cons_zero]); (try simp only [Act.put]); (try simp only [List.setIfInBounds_toArray]); (try simp only [List.set_cons_succ]); (try simp only [List.set_cons_zero])
          refine wpAnyH_take (i := 2) (v := .agg #[.int .i64 (q : Int)]) rfl (by kernel_rfl) (by kernel_rfl) (by kernel_rfl) (fun _ _ _ h => h) (Or.inl ⟨by rfl, ?_⟩) hH ?_
          · intro w1 hS; (try dsimp only at hS); have u0 := hS.1.1; go_simp
          (try simp only [List.getElem_toArray]); (try simp only [List.getElem_cons_succ]); (try simp only [List.getElem_cons_zero]); (try simp only [Act.put]); (try simp only [List.setIfInBounds_toArray]); (try simp only [List.set_cons_succ]); (try simp only [List.set_cons_zero])
          refine wpAnyH_take (i := 4) (v := .agg #[.int .i64 (q : Int), .int .i32 (g.p (k * 2 + 1))]) rfl (by kernel_rfl) (by kernel_rfl) (by kernel_rfl) (fun _ _ _ h => h) (Or.inl ⟨by rfl, ?_⟩) hH ?_
          · intro w1 hS; (try dsimp only at hS); have u0 := hS.1.1; have u1 := hS.1.2; go_simp
          (try simp only [List.getElem_toArray]); (try simp only [List.getElem_cons_succ]); (try simp only [List.getElem_cons_zero]); (try simp only [Act.put]); (try simp only [List.setIfInBounds_toArray]); (try simp only [List.set_cons_succ]); (try simp only [List.set_cons_zero])
          refine wpAnyH_take (i := 5) (v := .iface 139 (.agg #[.int .i64 (q : Int), .int .i32 (g.p (k * 2 + 1))])) rfl (by kernel_rfl) (by kernel_rfl) (by kernel_rfl) (fun _ _ _ h => h) (Or.inl ⟨by rfl, ?_⟩) hH ?_
          · intro w1 hS; (try dsimp only at hS); go_simp
          (try simp only [List.getElem_toArray]); (try simp only [List.getElem_cons_succ]); (try simp only [List.getElem_cons_zero]); (try simp only [Act.put]); (try simp only [List.setIfInBounds_toArray]); (try simp only [List.set_cons_succ]); (try simp only [List.set_cons_zero])
          refine wpAnyH_ready (rs := [3]) (by kernel_rfl) (by simp) (AllReadyH.cons rfl (fun K hK => ?_) AllReadyH.nil)
          go_simp
          refine (spotAt_any _ _).mono ?_
          rintro x wx ⟨rfl, bx⟩
          have rX : rowAt wx (w.heap.size + 1) = some cur := brow bx (show rowAt W.drew (w.heap.size + 1) = some cur from rL)
          have BX := BW.out.drew.trans (bx.mono BW.out.drew.size)
          have LX := Lib.hid (LW.out.drew.below bx (Nat.le_refl _))
          have rCX : True := trivial
          go_simp
          refine hK.out _ _ ⟨⟨(bx.cell (p := ⟨wr.heap.size, 0, none⟩) hH.2).trans hH.1.1, (bx.cell (p := ⟨wr.heap.size, 1, none⟩) hH.2).trans hH.1.2⟩, Nat.lt_of_lt_of_le hH.2 bx.size⟩ (fun hG => ?_)
          clear hK K hH
          replace hH := hG
          clear hG
          (try simp only [List.getElem_toArray]); (try simp only [List.getElem_cons_succ]); (try simp only [List.getElem_cons_zero]); (try simp only [Act.put]); (try simp only [List.setIfInBounds_toArray]); (try simp only [List.set_cons_succ]); (try simp only [List.set_cons_zero])
          refine wpAnyH_take (i := 6) (v := .pointer (some ⟨w.heap.size + 1, q, none⟩)) rfl (by kernel_rfl) (by kernel_rfl) (by kernel_rfl) (fun _ _ _ h => h) (Or.inl ⟨by rfl, ?_⟩) hH ?_
          · intro w1 hS; (try dsimp only at hS); go_simp
          (try simp only [List.getElem_toArray]); (try simp only [List.getElem_cons_succ]); (try simp only [List.getElem_cons_zero]); (try simp only [Act.put]); (try simp only [List.setIfInBounds_toArray]); (try simp only [List.set_cons_succ]); (try simp only [List.set_cons_zero])
          have kk : wx.cell? ⟨w.heap.size + 1, q, none⟩ = some (cur[q]'hqc) := by rw [cell_of_rowAt rX, Array.getElem?_eq_getElem hqc]
          have fr := frozen_of_rowAt rX
          refine wpAnyH_ready (rs := [7]) (by kernel_rfl) (by simp) (AllReadyH.cons rfl (fun K hK => ?_) AllReadyH.nil)
          go_simp
          refine hK.out _ _ ⟨⟨(World.cell?_of_block (heap_setCell_other wx ⟨w.heap.size + 1, q, none⟩ wr.heap.size _ (Nat.ne_of_gt lt))).trans hH.1.1, (World.cell?_of_block (heap_setCell_other wx ⟨w.heap.size + 1, q, none⟩ wr.heap.size _ (Nat.ne_of_gt lt))).trans hH.1.2⟩, by simpa using hH.2⟩ (fun hG => ?_)
          clear hK K hH hG kk fr
          (try simp only [List.getElem_toArray]); (try simp only [List.getElem_cons_succ]); (try simp only [List.getElem_cons_zero]); (try simp only [Act.put]); (try simp only [List.setIfInBounds_toArray]); (try simp only [List.set_cons_succ]); (try simp only [List.set_cons_zero])
          refine wpAnyH_done (by kernel_rfl) ?_ _
          have R3 := rowAt_setCell_at wx (w.heap.size + 1) q (.iface 139 (.agg #[.int .i64 (q : Int), .int .i32 (g.p (k * 2 + 1))])) (by rw [rX]; rfl)
          rw [rX, Option.getD_some] at R3
          have L3 : IsList (wx.setCell ⟨w.heap.size + 1, q, none⟩ (.iface 139 (.agg #[.int .i64 (q : Int), .int .i32 (g.p (k * 2 + 1))]))) b0 (.slice (some ⟨g', 0, none⟩) g.m g.m) 2 g.m (outC g.p) := by
            have hb := base.out
            rcases LX.out with h | ⟨gb, cc, cu, e, hg, hr', hs', hf'⟩
            · exact .inl h
            · exact .inr ⟨gb, cc, cu, e, hg, (rowAt_setCell_ne _ _ _ _ _ (by omega)).trans hr', hs', hf'⟩
          have B3 := BX.setCell (p := ⟨w.heap.size + 1, q, none⟩) (by simp) (.iface 139 (.agg #[.int .i64 (q : Int), .int .i32 (g.p (k * 2 + 1))]))
          have HL3 := Lib.hid L3
          clear rX LX L3 BX rL BW LW y0 y1 y2
          generalize wx.setCell ⟨w.heap.size + 1, q, none⟩ (.iface 139 (.agg #[.int .i64 (q : Int), .int .i32 (g.p (k * 2 + 1))])) = W4 at *
          go_wp2_with fail
          refine ⟨⟨k + 1, _, by omega, by go_num, R3, by simp [hs], Lib.hid ?_, HL3, B3⟩, by simp [intOf]; omega⟩
          intro i hi
          simp only [siteK]
          by_cases hi0 : i = q
          · subst hi0
            rw [Array.getElem?_setIfInBounds_self_of_lt hqc, if_pos HQ.out.symm, HQ.out]
            unfold outV
            rfl
          · rw [Array.getElem?_setIfInBounds_ne (Ne.symm hi0), if_neg (by rw [HQ.out]; omega)]
            exact hf.out i hi
        · obtain rfl : k = g.m := by omega
          go_wp2_with fail
          go_ret
          exact ⟨_, rfl, .inr ⟨w.heap.size + 1, _, cur, rfl, by omega, hr, by omega, fun i hi => hf.out i (by omega)⟩, hB⟩
end Go.Proofs.Ytfdoehakpeddnaa
