/- All flows of a gutter: the program's list. -/
import Derived.Test.YtfdoehakpeddnaaFlo
namespace Go.Proofs.Ytfdoehakpeddnaa
open Go.RowKit

open Classical in
/-- There is a pipe at a cell. -/
noncomputable def Gt.pipe (g : Gt) (j : Nat) : Bool := decide (∃ q, q < g.m ∧ g.p (q * 2) = j)
theorem Gt.pipe_t {g : Gt} {j : Nat} (h : ∃ q, q < g.m ∧ g.p (q * 2) = j) : g.pipe j = true := by simp only [Gt.pipe, decide_eq_true_eq]; exact h
theorem Gt.pipe_f {g : Gt} {j : Nat} (h : ∀ q, q < g.m → g.p (q * 2) ≠ j) : g.pipe j = false := by simp only [Gt.pipe, decide_eq_false_iff_not]; exact fun ⟨q, h1, h2⟩ => h q h1 h2
/-- To where a cell flows. -/
noncomputable def Gt.to (g : Gt) (j : Nat) : Int := g.toB (g.pipe j) j
theorem flowSite_any (c : Array Value) (g : Gt) (v : Value) (j : Nat) (w : World) (hG : IsGut c g v) (hj : (j : Int) < g.n) (hn : g.n ≤ 17) :
    Calls Try.prog 103 #[.agg c, siteK g.p g.m j] w fun e w' => e = .returned (.int .i64 (g.to j)) ∧ Below w.heap.size w w' := by
  unfold Gt.to
  rcases siteK_is g.p j g.m with ⟨e, h⟩ | ⟨x, e, h⟩
  · rw [e, Gt.pipe_f h]; exact flowOf_spot c g v j w hG hj hn
  · rw [e, Gt.pipe_t h, show g.toB true j = -1 from if_pos (.inl rfl)]; exact flowOf_out c g v j x w hG
set_option maxRecDepth 100000 in
set_option maxHeartbeats 2000000 in
theorem flows_any (b : Nat) (c : Array Value) (g : Gt) (v : Value) (N : Nat) (w : World) (hG : IsGut c g v) (hv : IsList w b v 2 g.m (pipeV g.p)) (ho : g.Ok) (hN : g.n = N) :
    Calls Try.prog 87 #[.agg c] w (Gives1 w 1 N (fun i => .int .i64 (g.to i))) := by
  have hc := hG.size
  have hn17 := ho.n17
  have hN1 : N ≤ 17 := by omega
  have k0 : ∀ h : 0 < c.size, c[0] = .int .i8 N := fun h => by rw [← hN]; exact hG.cells h
  have hN0 : 0 ≤ (N : Int) := by omega
  have CO := fun W H => sites_any b c g v N W hG H ho hN
  have CF := fun W (j : Nat) (hj : (j : Int) < N) => flowSite_any c g v j W hG (by omega) hn17
  have HV := Lib.hid hv
  generalize g.to = to at *
  generalize siteK g.p g.m = S at *
  obtain ⟨i0, hi0, hz0, hz1, hz2⟩ := info_parts A_infoI6
  have rA : rowAt (w.alloc (.cells c 37)) w.heap.size = some c := rowAt_alloc_at _ _ _ _ rfl
  have hB0 : Below w.heap.size w (w.alloc (.cells c 37)) := (Below.refl _ _).alloc (Nat.le_refl _) _
  clear hG hv ho hN hn17
  go_enter Try.func87, Try.ntmps87
  go_wp2_with (at_make; refine wpList_make_full _ rfl _ _ 30 rfl (w.heap.size + 1) 2 i0 (.int .i64 0) 1 Try.underlying30 hi0 hz0 hz1 .i8 .i8 N N N rfl rfl rfl rfl (by rw [hz2]; omega) (by unfold maxLen; omega) (by simp) ?_)
  intro w1 own1 grow1
  have rg : ∃ cur, rowAt w1 (w.heap.size + 1) = some cur ∧ cur.size = N := by
    obtain ⟨hl, ⟨h, _⟩ | ⟨g', cap', cur, he, hg, hh, hn', hm', hs, ht⟩⟩ := own1
    · cases h
    · cases he
      refine ⟨cur, ?_, by omega⟩
      have := rowAt_of_heap hh
      simpa using this
  have B1 : Below w.heap.size w w1 := hB0.grown grow1 (by simp) (by intro x hx; cases hx)
  have r1 : rowAt w1 w.heap.size = some c := by
    have bb : Below (w.heap.size + 1) (w.alloc (.cells c 37)) w1 := (Below.refl (w.heap.size + 1) _).grown grow1 (by simp) (by intro x hx; cases hx)
    exact (rowAt_below bb _ (by omega)).trans rA
  have lt1 := rowAt_lt r1
  obtain ⟨cur0, s0, hs0⟩ := rg
  clear own1 grow1 rA hB0
  have HL := Lib.hid (HV.out.below B1 (Nat.le_refl _))
  go_wp2_with fail
  refine (CO _ HL.out).mono ?_
  rintro e w2 ⟨a2, rfl, l2, b2⟩
  have r2 := brow b2 r1
  have t2 := brow b2 s0
  have B2 := bnext B1 b2 B1.size
  have L2 := Lib.hid l2
  have lt2 : w.heap.size + 1 < w1.heap.size := rowAt_lt s0
  have base := Lib.hid lt2
  clear b2 r1 s0 lt1 l2 HL CO B1 lt2
  generalize w1.heap.size = b0 at *
  go_wp2_with fail
  go_loopw [4, 5, 12] (fun _ _ i W => ∃ (k : Nat) (cur : Array Value), k ≤ N ∧ i = .int .i64 k ∧ rowAt W (w.heap.size + 1) = some cur ∧ cur.size = N ∧ Hid (∀ i, i < k → cur[i]? = some (.int .i64 (to i))) ∧ rowAt W w.heap.size = some c ∧ Hid (IsList W b0 (.slice a2 N N) 1 N S) ∧ Below w.heap.size w W) (fun _ _ i _ => N - (intOf i).toNat)
  case atStart => exact ⟨0, cur0, by omega, rfl, t2, hs0, Lib.hid (by omega), r2, L2, B2⟩
  case round =>
    clear r2 t2 L2 B2 hs0
    obtain ⟨k, cur, hk, rfl, hr, hs, hf, rC, hL, hB⟩ := hrel
    by_cases hlt : k < N
    · obtain ⟨g', rfl, hg', c0⟩ : ∃ g', a2 = some ⟨g', 0, none⟩ ∧ g' < wr.heap.size ∧ wr.cell? ⟨g', k, none⟩ = some (S k) := by
        rcases hL.out with ⟨h0, _⟩ | ⟨g', cap', cur', e, hg, hr', hs', hf'⟩
        · omega
        · cases e
          exact ⟨g', rfl, rowAt_lt hr', by rw [cell_of_rowAt hr']; exact hf' _ (by omega)⟩
      have j0 : 0 ≤ (k : Int) := by omega
      have j1 : (k : Int) < N := by omega
      have hkc : k < cur.size := by omega
      have lt := rowAt_lt hr
      have CFK := fun W => CF W k j1
      generalize S k = sk at *
      go_wp2_with fail
      refine (CFK _).mono ?_
      rintro e w3 ⟨rfl, b3⟩
      have hr3 := brow b3 hr
      have rC3 := brow b3 rC
      have B3 := bnext hB b3 hB.size
      have hL3 := hL.out.below b3 (Nat.le_refl _)
      have kk : w3.cell? ⟨w.heap.size + 1, k, none⟩ = some cur[k] := by rw [cell_of_rowAt hr3, Array.getElem?_eq_getElem hkc]
      have fr := frozen_of_rowAt hr3
      have HB3 := Lib.hid B3
      have HR3 := Lib.hid hr3
      have HC3 := Lib.hid rC3
      have HS := Lib.hid hs
      have HL3 := Lib.hid hL3
      clear b3 hr rC hB hL hL3 hr3 rC3 B3 hs c0 CFK
      go_wp2_with fail
      have R3 := rowAt_setCell_at w3 (w.heap.size + 1) k (.int .i64 (to k)) (by rw [HR3.out]; rfl)
      rw [HR3.out, Option.getD_some] at R3
      have L4 : IsList (w3.setCell ⟨w.heap.size + 1, k, none⟩ (.int .i64 (to k))) b0 (.slice (some ⟨g', 0, none⟩) N N) 1 N S := by
        have hb := base.out
        rcases HL3.out with h | ⟨gb, cc, cu, e, hg, hr', hs', hf'⟩
        · exact .inl h
        · exact .inr ⟨gb, cc, cu, e, hg, (rowAt_setCell_ne _ _ _ _ _ (by omega)).trans hr', hs', hf'⟩
      refine ⟨⟨k + 1, _, by omega, by go_num, R3, by simp [HS.out], Lib.hid ?_, (rowAt_setCell_ne _ _ _ _ _ (by omega)).trans HC3.out, Lib.hid L4, HB3.out.setCell (p := ⟨w.heap.size + 1, k, none⟩) (by simp) _⟩, by simp [intOf]; omega⟩
      intro i hi
      by_cases hi0 : i = k
      · subst hi0
        rw [Array.getElem?_setIfInBounds_self_of_lt hkc]
      · rw [Array.getElem?_setIfInBounds_ne (Ne.symm hi0)]
        exact hf.out i (by omega)
    · obtain rfl : N = k := by omega
      go_wp2_with fail
      go_ret
      exact ⟨_, rfl, .inr ⟨w.heap.size + 1, _, cur, rfl, by omega, hr, by omega, fun i hi => hf.out i (by omega)⟩, hB⟩
end Go.Proofs.Ytfdoehakpeddnaa
