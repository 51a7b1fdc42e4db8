/- The places of all tiles that are not whole: both sides. -/
import Derived.Test.YtkimngffbioeeaaRowT
import Derived.Test.YtkimngffbioeeaaLift
import Derived.Test.YtkimngffbioeeaaPlOf
import Derived.Test.YtkimngffbioeeaaAll
namespace Go.Proofs.Ytkimngffbioeeaa
open Go.RowKit Go.Shelf
attribute [local go_sem] Oper.semAt_some

/-- Of some places those whose tiles are not whole. -/
def Rf.wrongs (r : Rf) {h w : Nat} (l : List (Pl h w)) : List (Pl h w) := l.filter fun x => decide (r.t (x.1.1 * 8 + x.1.2) ≠ 0)
theorem Rf.wrongs_hit {r : Rf} {h w : Nat} {l : List (Pl h w)} {x : Pl h w} (e : r.t (x.1.1 * 8 + x.1.2) ≠ 0) : r.wrongs (l ++ [x]) = r.wrongs l ++ [x] := by simp [Rf.wrongs, e]
theorem Rf.wrongs_miss {r : Rf} {h w : Nat} {l : List (Pl h w)} {x : Pl h w} (e : ¬ r.t (x.1.1 * 8 + x.1.2) ≠ 0) : r.wrongs (l ++ [x]) = r.wrongs l := by simp only [Rf.wrongs, List.filter_append]; simp [e]
theorem Rf.wrongs_len {r : Rf} {h w : Nat} (l : List (Pl h w)) : (r.wrongs l).length ≤ l.length := List.length_filter_le _ _

set_option maxRecDepth 100000 in
set_option maxHeartbeats 1000000 in
theorem l03Wrong_any (n : Nat) (c : Array Value) (r : Rf) (hh ww : Nat) (hhe : r.h = hh) (hwe : r.w = ww) (h8 : hh ≤ 8) (w8 : ww ≤ 8) (w : World) (hr : rowAt w n = some c) (hR : IsRoof c r) :
    Calls Try.prog 88 #[.pointer (some ⟨n, 0, none⟩)] w (GivesP w (r.wrongs (plUpto hh ww (hh * ww)))) := by
  have hn := rowAt_lt hr
  obtain ⟨i0, hi0, hz0, hz1, hz2⟩ := info_parts A_infoPc
  have hsz : hh * ww ≤ 64 := Nat.mul_le_mul h8 w8
  have ow := owns_empty w 53 2
  have hB0 : Below w.heap.size w (w.alloc (.cells #[] 53)) := (Below.refl _ _).alloc (Nat.le_refl _) _
  have r0 := brow hB0 hr
  go_enter Try.func88, Try.ntmps88
  go_wp2_with fail
  refine (l01All_any n c r hh ww hhe hwe h8 w8 _ r0 hR).mono ?_
  rintro e w1 ⟨va, rfl, la, b1⟩
  have ow1 := owns_below ow b1
  have B1 := bnext hB0 b1 hB0.size
  have hs1 : w.heap.size < w1.heap.size := by have := b1.size; simp at this; omega
  rw [plUpto_size (Nat.le_refl _)] at la
  replace la := la.mono (show w.heap.size + 1 ≤ _ by simp)
  obtain ⟨aa, ca, rfl⟩ := la.shape
  have LA := Lib.hid la
  have HR := Lib.hid hr
  have cs := Coll.start B1 0 0
  clear b1 ow hB0 r0 hr la B1
  go_wp2_with fail
  go_loopw [3, 5] (fun v i W => ∃ m : Nat, m ≤ hh * ww ∧ i = .int .i64 m ∧ W.ownsRow w.heap.size 53 2 v (r.wrongs (plUpto hh ww m)).length (plCells (r.wrongs (plUpto hh ww m))) ∧ Coll w w1 W v) (fun _ i _ => hh * ww - (intOf i).toNat)
  case atStart => exact ⟨0, by omega, rfl, ow1, cs⟩
  case round =>
    clear ow1 cs
    obtain ⟨m, hm, rfl, hv, hC⟩ := hrel
    by_cases hlt : m < hh * ww
    · have hp := pl_in hlt
      have i8 : m / ww < 8 := by omega
      have j8 : m % ww < 8 := by omega
      have rW := brow hC.bel HR.out
      obtain ⟨h0, _⟩ | ⟨g, cap, cur, e1, hg, hgr, hgs, hgf⟩ := LA.out.by_rows (fun g h1 h2 => hC.rows g (by omega) h2)
      · omega
      cases e1
      have c0 : wr.cell? ⟨g, m * 2, none⟩ = some (.int .i8 ((m / ww : Nat) : Int)) := (cell_of_rowAt hgr _).trans ((hgf _ (by omega)).trans (congrArg (fun z => some (Value.int .i8 z)) (plAt_even (Nat.le_refl _) hlt)))
      have c1 : wr.cell? ⟨g, m * 2 + 1, none⟩ = some (.int .i8 ((m % ww : Nat) : Int)) := (cell_of_rowAt hgr _).trans ((hgf _ (by omega)).trans (congrArg (fun z => some (Value.int .i8 z)) (plAt_odd (Nat.le_refl _) hlt)))
      have m0 : 0 ≤ (m : Int) := by omega
      have m1 : (m : Int) < ((hh * ww : Nat) : Int) := by omega
      have hpl := r.wrongs_len (plUpto hh ww m)
      have hpl2 := plUpto_len hh ww m
      clear hgf hgs
      obtain ⟨N, hN⟩ : ∃ N, N = hh * ww := ⟨_, rfl⟩
      have HN := Lib.hid hN
      rw [← hN] at m1 hlt hm hsz
      generalize hi : m / ww = i at *
      generalize hj : m % ww = j at *
      have HI := Lib.hid hi
      have HJ := Lib.hid hj
      clear hi hj
      go_wp2_with fail
      refine (l01At_any n c r i j _ rW hR i8 j8).mono ?_
      rintro e w2 ⟨rfl, b2⟩
      have hv2 := owns_below hv b2
      have hC2 := hC.call b2
      have d0 : w2.cell? ⟨g, m * 2, none⟩ = some (.int .i8 (i : Int)) := (b2.cell (p := ⟨g, m * 2, none⟩) (rowAt_lt hgr)).trans c0
      have d1 : w2.cell? ⟨g, m * 2 + 1, none⟩ = some (.int .i8 (j : Int)) := (b2.cell (p := ⟨g, m * 2 + 1, none⟩) (rowAt_lt hgr)).trans c1
      have hgw2 : g < w2.heap.size := Nat.lt_of_lt_of_le (rowAt_lt hgr) b2.size
      clear hv hC b2 c0 c1 hgr rW
      have hsC := hC2.bel.size
      by_cases hx : r.t (i * 8 + j) ≠ 0
      · have hxb : (r.t (i * 8 + j) != 0) = true := by simpa using hx
        clear hx
        go_wp2_with (at_builtin; refine wpList_append_own_at _ rfl _ _ 27 rfl w.heap.size 53 i0 (.agg #[.int .i8 0, .int .i8 0]) 2 2 Try.underlying27 hi0 hz0 hz1 hz2 rfl (by decide) _ _ _ rfl (hv2.alloc _) ⟨w2.heap.size, 0, none⟩ 1 1 [.int .i8 i, .int .i8 j] rfl rfl (cell_two_new _ _ _ _) (by simp [Value.oneCell']) (by unfold maxLen; omega) (by omega) (by simp; omega) ?_; intro v' w3 own3 grow3 _ at3)
        have hC3 := hC2.append hs1 grow3 (at3.imp (fun h => h) (fun h => h.trans (by simp)))
        clear hv2 hC2 d0 d1 grow3 at3
        go_wp2_with fail
        refine ⟨⟨m + 1, by omega, by go_num, ?_, hC3⟩, by simp [intOf]; omega⟩
        rw [plUpto_next (by rw [← HN.out]; exact hlt), Rf.wrongs_hit (by simp only [HI.out, HJ.out]; simpa using hxb), plCells_snoc]
        simp only [HI.out, HJ.out]
        simpa using own3
      · have hxb : (r.t (i * 8 + j) != 0) = false := by simpa using hx
        have HX := Lib.hid hx
        clear hx
        go_wp2_with fail
        refine ⟨⟨m + 1, by omega, by go_num, ?_, hC2⟩, by simp [intOf]; omega⟩
        rw [plUpto_next (by rw [← HN.out]; exact hlt), Rf.wrongs_miss (by simp only [HI.out, HJ.out]; exact HX.out)]
        exact hv2
    · obtain rfl : m = hh * ww := by omega
      go_wp2_with fail
      go_ret
      exact ⟨_, rfl, IsList.of_pls hv, hC.bel⟩
end Go.Proofs.Ytkimngffbioeeaa
