/- The places of all tiles that are not whole: both sides. -/
import Derived.Test.YtcopdilmkfmpiaaDoorRowT
import Derived.Test.YtcopdilmkfmpiaaDoorLift
import Derived.Test.YtcopdilmkfmpiaaDoorPlOf
import Derived.Test.YtcopdilmkfmpiaaDoorAll
namespace Go.Proofs.YtcopdilmkfmpiaaDoor
open Go.RowKit Go.Shelf
attribute [local go_sem] Oper.semAt_some

/-- Of some places those whose tiles are not whole. -/
def Rf.wrongs (r : Rf) {h w : Nat} (l : List (Pl h w)) : List (Pl h w) := l.filter fun x => decide (r.t (x.1.1 * 8 + x.1.2) ≠ 0)
theorem Rf.wrongs_hit {r : Rf} {h w : Nat} {l : List (Pl h w)} {x : Pl h w} (e : r.t (x.1.1 * 8 + x.1.2) ≠ 0) : r.wrongs (l ++ [x]) = r.wrongs l ++ [x] := by simp [Rf.wrongs, e]
theorem Rf.wrongs_miss {r : Rf} {h w : Nat} {l : List (Pl h w)} {x : Pl h w} (e : ¬ r.t (x.1.1 * 8 + x.1.2) ≠ 0) : r.wrongs (l ++ [x]) = r.wrongs l := by simp only [Rf.wrongs, List.filter_append]; simp [e]
theorem Rf.wrongs_len {r : Rf} {h w : Nat} (l : List (Pl h w)) : (r.wrongs l).length ≤ l.length := List.length_filter_le _ _

set_option maxRecDepth 100000 in
set_option maxHeartbeats 4000000 in
theorem wrong_any (c : Array Value) (r : Rf) (hh ww : Nat) (hhe : r.h = hh) (hwe : r.w = ww) (h8 : hh ≤ 8) (w8 : ww ≤ 8) (w : World) (hR : IsRoof c r) :
    Calls Tryd.prog 101 #[.agg c] w (GivesP w (r.wrongs (plUpto hh ww (hh * ww)))) := by
  have hc := hR.size
  obtain ⟨i0, hi0, hz0, hz1, hz2⟩ := info_parts A_infoPc
  refine (callsIn_wide (n := 3)).1 ?_
  refine callsIn_of_wp_marks Tryd.func101 rfl trivial ?_ rfl
  simp only [Tryd.ntmps101, List.size_toArray, List.length_cons, List.length_nil, Nat.reduceAdd, Nat.reduceSub, Array.replicate_succ, Array.replicate_zero, List.push_toArray, List.append_toArray, List.nil_append, List.cons_append]
  gi_wp2_with (refine ⟨trivial, ?_⟩; gi_at_call 120; refine (callsIn_wide.2 (places_any c _)).mono ?_; rintro e w' ⟨rfl, rfl⟩)
  obtain ⟨W0, hW0⟩ : ∃ W0, ((w.alloc (.cells c 35)).alloc (.cells #[.slice none 0 0] 39)).alloc (.cells c 35) = W0 := ⟨_, rfl⟩
  have hsz : W0.heap.size = w.heap.size + 3 := by rw [← hW0]; simp
  have rA : RowT W0 w.heap.size 35 c := by rw [← hW0]; exact ((RowT.new w 35 c).alloc _).alloc _
  have rC0 : RowT W0 (w.heap.size + 1) 39 #[.slice none 0 0] := by
    have := (RowT.new (w.alloc (.cells c 35)) 39 #[.slice none 0 0]).alloc (.cells c 35)
    rw [hW0] at this; simpa using this
  have rC : Boxed W0 (w.heap.size + 1) 39 (.slice none 0 0) := rC0
  have rD : RowT W0 (w.heap.size + 1 + 1) 35 c := by
    have := RowT.new ((w.alloc (.cells c 35)).alloc (.cells #[.slice none 0 0] 39)) 35 c
    rw [hW0] at this; simpa using this
  have hB0 : Below w.heap.size w W0 := by rw [← hW0]; exact (((Below.refl _ w).alloc (Nat.le_refl _) _).alloc (by simp) _).alloc (by simp; omega) _
  rw [hW0]
  clear hW0
  refine wpIn_rangeFunc_ownH rfl (by omega) (gf := 126) (lb := #[.pointer (some ⟨w.heap.size + 1 + 1, 0, none⟩)]) rfl trivial (enters_of Tryd.func126 (by kernel_rfl) rfl)
    (places_stops 2 (by omega) (w.heap.size + 1 + 1) w.heap.size c r hh ww hhe hwe h8 w8 hR W0 rD.row) KpR.trans (KpR.put (by omega) (by omega)) (Below.refl _ _) (fun _ => rfl)
    (fun pre W => ((RowT W w.heap.size 35 c ∧ RowT W (w.heap.size + 1 + 1) 35 c) ∧ (∃ v, Boxed W (w.heap.size + 1) 39 v ∧ W.ownsRow w.heap.size 59 2 v (r.wrongs pre).length (plCells (r.wrongs pre)) ∧ True)) ∧ Below w.heap.size w W)
    (fun _ _ _ => False)
    (OwnFrom.and (OwnFrom.and (OwnFrom.and (Own.from (RowT.own _ _ _) _) (Own.from (RowT.own _ _ _) _)) (Own.from (holdsRow_own w.heap.size (w.heap.size + 1) 39 59 2 (fun pre => (r.wrongs pre).length) (fun pre => plCells (r.wrongs pre)) (fun _ _ => True)) _)) (ownFrom_below (Nat.le_refl _) (by omega)))
    (fun _ _ _ _ _ hs _ _ => hs)
    ⟨⟨⟨rA, rD⟩, ⟨_, rC, World.ownsRow_nil _ _ _ _, trivial⟩⟩, hB0⟩
    (fun x a' W => ∃ Bx, w.heap.size + 1 + 1 < Bx ∧ RowT W Bx 59 #[.int .i8 (x.1.1 : Int), .int .i8 (x.1.2 : Int)] ∧ a' = { tmps := #[.agg c, .pointer (some ⟨w.heap.size, 0, none⟩), .slice none 0 0, .pointer (some ⟨w.heap.size + 1, 0, none⟩), .pointer (some ⟨Bx, 0, none⟩), .agg c, .func (.func 126) #[] #[.pointer (some ⟨w.heap.size + 1 + 1, 0, none⟩)], x.enc, undef, undef, undef, undef, undef, undef, undef, undef, undef], defers := [] })
    (fun x a' _ X Y row hs hg hr => by obtain ⟨Bx, h1, h2, h3⟩ := hs; exact ⟨Bx, h1, RowT.own Bx 59 (fun (_ : Unit) => #[Value.int .i8 (x.1.1 : Int), .int .i8 (x.1.2 : Int)]) () X Y row h2 hg (fun r e => (hr r e).2), h3⟩)
    ?assign ?body ?done ?stop
  case assign =>
    rintro l pre x W K ⟨⟨⟨gA, gD⟩, v, gv, gl, _⟩, hB1⟩ hK
    dsimp only [Pl.enc]
    gi_wp2
    refine hK _ _ ((KeepsOthers.alloc _ _).from _) ⟨(Below.refl _ W).alloc hB1.size _, fun c' h => (rowAt_alloc_past _ _ _ (rowAt_lt h)).trans h⟩ ⟨⟨⟨gA.alloc _, gD.alloc _⟩, v, gv.alloc _, gl.alloc _, trivial⟩, hB1.alloc hB1.size _⟩ ⟨W.heap.size, gD.lt, RowT.new W 59 _, rfl⟩
  case body =>
    rintro l pre x a' W hl ⟨rr, hrr⟩ ⟨⟨⟨gA, gD⟩, v, gv, gl, _⟩, hB1⟩ ⟨Bx, hBx, gX, rfl⟩ hlt
    have hpl := r.wrongs_len pre
    have x8 : x.1.1 < 8 := by have := x.2.1; omega
    have y8 : x.1.2 < 8 := by have := x.2.2; omega
    have hpre : pre.length < 64 := by
      have : hh * ww ≤ 8 * 8 := Nat.mul_le_mul h8 w8
      omega
    have CK := fun W => kind_any c r x.1.1 x.1.2 W hR x8 y8
    have u0 := gA.row
    have k0 := cell_of_rowAt gX.row 0
    have k1 := cell_of_rowAt gX.row 1
    simp at k0 k1
    gi_wp2
    refine ⟨trivial, (CallsIn.inRound l (callsIn_wide.2 (CK _))).mono ?_⟩
    rintro e W2 ⟨rfl, bW⟩
    have hb2 : Below w.heap.size w W2 := hB1.trans (bW.mono hB1.size)
    have gA2 := gA.below bW
    have gD2 := gD.below bW
    have gX2 := gX.below bW
    have hv : Boxed W2 (w.heap.size + 1) 39 v := RowT.below gv bW
    have hrow := owns_below gl bW
    have hc := hv.cell
    have kx0 := cell_of_rowAt gX2.row 0
    have kx1 := cell_of_rowAt gX2.row 1
    simp at kx0 kx1
    clear u0 k0 k1 CK
    by_cases hx : r.t (x.1.1 * 8 + x.1.2) ≠ 0
    · have hxb : (r.t (x.1.1 * 8 + x.1.2) != 0) = true := by simpa using hx
      gi_wp2_with (gi_at_builtin; refine wpListIn_append_own _ rfl _ _ 39 rfl w.heap.size 59 i0 (.agg #[.int .i8 0, .int .i8 0]) 2 2 Tryd.underlying39 hi0 hz0 hz1 hz2 rfl (by decide) _ _ _ rfl (hrow.alloc _) ⟨W2.heap.size, 0, none⟩ 1 1 [.int .i8 (x.1.1 : Int), .int .i8 (x.1.2 : Int)] rfl rfl (cell_two_new _ _ _ _) (by simp [Value.oneCell']) (by unfold maxLen; omega) (by omega) (by have := hb2.size; simp; omega) ?_; intro v' w1 hown' hgrow _; obtain ⟨g', cap', rfl⟩ := ownsRow_succ hown'; obtain ⟨hv1, hv2, hr2, hk2, hb3⟩ := hv.appended (by decide) hrow hb2.size (by omega) hown' hgrow; have hc1 := hv1.cell; have hf1 := hv1.frozen; have zA := (gA2.appended (by decide) hrow hgrow).other (B' := w.heap.size + 1) (o := 0) (by omega) (.slice (some ⟨g', 0, none⟩) ((r.wrongs pre).length + 1) cap'); have zD := (gD2.appended (by decide) hrow hgrow).other (B' := w.heap.size + 1) (o := 0) (by omega) (.slice (some ⟨g', 0, none⟩) ((r.wrongs pre).length + 1) cap'))
      refine ⟨((keeps_of_below bW).trans hk2).from _, ⟨(bW.mono hB1.size).trans hb3, fun c' h' => ?_⟩, ⟨⟨zA, zD⟩, _, hv2, by rw [Rf.wrongs_hit hx, plCells_snoc]; simpa using hr2, trivial⟩, hb2.trans hb3⟩
      rw [zD.row, ← gD.row]
      exact h'
    · have hxb : (r.t (x.1.1 * 8 + x.1.2) != 0) = false := by simpa using hx
      gi_wp2
      exact ⟨(keeps_of_below bW).from _, ⟨bW.mono hB1.size, fun c' h' => brow bW h'⟩, ⟨⟨gA2, gD2⟩, v, hv, by rw [Rf.wrongs_miss hx]; exact hrow, trivial⟩, hb2⟩
  case done =>
    rintro D ys W hD rfl ⟨⟨⟨gA, gD⟩, v, gv, gl, _⟩, hB1⟩ hK
    have hc := gv.cell
    gi_wp2
    refine ⟨by simp, .inl ⟨_, _, rfl, run_takeDeferred hK, ?_⟩⟩
    exact ⟨_, results_tmp rfl _ _ _, v, rfl, IsList.of_pls (ownsRow_putObj gl _ hK rfl), hB1.trans (belowK_b (w := w) (Nat.le_refl _) W D _ _ (by omega) hK rfl rfl)⟩
  case stop =>
    rintro D c pre W _ _ h _
    exact h.elim

set_option maxRecDepth 100000 in
set_option maxHeartbeats 1000000 in
theorem l03Wrong_any (n : Nat) (c : Array Value) (r : Rf) (hh ww : Nat) (hhe : r.h = hh) (hwe : r.w = ww) (h8 : hh ≤ 8) (w8 : ww ≤ 8) (w : World) (hr : rowAt w n = some c) (hR : IsRoof c r) :
    Calls Tryd.prog 51 #[.pointer (some ⟨n, 0, none⟩)] w (GivesP w (r.wrongs (plUpto hh ww (hh * ww)))) := by
  have hn := rowAt_lt hr
  obtain ⟨i0, hi0, hz0, hz1, hz2⟩ := info_parts A_infoPc
  have hsz : hh * ww ≤ 64 := Nat.mul_le_mul h8 w8
  have ow := owns_empty w 59 2
  have hB0 : Below w.heap.size w (w.alloc (.cells #[] 59)) := (Below.refl _ _).alloc (Nat.le_refl _) _
  have r0 := brow hB0 hr
  go_enter Tryd.func51, Tryd.ntmps51
  go_wp2_with fail
  refine (l01All_any n c r hh ww hhe hwe h8 w8 _ r0 hR).mono ?_
  rintro e w1 ⟨va, rfl, la, b1⟩
  have ow1 := owns_below ow b1
  have B1 := bnext hB0 b1 hB0.size
  have hs1 : w.heap.size < w1.heap.size := by have := b1.size; simp at this; omega
  rw [plUpto_size (Nat.le_refl _)] at la
  replace la := la.mono (show w.heap.size + 1 ≤ _ by simp)
  obtain ⟨aa, ca, rfl⟩ := la.shape
  have LA := Lib.hid la
  have HR := Lib.hid hr
  have cs := Coll.start B1 0 0
  clear b1 ow hB0 r0 hr la B1
  go_wp2_with fail
  go_loopw [3, 5] (fun v i W => ∃ m : Nat, m ≤ hh * ww ∧ i = .int .i64 m ∧ W.ownsRow w.heap.size 59 2 v (r.wrongs (plUpto hh ww m)).length (plCells (r.wrongs (plUpto hh ww m))) ∧ Coll w w1 W v) (fun _ i _ => hh * ww - (intOf i).toNat)
  case atStart => exact ⟨0, by omega, rfl, ow1, cs⟩
  case round =>
    clear ow1 cs
    obtain ⟨m, hm, rfl, hv, hC⟩ := hrel
    by_cases hlt : m < hh * ww
    · have hp := pl_in hlt
      have i8 : m / ww < 8 := by omega
      have j8 : m % ww < 8 := by omega
      have rW := brow hC.bel HR.out
      obtain ⟨h0, _⟩ | ⟨g, cap, cur, e1, hg, hgr, hgs, hgf⟩ := LA.out.by_rows (fun g h1 h2 => hC.rows g (by omega) h2)
      · omega
      cases e1
      have c0 : wr.cell? ⟨g, m * 2, none⟩ = some (.int .i8 ((m / ww : Nat) : Int)) := (cell_of_rowAt hgr _).trans ((hgf _ (by omega)).trans (congrArg (fun z => some (Value.int .i8 z)) (plAt_even (Nat.le_refl _) hlt)))
      have c1 : wr.cell? ⟨g, m * 2 + 1, none⟩ = some (.int .i8 ((m % ww : Nat) : Int)) := (cell_of_rowAt hgr _).trans ((hgf _ (by omega)).trans (congrArg (fun z => some (Value.int .i8 z)) (plAt_odd (Nat.le_refl _) hlt)))
      have m0 : 0 ≤ (m : Int) := by omega
      have m1 : (m : Int) < ((hh * ww : Nat) : Int) := by omega
      have hpl := r.wrongs_len (plUpto hh ww m)
      have hpl2 := plUpto_len hh ww m
      clear hgf hgs
      obtain ⟨N, hN⟩ : ∃ N, N = hh * ww := ⟨_, rfl⟩
      have HN := Lib.hid hN
      rw [← hN] at m1 hlt hm hsz
      generalize hi : m / ww = i at *
      generalize hj : m % ww = j at *
      have HI := Lib.hid hi
      have HJ := Lib.hid hj
      clear hi hj
      go_wp2_with fail
      refine (l01At_any n c r i j _ rW hR i8 j8).mono ?_
      rintro e w2 ⟨rfl, b2⟩
      have hv2 := owns_below hv b2
      have hC2 := hC.call b2
      have d0 : w2.cell? ⟨g, m * 2, none⟩ = some (.int .i8 (i : Int)) := (b2.cell (p := ⟨g, m * 2, none⟩) (rowAt_lt hgr)).trans c0
      have d1 : w2.cell? ⟨g, m * 2 + 1, none⟩ = some (.int .i8 (j : Int)) := (b2.cell (p := ⟨g, m * 2 + 1, none⟩) (rowAt_lt hgr)).trans c1
      have hgw2 : g < w2.heap.size := Nat.lt_of_lt_of_le (rowAt_lt hgr) b2.size
      clear hv hC b2 c0 c1 hgr rW
      have hsC := hC2.bel.size
      by_cases hx : r.t (i * 8 + j) ≠ 0
      · have hxb : (r.t (i * 8 + j) != 0) = true := by simpa using hx
        clear hx
        go_wp2_with (at_builtin; refine wpList_append_own_at _ rfl _ _ 39 rfl w.heap.size 59 i0 (.agg #[.int .i8 0, .int .i8 0]) 2 2 Tryd.underlying39 hi0 hz0 hz1 hz2 rfl (by decide) _ _ _ rfl (hv2.alloc _) ⟨w2.heap.size, 0, none⟩ 1 1 [.int .i8 i, .int .i8 j] rfl rfl (cell_two_new _ _ _ _) (by simp [Value.oneCell']) (by unfold maxLen; omega) (by omega) (by simp; omega) ?_; intro v' w3 own3 grow3 _ at3)
        have hC3 := hC2.append hs1 grow3 (at3.imp (fun h => h) (fun h => h.trans (by simp)))
        clear hv2 hC2 d0 d1 grow3 at3
        go_wp2_with fail
        refine ⟨⟨m + 1, by omega, by go_num, ?_, hC3⟩, by simp [intOf]; omega⟩
        rw [plUpto_next (by rw [← HN.out]; exact hlt), Rf.wrongs_hit (by simp only [HI.out, HJ.out]; simpa using hxb), plCells_snoc]
        simp only [HI.out, HJ.out]
        simpa using own3
      · have hxb : (r.t (i * 8 + j) != 0) = false := by simpa using hx
        have HX := Lib.hid hx
        clear hx
        go_wp2_with fail
        refine ⟨⟨m + 1, by omega, by go_num, ?_, hC2⟩, by simp [intOf]; omega⟩
        rw [plUpto_next (by rw [← HN.out]; exact hlt), Rf.wrongs_miss (by simp only [HI.out, HJ.out]; exact HX.out)]
        exact hv2
    · obtain rfl : m = hh * ww := by omega
      go_wp2_with fail
      go_ret
      exact ⟨_, rfl, IsList.of_pls hv, hC.bel⟩
end Go.Proofs.YtcopdilmkfmpiaaDoor
