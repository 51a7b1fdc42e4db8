/- MirrorRoof: the program's side. -/
import Derived.Test.YtfkcjgeeklngiaaMirA
namespace Go.Proofs.Ytfkcjgeeklngiaa
open Go.RowKit Go.Shelf
attribute [local go_sem] Oper.semAt_some

set_option maxRecDepth 100000 in
set_option maxHeartbeats 4000000 in
theorem implMirror_go (c X : Array Value) (r : Rf) (hh ww : Nat) (hhe : r.h = hh) (hwe : r.w = ww) (h8 : hh ≤ 8) (w8 : ww ≤ 8) (w : World) (hR : IsRoof c r) (ho : r.Ok) (hX : mir0 c r = X) :
    Calls Try.prog 39 #[.agg c] w fun e w' => e = .returned (.tuple #[.agg (mirA r X (plUpto hh ww (hh * ww))), .int .i64 0]) ∧ Below w.heap.size w w' := by
  have hc := hR.size
  have hzs := zroof_size
  have hzo := zroof_ones
  have hs0 := hR.s0
  have hs1 : r.s ≤ 1 := ho.2.2.2.2.1
  have hsw : 0 ≤ 1 - r.s := by omega
  have hs2 : IntKind.u8.wrap (1 - r.s) = 1 - r.s := IntWalk.u8_in _ (by omega)
  have k2 := hR.shift (by omega)
  have HX := mir0_is hR hsw
  rw [hX] at HX
  have hXo := HX.ones
  have hXs := HX.size
  have hbo := hR.bare.ones
  have hbs := hR.bare.size
  obtain ⟨qF, hF⟩ := mirA_is hR h8 w8 (plUpto hh ww (hh * ww)) HX
  have hFo := hF.ones
  have hFs := hF.size
  have CM := fun w => mended_any c r w hR
  have e0 : RowT ((w.alloc (.cells c 33)).alloc (.cells Try.zeroCells33 33)) w.heap.size 33 c := (RowT.new w 33 c).alloc _
  have e1 : RowT ((w.alloc (.cells c 33)).alloc (.cells Try.zeroCells33 33)) (w.heap.size + 1) 33 Try.zeroCells33 := by
    have := RowT.new (w.alloc (.cells c 33)) 33 Try.zeroCells33
    simpa using this
  have eB : Below w.heap.size w ((w.alloc (.cells c 33)).alloc (.cells Try.zeroCells33 33)) := ((Below.refl _ w).alloc (Nat.le_refl _) _).alloc (by simp) _
  refine (callsIn_wide (n := 3)).1 ?_
  refine callsIn_of_wp_marks Try.func39 rfl trivial ?_ rfl
  simp only [Try.ntmps39, List.size_toArray, List.length_cons, List.length_nil, Nat.reduceAdd, Nat.reduceSub, Array.replicate_succ, Array.replicate_zero, List.push_toArray, List.append_toArray, List.nil_append, List.cons_append]
  gi_wp2
  refine ⟨trivial, (callsIn_wide.2 (implValid_t c r _ hR ho)).mono ?_⟩
  rintro x w1 ⟨rfl, b1⟩
  have d0 := e0.below b1
  have d1 := e1.below b1
  have dB := bnext eB b1 eB.size
  have dr0 := d0.row
  clear b1 e0 e1 eB
  gi_wp2
  refine ⟨trivial, (callsIn_wide.2 (CM _)).mono ?_⟩
  rintro x w4 ⟨rfl, b2⟩
  have f0 := d0.below b2
  have f1 := d1.below b2
  have fB := bnext dB b2 dB.size
  have fr0 := f0.row
  have lf0 : w.heap.size < w4.heap.size := f0.lt
  have c2 : w4.cell? ⟨w.heap.size, 2, none⟩ = some (.int .u8 r.s) := by rw [← k2]; exact (cell_of_rowAt fr0 2).trans (Array.getElem?_eq_getElem (by omega))
  clear b2 d0 d1 dB dr0 CM
  generalize hbc : bareC c = Y at *
  gi_wp2
  refine ⟨trivial, (callsIn_wide.2 (places_any c _)).mono ?_⟩
  rintro e' w' ⟨rfl, rfl⟩
  have hY2 : Y.setIfInBounds 2 (.int .u8 (1 - r.s)) = X := by rw [← hX, ← hbc]; rfl
  rw [hY2]
  gi_wp2
  obtain ⟨W0, hW0⟩ : ∃ W0, (w4.alloc (.cells X 33)).alloc (.cells c 33) = W0 := ⟨_, rfl⟩
  have hsz : W0.heap.size = w4.heap.size + 2 := by rw [← hW0]; simp
  have rA : RowT W0 w.heap.size 33 c := by rw [← hW0]; exact (f0.alloc _).alloc _
  have rZ : RowT W0 (w.heap.size + 1) 33 Try.zeroCells33 := by rw [← hW0]; exact (f1.alloc _).alloc _
  have rM : RowT W0 w4.heap.size 33 X := by rw [← hW0]; exact (RowT.new w4 33 X).alloc _
  have rD : RowT W0 (w4.heap.size + 1) 33 c := by
    have := RowT.new (w4.alloc (.cells X 33)) 33 c
    rw [hW0] at this; simpa using this
  have hB0 : Below w.heap.size w W0 := by rw [← hW0]; exact (fB.alloc fB.size _).alloc (by have := fB.size; simp; omega) _
  have fs := fB.size
  have lf1 : w.heap.size + 1 < w4.heap.size := f1.lt
  rw [hW0]
  clear hW0 f0 f1 fB fr0 c2 hY2 hbc hs2 hX
  refine wpIn_rangeFunc_ownH rfl (by omega) (gf := 98) (lb := #[.pointer (some ⟨w4.heap.size + 1, 0, none⟩)]) rfl trivial (enters_of Try.func98 (by kernel_rfl) rfl)
    (places_stops 2 (by omega) (w4.heap.size + 1) w.heap.size c r hh ww hhe hwe h8 w8 hR W0 rD.row) KpR.trans (KpR.put (by omega) (by omega)) (Below.refl _ _) (fun _ => rfl)
    (fun pre W => (RowT W w.heap.size 33 c ∧ RowT W (w.heap.size + 1) 33 Try.zeroCells33 ∧ RowT W w4.heap.size 33 (mirA r X pre) ∧ RowT W (w4.heap.size + 1) 33 c) ∧ Below w.heap.size w W)
    (fun _ _ _ => False)
    (OwnFrom.and (OwnFrom.and (Own.from (RowT.own _ _ _) _) (OwnFrom.and (Own.from (RowT.own _ _ _) _) (OwnFrom.and (Own.from (RowT.own _ _ (fun pre => mirA r X pre)) _) (Own.from (RowT.own _ _ _) _)))) (ownFrom_below (Nat.le_refl _) (by omega)))
    (fun _ _ _ _ _ hs _ _ => hs)
    ⟨⟨rA, rZ, rM, rD⟩, hB0⟩
    (fun x a' W => ∃ Bx, w4.heap.size + 1 < Bx ∧ RowT W Bx 37 #[.int .i8 (x.1.1 : Int), .int .i8 (x.1.2 : Int)] ∧ a' = { tmps := #[.agg c, .pointer (some ⟨w.heap.size, 0, none⟩), .pointer (some ⟨w.heap.size + 1, 0, none⟩), .int .i64 0, .pointer (some ⟨w4.heap.size, 0, none⟩), .pointer (some ⟨Bx, 0, none⟩), .agg c, .bool true, .bool false, undef, .agg c, .agg Y, .pointer (some ⟨w.heap.size, 2, none⟩), .int .u8 r.s, .int .u8 (1 - r.s), .pointer (some ⟨w4.heap.size, 2, none⟩), .agg c, .func (.func 98) #[] #[.pointer (some ⟨w4.heap.size + 1, 0, none⟩)], x.enc, undef, undef, undef, undef, undef, undef, undef, undef, undef, undef, undef, undef, undef, undef, undef, undef, undef, undef, undef, undef], defers := [] })
    (fun x a' _ X Y row hs hg hr => by obtain ⟨Bx, h1, h2, h3⟩ := hs; exact ⟨Bx, h1, RowT.own Bx 37 (fun (_ : Unit) => #[Value.int .i8 (x.1.1 : Int), .int .i8 (x.1.2 : Int)]) () X Y row h2 hg (fun r e => (hr r e).2), h3⟩)
    ?assign ?body ?done ?stop
  case assign =>
    rintro l pre x W K ⟨⟨gA, gZ, gM, gD⟩, hB1⟩ hK
    dsimp only [Pl.enc]
    gi_wp2
    refine hK _ _ ((KeepsOthers.alloc _ _).from _) ⟨(Below.refl _ W).alloc hB1.size _, fun c' h => (rowAt_alloc_past _ _ _ (rowAt_lt h)).trans h⟩ ⟨⟨gA.alloc _, gZ.alloc _, gM.alloc _, gD.alloc _⟩, hB1.alloc hB1.size _⟩ ⟨W.heap.size, gD.lt, RowT.new W 37 _, rfl⟩
  case body =>
    rintro l pre x a' W hl ⟨rr, hrr⟩ ⟨⟨gA, gZ, gM, gD⟩, hB1⟩ ⟨Bx, hBx, gX, rfl⟩ hlt
    have xh := x.2.1
    have xw := x.2.2
    have x8 : x.1.1 < 8 := by omega
    have y8 : x.1.2 < 8 := by omega
    obtain ⟨qP, hP⟩ := mirA_is hR h8 w8 pre HX
    have hPs := hP.size
    have cw : W.cell? ⟨w.heap.size, 0, none⟩ = some (.int .i8 ww) := by
      rw [cell_of_rowAt gA.row, Array.getElem?_eq_getElem (by omega), hR.wide (by omega), hwe]
    obtain ⟨ct, t0, t1⟩ := tile_cell gA.row hR x.1.1 x.1.2 x8 y8
    have kx0 := cell_of_rowAt gX.row 0
    have kx1 := cell_of_rowAt gX.row 1
    simp at kx0 kx1
    have gcell := cell_of_rowAt gM.row
    have gfro := frozen_of_rowAt gM.row
    obtain ⟨p, hp⟩ : ∃ p : Nat, ww - 1 - x.1.2 = p := ⟨_, rfl⟩
    have p8 : p < 8 := by omega
    have e1 : IntKind.i8.wrap ((ww : Int) - 1) = (ww : Int) - 1 := IntWalk.i8_in _ (by omega)
    have e2 : IntKind.i8.wrap (p : Int) = (p : Int) := IntWalk.i8_in _ (by omega)
    have ep : (ww : Int) - 1 - (x.1.2 : Int) = (p : Int) := by omega
    have xi0 : 0 ≤ (x.1.1 : Int) := by omega
    have xi1 : (x.1.1 : Int) < 8 := by omega
    have yi0 : 0 ≤ (x.1.2 : Int) := by omega
    have yi1 : (x.1.2 : Int) < 8 := by omega
    have pi0 : 0 ≤ (p : Int) := by omega
    have pi1 : (p : Int) < 8 := by omega
    have hcx : 3 + x.1.1 * 8 + p < 67 := by omega
    generalize hQ : mirA r X pre = Q at *
    gi_wp2
    refine wpIn_still_tail 19 (by kernel_rfl) (by kernel_rfl) (by kernel_rfl) ?_
    simp only [List.take_succ_cons, List.take_zero, List.drop_succ_cons, List.drop_zero]
    repeat still_step
    try refine wpStill_nil ?_
    repeat go_step
    dsimp only [OnlyN]
    gi_wp2
    have n1 : w.heap.size ≠ w4.heap.size := by omega
    have n2 : w.heap.size + 1 ≠ w4.heap.size := by omega
    have n3 : w4.heap.size + 1 ≠ w4.heap.size := by omega
    refine ⟨((KeepsOthers.setCell W _ _).trans (KeepsOthers.drew _)).from _, ⟨((Below.refl _ W).setCell (p := ⟨_, _, none⟩) fs _).drew, fun c' h' => (rowAt_setCell_ne _ _ _ _ _ n3).trans h'⟩, ⟨(gA.other n1 _).drew, (gZ.other n2 _).drew, ?_, (gD.other n3 _).drew⟩, (hB1.setCell (p := ⟨_, _, none⟩) fs _).drew⟩
    rw [mirA_snoc, hQ, hp]
    exact (gM.set _).drew
  case done =>
    rintro D ys W hD rfl ⟨⟨gA, gZ, gM, gD⟩, hB1⟩ hK
    have gMr := gM.row
    have gZr := gZ.row
    have hne : w4.heap.size ≠ w.heap.size + 1 := by omega
    have hDn : D ≠ w.heap.size + 1 := fun h => by
      rw [h] at hK
      have : some (Obj.cells Try.zeroCells33 33) = some (Obj.deferred (some [])) := gZ.symm.trans hK
      cases this
    have hK2 := fun c' => (setRow_other W (w.heap.size + 1) D c' hDn).trans hK
    gi_wp2
    refine ⟨by simp, .inl ⟨_, _, rfl, run_takeDeferred (hK2 _), ?_⟩⟩
    refine ⟨.tuple #[.agg (mirA r X (plUpto hh ww (hh * ww))), .int .i64 0], results_row2 (m := 67) rfl _ _ (w.heap.size + 1) _ _ rfl rfl ?_ Try.underlying33 rfl (by kernel_rfl) hFs, rfl, ?_⟩
    · obtain ⟨t, ht⟩ := rowAt_some (rowAt_setRow_at W (w.heap.size + 1) (mirA r X (plUpto hh ww (hh * ww))) (by rw [gZr]; rfl))
      exact rowAt_of_heap ((World.putObj_heap_other (fun e => hDn e.symm)).trans ht)
    · exact (below_setRow hB1 (by omega) _).trans (belowK_b (w := w) (Nat.le_refl _) _ D _ _ (by omega) (hK2 _) rfl rfl)
  case stop =>
    rintro D c pre W _ _ h _
    exact h.elim
end Go.Proofs.Ytfkcjgeeklngiaa
