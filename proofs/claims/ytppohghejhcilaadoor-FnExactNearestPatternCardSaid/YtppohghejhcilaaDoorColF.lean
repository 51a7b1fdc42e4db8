/- colour: the bytes of those places for which a function value answers true. -/
import Derived.Test.YtppohghejhcilaaDoorColI
namespace Go.Proofs.YtppohghejhcilaaDoor
open Go.RowKit Go.Shelf
attribute [local go_sem] Oper.semAt_some

/-- .. on the places of so many courses and tiles. -/
def PredPlB (g : FuncId) (la lb : Array Value) (hh ww : Nat) (p : Nat → Nat → Bool) (w : World) : Prop :=
  ∀ (i j : Nat) W, i < hh → j < ww → Below w.heap.size w W → Calls Tryd.prog g (la ++ #[.agg #[.int .i8 i, .int .i8 j]] ++ lb) W fun e w' => e = .returned (.bool (p i j)) ∧ Below W.heap.size W w'
set_option maxRecDepth 100000 in
set_option maxHeartbeats 4000000 in
theorem colourB_any (fg : FuncId) (la lb : Array Value) (p : Nat → Nat → Bool) (eg : ∀ args w, (callFunc fg args).run Tryd.prog w = .ok (.enter fg args) w) (c : Array Value) (r : Rf) (hh ww : Nat) (hhe : r.h = hh) (hwe : r.w = ww) (h8 : hh ≤ 8) (w8 : ww ≤ 8) (w : World) (hR : IsRoof c r) (hp : PredPlB fg la lb hh ww p w) (X : Array Value) (hF : mkC (colL p (plUpto hh ww (hh * ww))) = X) :
    Calls Tryd.prog 95 #[.agg c, .func (.func fg) la lb] w fun e w' => e = .returned (.agg X) ∧ Below w.heap.size w w' := by
  have hc := hR.size
  have HP := Lib.hid hp
  clear hp
  refine (callsIn_wide (n := 3)).1 ?_
  refine callsIn_of_wp_marks Tryd.func95 rfl trivial ?_ rfl
  simp only [Tryd.ntmps95, List.size_toArray, List.length_cons, List.length_nil, Nat.reduceAdd, Nat.reduceSub, Array.replicate_succ, Array.replicate_zero, List.push_toArray, List.append_toArray, List.nil_append, List.cons_append]
  gi_wp2_with (refine ⟨trivial, ?_⟩; gi_at_call 82; refine (callsIn_wide.2 (places_any c _)).mono ?_; rintro e w' ⟨rfl, rfl⟩)
  have hz : (#[.int .u8 0, .int .u8 0, .int .u8 0, .int .u8 0, .int .u8 0, .int .u8 0, .int .u8 0, .int .u8 0] : Array Value) = mkC (fun _ => 0) := by kernel_rfl
  rw [hz]
  obtain ⟨W0, hW0⟩ : ∃ W0, (((((w.alloc (.cells c 28)).alloc (.cells #[.func (.func fg) la lb] 147)).alloc (.cells (mkC (fun _ => 0)) 62)).alloc (.cells (mkC (fun _ => 0)) 62)).alloc (.cells c 28)) = W0 := ⟨_, rfl⟩
  have hsz : W0.heap.size = w.heap.size + 5 := by rw [← hW0]; simp
  have rA : RowT W0 (w.heap.size) 28 c := by
    have := ((((RowT.new w 28 c).alloc (.cells #[.func (.func fg) la lb] 147)).alloc (.cells (mkC (fun _ => 0)) 62)).alloc (.cells (mkC (fun _ => 0)) 62)).alloc (.cells c 28)
    rw [hW0] at this; simpa using this
  have rF : RowT W0 (w.heap.size + 1) 147 #[.func (.func fg) la lb] := by
    have := (((RowT.new (w.alloc (.cells c 28)) 147 #[.func (.func fg) la lb]).alloc (.cells (mkC (fun _ => 0)) 62)).alloc (.cells (mkC (fun _ => 0)) 62)).alloc (.cells c 28)
    rw [hW0] at this; simpa using this
  have rZ : RowT W0 (w.heap.size + 1 + 1) 62 (mkC (fun _ => 0)) := by
    have := ((RowT.new ((w.alloc (.cells c 28)).alloc (.cells #[.func (.func fg) la lb] 147)) 62 (mkC (fun _ => 0))).alloc (.cells (mkC (fun _ => 0)) 62)).alloc (.cells c 28)
    rw [hW0] at this; simpa using this
  have rM : RowT W0 (w.heap.size + 1 + 1 + 1) 62 (mkC (fun _ => 0)) := by
    have := (RowT.new (((w.alloc (.cells c 28)).alloc (.cells #[.func (.func fg) la lb] 147)).alloc (.cells (mkC (fun _ => 0)) 62)) 62 (mkC (fun _ => 0))).alloc (.cells c 28)
    rw [hW0] at this; simpa using this
  have rD : RowT W0 (w.heap.size + 1 + 1 + 1 + 1) 28 c := by
    have := RowT.new ((((w.alloc (.cells c 28)).alloc (.cells #[.func (.func fg) la lb] 147)).alloc (.cells (mkC (fun _ => 0)) 62)).alloc (.cells (mkC (fun _ => 0)) 62)) 28 c
    rw [hW0] at this; simpa using this
  have hB0 : Below w.heap.size w W0 := by rw [← hW0]; exact (((((Below.refl _ w).alloc (Nat.le_refl _) _).alloc (by simp) _).alloc (by simp <;> omega) _).alloc (by simp <;> omega) _).alloc (by simp <;> omega) _
  rw [hW0]
  clear hW0 hz
  refine wpIn_rangeFunc_ownH rfl (by omega) (gf := 106) (lb := #[.pointer (some ⟨w.heap.size + 1 + 1 + 1 + 1, 0, none⟩)]) rfl trivial (enters_of Tryd.func106 (by kernel_rfl) rfl)
    (places_stops 2 (by omega) (w.heap.size + 1 + 1 + 1 + 1) w.heap.size c r hh ww hhe hwe h8 w8 hR W0 rD.row) KpR.trans (KpR.put (by omega) (by omega)) (Below.refl _ _) (fun _ => rfl)
    (fun pre W => (RowT W (w.heap.size) 28 c ∧ RowT W (w.heap.size + 1) 147 #[.func (.func fg) la lb] ∧ RowT W (w.heap.size + 1 + 1) 62 (mkC (fun _ => 0)) ∧ RowT W (w.heap.size + 1 + 1 + 1) 62 (mkC (colL p pre)) ∧ RowT W (w.heap.size + 1 + 1 + 1 + 1) 28 c) ∧ Below w.heap.size w W)
    (fun _ _ _ => False)
    (OwnFrom.and (OwnFrom.and (Own.from (RowT.own _ _ _) _) (OwnFrom.and (Own.from (RowT.own _ _ _) _) (OwnFrom.and (Own.from (RowT.own _ _ _) _) (OwnFrom.and (Own.from (RowT.own _ _ (fun pre => mkC (colL p pre))) _) (Own.from (RowT.own _ _ _) _))))) (ownFrom_below (Nat.le_refl _) (by omega)))
    (fun _ _ _ _ _ hs _ _ => hs)
    ⟨⟨rA, rF, rZ, rM, rD⟩, hB0⟩
    (fun x a' W => ∃ Bx, w.heap.size + 1 + 1 + 1 + 1 < Bx ∧ RowT W Bx 37 #[.int .i8 (x.1.1 : Int), .int .i8 (x.1.2 : Int)] ∧ a' = { tmps := #[.agg c, .func (.func fg) la lb, .pointer (some ⟨w.heap.size, 0, none⟩), .pointer (some ⟨w.heap.size + 1, 0, none⟩), .pointer (some ⟨w.heap.size + 1 + 1, 0, none⟩), .pointer (some ⟨w.heap.size + 1 + 1 + 1, 0, none⟩), .pointer (some ⟨Bx, 0, none⟩), .agg c, .func (.func 106) #[] #[.pointer (some ⟨w.heap.size + 1 + 1 + 1 + 1, 0, none⟩)], x.enc, undef, undef, undef, undef, undef, undef, undef, undef, undef, undef, undef, undef, undef], defers := [] })
    (fun x a' _ X Y row hs hg hr => by obtain ⟨Bx, h1, h2, h3⟩ := hs; exact ⟨Bx, h1, RowT.own Bx 37 (fun (_ : Unit) => #[Value.int .i8 (x.1.1 : Int), .int .i8 (x.1.2 : Int)]) () X Y row h2 hg (fun r e => (hr r e).2), h3⟩)
    ?assign ?body ?done ?stop
  case assign =>
    rintro l pre x W K ⟨⟨gA, gF, gZ, gM, gD⟩, hB1⟩ hK
    dsimp only [Pl.enc]
    gi_wp2
    refine hK _ _ ((KeepsOthers.alloc _ _).from _) ⟨(Below.refl _ W).alloc hB1.size _, fun c' h => (rowAt_alloc_past _ _ _ (rowAt_lt h)).trans h⟩ ⟨⟨gA.alloc _, gF.alloc _, gZ.alloc _, gM.alloc _, gD.alloc _⟩, hB1.alloc hB1.size _⟩ ⟨W.heap.size, gD.lt, RowT.new W 37 _, rfl⟩
  case body =>
    rintro l pre x a' W hl ⟨rr, hrr⟩ ⟨⟨gA, gF, gZ, gM, gD⟩, hB1⟩ ⟨Bx, hBx, gX, rfl⟩ hlt
    have xh := x.2.1
    have xw := x.2.2
    have x8 : x.1.1 < 8 := by omega
    have y8 : x.1.2 < 8 := by omega
    have kx0 := cell_of_rowAt gX.row 0
    have kx1 := cell_of_rowAt gX.row 1
    have kf := cell_of_rowAt gF.row 0
    simp at kx0 kx1 kf
    have CK := HP.out x.1.1 x.1.2 W xh xw hB1
    obtain ⟨q, hq⟩ : ∃ q, colL p pre = q := ⟨_, rfl⟩
    have q8 := colL_lt (p := p) w8 pre x.1.1
    rw [hq] at gM q8
    cases hx : p x.1.1 x.1.2 with
    | true =>
      rw [hx] at CK
      have HX := Lib.hid hx
      clear hx
      gi_wp2
      refine ⟨trivial, (CallsIn.inRound l (callsIn_wide.2 CK)).mono ?_⟩
      rintro e wx ⟨rfl, bx⟩
      obtain ⟨W2, hW2⟩ : ∃ W2, W2 = wx := ⟨_, rfl⟩
      rw [← hW2] at bx ⊢
      have bW := bx
      have hb2 : Below w.heap.size w W2 := hB1.trans (bW.mono hB1.size)
      have gA2 := gA.below bW
      have gF2 := gF.below bW
      have gZ2 := gZ.below bW
      have gM2 := gM.below bW
      have gD2 := gD.below bW
      have gX2 := gX.below bW
      clear hW2 bx CK kx0 kx1 kf eg
      have kx0 := cell_of_rowAt gX2.row 0
      have kx1 := cell_of_rowAt gX2.row 1
      simp at kx0 kx1
      have hC : IsK .u8 (mkC q) 8 (fun i => (q i : Int)) := isK_mkI _ _ _
      have cm : W2.cell? ⟨w.heap.size + 1 + 1 + 1, x.1.1, none⟩ = some (.int .u8 (q x.1.1 : Int)) := (cell_of_rowAt gM2.row _).trans (hC.get x8)
      have fm := frozen_of_rowAt gM2.row x.1.1
      have hor := or8_num ⟨q x.1.1, q8⟩ ⟨x.1.2, y8⟩
      dsimp only at hor
      have xi0 : 0 ≤ (x.1.1 : Int) := by omega
      have xi1 : (x.1.1 : Int) < 8 := by omega
      have yi0 : 0 ≤ (x.1.2 : Int) := by omega
      have yi1 : (x.1.2 : Int) < 8 := by omega
      have qi0 : 0 ≤ (q x.1.1 : Int) := by omega
      gi_wp2
      refine wpIn_still_tail 9 (by kernel_rfl) (by kernel_rfl) (by kernel_rfl) ?_
      simp only [List.take_succ_cons, List.take_zero, List.drop_succ_cons, List.drop_zero]
      repeat still_step
      try refine wpStill_nil ?_
      repeat go_step
      dsimp only [OnlyN]
      gi_wp2
      have n1 : w.heap.size ≠ w.heap.size + 1 + 1 + 1 := by omega
      have n2 : w.heap.size + 1 ≠ w.heap.size + 1 + 1 + 1 := by omega
      have n3 : w.heap.size + 1 + 1 ≠ w.heap.size + 1 + 1 + 1 := by omega
      have n4 : w.heap.size + 1 + 1 + 1 + 1 ≠ w.heap.size + 1 + 1 + 1 := by omega
      refine ⟨(((keeps_of_below bW).trans (KeepsOthers.setCell W2 _ _)).trans (KeepsOthers.drew _)).from _, ⟨((bW.mono hB1.size).setCell (p := ⟨_, _, none⟩) (by simp <;> omega) _).drew, fun c' h' => (rowAt_setCell_ne _ _ _ _ _ n4).trans (brow bW h')⟩, ⟨(gA2.other n1 _).drew, (gF2.other n2 _).drew, (gZ2.other n3 _).drew, ?_, (gD2.other n4 _).drew⟩, (hb2.setCell (p := ⟨_, _, none⟩) (by simp <;> omega) _).drew⟩
      rw [colL_hit HX.out, hq, ← mkC_set, ← hor]
      exact (gM2.set _).drew
    | false =>
      rw [hx] at CK
      have HX := Lib.hid hx
      clear hx
      gi_wp2
      refine ⟨trivial, (CallsIn.inRound l (callsIn_wide.2 CK)).mono ?_⟩
      rintro e wx ⟨rfl, bx⟩
      have bW := bx
      have hb2 : Below w.heap.size w wx := hB1.trans (bW.mono hB1.size)
      clear bx CK kx0 kx1 kf eg
      gi_wp2
      exact ⟨(keeps_of_below bW).from _, ⟨bW.mono hB1.size, fun c' h' => brow bW h'⟩, ⟨gA.below bW, gF.below bW, gZ.below bW, by rw [colL_miss HX.out, hq]; exact gM.below bW, gD.below bW⟩, hb2⟩
  case done =>
    rintro D ys W hD rfl ⟨⟨gA, gF, gZ, gM, gD⟩, hB1⟩ hK
    have gZr := gZ.row
    rw [hF] at gM
    have gMr := gM.row
    have gMs : X.size = 8 := by rw [← hF]; exact size_mkI _ _ _
    have gZs : (mkC (fun _ => 0)).size = 8 := size_mkI _ _ _
    have gMo : Ones X := by rw [← hF]; exact (isK_mkI _ _ _).ones
    have hDn : D ≠ w.heap.size + 1 + 1 := fun h => by
      rw [h] at hK
      have : some (Obj.cells (mkC (fun _ => 0)) 62) = some (Obj.deferred (some [])) := gZ.symm.trans hK
      cases this
    clear hF
    generalize mkC (fun _ => 0) = Y at *
    have hK2 := fun c' => (setRow_other W (w.heap.size + 1 + 1) D c' hDn).trans hK
    gi_wp2
    refine ⟨by simp, .inl ⟨_, _, rfl, run_takeDeferred (hK2 _), ?_⟩⟩
    refine ⟨.agg X, results_row1 (m := 8) rfl _ _ (w.heap.size + 1 + 1) _ rfl ?_ Tryd.underlying62 rfl (by kernel_rfl) gMs, rfl, ?_⟩
    · obtain ⟨t, ht⟩ := rowAt_some (rowAt_setRow_at W (w.heap.size + 1 + 1) X (by rw [gZr]; rfl))
      exact rowAt_of_heap ((World.putObj_heap_other (fun e => hDn e.symm)).trans ht)
    · exact (below_setRow hB1 (by omega) _).trans (belowK_b (w := w) (Nat.le_refl _) _ D _ _ (by omega) (hK2 _) rfl rfl)
  case stop =>
    rintro D c pre W _ _ h _
    exact h.elim
theorem colour_any (fg : FuncId) (la lb : Array Value) (p : Nat → Nat → Bool) (eg : ∀ args w, (callFunc fg args).run Tryd.prog w = .ok (.enter fg args) w) (c : Array Value) (r : Rf) (hh ww : Nat) (hhe : r.h = hh) (hwe : r.w = ww) (h8 : hh ≤ 8) (w8 : ww ≤ 8) (w : World) (hR : IsRoof c r) (hp : PredPl fg la lb p w) (X : Array Value) (hF : mkC (colL p (plUpto hh ww (hh * ww))) = X) :
    Calls Tryd.prog 95 #[.agg c, .func (.func fg) la lb] w fun e w' => e = .returned (.agg X) ∧ Below w.heap.size w w' :=
  colourB_any fg la lb p eg c r hh ww hhe hwe h8 w8 w hR (fun i j W hi hj B => hp i j W (by omega) (by omega) B) X hF
end Go.Proofs.YtppohghejhcilaaDoor
