/- placesWhere: the places of a roof for which a function value answers true. -/
import Derived.Test.YtppohghejhcilaaDoorRowT
import Derived.Test.YtppohghejhcilaaDoorLift
import Derived.Test.YtppohghejhcilaaDoorGive
namespace Go.Proofs.YtppohghejhcilaaDoor
open Go.RowKit Go.Shelf
attribute [local go_sem] Oper.semAt_some

theorem A_infoPw : (Tryd.prog.info? 37).map (fun i => (i.zero, i.size, i.bytes)) = some (some (.agg #[.int .i8 0, .int .i8 0]), 2, 2) := by kernel_rfl
/-- Of some places those that are as told. -/
def fltW (p : Nat → Nat → Bool) {h w : Nat} (l : List (Pl h w)) : List (Pl h w) := l.filter fun x => p x.1.1 x.1.2
theorem fltW_hit {p : Nat → Nat → Bool} {h w : Nat} {l : List (Pl h w)} {x : Pl h w} (e : p x.1.1 x.1.2 = true) : fltW p (l ++ [x]) = fltW p l ++ [x] := by simp [fltW, e]
theorem fltW_miss {p : Nat → Nat → Bool} {h w : Nat} {l : List (Pl h w)} {x : Pl h w} (e : p x.1.1 x.1.2 = false) : fltW p (l ++ [x]) = fltW p l := by simp [fltW, e]
theorem fltW_len {p : Nat → Nat → Bool} {h w : Nat} (l : List (Pl h w)) : (fltW p l).length ≤ l.length := List.length_filter_le _ _
/-- A predicate on places as a function value, within h courses of w tiles. -/
def PredW (g : FuncId) (la lb : Array Value) (p : Nat → Nat → Bool) (w : World) : Prop :=
  ∀ (i j : Nat) W, i < 8 → j < 8 → Below w.heap.size w W → Calls Tryd.prog g (la ++ #[.agg #[.int .i8 i, .int .i8 j]] ++ lb) W fun e w' => e = .returned (.bool (p i j)) ∧ Below W.heap.size W w'
theorem PredW.later {g : FuncId} {la lb : Array Value} {p : Nat → Nat → Bool} {w w' : World} (h : PredW g la lb p w) (b : Below w.heap.size w w') : PredW g la lb p w' :=
  fun i j W hi hj B => h i j W hi hj (bnext b B b.size)
/-- A list's room. -/
def CapW (v : Value) (n : Nat) : Prop := ∃ a cap, v = .slice a n cap ∧ n ≤ cap ∧ cap ≤ maxLen
theorem CapW.of_pls {w : World} {base : Nat} {e : TypeId} {v : Value} {n : Nat} {xs : List Value} (o : w.ownsRow base e 2 v n xs) : CapW v n := by
  obtain ⟨hl, h | ⟨g, cap, cur, rfl, hg, hh, hn, hm, hs, ht⟩⟩ := o
  · exact ⟨none, 0, by rw [h.1, h.2], by omega, by unfold maxLen; omega⟩
  · exact ⟨_, cap, rfl, hn, hm⟩
def GivesW (w : World) {h ww : Nat} (l : List (Pl h ww)) (e : Ending) (w' : World) : Prop :=
  ∃ v, e = .returned v ∧ IsList w' w.heap.size v 2 l.length (fun i => .int .i8 (plAt l i)) ∧ Below w.heap.size w w' ∧ CapW v l.length
theorem GivesW.gives {w : World} {h ww : Nat} {l : List (Pl h ww)} {e : Ending} {w' : World} (g : GivesW w l e w') : GivesP w l e w' := let ⟨v, h1, h2, h3, _⟩ := g; ⟨v, h1, h2, h3⟩

set_option maxRecDepth 100000 in
set_option maxHeartbeats 4000000 in
theorem placesWhere_any (fg : FuncId) (la lb : Array Value) (p : Nat → Nat → Bool) (eg : ∀ args w, (callFunc fg args).run Tryd.prog w = .ok (.enter fg args) w) (c : Array Value) (r : Rf) (hh ww : Nat) (hhe : r.h = hh) (hwe : r.w = ww) (h8 : hh ≤ 8) (w8 : ww ≤ 8) (w : World) (hR : IsRoof c r) (hp : PredW fg la lb p w) :
    Calls Tryd.prog 85 #[.agg c, .func (.func fg) la lb] w (GivesW w (fltW p (plUpto hh ww (hh * ww)))) := by
  have hc := hR.size
  obtain ⟨i0, hi0, hz0, hz1, hz2⟩ := info_parts A_infoPw
  have HP := Lib.hid hp
  clear hp
  refine (callsIn_wide (n := 3)).1 ?_
  refine callsIn_of_wp_marks Tryd.func85 rfl trivial ?_ rfl
  simp only [Tryd.ntmps85, List.size_toArray, List.length_cons, List.length_nil, Nat.reduceAdd, Nat.reduceSub, Array.replicate_succ, Array.replicate_zero, List.push_toArray, List.append_toArray, List.nil_append, List.cons_append]
  gi_wp2_with (refine ⟨trivial, ?_⟩; gi_at_call 82; refine (callsIn_wide.2 (places_any c _)).mono ?_; rintro e w' ⟨rfl, rfl⟩)
  obtain ⟨W0, hW0⟩ : ∃ W0, ((((w.alloc (.cells c 28)).alloc (.cells #[.func (.func fg) la lb] 147)).alloc (.cells #[.slice none 0 0] 42)).alloc (.cells c 28)) = W0 := ⟨_, rfl⟩
  have hsz : W0.heap.size = w.heap.size + 4 := by rw [← hW0]; simp
  have rA : RowT W0 (w.heap.size) 28 c := by
    have := (((RowT.new w 28 c).alloc (.cells #[.func (.func fg) la lb] 147)).alloc (.cells #[.slice none 0 0] 42)).alloc (.cells c 28)
    rw [hW0] at this; simpa using this
  have rF : RowT W0 (w.heap.size + 1) 147 #[.func (.func fg) la lb] := by
    have := ((RowT.new (w.alloc (.cells c 28)) 147 #[.func (.func fg) la lb]).alloc (.cells #[.slice none 0 0] 42)).alloc (.cells c 28)
    rw [hW0] at this; simpa using this
  have rC0 : RowT W0 (w.heap.size + 1 + 1) 42 #[.slice none 0 0] := by
    have := (RowT.new ((w.alloc (.cells c 28)).alloc (.cells #[.func (.func fg) la lb] 147)) 42 #[.slice none 0 0]).alloc (.cells c 28)
    rw [hW0] at this; simpa using this
  have rD : RowT W0 (w.heap.size + 1 + 1 + 1) 28 c := by
    have := RowT.new (((w.alloc (.cells c 28)).alloc (.cells #[.func (.func fg) la lb] 147)).alloc (.cells #[.slice none 0 0] 42)) 28 c
    rw [hW0] at this; simpa using this
  have rC : Boxed W0 (w.heap.size + 1 + 1) 42 (.slice none 0 0) := rC0
  have hB0 : Below w.heap.size w W0 := by rw [← hW0]; exact ((((Below.refl _ w).alloc (Nat.le_refl _) _).alloc (by simp) _).alloc (by simp <;> omega) _).alloc (by simp <;> omega) _
  rw [hW0]
  clear hW0
  refine wpIn_rangeFunc_ownH rfl (by omega) (gf := 106) (lb := #[.pointer (some ⟨w.heap.size + 1 + 1 + 1, 0, none⟩)]) rfl trivial (enters_of Tryd.func106 (by kernel_rfl) rfl)
    (places_stops 2 (by omega) (w.heap.size + 1 + 1 + 1) w.heap.size c r hh ww hhe hwe h8 w8 hR W0 rD.row) KpR.trans (KpR.put (by omega) (by omega)) (Below.refl _ _) (fun _ => rfl)
    (fun pre W => ((RowT W w.heap.size 28 c ∧ RowT W (w.heap.size + 1) 147 #[.func (.func fg) la lb] ∧ RowT W (w.heap.size + 1 + 1 + 1) 28 c) ∧ (∃ v, Boxed W (w.heap.size + 1 + 1) 42 v ∧ W.ownsRow w.heap.size 37 2 v (fltW p pre).length (plCells (fltW p pre)) ∧ True)) ∧ Below w.heap.size w W)
    (fun _ _ _ => False)
    (OwnFrom.and (OwnFrom.and (OwnFrom.and (Own.from (RowT.own _ _ _) _) (OwnFrom.and (Own.from (RowT.own _ _ _) _) (Own.from (RowT.own _ _ _) _))) (Own.from (holdsRow_own w.heap.size (w.heap.size + 1 + 1) 42 37 2 (fun pre => (fltW p pre).length) (fun pre => plCells (fltW p pre)) (fun _ _ => True)) _)) (ownFrom_below (Nat.le_refl _) (by omega)))
    (fun _ _ _ _ _ hs _ _ => hs)
    ⟨⟨⟨rA, rF, rD⟩, ⟨_, rC, World.ownsRow_nil _ _ _ _, trivial⟩⟩, hB0⟩
    (fun x a' W => ∃ Bx, w.heap.size + 1 + 1 + 1 < Bx ∧ RowT W Bx 37 #[.int .i8 (x.1.1 : Int), .int .i8 (x.1.2 : Int)] ∧ a' = { tmps := #[.agg c, .func (.func fg) la lb, .pointer (some ⟨w.heap.size, 0, none⟩), .pointer (some ⟨w.heap.size + 1, 0, none⟩), .slice none 0 0, .pointer (some ⟨w.heap.size + 1 + 1, 0, none⟩), .pointer (some ⟨Bx, 0, none⟩), .agg c, .func (.func 106) #[] #[.pointer (some ⟨w.heap.size + 1 + 1 + 1, 0, none⟩)], x.enc, undef, undef, undef, undef, undef, undef, undef, undef], defers := [] })
    (fun x a' _ X Y row hs hg hr => by obtain ⟨Bx, h1, h2, h3⟩ := hs; exact ⟨Bx, h1, RowT.own Bx 37 (fun (_ : Unit) => #[Value.int .i8 (x.1.1 : Int), .int .i8 (x.1.2 : Int)]) () X Y row h2 hg (fun r e => (hr r e).2), h3⟩)
    ?assign ?body ?done ?stop
  case assign =>
    rintro l pre x W K ⟨⟨⟨gA, gF, gD⟩, v, gv, gl, _⟩, hB1⟩ hK
    dsimp only [Pl.enc]
    gi_wp2
    refine hK _ _ ((KeepsOthers.alloc _ _).from _) ⟨(Below.refl _ W).alloc hB1.size _, fun c' h => (rowAt_alloc_past _ _ _ (rowAt_lt h)).trans h⟩ ⟨⟨⟨gA.alloc _, gF.alloc _, gD.alloc _⟩, v, gv.alloc _, gl.alloc _, trivial⟩, hB1.alloc hB1.size _⟩ ⟨W.heap.size, gD.lt, RowT.new W 37 _, rfl⟩
  case body =>
    rintro l pre x a' W hl ⟨rr, hrr⟩ ⟨⟨⟨gA, gF, gD⟩, v, gv, gl, _⟩, hB1⟩ ⟨Bx, hBx, gX, rfl⟩ hlt
    have hpl := fltW_len (p := p) pre
    have x8 : x.1.1 < 8 := by have := x.2.1; omega
    have y8 : x.1.2 < 8 := by have := x.2.2; omega
    have hpre : pre.length < 64 := by
      have : hh * ww ≤ 8 * 8 := Nat.mul_le_mul h8 w8
      omega
    have CK := HP.out x.1.1 x.1.2 W x8 y8 hB1
    have kx0 := cell_of_rowAt gX.row 0
    have kx1 := cell_of_rowAt gX.row 1
    have kf := cell_of_rowAt gF.row 0
    simp at kx0 kx1 kf
    cases hx : p x.1.1 x.1.2 with
    | true =>
      rw [hx] at CK
      have HX := Lib.hid hx
      clear hx
      gi_wp2
      refine ⟨trivial, (CallsIn.inRound l (callsIn_wide.2 CK)).mono ?_⟩
      rintro e wx ⟨rfl, bx⟩
      obtain ⟨W2, hW2⟩ : ∃ W2, W2 = wx := ⟨_, rfl⟩
      rw [← hW2] at bx ⊢
      have bW := bx
      have hb2 : Below w.heap.size w W2 := hB1.trans (bW.mono hB1.size)
      have gA2 := gA.below bW
      have gF2 := gF.below bW
      have gD2 := gD.below bW
      have gX2 := gX.below bW
      have hv : Boxed W2 (w.heap.size + 1 + 1) 42 v := RowT.below gv bW
      have hrow := owns_below gl bW
      clear hW2 bx CK kx0 kx1 kf eg
      have hc := hv.cell
      have kx0 := cell_of_rowAt gX2.row 0
      have kx1 := cell_of_rowAt gX2.row 1
      simp at kx0 kx1
      gi_wp2_with (gi_at_builtin; refine wpListIn_append_own _ rfl _ _ 42 rfl w.heap.size 37 i0 (.agg #[.int .i8 0, .int .i8 0]) 2 2 Tryd.underlying42 hi0 hz0 hz1 hz2 rfl (by decide) _ _ _ rfl (hrow.alloc _) ⟨W2.heap.size, 0, none⟩ 1 1 [.int .i8 (x.1.1 : Int), .int .i8 (x.1.2 : Int)] rfl rfl (cell_two_new _ _ _ _) (by simp [Value.oneCell']) (by unfold maxLen; omega) (by omega) (by have := hb2.size; simp; omega) ?_; intro v' w1 hown' hgrow _; obtain ⟨g', cap', rfl⟩ := ownsRow_succ hown'; obtain ⟨hv1, hv2, hr2, hk2, hb3⟩ := hv.appended (by decide) hrow hb2.size (by omega) hown' hgrow; have hc1 := hv1.cell; have hf1 := hv1.frozen; have zA := (gA2.appended (by decide) hrow hgrow).other (B' := w.heap.size + 1 + 1) (o := 0) (by omega) (.slice (some ⟨g', 0, none⟩) ((fltW p pre).length + 1) cap'); have zF := (gF2.appended (by decide) hrow hgrow).other (B' := w.heap.size + 1 + 1) (o := 0) (by omega) (.slice (some ⟨g', 0, none⟩) ((fltW p pre).length + 1) cap'); have zD := (gD2.appended (by decide) hrow hgrow).other (B' := w.heap.size + 1 + 1) (o := 0) (by omega) (.slice (some ⟨g', 0, none⟩) ((fltW p pre).length + 1) cap'))
      refine ⟨((keeps_of_below bW).trans hk2).from _, ⟨(bW.mono hB1.size).trans hb3, fun c' h' => ?_⟩, ⟨⟨zA, zF, zD⟩, _, hv2, by rw [fltW_hit HX.out, plCells_snoc]; simpa using hr2, trivial⟩, hb2.trans hb3⟩
      rw [zD.row, ← gD.row]
      exact h'
    | false =>
      rw [hx] at CK
      have HX := Lib.hid hx
      clear hx
      gi_wp2
      refine ⟨trivial, (CallsIn.inRound l (callsIn_wide.2 CK)).mono ?_⟩
      rintro e wx ⟨rfl, bx⟩
      have bW := bx
      have hb2 : Below w.heap.size w wx := hB1.trans (bW.mono hB1.size)
      have hv : Boxed wx (w.heap.size + 1 + 1) 42 v := RowT.below gv bW
      have hrow := owns_below gl bW
      clear bx CK kx0 kx1 kf eg
      gi_wp2
      exact ⟨(keeps_of_below bW).from _, ⟨bW.mono hB1.size, fun c' h' => brow bW h'⟩, ⟨⟨gA.below bW, gF.below bW, gD.below bW⟩, v, hv, by rw [fltW_miss HX.out]; exact hrow, trivial⟩, hb2⟩
  case done =>
    rintro D ys W hD rfl ⟨⟨⟨gA, gF, gD⟩, v, gv, gl, _⟩, hB1⟩ hK
    have hc := gv.cell
    gi_wp2
    refine ⟨by simp, .inl ⟨_, _, rfl, run_takeDeferred hK, ?_⟩⟩
    exact ⟨_, results_tmp rfl _ _ _, v, rfl, IsList.of_pls (ownsRow_putObj gl _ hK rfl), hB1.trans (belowK_b (w := w) (Nat.le_refl _) W D _ _ (by omega) hK rfl rfl), CapW.of_pls gl⟩
  case stop =>
    rintro D c pre W _ _ h _
    exact h.elim
end Go.Proofs.YtppohghejhcilaaDoor
