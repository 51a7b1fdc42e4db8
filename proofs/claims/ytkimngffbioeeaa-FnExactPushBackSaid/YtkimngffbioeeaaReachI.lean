/- ReachFrom: the program's side: what is reached from ladders. -/
import Derived.Test.YtkimngffbioeeaaReachS
import Derived.Test.YtkimngffbioeeaaLift
import Derived.Test.YtkimngffbioeeaaPlOf
namespace Go.Proofs.Ytkimngffbioeeaa
open Go.RowKit Go.Shelf
attribute [local go_sem] Oper.semAt_some

/-- Whether a tile is reached from one of m ladders. -/
def Rf.canL (r : Rf) (y : Int) (g : Nat → Int) (m : Nat) (i j : Nat) : Bool := anyI (fun k => r.can y i j (g k)) m

/-- A list's room. -/
def CapP (v : Value) (n : Nat) : Prop := ∃ a cap, v = .slice a n cap ∧ n ≤ cap ∧ cap ≤ maxLen
theorem CapP.of_pls {w : World} {base : Nat} {e : TypeId} {v : Value} {n : Nat} {xs : List Value} (o : w.ownsRow base e 2 v n xs) : CapP v n := by
  obtain ⟨hl, h | ⟨g, cap, cur, rfl, hg, hh, hn, hm, hs, ht⟩⟩ := o
  · exact ⟨none, 0, by rw [h.1, h.2], by omega, by unfold maxLen; omega⟩
  · exact ⟨_, cap, rfl, hn, hm⟩
def GivesPC (w : World) {h ww : Nat} (l : List (Pl h ww)) (e : Ending) (w' : World) : Prop :=
  ∃ v, e = .returned v ∧ IsList w' w.heap.size v 2 l.length (fun i => .int .i8 (plAt l i)) ∧ Below w.heap.size w w' ∧ CapP v l.length

set_option maxRecDepth 100000 in
set_option maxHeartbeats 4000000 in
theorem reached_own (m : Nat) (c : Array Value) (r : Rf) (y : Int) (g : Nat → Int) (v1 : Value) (hh ww : Nat) (hhe : r.h = hh) (hwe : r.w = ww) (h8 : hh ≤ 8) (w8 : ww ≤ 8) (w : World) (hR : IsRoof c r) (hv : NumsAt w v1 m g) (hm : m ≤ 2000000) (hy : 0 ≤ y ∧ y ≤ 8) :
    Calls Try.prog 58 #[.agg c, v1, .int .i64 y] w (GivesPC w (fltP (r.canL y g m) (plUpto hh ww (hh * ww)))) := by
  have hc := hR.size
  obtain ⟨i0, hi0, hz0, hz1, hz2⟩ := info_parts A_infoPc
  have HV := Lib.hid hv
  obtain ⟨a1, c1, rfl⟩ := hv.shape
  clear hv
  obtain ⟨p, hp⟩ : ∃ p : Nat → Nat → Bool, p = r.canL y g m := ⟨_, rfl⟩
  rw [← hp]
  have HP : Hid (∀ i j, anyI (fun k => r.can y i j (g k)) m = p i j) := Lib.hid (fun i j => by rw [hp]; rfl)
  clear hp
  have eg : ∀ args w, (callFunc 101 args).run Try.prog w = .ok (.enter 101 args) w := enters_of Try.func101 (by kernel_rfl) rfl
  refine (callsIn_wide (n := 3)).1 ?_
  refine callsIn_of_wp_marks Try.func58 rfl trivial ?_ rfl
  simp only [Try.ntmps58, List.size_toArray, List.length_cons, List.length_nil, Nat.reduceAdd, Nat.reduceSub, Array.replicate_succ, Array.replicate_zero, List.push_toArray, List.append_toArray, List.nil_append, List.cons_append]
  gi_wp2_with (refine ⟨trivial, ?_⟩; gi_at_call 99; refine (callsIn_wide.2 (places_any c _)).mono ?_; rintro e w' ⟨rfl, rfl⟩)
  obtain ⟨W0, hW0⟩ : ∃ W0, ((((w.alloc (.cells c 30)).alloc (.cells #[.slice a1 m c1] 35)).alloc (.cells #[.int .i64 y] 2)).alloc (.cells #[.slice none 0 0] 27)).alloc (.cells c 30) = W0 := ⟨_, rfl⟩
  have hsz : W0.heap.size = w.heap.size + 5 := by rw [← hW0]; simp
  have rA : RowT W0 (w.heap.size) 30 c := by
    have := ((((RowT.new w 30 c).alloc (.cells #[.slice a1 m c1] 35)).alloc (.cells #[.int .i64 y] 2)).alloc (.cells #[.slice none 0 0] 27)).alloc (.cells c 30)
    rw [hW0] at this; simpa using this
  have rB : RowT W0 (w.heap.size + 1) 35 #[.slice a1 m c1] := by
    have := (((RowT.new (w.alloc (.cells c 30)) 35 #[.slice a1 m c1]).alloc (.cells #[.int .i64 y] 2)).alloc (.cells #[.slice none 0 0] 27)).alloc (.cells c 30)
    rw [hW0] at this; simpa using this
  have rE : RowT W0 (w.heap.size + 1 + 1) 2 #[.int .i64 y] := by
    have := ((RowT.new ((w.alloc (.cells c 30)).alloc (.cells #[.slice a1 m c1] 35)) 2 #[.int .i64 y]).alloc (.cells #[.slice none 0 0] 27)).alloc (.cells c 30)
    rw [hW0] at this; simpa using this
  have rC0 : RowT W0 (w.heap.size + 1 + 1 + 1) 27 #[.slice none 0 0] := by
    have := (RowT.new (((w.alloc (.cells c 30)).alloc (.cells #[.slice a1 m c1] 35)).alloc (.cells #[.int .i64 y] 2)) 27 #[.slice none 0 0]).alloc (.cells c 30)
    rw [hW0] at this; simpa using this
  have rC : Boxed W0 (w.heap.size + 1 + 1 + 1) 27 (.slice none 0 0) := rC0
  have rD : RowT W0 (w.heap.size + 1 + 1 + 1 + 1) 30 c := by
    have := RowT.new ((((w.alloc (.cells c 30)).alloc (.cells #[.slice a1 m c1] 35)).alloc (.cells #[.int .i64 y] 2)).alloc (.cells #[.slice none 0 0] 27)) 30 c
    rw [hW0] at this; simpa using this
  have hB0 : Below w.heap.size w W0 := by rw [← hW0]; exact (((((Below.refl _ w).alloc (Nat.le_refl _) _).alloc (by simp) _).alloc (by simp <;> omega) _).alloc (by simp <;> omega) _).alloc (by simp <;> omega) _
  rw [hW0]
  clear hW0
  refine wpIn_rangeFunc_ownH rfl (by omega) (gf := 135) (lb := #[.pointer (some ⟨w.heap.size + 1 + 1 + 1 + 1, 0, none⟩)]) rfl trivial (enters_of Try.func135 (by kernel_rfl) rfl)
    (places_stops 2 (by omega) (w.heap.size + 1 + 1 + 1 + 1) w.heap.size c r hh ww hhe hwe h8 w8 hR W0 rD.row) KpR.trans (KpR.put (by omega) (by omega)) (Below.refl _ _) (fun _ => rfl)
    (fun pre W => ((RowT W w.heap.size 30 c ∧ RowT W (w.heap.size + 1) 35 #[.slice a1 m c1] ∧ RowT W (w.heap.size + 1 + 1) 2 #[.int .i64 y] ∧ RowT W (w.heap.size + 1 + 1 + 1 + 1) 30 c) ∧ (∃ v, Boxed W (w.heap.size + 1 + 1 + 1) 27 v ∧ W.ownsRow w.heap.size 53 2 v (fltP p pre).length (plCells (fltP p pre)) ∧ True)) ∧ Below w.heap.size w W)
    (fun _ _ _ => False)
    (OwnFrom.and (OwnFrom.and (OwnFrom.and (Own.from (RowT.own _ _ _) _) (OwnFrom.and (Own.from (RowT.own _ _ _) _) (OwnFrom.and (Own.from (RowT.own _ _ _) _) (Own.from (RowT.own _ _ _) _)))) (Own.from (holdsRow_own w.heap.size (w.heap.size + 1 + 1 + 1) 27 53 2 (fun pre => (fltP p pre).length) (fun pre => plCells (fltP p pre)) (fun _ _ => True)) _)) (ownFrom_below (Nat.le_refl _) (by omega)))
    (fun _ _ _ _ _ hs _ _ => hs)
    ⟨⟨⟨rA, rB, rE, rD⟩, ⟨_, rC, World.ownsRow_nil _ _ _ _, trivial⟩⟩, hB0⟩
    (fun x a' W => ∃ Bx, w.heap.size + 1 + 1 + 1 + 1 < Bx ∧ RowT W Bx 53 #[.int .i8 (x.1.1 : Int), .int .i8 (x.1.2 : Int)] ∧ a' = { tmps := #[.agg c, .slice a1 m c1, .int .i64 y, .pointer (some ⟨w.heap.size, 0, none⟩), .pointer (some ⟨w.heap.size + 1, 0, none⟩), .pointer (some ⟨w.heap.size + 1 + 1, 0, none⟩), .slice none 0 0, .pointer (some ⟨w.heap.size + 1 + 1 + 1, 0, none⟩), .pointer (some ⟨Bx, 0, none⟩), .agg c, .func (.func 135) #[] #[.pointer (some ⟨w.heap.size + 1 + 1 + 1 + 1, 0, none⟩)], x.enc, undef, undef, undef, undef, undef, undef, undef, undef], defers := [] })
    (fun x a' _ X Y row hs hg hr => by obtain ⟨Bx, h1, h2, h3⟩ := hs; exact ⟨Bx, h1, RowT.own Bx 53 (fun (_ : Unit) => #[Value.int .i8 (x.1.1 : Int), .int .i8 (x.1.2 : Int)]) () X Y row h2 hg (fun r e => (hr r e).2), h3⟩)
    ?assign ?body ?done ?stop
  case assign =>
    rintro l pre x W K ⟨⟨⟨gA, gB, gE, gD⟩, v, gv, gl, _⟩, hB1⟩ hK
    dsimp only [Pl.enc]
    gi_wp2
    refine hK _ _ ((KeepsOthers.alloc _ _).from _) ⟨(Below.refl _ W).alloc hB1.size _, fun c' h => (rowAt_alloc_past _ _ _ (rowAt_lt h)).trans h⟩ ⟨⟨⟨gA.alloc _, gB.alloc _, gE.alloc _, gD.alloc _⟩, v, gv.alloc _, gl.alloc _, trivial⟩, hB1.alloc hB1.size _⟩ ⟨W.heap.size, gD.lt, RowT.new W 53 _, rfl⟩
  case body =>
    rintro l pre x a' W hl ⟨rr, hrr⟩ ⟨⟨⟨gA, gB, gE, gD⟩, v, gv, gl, _⟩, hB1⟩ ⟨Bx, hBx, gX, rfl⟩ hlt
    have hpl := fltP_len (p := p) pre
    have x8 : x.1.1 < 8 := by have := x.2.1; omega
    have y8 : x.1.2 < 8 := by have := x.2.2; omega
    have hpre : pre.length < 64 := by
      have : hh * ww ≤ 8 * 8 := Nat.mul_le_mul h8 w8
      omega
    have CK := hasFuncI_any 101 #[.pointer (some ⟨w.heap.size, 0, none⟩), .pointer (some ⟨w.heap.size + 1 + 1, 0, none⟩), .pointer (some ⟨Bx, 0, none⟩)] (r.can y x.1.1 x.1.2) eg (.slice a1 m c1) m g W (reached_pred _ _ _ c r y x.1.1 x.1.2 W gA.row gE.row gX.row hR x8 y8 hy) (HV.out.below hB1 (Nat.le_refl _)) hm
    rw [HP.out] at CK
    have hcB := cell_of_rowAt gB.row 0
    simp at hcB
    clear eg
    cases hx : p x.1.1 x.1.2 with
    | true =>
      rw [hx] at CK
      have HX := Lib.hid hx
      clear hx
      gi_wp2
      refine ⟨trivial, (CallsIn.inRound l (callsIn_wide.2 CK)).mono ?_⟩
      rintro e wx ⟨rfl, bx⟩
      obtain ⟨W2, hW2⟩ : ∃ W2, W2 = wx := ⟨_, rfl⟩
      rw [← hW2] at bx ⊢
      have bW := bx
      have hb2 : Below w.heap.size w W2 := hB1.trans (bW.mono hB1.size)
      have gA2 := gA.below bW
      have gB2 := gB.below bW
      have gE2 := gE.below bW
      have gD2 := gD.below bW
      have gX2 := gX.below bW
      have hv : Boxed W2 (w.heap.size + 1 + 1 + 1) 27 v := RowT.below gv bW
      have hrow := owns_below gl bW
      have hc := hv.cell
      have kx0 := cell_of_rowAt gX2.row 0
      have kx1 := cell_of_rowAt gX2.row 1
      simp at kx0 kx1
      clear hW2 bx hcB CK
      gi_wp2_with (gi_at_builtin; refine wpListIn_append_own _ rfl _ _ 27 rfl w.heap.size 53 i0 (.agg #[.int .i8 0, .int .i8 0]) 2 2 Try.underlying27 hi0 hz0 hz1 hz2 rfl (by decide) _ _ _ rfl (hrow.alloc _) ⟨W2.heap.size, 0, none⟩ 1 1 [.int .i8 (x.1.1 : Int), .int .i8 (x.1.2 : Int)] rfl rfl (cell_two_new _ _ _ _) (by simp [Value.oneCell']) (by unfold maxLen; omega) (by omega) (by have := hb2.size; simp; omega) ?_; intro v' w1 hown' hgrow _; obtain ⟨g', cap', rfl⟩ := ownsRow_succ hown'; obtain ⟨hv1, hv2, hr2, hk2, hb3⟩ := hv.appended (by decide) hrow hb2.size (by omega) hown' hgrow; have hc1 := hv1.cell; have hf1 := hv1.frozen; have zA := (gA2.appended (by decide) hrow hgrow).other (B' := w.heap.size + 1 + 1 + 1) (o := 0) (by omega) (.slice (some ⟨g', 0, none⟩) ((fltP p pre).length + 1) cap'); have zB := (gB2.appended (by decide) hrow hgrow).other (B' := w.heap.size + 1 + 1 + 1) (o := 0) (by omega) (.slice (some ⟨g', 0, none⟩) ((fltP p pre).length + 1) cap'); have zE := (gE2.appended (by decide) hrow hgrow).other (B' := w.heap.size + 1 + 1 + 1) (o := 0) (by omega) (.slice (some ⟨g', 0, none⟩) ((fltP p pre).length + 1) cap'); have zD := (gD2.appended (by decide) hrow hgrow).other (B' := w.heap.size + 1 + 1 + 1) (o := 0) (by omega) (.slice (some ⟨g', 0, none⟩) ((fltP p pre).length + 1) cap'))
      refine ⟨((keeps_of_below bW).trans hk2).from _, ⟨(bW.mono hB1.size).trans hb3, fun c' h' => ?_⟩, ⟨⟨zA, zB, zE, zD⟩, _, hv2, by rw [fltP_hit HX.out, plCells_snoc]; simpa using hr2, trivial⟩, hb2.trans hb3⟩
      rw [zD.row, ← gD.row]
      exact h'
    | false =>
      rw [hx] at CK
      have HX := Lib.hid hx
      clear hx
      gi_wp2
      refine ⟨trivial, (CallsIn.inRound l (callsIn_wide.2 CK)).mono ?_⟩
      rintro e wx ⟨rfl, bx⟩
      have bW := bx
      have hb2 : Below w.heap.size w wx := hB1.trans (bW.mono hB1.size)
      have gA2 := gA.below bW
      have gB2 := gB.below bW
      have gE2 := gE.below bW
      have gD2 := gD.below bW
      have hv : Boxed wx (w.heap.size + 1 + 1 + 1) 27 v := RowT.below gv bW
      have hrow := owns_below gl bW
      clear bx hcB CK
      gi_wp2
      exact ⟨(keeps_of_below bW).from _, ⟨bW.mono hB1.size, fun c' h' => brow bW h'⟩, ⟨⟨gA2, gB2, gE2, gD2⟩, v, hv, by rw [fltP_miss HX.out]; exact hrow, trivial⟩, hb2⟩
  case done =>
    rintro D ys W hD rfl ⟨⟨⟨gA, gB, gE, gD⟩, v, gv, gl, _⟩, hB1⟩ hK
    have hc := gv.cell
    gi_wp2
    refine ⟨by simp, .inl ⟨_, _, rfl, run_takeDeferred hK, ?_⟩⟩
    exact ⟨_, results_tmp rfl _ _ _, v, rfl, IsList.of_pls (ownsRow_putObj gl _ hK rfl), hB1.trans (belowK_b (w := w) (Nat.le_refl _) W D _ _ (by omega) hK rfl rfl), CapP.of_pls gl⟩
  case stop =>
    rintro D c pre W _ _ h _
    exact h.elim
theorem reached_any (m : Nat) (c : Array Value) (r : Rf) (y : Int) (g : Nat → Int) (v1 : Value) (hh ww : Nat) (hhe : r.h = hh) (hwe : r.w = ww) (h8 : hh ≤ 8) (w8 : ww ≤ 8) (w : World) (hR : IsRoof c r) (hv : NumsAt w v1 m g) (hm : m ≤ 2000000) (hy : 0 ≤ y ∧ y ≤ 8) :
    Calls Try.prog 58 #[.agg c, v1, .int .i64 y] w (GivesP w (fltP (r.canL y g m) (plUpto hh ww (hh * ww)))) :=
  (reached_own m c r y g v1 hh ww hhe hwe h8 w8 w hR hv hm hy).mono fun _ _ h => let ⟨v, h1, h2, h3, _⟩ := h; ⟨v, h1, h2, h3⟩
end Go.Proofs.Ytkimngffbioeeaa
