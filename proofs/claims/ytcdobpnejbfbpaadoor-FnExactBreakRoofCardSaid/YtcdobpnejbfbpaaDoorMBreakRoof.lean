import Derived.Test.YtcdobpnejbfbpaaDoorRowT
import Derived.Test.YtcdobpnejbfbpaaDoorLift
import Derived.Test.YtcdobpnejbfbpaaDoorGive
import Derived.Test.YtcdobpnejbfbpaaDoorOldM
import Derived.Test.YtcdobpnejbfbpaaDoorOldS
import Derived.Deep.RegionHeld3
import Derived.Test.YtcdobpnejbfbpaaDoorFstB
import Derived.Test.YtcdobpnejbfbpaaDoorTiles
import Derived.Test.YtcdobpnejbfbpaaDoorRset
import Derived.Test.YtcdobpnejbfbpaaDoorEnd
import Derived.Test.YtcdobpnejbfbpaaDoorCards
import Derived.Test.YtcdobpnejbfbpaaDoorTie
import Derived.Test.YtcdobpnejbfbpaaDoorLaidN
import Derived.Test.YtcdobpnejbfbpaaDoorLaidA
import Derived.Test.YtcdobpnejbfbpaaDoorHelp
import Derived.Test.YtcdobpnejbfbpaaDoorBox
import Derived.Test.YtcdobpnejbfbpaaDoorSame
import Derived.Test.YtcdobpnejbfbpaaDoorOpen
import Derived.Test.YtcdobpnejbfbpaaDoorNums
import Derived.Test.YtcdobpnejbfbpaaDoorAge
import Derived.Deep.DeepCutAuto

/- placesWhere: the places of a roof for which a function value answers true. -/
namespace Go.Proofs.YtcdobpnejbfbpaaDoor
open Go.RowKit Go.Shelf
attribute [local go_sem] Oper.semAt_some

theorem A_infoPw : (Tryd.prog.info? 36).map (fun i => (i.zero, i.size, i.bytes)) = some (some (.agg #[.int .i8 0, .int .i8 0]), 2, 2) := by kernel_rfl
/-- Of some places those that are as told. -/
def fltW (p : Nat → Nat → Bool) {h w : Nat} (l : List (Pl h w)) : List (Pl h w) := l.filter fun x => p x.1.1 x.1.2
theorem fltW_hit {p : Nat → Nat → Bool} {h w : Nat} {l : List (Pl h w)} {x : Pl h w} (e : p x.1.1 x.1.2 = true) : fltW p (l ++ [x]) = fltW p l ++ [x] := by simp [fltW, e]
theorem fltW_miss {p : Nat → Nat → Bool} {h w : Nat} {l : List (Pl h w)} {x : Pl h w} (e : p x.1.1 x.1.2 = false) : fltW p (l ++ [x]) = fltW p l := by simp [fltW, e]
theorem fltW_len {p : Nat → Nat → Bool} {h w : Nat} (l : List (Pl h w)) : (fltW p l).length ≤ l.length := List.length_filter_le _ _
/-- A predicate on places as a function value, within h courses of w tiles. -/
def PredW (g : FuncId) (la lb : Array Value) (p : Nat → Nat → Bool) (w : World) : Prop :=
  ∀ (i j : Nat) W, i < 8 → j < 8 → Below w.heap.size w W → Calls Tryd.prog g (la ++ #[.agg #[.int .i8 i, .int .i8 j]] ++ lb) W fun e w' => e = .returned (.bool (p i j)) ∧ Below W.heap.size W w'
theorem PredW.later {g : FuncId} {la lb : Array Value} {p : Nat → Nat → Bool} {w w' : World} (h : PredW g la lb p w) (b : Below w.heap.size w w') : PredW g la lb p w' :=
  fun i j W hi hj B => h i j W hi hj (bnext b B b.size)
/-- A list's room. -/
def CapW (v : Value) (n : Nat) : Prop := ∃ a cap, v = .slice a n cap ∧ n ≤ cap ∧ cap ≤ maxLen
theorem CapW.of_pls {w : World} {base : Nat} {e : TypeId} {v : Value} {n : Nat} {xs : List Value} (o : w.ownsRow base e 2 v n xs) : CapW v n := by
  obtain ⟨hl, h | ⟨g, cap, cur, rfl, hg, hh, hn, hm, hs, ht⟩⟩ := o
  · exact ⟨none, 0, by rw [h.1, h.2], by omega, by unfold maxLen; omega⟩
  · exact ⟨_, cap, rfl, hn, hm⟩
def GivesW (w : World) {h ww : Nat} (l : List (Pl h ww)) (e : Ending) (w' : World) : Prop :=
  ∃ v, e = .returned v ∧ IsList w' w.heap.size v 2 l.length (fun i => .int .i8 (plAt l i)) ∧ Below w.heap.size w w' ∧ CapW v l.length
theorem GivesW.gives {w : World} {h ww : Nat} {l : List (Pl h ww)} {e : Ending} {w' : World} (g : GivesW w l e w') : GivesP w l e w' := let ⟨v, h1, h2, h3, _⟩ := g; ⟨v, h1, h2, h3⟩

set_option maxRecDepth 100000 in
set_option maxHeartbeats 4000000 in
theorem placesWhere_any (fg : FuncId) (la lb : Array Value) (p : Nat → Nat → Bool) (eg : ∀ args w, (callFunc fg args).run Tryd.prog w = .ok (.enter fg args) w) (c : Array Value) (r : Rf) (hh ww : Nat) (hhe : r.h = hh) (hwe : r.w = ww) (h8 : hh ≤ 8) (w8 : ww ≤ 8) (w : World) (hR : IsRoof c r) (hp : PredW fg la lb p w) :
    Calls Tryd.prog 73 #[.agg c, .func (.func fg) la lb] w (GivesW w (fltW p (plUpto hh ww (hh * ww)))) := by
  have hc := hR.size
  obtain ⟨i0, hi0, hz0, hz1, hz2⟩ := info_parts A_infoPw
  have HP := Lib.hid hp
  clear hp
  refine (callsIn_wide (n := 3)).1 ?_
  refine callsIn_of_wp_marks Tryd.func73 rfl trivial ?_ rfl
  simp only [Tryd.ntmps73, List.size_toArray, List.length_cons, List.length_nil, Nat.reduceAdd, Nat.reduceSub, Array.replicate_succ, Array.replicate_zero, List.push_toArray, List.append_toArray, List.nil_append, List.cons_append]
  gi_wp2_with (refine ⟨trivial, ?_⟩; gi_at_call 70; refine (callsIn_wide.2 (places_any c _)).mono ?_; rintro e w' ⟨rfl, rfl⟩)
  obtain ⟨W0, hW0⟩ : ∃ W0, ((((w.alloc (.cells c 30)).alloc (.cells #[.func (.func fg) la lb] 113)).alloc (.cells #[.slice none 0 0] 41)).alloc (.cells c 30)) = W0 := ⟨_, rfl⟩
  have hsz : W0.heap.size = w.heap.size + 4 := by rw [← hW0]; simp
  have rA : RowT W0 (w.heap.size) 30 c := by
    have := (((RowT.new w 30 c).alloc (.cells #[.func (.func fg) la lb] 113)).alloc (.cells #[.slice none 0 0] 41)).alloc (.cells c 30)
    rw [hW0] at this; simpa using this
  have rF : RowT W0 (w.heap.size + 1) 113 #[.func (.func fg) la lb] := by
    have := ((RowT.new (w.alloc (.cells c 30)) 113 #[.func (.func fg) la lb]).alloc (.cells #[.slice none 0 0] 41)).alloc (.cells c 30)
    rw [hW0] at this; simpa using this
  have rC0 : RowT W0 (w.heap.size + 1 + 1) 41 #[.slice none 0 0] := by
    have := (RowT.new ((w.alloc (.cells c 30)).alloc (.cells #[.func (.func fg) la lb] 113)) 41 #[.slice none 0 0]).alloc (.cells c 30)
    rw [hW0] at this; simpa using this
  have rD : RowT W0 (w.heap.size + 1 + 1 + 1) 30 c := by
    have := RowT.new (((w.alloc (.cells c 30)).alloc (.cells #[.func (.func fg) la lb] 113)).alloc (.cells #[.slice none 0 0] 41)) 30 c
    rw [hW0] at this; simpa using this
  have rC : Boxed W0 (w.heap.size + 1 + 1) 41 (.slice none 0 0) := rC0
  have hB0 : Below w.heap.size w W0 := by rw [← hW0]; exact ((((Below.refl _ w).alloc (Nat.le_refl _) _).alloc (by simp) _).alloc (by simp <;> omega) _).alloc (by simp <;> omega) _
  rw [hW0]
  clear hW0
  refine wpIn_rangeFunc_ownH rfl (by omega) (gf := 85) (lb := #[.pointer (some ⟨w.heap.size + 1 + 1 + 1, 0, none⟩)]) rfl trivial (enters_of Tryd.func85 (by kernel_rfl) rfl)
    (places_stops 2 (by omega) (w.heap.size + 1 + 1 + 1) w.heap.size c r hh ww hhe hwe h8 w8 hR W0 rD.row) KpR.trans (KpR.put (by omega) (by omega)) (Below.refl _ _) (fun _ => rfl)
    (fun pre W => ((RowT W w.heap.size 30 c ∧ RowT W (w.heap.size + 1) 113 #[.func (.func fg) la lb] ∧ RowT W (w.heap.size + 1 + 1 + 1) 30 c) ∧ (∃ v, Boxed W (w.heap.size + 1 + 1) 41 v ∧ W.ownsRow w.heap.size 36 2 v (fltW p pre).length (plCells (fltW p pre)) ∧ True)) ∧ Below w.heap.size w W)
    (fun _ _ _ => False)
    (OwnFrom.and (OwnFrom.and (OwnFrom.and (Own.from (RowT.own _ _ _) _) (OwnFrom.and (Own.from (RowT.own _ _ _) _) (Own.from (RowT.own _ _ _) _))) (Own.from (holdsRow_own w.heap.size (w.heap.size + 1 + 1) 41 36 2 (fun pre => (fltW p pre).length) (fun pre => plCells (fltW p pre)) (fun _ _ => True)) _)) (ownFrom_below (Nat.le_refl _) (by omega)))
    (fun _ _ _ _ _ hs _ _ => hs)
    ⟨⟨⟨rA, rF, rD⟩, ⟨_, rC, World.ownsRow_nil _ _ _ _, trivial⟩⟩, hB0⟩
    (fun x a' W => ∃ Bx, w.heap.size + 1 + 1 + 1 < Bx ∧ RowT W Bx 36 #[.int .i8 (x.1.1 : Int), .int .i8 (x.1.2 : Int)] ∧ a' = { tmps := #[.agg c, .func (.func fg) la lb, .pointer (some ⟨w.heap.size, 0, none⟩), .pointer (some ⟨w.heap.size + 1, 0, none⟩), .slice none 0 0, .pointer (some ⟨w.heap.size + 1 + 1, 0, none⟩), .pointer (some ⟨Bx, 0, none⟩), .agg c, .func (.func 85) #[] #[.pointer (some ⟨w.heap.size + 1 + 1 + 1, 0, none⟩)], x.enc, undef, undef, undef, undef, undef, undef, undef, undef], defers := [] })
    (fun x a' _ X Y row hs hg hr => by obtain ⟨Bx, h1, h2, h3⟩ := hs; exact ⟨Bx, h1, RowT.own Bx 36 (fun (_ : Unit) => #[Value.int .i8 (x.1.1 : Int), .int .i8 (x.1.2 : Int)]) () X Y row h2 hg (fun r e => (hr r e).2), h3⟩)
    ?assign ?body ?done ?stop
  case assign =>
    rintro l pre x W K ⟨⟨⟨gA, gF, gD⟩, v, gv, gl, _⟩, hB1⟩ hK
    dsimp only [Pl.enc]
    gi_wp2
    refine hK _ _ ((KeepsOthers.alloc _ _).from _) ⟨(Below.refl _ W).alloc hB1.size _, fun c' h => (rowAt_alloc_past _ _ _ (rowAt_lt h)).trans h⟩ ⟨⟨⟨gA.alloc _, gF.alloc _, gD.alloc _⟩, v, gv.alloc _, gl.alloc _, trivial⟩, hB1.alloc hB1.size _⟩ ⟨W.heap.size, gD.lt, RowT.new W 36 _, rfl⟩
  case body =>
    rintro l pre x a' W hl ⟨rr, hrr⟩ ⟨⟨⟨gA, gF, gD⟩, v, gv, gl, _⟩, hB1⟩ ⟨Bx, hBx, gX, rfl⟩ hlt
    have hpl := fltW_len (p := p) pre
    have x8 : x.1.1 < 8 := by have := x.2.1; omega
    have y8 : x.1.2 < 8 := by have := x.2.2; omega
    have hpre : pre.length < 64 := by
      have : hh * ww ≤ 8 * 8 := Nat.mul_le_mul h8 w8
      omega
    have CK := HP.out x.1.1 x.1.2 W x8 y8 hB1
    have kx0 := cell_of_rowAt gX.row 0
    have kx1 := cell_of_rowAt gX.row 1
    have kf := cell_of_rowAt gF.row 0
    simp at kx0 kx1 kf
    cases hx : p x.1.1 x.1.2 with
    | true =>
      rw [hx] at CK
      have HX := Lib.hid hx
      clear hx
      gi_wp2
      refine ⟨trivial, (CallsIn.inRound l (callsIn_wide.2 CK)).mono ?_⟩
      rintro e wx ⟨rfl, bx⟩
      obtain ⟨W2, hW2⟩ : ∃ W2, W2 = wx := ⟨_, rfl⟩
      rw [← hW2] at bx ⊢
      have bW := bx
      have hb2 : Below w.heap.size w W2 := hB1.trans (bW.mono hB1.size)
      have gA2 := gA.below bW
      have gF2 := gF.below bW
      have gD2 := gD.below bW
      have gX2 := gX.below bW
      have hv : Boxed W2 (w.heap.size + 1 + 1) 41 v := RowT.below gv bW
      have hrow := owns_below gl bW
      clear hW2 bx CK kx0 kx1 kf eg
      have hc := hv.cell
      have kx0 := cell_of_rowAt gX2.row 0
      have kx1 := cell_of_rowAt gX2.row 1
      simp at kx0 kx1
      gi_wp2_with (gi_at_builtin; refine wpListIn_append_own _ rfl _ _ 41 rfl w.heap.size 36 i0 (.agg #[.int .i8 0, .int .i8 0]) 2 2 Tryd.underlying41 hi0 hz0 hz1 hz2 rfl (by decide) _ _ _ rfl (hrow.alloc _) ⟨W2.heap.size, 0, none⟩ 1 1 [.int .i8 (x.1.1 : Int), .int .i8 (x.1.2 : Int)] rfl rfl (cell_two_new _ _ _ _) (by simp [Value.oneCell']) (by unfold maxLen; omega) (by omega) (by have := hb2.size; simp; omega) ?_; intro v' w1 hown' hgrow _; obtain ⟨g', cap', rfl⟩ := ownsRow_succ hown'; obtain ⟨hv1, hv2, hr2, hk2, hb3⟩ := hv.appended (by decide) hrow hb2.size (by omega) hown' hgrow; have hc1 := hv1.cell; have hf1 := hv1.frozen; have zA := (gA2.appended (by decide) hrow hgrow).other (B' := w.heap.size + 1 + 1) (o := 0) (by omega) (.slice (some ⟨g', 0, none⟩) ((fltW p pre).length + 1) cap'); have zF := (gF2.appended (by decide) hrow hgrow).other (B' := w.heap.size + 1 + 1) (o := 0) (by omega) (.slice (some ⟨g', 0, none⟩) ((fltW p pre).length + 1) cap'); have zD := (gD2.appended (by decide) hrow hgrow).other (B' := w.heap.size + 1 + 1) (o := 0) (by omega) (.slice (some ⟨g', 0, none⟩) ((fltW p pre).length + 1) cap'))
      refine ⟨((keeps_of_below bW).trans hk2).from _, ⟨(bW.mono hB1.size).trans hb3, fun c' h' => ?_⟩, ⟨⟨zA, zF, zD⟩, _, hv2, by rw [fltW_hit HX.out, plCells_snoc]; simpa using hr2, trivial⟩, hb2.trans hb3⟩
      rw [zD.row, ← gD.row]
      exact h'
    | false =>
      rw [hx] at CK
      have HX := Lib.hid hx
      clear hx
      gi_wp2
      refine ⟨trivial, (CallsIn.inRound l (callsIn_wide.2 CK)).mono ?_⟩
      rintro e wx ⟨rfl, bx⟩
      have bW := bx
      have hb2 : Below w.heap.size w wx := hB1.trans (bW.mono hB1.size)
      have hv : Boxed wx (w.heap.size + 1 + 1) 41 v := RowT.below gv bW
      have hrow := owns_below gl bW
      clear bx CK kx0 kx1 kf eg
      gi_wp2
      exact ⟨(keeps_of_below bW).from _, ⟨bW.mono hB1.size, fun c' h' => brow bW h'⟩, ⟨⟨gA.below bW, gF.below bW, gD.below bW⟩, v, hv, by rw [fltW_miss HX.out]; exact hrow, trivial⟩, hb2⟩
  case done =>
    rintro D ys W hD rfl ⟨⟨⟨gA, gF, gD⟩, v, gv, gl, _⟩, hB1⟩ hK
    have hc := gv.cell
    gi_wp2
    refine ⟨by simp, .inl ⟨_, _, rfl, run_takeDeferred hK, ?_⟩⟩
    exact ⟨_, results_tmp rfl _ _ _, v, rfl, IsList.of_pls (ownsRow_putObj gl _ hK rfl), hB1.trans (belowK_b (w := w) (Nat.le_refl _) W D _ _ (by omega) hK rfl rfl), CapW.of_pls gl⟩
  case stop =>
    rintro D c pre W _ _ h _
    exact h.elim
end Go.Proofs.YtcdobpnejbfbpaaDoor

/- olderThan: the places of all tiles of more than some years; both sides. -/
namespace Go.Proofs.YtcdobpnejbfbpaaDoor
open Go.RowKit

/-- A tile of more than y years. -/
def oldB (t : Nat → Int) (y : Int) (i j : Nat) : Bool := decide (y < t (i * 8 + j))
set_option maxRecDepth 100000 in
set_option maxHeartbeats 1000000 in
theorem older_pred (fg : FuncId) (la lb : Array Value) (t : Nat → Int) (eg : ∀ args w, (callFunc fg args).run Tryd.prog w = .ok (.enter fg args) w) (B0 B1 : Nat) (y : Int) (w : World) (h0 : rowAt w B0 = some #[.func (.func fg) la lb]) (h1 : rowAt w B1 = some #[.int .i64 y]) (hp : NumPl fg la lb t w) :
    PredW 74 #[] #[.pointer (some ⟨B0, 0, none⟩), .pointer (some ⟨B1, 0, none⟩)] (oldB t y) w := fun i j W hi hj hb => by
  have HP := Lib.hid hp
  clear hp
  show Calls Tryd.prog 74 #[.agg #[.int .i8 (i : Int), .int .i8 (j : Int)], .pointer (some ⟨B0, 0, none⟩), .pointer (some ⟨B1, 0, none⟩)] W _
  obtain ⟨b, hcmp⟩ : ∃ b, decide (y < t (i * 8 + j)) = b := ⟨_, rfl⟩
  have hob : oldB t y i j = b := hcmp
  rw [hob]
  clear hob
  go_enter Tryd.func74, Tryd.ntmps74
  go_wp2_with fail
  refine gen_world fun W2 hW => ?_
  have rB : Below W.heap.size W W2 := by rw [hW]; exact (Below.refl _ _).alloc (Nat.le_refl _) _
  have r2 : rowAt W2 W.heap.size = some #[.int .i8 (i : Int), .int .i8 (j : Int)] := by rw [hW]; exact rowAt_alloc_at _ _ _ _ rfl
  have r0 : rowAt W2 B0 = some #[.func (.func fg) la lb] := brow rB (brow hb h0)
  have r1 : rowAt W2 B1 = some #[.int .i64 y] := brow rB (brow hb h1)
  clear hW
  refine wp_region_held_drew (S := fun w' => Below W2.heap.size W2 w') (by kernel_rfl) ((Below.refl _ _).drew) (fun hH => ?_)
  refine wpAnyH_take (i := 0) (v := .func (.func fg) la lb) rfl (by kernel_rfl) (by kernel_rfl) (by kernel_rfl) (fun _ _ _ h => h) (Or.inl ⟨by rfl, ?_⟩) hH ?_
  · intro w1 hS; (try dsimp only at hS); have u := (cell_of_rowAt (brow hS r0) 0); simp at u; go_simp
  (try simp only [List.getElem_toArray]); (try simp only [List.getElem_cons_succ]); (try simp only [List.getElem_cons_zero]); (try simp only [Act.put]); (try simp only [List.setIfInBounds_toArray]); (try simp only [List.set_cons_succ]); (try simp only [List.set_cons_zero])
  refine wpAnyH_take (i := 1) (v := .agg #[.int .i8 (i : Int), .int .i8 (j : Int)]) rfl (by kernel_rfl) (by kernel_rfl) (by kernel_rfl) (fun _ _ _ h => h) (Or.inl ⟨by rfl, ?_⟩) hH ?_
  · intro w1 hS; (try dsimp only at hS); have u0 := (cell_of_rowAt (brow hS r2) 0); have u1 := (cell_of_rowAt (brow hS r2) 1); simp at u0 u1; go_simp
  (try simp only [List.getElem_toArray]); (try simp only [List.getElem_cons_succ]); (try simp only [List.getElem_cons_zero]); (try simp only [Act.put]); (try simp only [List.setIfInBounds_toArray]); (try simp only [List.set_cons_succ]); (try simp only [List.set_cons_zero])
  refine wpAnyH_take (i := 3) (v := .int .i64 y) rfl (by kernel_rfl) (by kernel_rfl) (by kernel_rfl) (fun _ _ _ h => h) (Or.inl ⟨by rfl, ?_⟩) hH ?_
  · intro w1 hS; (try dsimp only at hS); have u := (cell_of_rowAt (brow hS r1) 0); simp at u; go_simp
  (try simp only [List.getElem_toArray]); (try simp only [List.getElem_cons_succ]); (try simp only [List.getElem_cons_zero]); (try simp only [Act.put]); (try simp only [List.setIfInBounds_toArray]); (try simp only [List.set_cons_succ]); (try simp only [List.set_cons_zero])
  refine wpAnyH_ready (rs := [2]) (by kernel_rfl) (by simp) (AllReadyH.cons rfl (fun K hK => ?_) AllReadyH.nil)
  go_simp
  refine (HP.out i j _ hi hj ((hb.trans (rB.mono hb.size)).trans (hH.mono (by have := hb.size; have := rB.size; omega)))).mono ?_
  rintro x wx ⟨rfl, bx⟩
  go_simp
  refine hK.out _ _ (bnext hH bx hH.size) (fun hG => ?_)
  clear hK K hH bx
  replace hH := hG
  clear hG
  (try simp only [List.getElem_toArray]); (try simp only [List.getElem_cons_succ]); (try simp only [List.getElem_cons_zero]); (try simp only [Act.put]); (try simp only [List.setIfInBounds_toArray]); (try simp only [List.set_cons_succ]); (try simp only [List.set_cons_zero])
  refine wpAnyH_take (i := 4) (v := .bool b) rfl (by kernel_rfl) (by kernel_rfl) (by kernel_rfl) (fun _ _ _ h => h) (Or.inl ⟨by rfl, ?_⟩) hH ?_
  · intro w1 hS; (try dsimp only at hS); (try exact hcmp); go_simp
  (try simp only [List.getElem_toArray]); (try simp only [List.getElem_cons_succ]); (try simp only [List.getElem_cons_zero]); (try simp only [Act.put]); (try simp only [List.setIfInBounds_toArray]); (try simp only [List.set_cons_succ]); (try simp only [List.set_cons_zero])
  refine wpAnyH_take (i := 5) (v := .bool b) rfl (by kernel_rfl) (by kernel_rfl) (by kernel_rfl) (fun _ _ _ h => h) (Or.inl ⟨by rfl, ?_⟩) hH ?_
  · intro w1 hS; (try dsimp only at hS); go_simp
  (try simp only [List.getElem_toArray]); (try simp only [List.getElem_cons_succ]); (try simp only [List.getElem_cons_zero]); (try simp only [Act.put]); (try simp only [List.setIfInBounds_toArray]); (try simp only [List.set_cons_succ]); (try simp only [List.set_cons_zero])
  refine wpAnyH_done (by kernel_rfl) ?_ _
  have HB := rB.trans (hH.mono rB.size)
  clear hH eg
  go_wp2_with fail
  go_ret
  exact ⟨rfl, HB⟩

set_option maxRecDepth 100000 in
set_option maxHeartbeats 1000000 in
theorem olderThan_any (fg : FuncId) (la lb : Array Value) (t : Nat → Int) (eg : ∀ args w, (callFunc fg args).run Tryd.prog w = .ok (.enter fg args) w) (c : Array Value) (r : Rf) (y : Int) (hh ww : Nat) (hhe : r.h = hh) (hwe : r.w = ww) (h8 : hh ≤ 8) (w8 : ww ≤ 8) (w : World) (hR : IsRoof c r) (hp : ∀ W, NumPl fg la lb t W) :
    Calls Tryd.prog 56 #[.agg c, .int .i64 y, .func (.func fg) la lb] w (GivesW w (fltW (oldB t y) (plUpto hh ww (hh * ww)))) := by
  have hc := hR.size
  have CW := fun W h0 h1 => placesWhere_any 74 #[] #[.pointer (some ⟨w.heap.size + 1 + 1, 0, none⟩), .pointer (some ⟨w.heap.size + 1, 0, none⟩)] (oldB t y) (enters_of Tryd.func74 (by kernel_rfl) rfl) c r hh ww hhe hwe h8 w8 W hR (older_pred fg la lb t eg (w.heap.size + 1 + 1) (w.heap.size + 1) y W h0 h1 (hp W))
  have HCW := Lib.hid CW
  clear CW eg hp hhe hwe
  go_enter Tryd.func56, Tryd.ntmps56
  go_wp2_with fail
  refine gen_callsW fun W hW => ?_
  have r1 : rowAt W (w.heap.size + 1) = some #[.int .i64 y] := by rw [hW]; exact (rowAt_alloc_past _ _ _ (by simp)).trans (rowAt_alloc_at _ _ _ _ (by simp))
  have r2 : rowAt W (w.heap.size + 1 + 1) = some #[.func (.func fg) la lb] := by rw [hW]; exact rowAt_alloc_at _ _ _ _ (by simp)
  have pB : Below w.heap.size w W := by rw [hW]; exact (((Below.refl _ _).alloc (Nat.le_refl _) _).alloc (by simp) _).alloc (by simp; omega) _
  clear hW
  refine (HCW.out _ r2 r1).mono ?_
  rintro e w1 ⟨v, rfl, l1, b1, cp⟩
  have B1 := bnext pB b1 pB.size
  replace l1 := l1.mono pB.size
  obtain ⟨av, cv, rfl⟩ := l1.shape
  clear b1 r1 r2
  go_wp2_with fail
  go_ret
  exact ⟨_, rfl, l1, B1, cp⟩

set_option maxRecDepth 100000 in
set_option maxHeartbeats 1000000 in
theorem l07Old_any (k n : Nat) (c d : Array Value) (r : Rf) (t : Nat → Int) (y z : Int) (hh ww : Nat) (hhe : r.h = hh) (hwe : r.w = ww) (h8 : hh ≤ 8) (w8 : ww ≤ 8) (w : World) (hr : rowAt w k = some c) (hR : IsRoof c r) (hd : rowAt w n = some d) (hA : IsU8 d 64 t) (hz : 0 ≤ z ∧ z ≤ 1000) :
    Calls Tryd.prog 54 #[.pointer (some ⟨k, 0, none⟩), .pointer (some ⟨n, 0, none⟩), .int .i64 y, .int .i64 z] w (GivesP w (fltW (oldB t (y - z)) (plUpto hh ww (hh * ww)))) := by
  have hn := rowAt_lt hd
  obtain ⟨i0, hi0, hz0, hz1, hz2⟩ := info_parts A_infoPw
  have hsz : hh * ww ≤ 64 := Nat.mul_le_mul h8 w8
  have ow := owns_empty w 36 2
  have hB0 : Below w.heap.size w (w.alloc (.cells #[] 36)) := (Below.refl _ _).alloc (Nat.le_refl _) _
  have r0 := brow hB0 hr
  have CA := fun W i j hi hj hd => l07Age_any n d t i j W hd hA hi hj
  have HCA := Lib.hid CA
  clear CA
  go_enter Tryd.func54, Tryd.ntmps54
  go_wp2_with fail
  refine (l01All_any k c r hh ww hhe hwe h8 w8 _ r0 hR).mono ?_
  rintro e w1 ⟨va, rfl, la, b1⟩
  have ow1 := owns_below ow b1
  have B1 := bnext hB0 b1 hB0.size
  have hs1 : w.heap.size < w1.heap.size := by have := b1.size; simp at this; omega
  rw [plUpto_size (Nat.le_refl _)] at la
  replace la := la.mono (show w.heap.size + 1 ≤ _ by simp)
  obtain ⟨aa, ca, rfl⟩ := la.shape
  have LA := Lib.hid la
  have HD := Lib.hid hd
  have cs := Coll.start B1 0 0
  clear b1 ow hB0 r0 hr la B1 hhe hwe
  go_wp2_with fail
  go_loopw [9, 11] (fun v i W => ∃ m : Nat, m ≤ hh * ww ∧ i = .int .i64 m ∧ W.ownsRow w.heap.size 36 2 v (fltW (oldB t (y - z)) (plUpto hh ww m)).length (plCells (fltW (oldB t (y - z)) (plUpto hh ww m))) ∧ Coll w w1 W v) (fun _ i _ => hh * ww - (intOf i).toNat)
  case atStart => exact ⟨0, by omega, rfl, ow1, cs⟩
  case round =>
    clear ow1 cs
    obtain ⟨m, hm, rfl, hv, hC⟩ := hrel
    by_cases hlt : m < hh * ww
    · have hp := pl_in hlt
      have i8 : m / ww < 8 := by omega
      have j8 : m % ww < 8 := by omega
      have rW := brow hC.bel HD.out
      obtain ⟨h0, _⟩ | ⟨g, cap, cur, e1, hg, hgr, hgs, hgf⟩ := LA.out.by_rows (fun g h1 h2 => hC.rows g (by omega) h2)
      · omega
      cases e1
      have c0 : wr.cell? ⟨g, m * 2, none⟩ = some (.int .i8 ((m / ww : Nat) : Int)) := (cell_of_rowAt hgr _).trans ((hgf _ (by omega)).trans (congrArg (fun z => some (Value.int .i8 z)) (plAt_even (Nat.le_refl _) hlt)))
      have c1 : wr.cell? ⟨g, m * 2 + 1, none⟩ = some (.int .i8 ((m % ww : Nat) : Int)) := (cell_of_rowAt hgr _).trans ((hgf _ (by omega)).trans (congrArg (fun z => some (Value.int .i8 z)) (plAt_odd (Nat.le_refl _) hlt)))
      have m0 : 0 ≤ (m : Int) := by omega
      have m1 : (m : Int) < ((hh * ww : Nat) : Int) := by omega
      have hpl := fltW_len (p := oldB t (y - z)) (plUpto hh ww m)
      have hpl2 := plUpto_len hh ww m
      clear hgf hgs
      obtain ⟨N, hN⟩ : ∃ N, N = hh * ww := ⟨_, rfl⟩
      have HN := Lib.hid hN
      rw [← hN] at m1 hlt hm hsz
      generalize hi : m / ww = i at *
      generalize hj : m % ww = j at *
      have HI := Lib.hid hi
      have HJ := Lib.hid hj
      have hi64 : i * 8 + j < 64 := by omega
      have t0 := hA.lo _ hi64
      have t1 := hA.hi _ hi64
      clear hi hj
      go_wp2_with fail
      refine (HCA.out _ i j i8 j8 rW).mono ?_
      rintro e w2 ⟨rfl, b2⟩
      have hv2 := owns_below hv b2
      have hC2 := hC.call b2
      have d0 : w2.cell? ⟨g, m * 2, none⟩ = some (.int .i8 (i : Int)) := (b2.cell (p := ⟨g, m * 2, none⟩) (rowAt_lt hgr)).trans c0
      have d1 : w2.cell? ⟨g, m * 2 + 1, none⟩ = some (.int .i8 (j : Int)) := (b2.cell (p := ⟨g, m * 2 + 1, none⟩) (rowAt_lt hgr)).trans c1
      have hgw2 : g < w2.heap.size := Nat.lt_of_lt_of_le (rowAt_lt hgr) b2.size
      clear hv hC b2 c0 c1 hgr rW
      have hsC := hC2.bel.size
      by_cases hx : y - z < t (i * 8 + j)
      · have hxb : decide (y < t (i * 8 + j) + z) = true := by simp; omega
        have HX := Lib.hid (show oldB t (y - z) i j = true by simp [oldB, hx])
        clear hx
        go_wp2_with (at_builtin; refine wpList_append_own_at _ rfl _ _ 41 rfl w.heap.size 36 i0 (.agg #[.int .i8 0, .int .i8 0]) 2 2 Tryd.underlying41 hi0 hz0 hz1 hz2 rfl (by decide) _ _ _ rfl (hv2.alloc _) ⟨w2.heap.size, 0, none⟩ 1 1 [.int .i8 i, .int .i8 j] rfl rfl (cell_two_new _ _ _ _) (by simp [Value.oneCell']) (by unfold maxLen; omega) (by omega) (by simp; omega) ?_; intro v' w3 own3 grow3 _ at3)
        have hC3 := hC2.append hs1 grow3 (at3.imp (fun h => h) (fun h => h.trans (by simp)))
        clear hv2 hC2 d0 d1 grow3 at3
        go_wp2_with fail
        refine ⟨⟨m + 1, by omega, by go_num, ?_, hC3⟩, by simp [intOf]; omega⟩
        rw [plUpto_next (by rw [← HN.out]; exact hlt), fltW_hit (by simp only [HI.out, HJ.out]; exact HX.out), plCells_snoc]
        simp only [HI.out, HJ.out]
        simpa using own3
      · have hxb : decide (y < t (i * 8 + j) + z) = false := by simp; omega
        have HX := Lib.hid (show oldB t (y - z) i j = false by simp [oldB]; omega)
        clear hx
        go_wp2_with fail
        refine ⟨⟨m + 1, by omega, by go_num, ?_, hC2⟩, by simp [intOf]; omega⟩
        rw [plUpto_next (by rw [← HN.out]; exact hlt), fltW_miss (by simp only [HI.out, HJ.out]; exact HX.out)]
        exact hv2
    · obtain rfl : m = hh * ww := by omega
      go_wp2_with fail
      go_ret
      exact ⟨_, rfl, IsList.of_pls hv, hC.bel⟩
end Go.Proofs.YtcdobpnejbfbpaaDoor

/- TooOld: both sides. -/
namespace Go.Proofs.YtcdobpnejbfbpaaDoor
open Go.RowKit

/-- The places of all tiles of a roof of more than y years. -/
def Rf.oldL (r : Rf) (t : Nat → Int) (y : Int) : List (Pl r.h.toNat r.w.toNat) := fltW (oldB t y) (plUpto r.h.toNat r.w.toNat (r.h.toNat * r.w.toNat))
theorem Rf.oldL_le {r : Rf} {t : Nat → Int} {y : Int} (ho : r.Ok) : (r.oldL t y).length ≤ 64 := by
  have h1 := fltW_len (p := oldB t y) (plUpto r.h.toNat r.w.toNat (r.h.toNat * r.w.toNat))
  have h2 := plUpto_len r.h.toNat r.w.toNat (r.h.toNat * r.w.toNat)
  have h3 : r.h.toNat * r.w.toNat ≤ 8 * 8 := Nat.mul_le_mul (by have := ho.2.2.2.1; omega) (by have := ho.2.1; omega)
  unfold Rf.oldL
  omega
noncomputable def Rf.toL (r : Rf) (t : Nat → Int) (y : Int) : List (Pl r.h.toNat r.w.toNat) := if r.ageC t (inB y 1 100) = 0 then r.oldL t y else []
theorem Rf.ageC_zero {r : Rf} {t : Nat → Int} {b : Bool} (h : r.ageC t b = 0) : r.Aged t ∧ b = true := by
  rcases Classical.em (r.Aged t) with ha | ha
  · cases b with
    | true => exact ⟨ha, rfl⟩
    | false => rw [Rf.ageC_r ha rfl] at h; cases h
  · rw [Rf.ageC_v ha] at h; cases h
theorem Rf.toL_le (r : Rf) (t : Nat → Int) (y : Int) : (r.toL t y).length ≤ 64 := by
  unfold Rf.toL
  split
  · rename_i h; exact Rf.oldL_le (Rf.ageC_zero h).1.1
  · simp
theorem older_ok (c d : Array Value) (r : Rf) (t : Nat → Int) (y : Int) (w : World) (hR : IsRoof c r) (hA : IsU8 d 64 t) (ho : r.Ok) :
    Calls Tryd.prog 56 #[.agg c, .int .i64 y, .func (.func 48) #[.agg d] #[]] w (GivesW w (r.oldL t y)) :=
  olderThan_any 48 #[.agg d] #[] t (enters_of Tryd.func48 (by kernel_rfl) rfl) c r y r.h.toNat r.w.toNat (by have := ho.2.2.1; omega) (by have := ho.1; omega) (by have := ho.2.2.2.1; omega) (by have := ho.2.1; omega) w hR (fun W => ageOf_num d t W hA)
theorem l07Old_ok (k n : Nat) (c d : Array Value) (r : Rf) (t : Nat → Int) (y z : Int) (w : World) (hr : rowAt w k = some c) (hR : IsRoof c r) (hd : rowAt w n = some d) (hA : IsU8 d 64 t) (hz : 0 ≤ z ∧ z ≤ 1000) (ho : r.Ok) :
    Calls Tryd.prog 54 #[.pointer (some ⟨k, 0, none⟩), .pointer (some ⟨n, 0, none⟩), .int .i64 y, .int .i64 z] w (GivesP w (r.oldL t (y - z))) :=
  l07Old_any k n c d r t y z r.h.toNat r.w.toNat (by have := ho.2.2.1; omega) (by have := ho.1; omega) (by have := ho.2.2.2.1; omega) (by have := ho.2.1; omega) w hr hR hd hA hz

set_option maxRecDepth 100000 in
set_option maxHeartbeats 2000000 in
theorem implTooOld_any (c d : Array Value) (r : Rf) (t : Nat → Int) (y : Int) (w : World) (hR : IsRoof c r) (hA : IsU8 d 64 t) (hT : ErrT w) :
    Calls Tryd.prog 20 #[.agg c, .agg d, .int .i64 y] w (GivesPs w (r.toL t y) (r.ageC t (inB y 1 100))) := by
  obtain ⟨q0, q1, pB⟩ := two_boxes w c d 30 27
  have hc := hR.size
  have hd := hA.size
  have hn0 := fun w => run_neq_nil_nil_at (P := Tryd.prog) (w := w) 70 (by kernel_rfl)
  have hnv := fun w => run_neq_iface_nil (P := Tryd.prog) (w := w) 70 (by kernel_rfl) 97 (.agg #[])
  have hnr := fun w => run_neq_iface_nil (P := Tryd.prog) (w := w) 70 (by kernel_rfl) 101 (.agg #[])
  by_cases ha : r.Aged t
  · cases hf : inB y 1 100 with
    | true =>
      have hcd : r.ageC t true = 0 := Rf.ageC_ok ha rfl
      have hL : r.toL t y = r.oldL t y := if_pos (by rw [hf]; exact hcd)
      have hfine : fineB (bn3 y 1 100) 1 = true := by rw [fineB_bn3]; exact hf
      rw [hL, hcd]
      have CK := fun W v h0 => checkAges_ok 0 1 c d r t v (bn3 y 1 100) W hR hA ha h0 (by omega) hfine
      have CO := fun W => older_ok c d r t y W hR hA ha.1
      generalize r.oldL t y = L at *
      clear hL hcd hf hfine
      go_enter Tryd.func20, Tryd.ntmps20
      go_wp2_with fail
      refine gen_world fun W hW => ?_
      rw [← hW] at q0 q1 pB
      clear hW
      refine wp_region_held_drew (S := fun w' => Below W.heap.size W w') (by kernel_rfl) ((Below.refl _ _).drew) (fun hH => ?_)
      refine wpAnyH_take (i := 0) (v := .agg c) rfl (by kernel_rfl) (by kernel_rfl) (by kernel_rfl) (fun _ _ _ h => h) (Or.inl ⟨by rfl, ?_⟩) hH ?_
      · intro w1 hS; (try dsimp only at hS); have s0 := brow hS q0; go_simp
      (try simp only [List.getElem_toArray]); (try simp only [List.getElem_cons_succ]); (try simp only [List.getElem_cons_zero]); (try simp only [Act.put]); (try simp only [List.setIfInBounds_toArray]); (try simp only [List.set_cons_succ]); (try simp only [List.set_cons_zero])
      refine wpAnyH_take (i := 1) (v := .agg d) rfl (by kernel_rfl) (by kernel_rfl) (by kernel_rfl) (fun _ _ _ h => h) (Or.inl ⟨by rfl, ?_⟩) hH ?_
      · intro w1 hS; (try dsimp only at hS); have s1 := brow hS q1; go_simp
      (try simp only [List.getElem_toArray]); (try simp only [List.getElem_cons_succ]); (try simp only [List.getElem_cons_zero]); (try simp only [Act.put]); (try simp only [List.setIfInBounds_toArray]); (try simp only [List.set_cons_succ]); (try simp only [List.set_cons_zero])
      refine wpAnyH_take (i := 2) (v := .int .i64 y) rfl (by kernel_rfl) (by kernel_rfl) (by kernel_rfl) (fun _ _ _ h => h) (Or.inl ⟨by rfl, ?_⟩) hH ?_
      · intro w1 hS; (try dsimp only at hS); go_simp
      (try simp only [List.getElem_toArray]); (try simp only [List.getElem_cons_succ]); (try simp only [List.getElem_cons_zero]); (try simp only [Act.put]); (try simp only [List.setIfInBounds_toArray]); (try simp only [List.set_cons_succ]); (try simp only [List.set_cons_zero])
      refine wpAnyH_ready (rs := [3]) (by kernel_rfl) (by simp) (AllReadyH.cons rfl (fun K hK => ?_) AllReadyH.nil)
      go_simp
      refine (lived_any y _).mono ?_
      rintro x wx ⟨rfl, bx⟩
      go_simp
      refine hK.out _ _ (bnext hH bx hH.size) (fun hG => ?_)
      clear hK K hH bx
      replace hH := hG
      clear hG
      (try simp only [List.getElem_toArray]); (try simp only [List.getElem_cons_succ]); (try simp only [List.getElem_cons_zero]); (try simp only [Act.put]); (try simp only [List.setIfInBounds_toArray]); (try simp only [List.set_cons_succ]); (try simp only [List.set_cons_zero])
      refine wpAnyH_ready (rs := [4]) (by kernel_rfl) (by simp) (AllReadyH.cons rfl (fun K hK => ?_) AllReadyH.nil)
      go_simp
      refine hK.out _ _ (hH.alloc hH.size _) (fun hG => ?_)
      clear hK K hH
      replace hH := hG
      clear hG
      (try simp only [List.getElem_toArray]); (try simp only [List.getElem_cons_succ]); (try simp only [List.getElem_cons_zero]); (try simp only [Act.put]); (try simp only [List.setIfInBounds_toArray]); (try simp only [List.set_cons_succ]); (try simp only [List.set_cons_zero])
      refine wpAnyH_ready (rs := [5]) (by kernel_rfl) (by simp) (AllReadyH.cons rfl (fun K hK => ?_) AllReadyH.nil)
      go_simp
      refine (CK _ _ (IsList.li3 (rowAt_alloc_at _ _ _ _ rfl) (Nat.zero_le _))).mono ?_
      rintro x wx ⟨rfl, bx⟩
      go_simp
      refine hK.out _ _ (bnext hH bx hH.size) (fun hG => ?_)
      clear hK K hH bx
      replace hH := hG
      clear hG
      (try simp only [List.getElem_toArray]); (try simp only [List.getElem_cons_succ]); (try simp only [List.getElem_cons_zero]); (try simp only [Act.put]); (try simp only [List.setIfInBounds_toArray]); (try simp only [List.set_cons_succ]); (try simp only [List.set_cons_zero])
      refine wpAnyH_take (i := 6) (v := .nilIface) rfl (by kernel_rfl) (by kernel_rfl) (by kernel_rfl) (fun _ _ _ h => h) (Or.inl ⟨by rfl, ?_⟩) hH ?_
      · intro w1 hS; (try dsimp only at hS); go_simp
      (try simp only [List.getElem_toArray]); (try simp only [List.getElem_cons_succ]); (try simp only [List.getElem_cons_zero]); (try simp only [Act.put]); (try simp only [List.setIfInBounds_toArray]); (try simp only [List.set_cons_succ]); (try simp only [List.set_cons_zero])
      refine wpAnyH_done (by kernel_rfl) ?_ _
      have B1 := bnext pB hH pB.size
      have p0 := brow hH q0
      have p1 := brow hH q1
      clear hH q0 q1 pB CK
      go_wp2_with fail
      refine (CO _).mono ?_
      rintro e w1 ⟨v, rfl, l1, b1, _⟩
      have B2 := bnext B1 b1 B1.size
      replace l1 := l1.mono B1.size
      obtain ⟨av, cv, rfl⟩ := l1.shape
      clear b1 B1 p0 p1 CO
      go_wp2_with fail
      go_ret2
      exact ⟨_, rfl, l1, B2⟩
    | false =>
      have hcd : r.ageC t false = 2 := Rf.ageC_r ha rfl
      have hL : r.toL t y = [] := if_neg (by rw [hf, hcd]; decide)
      have hfine : fineB (bn3 y 1 100) 1 = false := by rw [fineB_bn3]; exact hf
      rw [hL, hcd]
      have CK := fun W v h0 => checkAges_r 0 1 c d r t v (bn3 y 1 100) W hR hA ha h0 (by omega) hfine
      clear hL hcd hf hfine
      go_enter Tryd.func20, Tryd.ntmps20
      go_wp2_with fail
      refine gen_world fun W hW => ?_
      rw [← hW] at q0 q1 pB
      clear hW
      refine wp_region_held_drew (S := fun w' => Below W.heap.size W w') (by kernel_rfl) ((Below.refl _ _).drew) (fun hH => ?_)
      refine wpAnyH_take (i := 0) (v := .agg c) rfl (by kernel_rfl) (by kernel_rfl) (by kernel_rfl) (fun _ _ _ h => h) (Or.inl ⟨by rfl, ?_⟩) hH ?_
      · intro w1 hS; (try dsimp only at hS); have s0 := brow hS q0; go_simp
      (try simp only [List.getElem_toArray]); (try simp only [List.getElem_cons_succ]); (try simp only [List.getElem_cons_zero]); (try simp only [Act.put]); (try simp only [List.setIfInBounds_toArray]); (try simp only [List.set_cons_succ]); (try simp only [List.set_cons_zero])
      refine wpAnyH_take (i := 1) (v := .agg d) rfl (by kernel_rfl) (by kernel_rfl) (by kernel_rfl) (fun _ _ _ h => h) (Or.inl ⟨by rfl, ?_⟩) hH ?_
      · intro w1 hS; (try dsimp only at hS); have s1 := brow hS q1; go_simp
      (try simp only [List.getElem_toArray]); (try simp only [List.getElem_cons_succ]); (try simp only [List.getElem_cons_zero]); (try simp only [Act.put]); (try simp only [List.setIfInBounds_toArray]); (try simp only [List.set_cons_succ]); (try simp only [List.set_cons_zero])
      refine wpAnyH_take (i := 2) (v := .int .i64 y) rfl (by kernel_rfl) (by kernel_rfl) (by kernel_rfl) (fun _ _ _ h => h) (Or.inl ⟨by rfl, ?_⟩) hH ?_
      · intro w1 hS; (try dsimp only at hS); go_simp
      (try simp only [List.getElem_toArray]); (try simp only [List.getElem_cons_succ]); (try simp only [List.getElem_cons_zero]); (try simp only [Act.put]); (try simp only [List.setIfInBounds_toArray]); (try simp only [List.set_cons_succ]); (try simp only [List.set_cons_zero])
      refine wpAnyH_ready (rs := [3]) (by kernel_rfl) (by simp) (AllReadyH.cons rfl (fun K hK => ?_) AllReadyH.nil)
      go_simp
      refine (lived_any y _).mono ?_
      rintro x wx ⟨rfl, bx⟩
      go_simp
      refine hK.out _ _ (bnext hH bx hH.size) (fun hG => ?_)
      clear hK K hH bx
      replace hH := hG
      clear hG
      (try simp only [List.getElem_toArray]); (try simp only [List.getElem_cons_succ]); (try simp only [List.getElem_cons_zero]); (try simp only [Act.put]); (try simp only [List.setIfInBounds_toArray]); (try simp only [List.set_cons_succ]); (try simp only [List.set_cons_zero])
      refine wpAnyH_ready (rs := [4]) (by kernel_rfl) (by simp) (AllReadyH.cons rfl (fun K hK => ?_) AllReadyH.nil)
      go_simp
      refine hK.out _ _ (hH.alloc hH.size _) (fun hG => ?_)
      clear hK K hH
      replace hH := hG
      clear hG
      (try simp only [List.getElem_toArray]); (try simp only [List.getElem_cons_succ]); (try simp only [List.getElem_cons_zero]); (try simp only [Act.put]); (try simp only [List.setIfInBounds_toArray]); (try simp only [List.set_cons_succ]); (try simp only [List.set_cons_zero])
      refine wpAnyH_ready (rs := [5]) (by kernel_rfl) (by simp) (AllReadyH.cons rfl (fun K hK => ?_) AllReadyH.nil)
      go_simp
      refine (CK _ _ (IsList.li3 (rowAt_alloc_at _ _ _ _ rfl) (Nat.zero_le _))).mono ?_
      rintro x wx ⟨rfl, bx⟩
      go_simp
      refine hK.out _ _ (bnext hH bx hH.size) (fun hG => ?_)
      clear hK K hH bx
      replace hH := hG
      clear hG
      (try simp only [List.getElem_toArray]); (try simp only [List.getElem_cons_succ]); (try simp only [List.getElem_cons_zero]); (try simp only [Act.put]); (try simp only [List.setIfInBounds_toArray]); (try simp only [List.set_cons_succ]); (try simp only [List.set_cons_zero])
      refine wpAnyH_take (i := 6) (v := .iface 101 (.agg #[])) rfl (by kernel_rfl) (by kernel_rfl) (by kernel_rfl) (fun _ _ _ h => h) (Or.inl ⟨by rfl, ?_⟩) hH ?_
      · intro w1 hS; (try dsimp only at hS); go_simp
      (try simp only [List.getElem_toArray]); (try simp only [List.getElem_cons_succ]); (try simp only [List.getElem_cons_zero]); (try simp only [Act.put]); (try simp only [List.setIfInBounds_toArray]); (try simp only [List.set_cons_succ]); (try simp only [List.set_cons_zero])
      refine wpAnyH_done (by kernel_rfl) ?_ _
      have B1 := bnext pB hH pB.size
      have T1 := hT.below B1
      clear hH q0 q1 pB CK
      go_wp2_with fail
      refine (yearCode_R _ T1).mono ?_
      rintro e w1 ⟨rfl, b1⟩
      have B2 := bnext B1 b1 B1.size
      clear b1 B1 T1
      go_wp2_with fail
      go_ret2
      exact ⟨_, rfl, .inl ⟨rfl, _, _, rfl⟩, B2⟩
  · have hcd : r.ageC t (inB y 1 100) = 1 := Rf.ageC_v ha
    have hL : r.toL t y = [] := if_neg (by rw [hcd]; decide)
    rw [hL, hcd]
    have CV := fun W v => checkAges_v c d r t v W hR hA ha
    clear hL hcd
    go_enter Tryd.func20, Tryd.ntmps20
    go_wp2_with fail
    refine gen_world fun W hW => ?_
    rw [← hW] at q0 q1 pB
    clear hW
    refine wp_region_held_drew (S := fun w' => Below W.heap.size W w') (by kernel_rfl) ((Below.refl _ _).drew) (fun hH => ?_)
    refine wpAnyH_take (i := 0) (v := .agg c) rfl (by kernel_rfl) (by kernel_rfl) (by kernel_rfl) (fun _ _ _ h => h) (Or.inl ⟨by rfl, ?_⟩) hH ?_
    · intro w1 hS; (try dsimp only at hS); have s0 := brow hS q0; go_simp
    (try simp only [List.getElem_toArray]); (try simp only [List.getElem_cons_succ]); (try simp only [List.getElem_cons_zero]); (try simp only [Act.put]); (try simp only [List.setIfInBounds_toArray]); (try simp only [List.set_cons_succ]); (try simp only [List.set_cons_zero])
    refine wpAnyH_take (i := 1) (v := .agg d) rfl (by kernel_rfl) (by kernel_rfl) (by kernel_rfl) (fun _ _ _ h => h) (Or.inl ⟨by rfl, ?_⟩) hH ?_
    · intro w1 hS; (try dsimp only at hS); have s1 := brow hS q1; go_simp
    (try simp only [List.getElem_toArray]); (try simp only [List.getElem_cons_succ]); (try simp only [List.getElem_cons_zero]); (try simp only [Act.put]); (try simp only [List.setIfInBounds_toArray]); (try simp only [List.set_cons_succ]); (try simp only [List.set_cons_zero])
    refine wpAnyH_take (i := 2) (v := .int .i64 y) rfl (by kernel_rfl) (by kernel_rfl) (by kernel_rfl) (fun _ _ _ h => h) (Or.inl ⟨by rfl, ?_⟩) hH ?_
    · intro w1 hS; (try dsimp only at hS); go_simp
    (try simp only [List.getElem_toArray]); (try simp only [List.getElem_cons_succ]); (try simp only [List.getElem_cons_zero]); (try simp only [Act.put]); (try simp only [List.setIfInBounds_toArray]); (try simp only [List.set_cons_succ]); (try simp only [List.set_cons_zero])
    refine wpAnyH_ready (rs := [3]) (by kernel_rfl) (by simp) (AllReadyH.cons rfl (fun K hK => ?_) AllReadyH.nil)
    go_simp
    refine (lived_any y _).mono ?_
    rintro x wx ⟨rfl, bx⟩
    go_simp
    refine hK.out _ _ (bnext hH bx hH.size) (fun hG => ?_)
    clear hK K hH bx
    replace hH := hG
    clear hG
    (try simp only [List.getElem_toArray]); (try simp only [List.getElem_cons_succ]); (try simp only [List.getElem_cons_zero]); (try simp only [Act.put]); (try simp only [List.setIfInBounds_toArray]); (try simp only [List.set_cons_succ]); (try simp only [List.set_cons_zero])
    refine wpAnyH_ready (rs := [4]) (by kernel_rfl) (by simp) (AllReadyH.cons rfl (fun K hK => ?_) AllReadyH.nil)
    go_simp
    refine hK.out _ _ (hH.alloc hH.size _) (fun hG => ?_)
    clear hK K hH
    replace hH := hG
    clear hG
    (try simp only [List.getElem_toArray]); (try simp only [List.getElem_cons_succ]); (try simp only [List.getElem_cons_zero]); (try simp only [Act.put]); (try simp only [List.setIfInBounds_toArray]); (try simp only [List.set_cons_succ]); (try simp only [List.set_cons_zero])
    refine wpAnyH_ready (rs := [5]) (by kernel_rfl) (by simp) (AllReadyH.cons rfl (fun K hK => ?_) AllReadyH.nil)
    go_simp
    refine (CV _ _).mono ?_
    rintro x wx ⟨rfl, bx⟩
    go_simp
    refine hK.out _ _ (bnext hH bx hH.size) (fun hG => ?_)
    clear hK K hH bx
    replace hH := hG
    clear hG
    (try simp only [List.getElem_toArray]); (try simp only [List.getElem_cons_succ]); (try simp only [List.getElem_cons_zero]); (try simp only [Act.put]); (try simp only [List.setIfInBounds_toArray]); (try simp only [List.set_cons_succ]); (try simp only [List.set_cons_zero])
    refine wpAnyH_take (i := 6) (v := .iface 97 (.agg #[])) rfl (by kernel_rfl) (by kernel_rfl) (by kernel_rfl) (fun _ _ _ h => h) (Or.inl ⟨by rfl, ?_⟩) hH ?_
    · intro w1 hS; (try dsimp only at hS); go_simp
    (try simp only [List.getElem_toArray]); (try simp only [List.getElem_cons_succ]); (try simp only [List.getElem_cons_zero]); (try simp only [Act.put]); (try simp only [List.setIfInBounds_toArray]); (try simp only [List.set_cons_succ]); (try simp only [List.set_cons_zero])
    refine wpAnyH_done (by kernel_rfl) ?_ _
    have B1 := bnext pB hH pB.size
    have T1 := hT.below B1
    clear hH q0 q1 pB CV
    go_wp2_with fail
    refine (yearCode_V _ T1).mono ?_
    rintro e w1 ⟨rfl, b1⟩
    have B2 := bnext B1 b1 B1.size
    clear b1 B1 T1
    go_wp2_with fail
    go_ret2
    exact ⟨_, rfl, .inl ⟨rfl, _, _, rfl⟩, B2⟩

set_option maxRecDepth 100000 in
set_option maxHeartbeats 2000000 in
theorem specTooOld_any (c d : Array Value) (r : Rf) (t : Nat → Int) (y : Int) (w : World) (hR : IsRoof c r) (hA : IsU8 d 64 t) :
    Calls Tryd.prog 19 #[.agg c, .agg d, .int .i64 y] w (GivesPs w (r.toL t y) (r.ageC t (inB y 1 100))) := by
  obtain ⟨p0, p1, pB⟩ := two_boxes w c d 30 27
  have CL := fun W => l07Life_any y W
  have CA := fun W h0 h1 => l07Asked_any w.heap.size (w.heap.size + 1) c d r t (inB y 1 100) W h0 hR h1 hA
  by_cases hz : r.ageC t (inB y 1 100) = 0
  · have hL : r.toL t y = r.oldL t (y - 0) := by rw [Int.sub_zero]; exact if_pos hz
    have hzb : (r.ageC t (inB y 1 100) != 0) = false := by simp [hz]
    obtain ⟨ha, hf⟩ := Rf.ageC_zero hz
    rw [hL, hz]
    have CO := fun W h0 h1 => l07Old_ok w.heap.size (w.heap.size + 1) c d r t y 0 W h0 hR h1 hA (by omega) ha.1
    generalize r.oldL t (y - 0) = L at *
    generalize r.ageC t (inB y 1 100) = k at *
    generalize inB y 1 100 = fb at *
    clear hL hz hf
    go_enter Tryd.func19, Tryd.ntmps19
    go_wp2_with fail
    refine (CL _).mono ?_
    rintro e w1 ⟨rfl, rfl⟩
    go_wp2_with fail
    refine (CA _ p0 p1).mono ?_
    rintro e w1 ⟨rfl, b1⟩
    have r0 := brow b1 p0
    have r1 := brow b1 p1
    have B1 := bnext pB b1 pB.size
    clear b1 p0 p1 pB CA CL
    go_wp2_with fail
    refine (CO _ r0 r1).mono ?_
    rintro e w2 ⟨v, rfl, l2, b2⟩
    have B2 := bnext B1 b2 B1.size
    replace l2 := l2.mono B1.size
    obtain ⟨av, cv, rfl⟩ := l2.shape
    clear b2 B1 r0 r1 CO
    go_wp2_with fail
    go_ret2
    exact ⟨_, rfl, l2, B2⟩
  · have hL : r.toL t y = [] := if_neg hz
    have hzb : (r.ageC t (inB y 1 100) != 0) = true := by simp [hz]
    rw [hL]
    generalize r.ageC t (inB y 1 100) = k at *
    generalize inB y 1 100 = fb at *
    clear hL hz
    go_enter Tryd.func19, Tryd.ntmps19
    go_wp2_with fail
    refine (CL _).mono ?_
    rintro e w1 ⟨rfl, rfl⟩
    go_wp2_with fail
    refine (CA _ p0 p1).mono ?_
    rintro e w1 ⟨rfl, b1⟩
    have B1 := bnext pB b1 pB.size
    clear b1 p0 p1 pB CA CL
    go_wp2_with fail
    go_ret2
    exact ⟨_, rfl, .inl ⟨rfl, _, _, rfl⟩, B1.alloc B1.size _⟩
end Go.Proofs.YtcdobpnejbfbpaaDoor

/- BreakRoof: both sides. -/
namespace Go.Proofs.YtcdobpnejbfbpaaDoor
open Go.RowKit

theorem plAt_get2 {H V : Nat} {l : List (Pl H V)} {k : Nat} (hk : k < l.length) : plAt l (k * 2) = ((l[k]).1.1 : Int) ∧ plAt l (k * 2 + 1) = ((l[k]).1.2 : Int) := by
  unfold plAt
  rw [show k * 2 / 2 = k by omega, show (k * 2 + 1) / 2 = k by omega, List.getElem?_eq_getElem hk]
  simp
theorem inB_and2 {x a b y c d : Int} (h : (inB x a b && inB y c d) = true) : inB x a b = true ∧ (c ≤ y ∧ y ≤ d) ∧ (a ≤ x ∧ x ≤ b) ∧ inB y c d = true := by
  simp [inB] at h ⊢; omega
/-- A roof's cells with the tiles of some places missing. -/
def brkA (c : Array Value) {h w : Nat} (l : List (Pl h w)) : Array Value := l.foldl (fun a x => a.setIfInBounds (3 + x.1.1 * 8 + x.1.2) (.int .u8 3)) c
theorem brkA_next {c : Array Value} {h w : Nat} {l : List (Pl h w)} {k : Nat} (hk : k < l.length) : brkA c (l.take (k + 1)) = (brkA c (l.take k)).setIfInBounds (3 + (l[k]).1.1 * 8 + (l[k]).1.2) (.int .u8 3) := by
  unfold brkA; rw [show l.take (k + 1) = l.take k ++ [l[k]] by first | exact (List.take_append_getElem hk).symm | simp [List.take_succ, List.getElem?_eq_getElem hk], List.foldl_append]; rfl
theorem brkA_is {h w : Nat} (h8 : h ≤ 8) (w8 : w ≤ 8) : ∀ (l : List (Pl h w)) {X : Array Value} {q : Rf}, IsRoof X q → ∃ q', IsRoof (brkA X l) q'
  | [], _, q, hX => ⟨q, hX⟩
  | x :: l, X, q, hX => by
    have h1 := x.2.1
    have h2 := x.2.2
    have := hX.set (x.1.1 * 8 + x.1.2) (by omega) 3 (by omega)
    rw [← Nat.add_assoc] at this
    exact brkA_is h8 w8 l this
noncomputable def Rf.brkC (r : Rf) (t : Nat → Int) (y z : Int) : Int := r.ageC t (inB y 1 100 && inB z 0 200)
noncomputable def Rf.brkX (r : Rf) (c : Array Value) (t : Nat → Int) (y z : Int) : Array Value := if r.brkC t y z = 0 then brkA c (r.oldL t (y - z)) else Tryd.zeroCells30
theorem Rf.brkX_is {c X : Array Value} {r : Rf} {t : Nat → Int} {y z : Int} (hR : IsRoof c r) (hX : r.brkX c t y z = X) : ∃ q, IsRoof X q := by
  rw [← hX]
  unfold Rf.brkX
  split
  · rename_i h
    have ho := (Rf.ageC_zero h).1.1
    exact brkA_is (by have := ho.2.2.2.1; omega) (by have := ho.2.1; omega) _ hR
  · exact ⟨_, zroof_is⟩

set_option maxRecDepth 100000 in
set_option maxHeartbeats 4000000 in
theorem specBreakRoof_any (c d : Array Value) (r : Rf) (t : Nat → Int) (y z : Int) (w : World) (hR : IsRoof c r) (hA : IsU8 d 64 t) (X : Array Value) (hX : r.brkX c t y z = X) :
    Calls Tryd.prog 24 #[.agg c, .agg d, .int .i64 y, .int .i64 z] w fun e w' => e = .returned (.tuple #[.agg X, .int .i64 (r.brkC t y z)]) ∧ Below w.heap.size w w' := by
  have hc := hR.size
  have hd := hA.size
  have hzs : Tryd.zeroCells30.size = 67 := zroof_size
  have hzo : Ones Tryd.zeroCells30 := zroof_ones
  obtain ⟨qX, hIX⟩ := Rf.brkX_is hR hX
  have hXs : X.size = 67 := hIX.size
  have hXo : Ones X := hIX.ones
  clear hIX
  have CL := fun W => l07Life_any y W
  have CY := fun W => l07Years_any z W
  have CA := fun W h0 h1 => l07Asked_any w.heap.size (w.heap.size + 1) c d r t (inB y 1 100 && inB z 0 200) W h0 hR h1 hA
  by_cases hz : r.ageC t (inB y 1 100 && inB z 0 200) = 0
  · have hcd : r.brkC t y z = 0 := hz
    have hzb : (r.ageC t (inB y 1 100 && inB z 0 200) != 0) = false := by simp [hz]
    obtain ⟨ha, hf⟩ := Rf.ageC_zero hz
    obtain ⟨h1, zb, yb, h2⟩ := inB_and2 hf
    have hLX : brkA c (r.oldL t (y - z)) = X := by rw [← hX]; exact (if_pos hcd).symm
    rw [hf] at CA hzb
    rw [h1] at CL
    rw [h2] at CY
    rw [hcd]
    have h8 : r.h.toNat ≤ 8 := by have := ha.1.2.2.2.1; omega
    have w8 : r.w.toNat ≤ 8 := by have := ha.1.2.1; omega
    have CO := fun W h0 h1 => l07Old_ok w.heap.size (w.heap.size + 1) c d r t y z W h0 hR h1 hA (by omega) ha.1
    have hL64 := Rf.oldL_le (t := t) (y := y - z) ha.1
    generalize r.oldL t (y - z) = L at *
    generalize r.ageC t true = k at *
    clear hcd hf h1 h2 hz hX zb yb
    go_enter Tryd.func24, Tryd.ntmps24
    go_wp2_with fail
    refine (CL _).mono ?_
    rintro e w1 ⟨rfl, rfl⟩
    go_wp2_with fail
    refine (CY _).mono ?_
    rintro e w1 ⟨rfl, rfl⟩
    go_wp2_with fail
    refine gen_callsW fun W hW => ?_
    have q0 : rowAt W w.heap.size = some c := by rw [hW]; exact (rowAt_alloc_past _ _ _ (by first | (simp; done) | (simp; omega) | omega)).trans ((rowAt_alloc_past _ _ _ (by first | (simp; done) | (simp; omega) | omega)).trans (rowAt_alloc_at _ _ _ _ (by first | rfl | simp | omega)))
    have q1 : rowAt W (w.heap.size + 1) = some d := by rw [hW]; exact (rowAt_alloc_past _ _ _ (by first | (simp; done) | (simp; omega) | omega)).trans (rowAt_alloc_at _ _ _ _ (by first | rfl | simp | omega))
    have q2 : rowAt W (w.heap.size + 1 + 1) = some Tryd.zeroCells30 := by rw [hW]; exact rowAt_alloc_at _ _ _ _ (by first | rfl | simp | omega)
    have pB : Below w.heap.size w W := by rw [hW]; exact (((Below.refl _ _).alloc (Nat.le_refl _) _).alloc (by first | (simp; done) | (simp; omega) | omega) _).alloc (by first | (simp; done) | (simp; omega) | omega) _
    clear hW
    refine (CA _ q0 q1).mono ?_
    rintro e w1 ⟨rfl, b1⟩
    have p0 := brow b1 q0
    have p1 := brow b1 q1
    have p2 := brow b1 q2
    have B1 := bnext pB b1 pB.size
    have l2 := rowAt_lt p2
    clear b1 q0 q1 q2 pB CA CL CY
    go_wp2_with fail
    refine (CO _ p0 p1).mono ?_
    rintro e w2 ⟨v, rfl, la, b2⟩
    have r0 := brow b2 p0
    have r2 := brow b2 p2
    have B2 := bnext B1 b2 B1.size
    clear b2 p0 p1 p2 B1 CO
    have hLw := la
    obtain ⟨av, cv, rfl⟩ := la.shape
    have LA := Lib.hid hLw
    have c0' : brkA c (L.take 0) = c := rfl
    rw [← c0'] at r0
    clear hLw la c0'
    go_wp2_with fail
    go_loopw [12] (fun i W => ∃ m : Nat, m ≤ L.length ∧ i = .int .i64 m ∧ rowAt W w.heap.size = some (brkA c (L.take m)) ∧ rowAt W (w.heap.size + 1 + 1) = some Tryd.zeroCells30 ∧ (∀ g, w1.heap.size ≤ g → g < w2.heap.size → rowAt W g = rowAt w2 g) ∧ Below w.heap.size w W) (fun i _ => L.length - (intOf i).toNat)
    case atStart => exact ⟨0, by omega, rfl, r0, r2, fun _ _ _ => rfl, B2⟩
    case round =>
      clear r0 r2 B2
      obtain ⟨m, hm, rfl, r0, r2, hrows, B2⟩ := hrel
      have m0 : 0 ≤ (m : Int) := by omega
      by_cases hlt : m < L.length
      · obtain ⟨h0, _⟩ | ⟨g, cap', cur, e1, hg, hgr, hgs, hgf⟩ := LA.out.by_rows (fun g h1 h2 => hrows g h1 h2)
        · omega
        cases e1
        obtain ⟨a1, a2⟩ := plAt_get2 (l := L) hlt
        have hx1 := (L[m]).2.1
        have hx2 := (L[m]).2.2
        have c0 : wr.cell? ⟨g, m * 2, none⟩ = some (.int .i8 (((L[m]).1.1 : Nat) : Int)) := (cell_of_rowAt hgr _).trans ((hgf _ (by omega)).trans (congrArg (fun z => some (Value.int .i8 z)) a1))
        have c1 : wr.cell? ⟨g, m * 2 + 1, none⟩ = some (.int .i8 (((L[m]).1.2 : Nat) : Int)) := (cell_of_rowAt hgr _).trans ((hgf _ (by omega)).trans (congrArg (fun z => some (Value.int .i8 z)) a2))
        have hnx := Lib.hid (brkA_next (c := c) hlt)
        have lgg : g < wr.heap.size := rowAt_lt hgr
        have gne : w.heap.size ≠ g := by omega
        generalize hi : (L[m]).1.1 = i at *
        generalize hj : (L[m]).1.2 = j at *
        clear hi hj a1 a2 hgf hgs
        have i8 : i < 8 := by omega
        have j8 : j < 8 := by omega
        have i0 : (0 : Int) ≤ i := by omega
        have i1 : (i : Int) < 8 := by omega
        have j0 : (0 : Int) ≤ j := by omega
        have j1 : (j : Int) < 8 := by omega
        have m1 : (m : Int) < L.length := by omega
        obtain ⟨Q, hQ⟩ : ∃ Q, brkA c (L.take m) = Q := ⟨_, rfl⟩
        have HQ := Lib.hid hQ
        obtain ⟨qq, hIQ⟩ := brkA_is h8 w8 (L.take m) hR
        rw [hQ] at r0 hIQ
        have hQs : Q.size = 67 := hIQ.size
        have fm := frozen_of_rowAt r0 (3 + i * 8 + j)
        have cm : wr.cell? ⟨w.heap.size, 3 + i * 8 + j, none⟩ = some (Q[3 + i * 8 + j]'(by omega)) := (cell_of_rowAt r0 _).trans (Array.getElem?_eq_getElem (by omega))
        have n2 : w.heap.size + 1 + 1 ≠ w.heap.size := by omega
        clear hQ hIQ
        go_wp2_with fail
        go_still_tail 13, (by kernel_rfl)
        change wpList _ _ _ _ _ wr.drew
        repeat go_step
        refine ⟨⟨m + 1, by omega, by go_num, ?_, ?_, ?_, ?_⟩, by simp [intOf]; omega⟩
        · rw [hnx.out, HQ.out]
          have := rowAt_setCell_at wr w.heap.size (3 + i * 8 + j) (.int .u8 3) (by rw [r0]; rfl)
          rw [r0, Option.getD_some] at this
          exact this
        · exact (rowAt_setCell_ne wr _ _ _ _ n2).trans r2
        · intro g' h1 h2
          exact (rowAt_setCell_ne wr _ _ _ _ (by omega)).trans (hrows g' h1 h2)
        · exact (B2.setCell (p := ⟨w.heap.size, 3 + i * 8 + j, none⟩) (by simp) _).drew
      · obtain rfl : m = L.length := by omega
        rw [List.take_length, hLX] at r0
        go_wp2_with fail
        refine bodyPost_ret (v := .tuple #[.agg X, .int .i64 0]) (results_row2 (m := 67) rfl _ _ (w.heap.size + 1 + 1) _ _ rfl rfl (rowAt_setRow_at _ _ _ (Option.isSome_iff_exists.2 ⟨_, r2⟩)) Tryd.underlying30 rfl (by kernel_rfl) hXs) rfl ⟨rfl, ?_⟩
        exact below_setRow B2 (by omega) _
  · have hcd : r.brkC t y z = r.ageC t (inB y 1 100 && inB z 0 200) := rfl
    have hzb : (r.ageC t (inB y 1 100 && inB z 0 200) != 0) = true := by simp [hz]
    have hXz : X = Tryd.zeroCells30 := by rw [← hX]; exact if_neg hz
    rw [hcd, hXz]
    rw [hXz] at hXs
    clear hX hXz hXo
    generalize r.ageC t (inB y 1 100 && inB z 0 200) = k at *
    clear hcd hz
    cases h1 : inB y 1 100 with
    | true =>
      rw [h1] at CL CA
      rw [Bool.true_and] at CA
      clear h1
      generalize inB z 0 200 = fb at *
      go_enter Tryd.func24, Tryd.ntmps24
      go_wp2_with fail
      refine (CL _).mono ?_
      rintro e w1 ⟨rfl, rfl⟩
      go_wp2_with fail
      refine (CY _).mono ?_
      rintro e w1 ⟨rfl, rfl⟩
      go_wp2_with fail
      refine gen_callsW fun W hW => ?_
      have q0 : rowAt W w.heap.size = some c := by rw [hW]; exact (rowAt_alloc_past _ _ _ (by first | (simp; done) | (simp; omega) | omega)).trans ((rowAt_alloc_past _ _ _ (by first | (simp; done) | (simp; omega) | omega)).trans (rowAt_alloc_at _ _ _ _ (by first | rfl | simp | omega)))
      have q1 : rowAt W (w.heap.size + 1) = some d := by rw [hW]; exact (rowAt_alloc_past _ _ _ (by first | (simp; done) | (simp; omega) | omega)).trans (rowAt_alloc_at _ _ _ _ (by first | rfl | simp | omega))
      have q2 : rowAt W (w.heap.size + 1 + 1) = some Tryd.zeroCells30 := by rw [hW]; exact rowAt_alloc_at _ _ _ _ (by first | rfl | simp | omega)
      have pB : Below w.heap.size w W := by rw [hW]; exact (((Below.refl _ _).alloc (Nat.le_refl _) _).alloc (by first | (simp; done) | (simp; omega) | omega) _).alloc (by first | (simp; done) | (simp; omega) | omega) _
      clear hW
      refine (CA _ q0 q1).mono ?_
      rintro e w1 ⟨rfl, b1⟩
      have p2 := brow b1 q2
      have B1 := bnext pB b1 pB.size
      clear b1 q0 q1 q2 pB CA CL CY
      go_wp2_with fail
      refine bodyPost_ret (v := .tuple #[.agg Tryd.zeroCells30, .int .i64 k]) (results_row2 (m := 67) rfl _ _ (w.heap.size + 1 + 1) _ _ rfl rfl (rowAt_setRow_at _ _ _ (Option.isSome_iff_exists.2 ⟨_, p2⟩)) Tryd.underlying30 rfl (by kernel_rfl) hXs) rfl ⟨rfl, ?_⟩
      exact below_setRow B1 (by omega) _
    | false =>
      rw [h1] at CL CA
      rw [Bool.false_and] at CA
      clear h1 CY
      go_enter Tryd.func24, Tryd.ntmps24
      go_wp2_with fail
      refine (CL _).mono ?_
      rintro e w1 ⟨rfl, rfl⟩
      go_wp2_with fail
      refine gen_callsW fun W hW => ?_
      have q0 : rowAt W w.heap.size = some c := by rw [hW]; exact (rowAt_alloc_past _ _ _ (by first | (simp; done) | (simp; omega) | omega)).trans ((rowAt_alloc_past _ _ _ (by first | (simp; done) | (simp; omega) | omega)).trans (rowAt_alloc_at _ _ _ _ (by first | rfl | simp | omega)))
      have q1 : rowAt W (w.heap.size + 1) = some d := by rw [hW]; exact (rowAt_alloc_past _ _ _ (by first | (simp; done) | (simp; omega) | omega)).trans (rowAt_alloc_at _ _ _ _ (by first | rfl | simp | omega))
      have q2 : rowAt W (w.heap.size + 1 + 1) = some Tryd.zeroCells30 := by rw [hW]; exact rowAt_alloc_at _ _ _ _ (by first | rfl | simp | omega)
      have pB : Below w.heap.size w W := by rw [hW]; exact (((Below.refl _ _).alloc (Nat.le_refl _) _).alloc (by first | (simp; done) | (simp; omega) | omega) _).alloc (by first | (simp; done) | (simp; omega) | omega) _
      clear hW
      refine (CA _ q0 q1).mono ?_
      rintro e w1 ⟨rfl, b1⟩
      have p2 := brow b1 q2
      have B1 := bnext pB b1 pB.size
      clear b1 q0 q1 q2 pB CA CL
      go_wp2_with fail
      refine bodyPost_ret (v := .tuple #[.agg Tryd.zeroCells30, .int .i64 k]) (results_row2 (m := 67) rfl _ _ (w.heap.size + 1 + 1) _ _ rfl rfl (rowAt_setRow_at _ _ _ (Option.isSome_iff_exists.2 ⟨_, p2⟩)) Tryd.underlying30 rfl (by kernel_rfl) hXs) rfl ⟨rfl, ?_⟩
      exact below_setRow B1 (by omega) _
end Go.Proofs.YtcdobpnejbfbpaaDoor

/- BreakRoof: the program's side. -/
namespace Go.Proofs.YtcdobpnejbfbpaaDoor
open Go.RowKit

set_option maxRecDepth 100000 in
set_option maxHeartbeats 4000000 in
theorem implBreakRoof_any (c d : Array Value) (r : Rf) (t : Nat → Int) (y z : Int) (w : World) (hR : IsRoof c r) (hA : IsU8 d 64 t) (X : Array Value) (hX : r.brkX c t y z = X) (hT : ErrT w) :
    Calls Tryd.prog 25 #[.agg c, .agg d, .int .i64 y, .int .i64 z] w fun e w' => e = .returned (.tuple #[.agg X, .int .i64 (r.brkC t y z)]) ∧ Below w.heap.size w w' := by
  have hc := hR.size
  have hd := hA.size
  have hzs : Tryd.zeroCells30.size = 67 := zroof_size
  have hzo : Ones Tryd.zeroCells30 := zroof_ones
  obtain ⟨qX, hIX⟩ := Rf.brkX_is hR hX
  have hXs : X.size = 67 := hIX.size
  have hXo : Ones X := hIX.ones
  clear hIX
  have hn0 := fun w => run_neq_nil_nil_at (P := Tryd.prog) (w := w) 70 (by kernel_rfl)
  have hnv := fun w => run_neq_iface_nil (P := Tryd.prog) (w := w) 70 (by kernel_rfl) 97 (.agg #[])
  have hnr := fun w => run_neq_iface_nil (P := Tryd.prog) (w := w) 70 (by kernel_rfl) 101 (.agg #[])
  by_cases ha : r.Aged t
  · cases hf : (inB y 1 100 && inB z 0 200) with
    | true =>
      have hcd : r.brkC t y z = 0 := Rf.ageC_ok ha hf
      have hfine : fineB (bn6 y 1 100 z 0 200) 2 = true := by rw [fineB_bn6]; exact hf
      obtain ⟨h1, zb, yb, h2⟩ := inB_and2 hf
      have hLX : brkA c (r.oldL t (y - z)) = X := by rw [← hX]; exact (if_pos hcd).symm
      have h8 : r.h.toNat ≤ 8 := by have := ha.1.2.2.2.1; omega
      have w8 : r.w.toNat ≤ 8 := by have := ha.1.2.1; omega
      have CK := fun W v h0 => checkAges_ok 0 2 c d r t v (bn6 y 1 100 z 0 200) W hR hA ha h0 (by omega) hfine
      have CO := fun W => older_ok c d r t (y - z) W hR hA ha.1
      have hL64 := Rf.oldL_le (t := t) (y := y - z) ha.1
      have e64 : IntKind.i64.wrap (y - z) = y - z := IntWalk.i64_in _ (by omega)
      rw [hcd]
      generalize r.oldL t (y - z) = L at *
      clear hcd hf hfine h1 h2 hX zb yb
      go_enter Tryd.func25, Tryd.ntmps25
      go_wp2_with fail
      refine gen_world fun W hW => ?_
      have q0 : rowAt W w.heap.size = some c := by rw [hW]; exact (rowAt_alloc_past _ _ _ (by first | (simp; done) | (simp; omega) | omega)).trans ((rowAt_alloc_past _ _ _ (by first | (simp; done) | (simp; omega) | omega)).trans (rowAt_alloc_at _ _ _ _ (by first | rfl | simp | omega)))
      have q1 : rowAt W (w.heap.size + 1) = some d := by rw [hW]; exact (rowAt_alloc_past _ _ _ (by first | (simp; done) | (simp; omega) | omega)).trans (rowAt_alloc_at _ _ _ _ (by first | rfl | simp | omega))
      have q2 : rowAt W (w.heap.size + 1 + 1) = some Tryd.zeroCells30 := by rw [hW]; exact rowAt_alloc_at _ _ _ _ (by first | rfl | simp | omega)
      have pB : Below w.heap.size w W := by rw [hW]; exact (((Below.refl _ _).alloc (Nat.le_refl _) _).alloc (by first | (simp; done) | (simp; omega) | omega) _).alloc (by first | (simp; done) | (simp; omega) | omega) _
      clear hW
      refine wp_region_held_drew (S := fun w' => Below W.heap.size W w') (by kernel_rfl) ((Below.refl _ _).drew) (fun hH => ?_)
      refine wpAnyH_take (i := 0) (v := .agg c) rfl (by kernel_rfl) (by kernel_rfl) (by kernel_rfl) (fun _ _ _ h => h) (Or.inl ⟨by rfl, ?_⟩) hH ?_
      · intro w1 hS; (try dsimp only at hS); have s0 := brow hS q0; go_simp
      (try simp only [List.getElem_toArray]); (try simp only [List.getElem_cons_succ]); (try simp only [List.getElem_cons_zero]); (try simp only [Act.put]); (try simp only [List.setIfInBounds_toArray]); (try simp only [List.set_cons_succ]); (try simp only [List.set_cons_zero])
      refine wpAnyH_take (i := 1) (v := .agg d) rfl (by kernel_rfl) (by kernel_rfl) (by kernel_rfl) (fun _ _ _ h => h) (Or.inl ⟨by rfl, ?_⟩) hH ?_
      · intro w1 hS; (try dsimp only at hS); have s1 := brow hS q1; go_simp
      (try simp only [List.getElem_toArray]); (try simp only [List.getElem_cons_succ]); (try simp only [List.getElem_cons_zero]); (try simp only [Act.put]); (try simp only [List.setIfInBounds_toArray]); (try simp only [List.set_cons_succ]); (try simp only [List.set_cons_zero])
      refine wpAnyH_take (i := 2) (v := .int .i64 y) rfl (by kernel_rfl) (by kernel_rfl) (by kernel_rfl) (fun _ _ _ h => h) (Or.inl ⟨by rfl, ?_⟩) hH ?_
      · intro w1 hS; (try dsimp only at hS); go_simp
      (try simp only [List.getElem_toArray]); (try simp only [List.getElem_cons_succ]); (try simp only [List.getElem_cons_zero]); (try simp only [Act.put]); (try simp only [List.setIfInBounds_toArray]); (try simp only [List.set_cons_succ]); (try simp only [List.set_cons_zero])
      refine wpAnyH_take (i := 4) (v := .int .i64 z) rfl (by kernel_rfl) (by kernel_rfl) (by kernel_rfl) (fun _ _ _ h => h) (Or.inl ⟨by rfl, ?_⟩) hH ?_
      · intro w1 hS; (try dsimp only at hS); go_simp
      (try simp only [List.getElem_toArray]); (try simp only [List.getElem_cons_succ]); (try simp only [List.getElem_cons_zero]); (try simp only [Act.put]); (try simp only [List.setIfInBounds_toArray]); (try simp only [List.set_cons_succ]); (try simp only [List.set_cons_zero])
      refine wpAnyH_ready (rs := [3]) (by kernel_rfl) (by simp) (AllReadyH.cons rfl (fun K hK => ?_) AllReadyH.nil)
      go_simp
      refine (lived_any y _).mono ?_
      rintro x wx ⟨rfl, bx⟩
      go_simp
      refine hK.out _ _ (bnext hH bx hH.size) (fun hG => ?_)
      clear hK K hH bx
      replace hH := hG
      clear hG
      (try simp only [List.getElem_toArray]); (try simp only [List.getElem_cons_succ]); (try simp only [List.getElem_cons_zero]); (try simp only [Act.put]); (try simp only [List.setIfInBounds_toArray]); (try simp only [List.set_cons_succ]); (try simp only [List.set_cons_zero])
      refine wpAnyH_ready (rs := [5]) (by kernel_rfl) (by simp) (AllReadyH.cons rfl (fun K hK => ?_) AllReadyH.nil)
      go_simp
      refine (gone_any z _).mono ?_
      rintro x wx ⟨rfl, bx⟩
      go_simp
      refine hK.out _ _ (bnext hH bx hH.size) (fun hG => ?_)
      clear hK K hH bx
      replace hH := hG
      clear hG
      (try simp only [List.getElem_toArray]); (try simp only [List.getElem_cons_succ]); (try simp only [List.getElem_cons_zero]); (try simp only [Act.put]); (try simp only [List.setIfInBounds_toArray]); (try simp only [List.set_cons_succ]); (try simp only [List.set_cons_zero])
      refine wpAnyH_ready (rs := [6]) (by kernel_rfl) (by simp) (AllReadyH.cons rfl (fun K hK => ?_) AllReadyH.nil)
      go_simp
      refine hK.out _ _ (hH.alloc hH.size _) (fun hG => ?_)
      clear hK K hH
      replace hH := hG
      clear hG
      (try simp only [List.getElem_toArray]); (try simp only [List.getElem_cons_succ]); (try simp only [List.getElem_cons_zero]); (try simp only [Act.put]); (try simp only [List.setIfInBounds_toArray]); (try simp only [List.set_cons_succ]); (try simp only [List.set_cons_zero])
      refine wpAnyH_ready (rs := [7]) (by kernel_rfl) (by simp) (AllReadyH.cons rfl (fun K hK => ?_) AllReadyH.nil)
      go_simp
      refine (CK _ _ (IsList.li6 (rowAt_alloc_at _ _ _ _ rfl) (Nat.zero_le _))).mono ?_
      rintro x wx ⟨rfl, bx⟩
      go_simp
      refine hK.out _ _ (bnext hH bx hH.size) (fun hG => ?_)
      clear hK K hH bx
      replace hH := hG
      clear hG
      (try simp only [List.getElem_toArray]); (try simp only [List.getElem_cons_succ]); (try simp only [List.getElem_cons_zero]); (try simp only [Act.put]); (try simp only [List.setIfInBounds_toArray]); (try simp only [List.set_cons_succ]); (try simp only [List.set_cons_zero])
      refine wpAnyH_take (i := 8) (v := .nilIface) rfl (by kernel_rfl) (by kernel_rfl) (by kernel_rfl) (fun _ _ _ h => h) (Or.inl ⟨by rfl, ?_⟩) hH ?_
      · intro w1 hS; (try dsimp only at hS); go_simp
      (try simp only [List.getElem_toArray]); (try simp only [List.getElem_cons_succ]); (try simp only [List.getElem_cons_zero]); (try simp only [Act.put]); (try simp only [List.setIfInBounds_toArray]); (try simp only [List.set_cons_succ]); (try simp only [List.set_cons_zero])
      refine wpAnyH_done (by kernel_rfl) ?_ _
      have B1 := bnext pB hH pB.size
      have p0 := brow hH q0
      have p1 := brow hH q1
      have p2 := brow hH q2
      have l2 := rowAt_lt p2
      clear hH q0 q1 q2 pB CK
      go_wp2_with fail
      refine (CO _).mono ?_
      rintro e w2 ⟨v, rfl, la, b2, _⟩
      have r0 := brow b2 p0
      have r2 := brow b2 p2
      have B2 := bnext B1 b2 B1.size
      replace la := la.mono (show w.heap.size + 1 + 1 + 1 ≤ _ from l2)
      clear b2 p0 p1 p2 B1 CO
      have hLw := la
      obtain ⟨av, cv, rfl⟩ := la.shape
      have LA := Lib.hid hLw
      have c0' : brkA c (L.take 0) = c := rfl
      rw [← c0'] at r0
      clear hLw la c0'
      go_wp2_with fail
      go_loopw [34] (fun i W => ∃ m : Nat, m ≤ L.length ∧ i = .int .i64 m ∧ rowAt W w.heap.size = some (brkA c (L.take m)) ∧ rowAt W (w.heap.size + 1 + 1) = some Tryd.zeroCells30 ∧ w2.heap.size ≤ W.heap.size ∧ (∀ g, w.heap.size + 1 + 1 + 1 ≤ g → g < w2.heap.size → rowAt W g = rowAt w2 g) ∧ Below w.heap.size w W) (fun i _ => L.length - (intOf i).toNat)
      case atStart => exact ⟨0, by omega, rfl, r0, r2, Nat.le_refl _, fun _ _ _ => rfl, B2⟩
      case round =>
        clear r0 r2 B2
        obtain ⟨m, hm, rfl, r0, r2, hsz2, hrows, B2⟩ := hrel
        have m0 : 0 ≤ (m : Int) := by omega
        by_cases hlt : m < L.length
        · obtain ⟨h0, _⟩ | ⟨g, cap', cur, e1, hg, hgr, hgs, hgf⟩ := LA.out.by_rows (fun g h1 h2 => hrows g h1 h2)
          · omega
          cases e1
          obtain ⟨a1, a2⟩ := plAt_get2 (l := L) hlt
          have hx1 := (L[m]).2.1
          have hx2 := (L[m]).2.2
          have c0 : wr.cell? ⟨g, m * 2, none⟩ = some (.int .i8 (((L[m]).1.1 : Nat) : Int)) := (cell_of_rowAt hgr _).trans ((hgf _ (by omega)).trans (congrArg (fun z => some (Value.int .i8 z)) a1))
          have c1 : wr.cell? ⟨g, m * 2 + 1, none⟩ = some (.int .i8 (((L[m]).1.2 : Nat) : Int)) := (cell_of_rowAt hgr _).trans ((hgf _ (by omega)).trans (congrArg (fun z => some (Value.int .i8 z)) a2))
          have hnx := Lib.hid (brkA_next (c := c) hlt)
          have lgg : g < wr.heap.size := rowAt_lt hgr
          have gne : w.heap.size ≠ g := by omega
          generalize hi : (L[m]).1.1 = i at *
          generalize hj : (L[m]).1.2 = j at *
          clear hi hj a1 a2 hgf hgs
          have i8 : i < 8 := by omega
          have j8 : j < 8 := by omega
          have i0 : (0 : Int) ≤ i := by omega
          have i1 : (i : Int) < 8 := by omega
          have j0 : (0 : Int) ≤ j := by omega
          have j1 : (j : Int) < 8 := by omega
          have m1 : (m : Int) < L.length := by omega
          obtain ⟨Q, hQ⟩ : ∃ Q, brkA c (L.take m) = Q := ⟨_, rfl⟩
          have HQ := Lib.hid hQ
          obtain ⟨qq, hIQ⟩ := brkA_is h8 w8 (L.take m) hR
          rw [hQ] at r0 hIQ
          have hQs : Q.size = 67 := hIQ.size
          have fm := frozen_of_rowAt r0 (3 + i * 8 + j)
          have cm : wr.cell? ⟨w.heap.size, 3 + i * 8 + j, none⟩ = some (Q[3 + i * 8 + j]'(by omega)) := (cell_of_rowAt r0 _).trans (Array.getElem?_eq_getElem (by omega))
          have n2 : w.heap.size + 1 + 1 ≠ w.heap.size := by omega
          clear hQ hIQ
          have l0 := rowAt_lt r0
          have l2 := rowAt_lt r2
          go_wp2_with fail
          refine gen_world fun W3 hW => ?_
          have s0 : rowAt W3 w.heap.size = some Q := by rw [hW]; exact (rowAt_alloc_past _ _ _ l0).trans r0
          have s2 : rowAt W3 (w.heap.size + 1 + 1) = some Tryd.zeroCells30 := by rw [hW]; exact (rowAt_alloc_past _ _ _ l2).trans r2
          have sv : rowAt W3 wr.heap.size = some #[.int .i8 i, .int .i8 j] := by rw [hW]; exact rowAt_alloc_at _ _ _ _ rfl
          have B3 : Below w.heap.size w W3 := by rw [hW]; exact B2.alloc B2.size _
          have hrows3 : ∀ g, w.heap.size + 1 + 1 + 1 ≤ g → g < w2.heap.size → rowAt W3 g = rowAt w2 g := fun g' h1 h2 => by
            rw [hW]
            refine (rowAt_alloc_past _ _ _ (Nat.lt_of_lt_of_le h2 ?_)).trans (hrows g' h1 h2)
            exact hsz2
          have hsz3 : w2.heap.size ≤ W3.heap.size := by rw [hW]; exact Nat.le_trans hsz2 (by simp)
          have d0 := cell_of_rowAt sv 0
          have d1 := cell_of_rowAt sv 1
          simp at d0 d1
          have fm3 := frozen_of_rowAt s0 (3 + i * 8 + j)
          have cm3 : W3.cell? ⟨w.heap.size, 3 + i * 8 + j, none⟩ = some (Q[3 + i * 8 + j]'(by omega)) := (cell_of_rowAt s0 _).trans (Array.getElem?_eq_getElem (by omega))
          clear hW sv c0 c1 cm fm r0 r2 hrows B2
          go_still_tail 7, (by kernel_rfl)
          change wpList _ _ _ _ _ W3.drew
          repeat go_step
          go_wp2_with fail
          refine ⟨⟨m + 1, by omega, by go_num, ?_, ?_, ?_, ?_, ?_⟩, by simp [intOf]; omega⟩
          · rw [hnx.out, HQ.out]
            have := rowAt_setCell_at W3 w.heap.size (3 + i * 8 + j) (.int .u8 3) (by rw [s0]; rfl)
            rw [s0, Option.getD_some] at this
            exact this
          · exact (rowAt_setCell_ne W3 _ _ _ _ n2).trans s2
          · exact Nat.le_trans hsz3 (by simp)
          · intro g' h1 h2
            exact (rowAt_setCell_ne W3 _ _ _ _ (by omega)).trans (hrows3 g' h1 h2)
          · exact (B3.setCell (p := ⟨w.heap.size, 3 + i * 8 + j, none⟩) (by simp) _).drew
        · obtain rfl : m = L.length := by omega
          rw [List.take_length, hLX] at r0
          go_wp2_with fail
          refine bodyPost_ret (v := .tuple #[.agg X, .int .i64 0]) (results_row2 (m := 67) rfl _ _ (w.heap.size + 1 + 1) _ _ rfl rfl (rowAt_setRow_at _ _ _ (Option.isSome_iff_exists.2 ⟨_, r2⟩)) Tryd.underlying30 rfl (by kernel_rfl) hXs) rfl ⟨rfl, ?_⟩
          exact below_setRow B2 (by omega) _
    | false =>
      have hcd : r.brkC t y z = 2 := Rf.ageC_r ha hf
      have hfine : fineB (bn6 y 1 100 z 0 200) 2 = false := by rw [fineB_bn6]; exact hf
      have hXz : X = Tryd.zeroCells30 := by rw [← hX]; exact if_neg (by rw [hcd]; decide)
      have CK := fun W v h0 => checkAges_r 0 2 c d r t v (bn6 y 1 100 z 0 200) W hR hA ha h0 (by omega) hfine
      rw [hcd, hXz]
      rw [hXz] at hXs
      clear hX hXz hXo hcd hf hfine
      go_enter Tryd.func25, Tryd.ntmps25
      go_wp2_with fail
      refine gen_world fun W hW => ?_
      have q0 : rowAt W w.heap.size = some c := by rw [hW]; exact (rowAt_alloc_past _ _ _ (by first | (simp; done) | (simp; omega) | omega)).trans ((rowAt_alloc_past _ _ _ (by first | (simp; done) | (simp; omega) | omega)).trans (rowAt_alloc_at _ _ _ _ (by first | rfl | simp | omega)))
      have q1 : rowAt W (w.heap.size + 1) = some d := by rw [hW]; exact (rowAt_alloc_past _ _ _ (by first | (simp; done) | (simp; omega) | omega)).trans (rowAt_alloc_at _ _ _ _ (by first | rfl | simp | omega))
      have q2 : rowAt W (w.heap.size + 1 + 1) = some Tryd.zeroCells30 := by rw [hW]; exact rowAt_alloc_at _ _ _ _ (by first | rfl | simp | omega)
      have pB : Below w.heap.size w W := by rw [hW]; exact (((Below.refl _ _).alloc (Nat.le_refl _) _).alloc (by first | (simp; done) | (simp; omega) | omega) _).alloc (by first | (simp; done) | (simp; omega) | omega) _
      clear hW
      refine wp_region_held_drew (S := fun w' => Below W.heap.size W w') (by kernel_rfl) ((Below.refl _ _).drew) (fun hH => ?_)
      refine wpAnyH_take (i := 0) (v := .agg c) rfl (by kernel_rfl) (by kernel_rfl) (by kernel_rfl) (fun _ _ _ h => h) (Or.inl ⟨by rfl, ?_⟩) hH ?_
      · intro w1 hS; (try dsimp only at hS); have s0 := brow hS q0; go_simp
      (try simp only [List.getElem_toArray]); (try simp only [List.getElem_cons_succ]); (try simp only [List.getElem_cons_zero]); (try simp only [Act.put]); (try simp only [List.setIfInBounds_toArray]); (try simp only [List.set_cons_succ]); (try simp only [List.set_cons_zero])
      refine wpAnyH_take (i := 1) (v := .agg d) rfl (by kernel_rfl) (by kernel_rfl) (by kernel_rfl) (fun _ _ _ h => h) (Or.inl ⟨by rfl, ?_⟩) hH ?_
      · intro w1 hS; (try dsimp only at hS); have s1 := brow hS q1; go_simp
      (try simp only [List.getElem_toArray]); (try simp only [List.getElem_cons_succ]); (try simp only [List.getElem_cons_zero]); (try simp only [Act.put]); (try simp only [List.setIfInBounds_toArray]); (try simp only [List.set_cons_succ]); (try simp only [List.set_cons_zero])
      refine wpAnyH_take (i := 2) (v := .int .i64 y) rfl (by kernel_rfl) (by kernel_rfl) (by kernel_rfl) (fun _ _ _ h => h) (Or.inl ⟨by rfl, ?_⟩) hH ?_
      · intro w1 hS; (try dsimp only at hS); go_simp
      (try simp only [List.getElem_toArray]); (try simp only [List.getElem_cons_succ]); (try simp only [List.getElem_cons_zero]); (try simp only [Act.put]); (try simp only [List.setIfInBounds_toArray]); (try simp only [List.set_cons_succ]); (try simp only [List.set_cons_zero])
      refine wpAnyH_take (i := 4) (v := .int .i64 z) rfl (by kernel_rfl) (by kernel_rfl) (by kernel_rfl) (fun _ _ _ h => h) (Or.inl ⟨by rfl, ?_⟩) hH ?_
      · intro w1 hS; (try dsimp only at hS); go_simp
      (try simp only [List.getElem_toArray]); (try simp only [List.getElem_cons_succ]); (try simp only [List.getElem_cons_zero]); (try simp only [Act.put]); (try simp only [List.setIfInBounds_toArray]); (try simp only [List.set_cons_succ]); (try simp only [List.set_cons_zero])
      refine wpAnyH_ready (rs := [3]) (by kernel_rfl) (by simp) (AllReadyH.cons rfl (fun K hK => ?_) AllReadyH.nil)
      go_simp
      refine (lived_any y _).mono ?_
      rintro x wx ⟨rfl, bx⟩
      go_simp
      refine hK.out _ _ (bnext hH bx hH.size) (fun hG => ?_)
      clear hK K hH bx
      replace hH := hG
      clear hG
      (try simp only [List.getElem_toArray]); (try simp only [List.getElem_cons_succ]); (try simp only [List.getElem_cons_zero]); (try simp only [Act.put]); (try simp only [List.setIfInBounds_toArray]); (try simp only [List.set_cons_succ]); (try simp only [List.set_cons_zero])
      refine wpAnyH_ready (rs := [5]) (by kernel_rfl) (by simp) (AllReadyH.cons rfl (fun K hK => ?_) AllReadyH.nil)
      go_simp
      refine (gone_any z _).mono ?_
      rintro x wx ⟨rfl, bx⟩
      go_simp
      refine hK.out _ _ (bnext hH bx hH.size) (fun hG => ?_)
      clear hK K hH bx
      replace hH := hG
      clear hG
      (try simp only [List.getElem_toArray]); (try simp only [List.getElem_cons_succ]); (try simp only [List.getElem_cons_zero]); (try simp only [Act.put]); (try simp only [List.setIfInBounds_toArray]); (try simp only [List.set_cons_succ]); (try simp only [List.set_cons_zero])
      refine wpAnyH_ready (rs := [6]) (by kernel_rfl) (by simp) (AllReadyH.cons rfl (fun K hK => ?_) AllReadyH.nil)
      go_simp
      refine hK.out _ _ (hH.alloc hH.size _) (fun hG => ?_)
      clear hK K hH
      replace hH := hG
      clear hG
      (try simp only [List.getElem_toArray]); (try simp only [List.getElem_cons_succ]); (try simp only [List.getElem_cons_zero]); (try simp only [Act.put]); (try simp only [List.setIfInBounds_toArray]); (try simp only [List.set_cons_succ]); (try simp only [List.set_cons_zero])
      refine wpAnyH_ready (rs := [7]) (by kernel_rfl) (by simp) (AllReadyH.cons rfl (fun K hK => ?_) AllReadyH.nil)
      go_simp
      refine (CK _ _ (IsList.li6 (rowAt_alloc_at _ _ _ _ rfl) (Nat.zero_le _))).mono ?_
      rintro x wx ⟨rfl, bx⟩
      go_simp
      refine hK.out _ _ (bnext hH bx hH.size) (fun hG => ?_)
      clear hK K hH bx
      replace hH := hG
      clear hG
      (try simp only [List.getElem_toArray]); (try simp only [List.getElem_cons_succ]); (try simp only [List.getElem_cons_zero]); (try simp only [Act.put]); (try simp only [List.setIfInBounds_toArray]); (try simp only [List.set_cons_succ]); (try simp only [List.set_cons_zero])
      refine wpAnyH_take (i := 8) (v := .iface 101 (.agg #[])) rfl (by kernel_rfl) (by kernel_rfl) (by kernel_rfl) (fun _ _ _ h => h) (Or.inl ⟨by rfl, ?_⟩) hH ?_
      · intro w1 hS; (try dsimp only at hS); go_simp
      (try simp only [List.getElem_toArray]); (try simp only [List.getElem_cons_succ]); (try simp only [List.getElem_cons_zero]); (try simp only [Act.put]); (try simp only [List.setIfInBounds_toArray]); (try simp only [List.set_cons_succ]); (try simp only [List.set_cons_zero])
      refine wpAnyH_done (by kernel_rfl) ?_ _
      have B1 := bnext pB hH pB.size
      have T1 := hT.below B1
      have p2 := brow hH q2
      clear hH q0 q1 q2 pB
      go_wp2_with fail
      refine (yearCode_R _ T1).mono ?_
      rintro e w1 ⟨rfl, b1⟩
      have r2 := brow b1 p2
      have B2 := bnext B1 b1 B1.size
      clear b1 p2 B1 T1
      go_wp2_with fail
      refine bodyPost_ret (v := .tuple #[.agg Tryd.zeroCells30, .int .i64 2]) (results_row2 (m := 67) rfl _ _ (w.heap.size + 1 + 1) _ _ rfl rfl (rowAt_setRow_at _ _ _ (Option.isSome_iff_exists.2 ⟨_, r2⟩)) Tryd.underlying30 rfl (by kernel_rfl) hXs) rfl ⟨rfl, ?_⟩
      exact below_setRow B2 (by omega) _
  · have hcd : r.brkC t y z = 1 := Rf.ageC_v ha
    have hXz : X = Tryd.zeroCells30 := by rw [← hX]; exact if_neg (by rw [hcd]; decide)
    have CV := fun W v => checkAges_v c d r t v W hR hA ha
    rw [hcd, hXz]
    rw [hXz] at hXs
    clear hX hXz hXo hcd
    go_enter Tryd.func25, Tryd.ntmps25
    go_wp2_with fail
    refine gen_world fun W hW => ?_
    have q0 : rowAt W w.heap.size = some c := by rw [hW]; exact (rowAt_alloc_past _ _ _ (by first | (simp; done) | (simp; omega) | omega)).trans ((rowAt_alloc_past _ _ _ (by first | (simp; done) | (simp; omega) | omega)).trans (rowAt_alloc_at _ _ _ _ (by first | rfl | simp | omega)))
    have q1 : rowAt W (w.heap.size + 1) = some d := by rw [hW]; exact (rowAt_alloc_past _ _ _ (by first | (simp; done) | (simp; omega) | omega)).trans (rowAt_alloc_at _ _ _ _ (by first | rfl | simp | omega))
    have q2 : rowAt W (w.heap.size + 1 + 1) = some Tryd.zeroCells30 := by rw [hW]; exact rowAt_alloc_at _ _ _ _ (by first | rfl | simp | omega)
    have pB : Below w.heap.size w W := by rw [hW]; exact (((Below.refl _ _).alloc (Nat.le_refl _) _).alloc (by first | (simp; done) | (simp; omega) | omega) _).alloc (by first | (simp; done) | (simp; omega) | omega) _
    clear hW
    refine wp_region_held_drew (S := fun w' => Below W.heap.size W w') (by kernel_rfl) ((Below.refl _ _).drew) (fun hH => ?_)
    refine wpAnyH_take (i := 0) (v := .agg c) rfl (by kernel_rfl) (by kernel_rfl) (by kernel_rfl) (fun _ _ _ h => h) (Or.inl ⟨by rfl, ?_⟩) hH ?_
    · intro w1 hS; (try dsimp only at hS); have s0 := brow hS q0; go_simp
    (try simp only [List.getElem_toArray]); (try simp only [List.getElem_cons_succ]); (try simp only [List.getElem_cons_zero]); (try simp only [Act.put]); (try simp only [List.setIfInBounds_toArray]); (try simp only [List.set_cons_succ]); (try simp only [List.set_cons_zero])
    refine wpAnyH_take (i := 1) (v := .agg d) rfl (by kernel_rfl) (by kernel_rfl) (by kernel_rfl) (fun _ _ _ h => h) (Or.inl ⟨by rfl, ?_⟩) hH ?_
    · intro w1 hS; (try dsimp only at hS); have s1 := brow hS q1; go_simp
    (try simp only [List.getElem_toArray]); (try simp only [List.getElem_cons_succ]); (try simp only [List.getElem_cons_zero]); (try simp only [Act.put]); (try simp only [List.setIfInBounds_toArray]); (try simp only [List.set_cons_succ]); (try simp only [List.set_cons_zero])
    refine wpAnyH_take (i := 2) (v := .int .i64 y) rfl (by kernel_rfl) (by kernel_rfl) (by kernel_rfl) (fun _ _ _ h => h) (Or.inl ⟨by rfl, ?_⟩) hH ?_
    · intro w1 hS; (try dsimp only at hS); go_simp
    (try simp only [List.getElem_toArray]); (try simp only [List.getElem_cons_succ]); (try simp only [List.getElem_cons_zero]); (try simp only [Act.put]); (try simp only [List.setIfInBounds_toArray]); (try simp only [List.set_cons_succ]); (try simp only [List.set_cons_zero])
    refine wpAnyH_take (i := 4) (v := .int .i64 z) rfl (by kernel_rfl) (by kernel_rfl) (by kernel_rfl) (fun _ _ _ h => h) (Or.inl ⟨by rfl, ?_⟩) hH ?_
    · intro w1 hS; (try dsimp only at hS); go_simp
    (try simp only [List.getElem_toArray]); (try simp only [List.getElem_cons_succ]); (try simp only [List.getElem_cons_zero]); (try simp only [Act.put]); (try simp only [List.setIfInBounds_toArray]); (try simp only [List.set_cons_succ]); (try simp only [List.set_cons_zero])
    refine wpAnyH_ready (rs := [3]) (by kernel_rfl) (by simp) (AllReadyH.cons rfl (fun K hK => ?_) AllReadyH.nil)
    go_simp
    refine (lived_any y _).mono ?_
    rintro x wx ⟨rfl, bx⟩
    go_simp
    refine hK.out _ _ (bnext hH bx hH.size) (fun hG => ?_)
    clear hK K hH bx
    replace hH := hG
    clear hG
    (try simp only [List.getElem_toArray]); (try simp only [List.getElem_cons_succ]); (try simp only [List.getElem_cons_zero]); (try simp only [Act.put]); (try simp only [List.setIfInBounds_toArray]); (try simp only [List.set_cons_succ]); (try simp only [List.set_cons_zero])
    refine wpAnyH_ready (rs := [5]) (by kernel_rfl) (by simp) (AllReadyH.cons rfl (fun K hK => ?_) AllReadyH.nil)
    go_simp
    refine (gone_any z _).mono ?_
    rintro x wx ⟨rfl, bx⟩
    go_simp
    refine hK.out _ _ (bnext hH bx hH.size) (fun hG => ?_)
    clear hK K hH bx
    replace hH := hG
    clear hG
    (try simp only [List.getElem_toArray]); (try simp only [List.getElem_cons_succ]); (try simp only [List.getElem_cons_zero]); (try simp only [Act.put]); (try simp only [List.setIfInBounds_toArray]); (try simp only [List.set_cons_succ]); (try simp only [List.set_cons_zero])
    refine wpAnyH_ready (rs := [6]) (by kernel_rfl) (by simp) (AllReadyH.cons rfl (fun K hK => ?_) AllReadyH.nil)
    go_simp
    refine hK.out _ _ (hH.alloc hH.size _) (fun hG => ?_)
    clear hK K hH
    replace hH := hG
    clear hG
    (try simp only [List.getElem_toArray]); (try simp only [List.getElem_cons_succ]); (try simp only [List.getElem_cons_zero]); (try simp only [Act.put]); (try simp only [List.setIfInBounds_toArray]); (try simp only [List.set_cons_succ]); (try simp only [List.set_cons_zero])
    refine wpAnyH_ready (rs := [7]) (by kernel_rfl) (by simp) (AllReadyH.cons rfl (fun K hK => ?_) AllReadyH.nil)
    go_simp
    refine (CV _ _).mono ?_
    rintro x wx ⟨rfl, bx⟩
    go_simp
    refine hK.out _ _ (bnext hH bx hH.size) (fun hG => ?_)
    clear hK K hH bx
    replace hH := hG
    clear hG
    (try simp only [List.getElem_toArray]); (try simp only [List.getElem_cons_succ]); (try simp only [List.getElem_cons_zero]); (try simp only [Act.put]); (try simp only [List.setIfInBounds_toArray]); (try simp only [List.set_cons_succ]); (try simp only [List.set_cons_zero])
    refine wpAnyH_take (i := 8) (v := .iface 97 (.agg #[])) rfl (by kernel_rfl) (by kernel_rfl) (by kernel_rfl) (fun _ _ _ h => h) (Or.inl ⟨by rfl, ?_⟩) hH ?_
    · intro w1 hS; (try dsimp only at hS); go_simp
    (try simp only [List.getElem_toArray]); (try simp only [List.getElem_cons_succ]); (try simp only [List.getElem_cons_zero]); (try simp only [Act.put]); (try simp only [List.setIfInBounds_toArray]); (try simp only [List.set_cons_succ]); (try simp only [List.set_cons_zero])
    refine wpAnyH_done (by kernel_rfl) ?_ _
    have B1 := bnext pB hH pB.size
    have T1 := hT.below B1
    have p2 := brow hH q2
    clear hH q0 q1 q2 pB
    go_wp2_with fail
    refine (yearCode_V _ T1).mono ?_
    rintro e w1 ⟨rfl, b1⟩
    have r2 := brow b1 p2
    have B2 := bnext B1 b1 B1.size
    clear b1 p2 B1 T1
    go_wp2_with fail
    refine bodyPost_ret (v := .tuple #[.agg Tryd.zeroCells30, .int .i64 1]) (results_row2 (m := 67) rfl _ _ (w.heap.size + 1 + 1) _ _ rfl rfl (rowAt_setRow_at _ _ _ (Option.isSome_iff_exists.2 ⟨_, r2⟩)) Tryd.underlying30 rfl (by kernel_rfl) hXs) rfl ⟨rfl, ?_⟩
    exact below_setRow B2 (by omega) _
end Go.Proofs.YtcdobpnejbfbpaaDoor

/- laws.FnExactBreakRoof returns true for all its arguments, and leaves them as they were. No condition. -/
namespace Go.Proofs.YtcdobpnejbfbpaaDoor
open Go.RowKit

theorem Boxes.belA {N : Nat} {w W : World} {L : List (Nat × Array Value)} {A : Prop} (h : A ∧ Boxes N w L W) : Below w.heap.size w W := h.2.bel
set_option maxRecDepth 100000 in
set_option maxHeartbeats 4000000 in
theorem law_walk_FnExactBreakRoof {c : Array Value} {r : Rf} (hR : IsRoof c r) {d0 : Array Value} {t0 : Nat → Int} (hA0 : IsU8 d0 64 t0) {y : Int} (_hy : -9223372036854775808 ≤ y ∧ y ≤ 9223372036854775807) {z : Int} (_hz : -9223372036854775808 ≤ z ∧ z ≤ 9223372036854775807) (w : World) (hE : ErrT w) :
    Calls Tryd.prog 6 #[.agg c, .agg d0, .int .i64 y, .int .i64 z] w fun e w' => e = .returned (.bool true) ∧ Below w.heap.size w w' := by
  obtain ⟨l0⟩ := d0
  have hl0 : l0.length = 64 := by have := hA0.size; simpa using this
  have htk0 : List.take 64 l0 = l0 := List.take_of_length_le (by omega)
  have hu0 := Tryd.underlying24
  have hi0 : (Tryd.prog.info? 24).map (·.size) = some l0.length := by rw [hl0]; kernel_rfl
  have HE := Lib.hid hE
  clear hE
  have hs0 := hR.size
  obtain ⟨X, hX⟩ : ∃ X, r.brkX c t0 y z = X := ⟨_, rfl⟩
  obtain ⟨qX, hI⟩ := Rf.brkX_is hR hX
  have CS := fun w => specBreakRoof_any c l0.toArray r t0 y z w hR hA0 X hX
  have CI := fun w hT => implBreakRoof_any c l0.toArray r t0 y z w hR hA0 X hX hT
  have hne0 : ((r.brkC t0 y z) != (r.brkC t0 y z)) = false := by simp
  generalize (r.brkC t0 y z) = v0 at *
  have hXs := hI.size
  have hXo := hI.ones
  have CE := fun w => eqRoof_same X _ w hI
  clear hX
  have pb := boxes2 w c l0.toArray 26 24
  go_enter Tryd.func6, Tryd.ntmps6
  go_wp2_with fail
  refine gen_world fun W hW => ?_
  rw [← hW] at pb
  clear hW
  have mk : ∀ (N : Nat) (Y : List (Nat × Array Value)) (W' : World), Boxes N w (Y ++ [(w.heap.size + 1, l0.toArray), (w.heap.size, c)]) W' → rowAt W' (w.heap.size) = some c ∧ rowAt W' (w.heap.size + 1) = some l0.toArray ∧ W'.rangeAt (w.heap.size + 1) 0 l0 := fun N Y W' h => ⟨h.rows (w.heap.size, c) (by simp), h.rows (w.heap.size + 1, l0.toArray) (by simp), rangeAt_of_row (h.rows (w.heap.size + 1, l0.toArray) (by simp))⟩
  have HM := Lib.hid mk
  clear mk
  have ls := pb.size
  go_cut [9, 10] (fun p q0 W' => ∃ n N : Nat, p = .pointer (some ⟨n, 0, none⟩) ∧ q0 = .int .i64 v0 ∧ Boxes N w ((n, X) :: [(w.heap.size + 1, l0.toArray), (w.heap.size, c)]) W')
  case first =>
    go_region_held3 (fun w' => (rowAt w' (w.heap.size) = some c ∧ rowAt w' (w.heap.size + 1) = some l0.toArray ∧ w'.rangeAt (w.heap.size + 1) 0 l0) ∧ Boxes (w.heap.size + 1 + 1) w ([(w.heap.size + 1, l0.toArray), (w.heap.size, c)]) w')
      ((refine mkS (HM.out _ [] _) ?_; first | exact pb.drew | exact Boxes.allocA (by assumption) | exact Boxes.callA (by assumption) (by assumption) | exact Boxes.setA (by assumption) (by omega) | exact Boxes.reallocA (by assumption) (by omega)))
      (first | (go_at_call 12; (with_reducible refine (toRoof_any c r _ hR).mono ?_); rintro x wx ⟨rfl, bx⟩; have hy := Boxes.szA (by assumption); have hq := bx.size; (try replace rz := brow bx rz); (try (have rz := brow bx (rowAt_alloc_at _ _ _ _ rfl)))) | (go_at_call 13; (with_reducible refine (toAges_any l0.toArray t0 _ hA0).mono ?_); rintro x wx ⟨rfl, bx⟩; have hy := Boxes.szA (by assumption); have hq := bx.size; (try replace rz := brow bx rz); (try (have rz := brow bx (rowAt_alloc_at _ _ _ _ rfl)))) | (go_at_call 24; (with_reducible refine (CS _).mono ?_); rintro x wx ⟨rfl, bx⟩; have hy := Boxes.szA (by assumption); have hq := bx.size; (try replace rz := brow bx rz); (try (have rz := brow bx (rowAt_alloc_at _ _ _ _ rfl)))))
    all_goals
      go_wp2_with fail
      go_meet
      case rel =>
        first
        | exact ⟨_, _, rfl, rfl, (Boxes.outA (by assumption)).more (rowAt_alloc_at _ _ _ _ rfl)⟩
        | exact ⟨_, _, rfl, rfl, (Boxes.outA (by assumption)).more (rowAt_setRow_at _ _ _ (by rw [rz]; rfl))⟩
  case rest =>
    obtain ⟨n, N, rfl, rfl, pc⟩ := hcut
    clear pb ls
    have ls := pc.size
    go_wp2_with fail
    go_cut [11, 12] (fun p q0 W' => ∃ m M : Nat, p = .pointer (some ⟨m, 0, none⟩) ∧ q0 = .int .i64 v0 ∧ Boxes M w ((m, X) :: (n, X) :: [(w.heap.size + 1, l0.toArray), (w.heap.size, c)]) W')
    case first =>
      go_region_held3 (fun w' => (rowAt w' (w.heap.size) = some c ∧ rowAt w' (w.heap.size + 1) = some l0.toArray ∧ w'.rangeAt (w.heap.size + 1) 0 l0) ∧ Boxes (N) w ([(n, X), (w.heap.size + 1, l0.toArray), (w.heap.size, c)]) w')
        ((refine mkS (HM.out _ [(n, X)] _) ?_; first | exact pc.drew | exact Boxes.allocA (by assumption) | exact Boxes.callA (by assumption) (by assumption) | exact Boxes.setA (by assumption) (by omega) | exact Boxes.reallocA (by assumption) (by omega)))
        (first | (go_at_call 12; (with_reducible refine (toRoof_any c r _ hR).mono ?_); rintro x wx ⟨rfl, bx⟩; have hy := Boxes.szA (by assumption); have hq := bx.size; (try replace rz := brow bx rz); (try (have rz := brow bx (rowAt_alloc_at _ _ _ _ rfl)))) | (go_at_call 13; (with_reducible refine (toAges_any l0.toArray t0 _ hA0).mono ?_); rintro x wx ⟨rfl, bx⟩; have hy := Boxes.szA (by assumption); have hq := bx.size; (try replace rz := brow bx rz); (try (have rz := brow bx (rowAt_alloc_at _ _ _ _ rfl)))) | (go_at_call 25; (with_reducible refine (CI _ (HE.out.below (Boxes.belA (by assumption)))).mono ?_); rintro x wx ⟨rfl, bx⟩; have hy := Boxes.szA (by assumption); have hq := bx.size; (try replace rz := brow bx rz); (try (have rz := brow bx (rowAt_alloc_at _ _ _ _ rfl)))))
      all_goals
        go_wp2_with fail
        go_meet
        case rel =>
          first
          | exact ⟨_, _, rfl, rfl, (Boxes.outA (by assumption)).more (rowAt_alloc_at _ _ _ _ rfl)⟩
          | exact ⟨_, _, rfl, rfl, (Boxes.outA (by assumption)).more (rowAt_setRow_at _ _ _ (by rw [rz]; rfl))⟩
    case rest =>
      obtain ⟨m, M, rfl, rfl, pd⟩ := hcut
      have r1 := pd.rows (n, X) (by simp)
      have r2 := pd.rows (m, X) (by simp)
      have pB := pd.bel
      clear pc ls pd
      go_wp2_with fail
      refine (CE _).mono ?_
      rintro e w5 ⟨rfl, b5⟩
      have B5 := bnext pB b5 pB.size
      clear b5 r1 r2 pB
      go_wp2_with fail
      go_ret
      exact ⟨rfl, B5⟩

namespace LFnExactBreakRoof
open Go.RowKit Go.ChangeShapes Go.WideShapes Go.ChangeAt
theorem own : ownKnob Tryd.prog.godebug = none := by kernel_rfl
theorem laidOut : laidOutB Tryd.prog = true := by kernel_rfl
theorem door_met (os : Os) (args : Array Value) : laidMetH Tryd.prog Rows.fnExactBreakRoofRow.laid ((World.doorLaid Tryd.prog 400 os).forCall (fun _ _ => 0) ⟨#[], args, []⟩).memory :=
  laidMetH_of_parts3 (fuel := 8) (laidMet_of_run' 8 (by kernel_rfl) (by kernel_rfl)) (by kernel_rfl) (by kernel_rfl)
set_option maxRecDepth 100000 in
theorem lifted (os : Os) (started : os.Started) (H : Type) (enc : TypeId × Value → H) :
    ReturnsInHanded {} Tryd.checked os 6 .any (fun w args => (Rows.fnExactBreakRoofSpec.pre enc Tryd.prog Tryd.f6 [] false w args ∧ laidMetH Tryd.prog Rows.fnExactBreakRoofRow.laid w) ∧ sizedMet enc Tryd.prog Tryd.f6 (OpenSpec.ofChange Rows.fnExactBreakRoofSpec) false w args)
      (Rows.fnExactBreakRoofSpec.post enc Tryd.prog Tryd.f6 false true false false) := by
  refine returnsInHanded_of_change_and (C := Tryd.checked) (X := fun w _ => laidMetH Tryd.prog Rows.fnExactBreakRoofRow.laid w) (fun _ _ _ hh h => h.of_heap hh) own started (by kernel_rfl) Tryd.func6
    (ChangeSpec.witness_shaped (enc := enc) (C := Tryd.checked) (os := os) (X := fun w _ => laidMetH Tryd.prog Rows.fnExactBreakRoofRow.laid w) false (World.doorLaid Tryd.prog 400 os) #[.agg Tryd.zeroCells26, .agg (Array.replicate 64 (.int .u8 0)), .int .i64 0, .int .i64 0] 8 rfl (World.shaped_of_RefB (by kernel_rfl) (by kernel_rfl)) (by kernel_rfl) (by kernel_rfl) (by kernel_rfl) (door_met os _)) ?_
  intro W base args ds gs before hval0 hW _ _ hL _
  have hval : ∀ (j : Nat) t v, Tryd.f6.params[j]? = some t → args[j]? = some v → Value.okWide Tryd.prog W .any base t v := hval0
  have hW' := hW
  obtain ⟨p, q, hA0, hV, rfl, hfz, hnd⟩ := hW
  have hA : DataW.TrodAll enc Tryd.prog W 0 (fun _ => true) true Tryd.f6.params.toList args.toList ds p := hA0
  rw [Tryd.params6] at hA hval
  obtain ⟨v0, vs0, d0, ds0, p0, q0, hargs, rfl, rfl, h0, r0⟩ := trodAll_cons hA
  obtain ⟨v1, vs1, d1, ds1, p1, q1, rfl, rfl, rfl, h1, r1⟩ := trodAll_cons r0
  obtain ⟨v2, vs2, d2, ds2, p2, q2, rfl, rfl, rfl, h2, r2⟩ := trodAll_cons r1
  obtain ⟨v3, vs3, d3, ds3, p3, q3, rfl, rfl, rfl, h3, r3⟩ := trodAll_cons r2
  obtain ⟨rfl, rfl, rfl⟩ := trodAll_nil r3
  obtain rfl : args = #[v0, v1, v2, v3] := by cases args; simp_all
  obtain ⟨rfl, rfl⟩ := trodVars_none hV
  have k0 := h0
  have lt0 : ∀ x ∈ p0, x.block < W.heap.size := by obtain ⟨m, hm⟩ := k0; exact DataW.trod_lt m _ _ _ hm
  have k1 := h1
  have lt1 : ∀ x ∈ p1, x.block < W.heap.size := by obtain ⟨m, hm⟩ := k1; exact DataW.trod_lt m _ _ _ hm
  obtain ⟨c0, f0, rfl, wf0⟩ := open_roof (hval 0 26 v0 rfl rfl) h0
  obtain ⟨c1, f1, rfl, wf1⟩ := open_ages (hval 1 24 v1 rfl rfl) h1
  obtain ⟨n2, rfl, rfl, rfl, wf2⟩ := open_int Tryd.underlying2 (hval 2 2 v2 rfl rfl) h2
  obtain ⟨n3, rfl, rfl, rfl, wf3⟩ := open_int Tryd.underlying2 (hval 3 2 v3 rfl rfl) h3
  clear hA0 hval0
  refine ((law_walk_FnExactBreakRoof wf0 wf1 (bounds_i64 wf2) (bounds_i64 wf3) W (errT_of hL))).mono fun e W' ⟨he, bel⟩ => ?_
  subst he
  exact ⟨_, rfl, _, _, _, [], _, [], hW', trodAll_mk1 (shut_bool Tryd.underlying4 _), (trodAll_cons_mk (Below.trod laidOut (by kernel_rfl) (of_decide_eq_true (by kernel_rfl)) k0 bel lt0) (trodAll_cons_mk (Below.trod laidOut (by kernel_rfl) (of_decide_eq_true (by kernel_rfl)) k1 bel lt1) (trodAll_cons_mk (shut_int Tryd.underlying2 wf2) (trodAll_cons_mk (shut_int Tryd.underlying2 wf3) trodAll_mk0)))), rfl, bel.frame _, fun h => by cases h⟩

theorem over : Rows.FnExactBreakRoofSaid :=
  OpenClaim.holds_of_wide 6 Tryd.f6 rfl rfl rfl rfl rfl rfl rfl ⟨rfl, rfl, rfl, rfl, rfl⟩ rfl rfl rfl rfl rfl (by kernel_rfl) Tryd.func6 (by kernel_rfl)
    (of_decide_eq_true (by kernel_rfl)) (by unfold Func.isWrapper; first | (rw [if_pos (by decide +kernel)]; kernel_rfl) | (rw [if_neg (by decide +kernel)]; exact ⟨rfl, rfl⟩))
    (fun os started H enc _ => lifted os started H enc)

theorem proved : Rows.FnExactBreakRoofCardSaid :=
  Claim7.holds_tied_plain_at .later [] Rows.fnExactBreakRoofCard.laidKinds true Rows.fnExactBreakRoofCard.stood.harness Rows.fnExactBreakRoofCard.stood.looks
    over (fun _ h => by cases h) (by kernel_rfl) (fun _ h => by cases h) fnExactBreakRoof_row_tie rfl ⟨rfl, rfl⟩ (by kernel_rfl) rfl
    (fun f fn hf hfn => by
      obtain rfl : f = 6 := Option.some.inj ((show Tryd.prog.funcNamed "loop.example/g01376/laws.FnExactBreakRoof" = some 6 by kernel_rfl).symm.trans hf) |>.symm
      obtain rfl : fn = Tryd.f6 := (Option.some.inj (Tryd.func6.symm.trans hfn)).symm
      exact ⟨by kernel_rfl, fun j t ht => by
        rw [Tryd.params6] at ht
        have hm : t ∈ [26, 24, 2, 2] := by simpa using Array.mem_of_getElem? ht
        have hall : ([26, 24, 2, 2].all fun u => !Tryd.prog.wantsStandIn u) = true := by kernel_rfl
        exact (show Tryd.prog.wantsStandIn t = false by simpa using List.all_eq_true.1 hall t hm)⟩)
    (by kernel_rfl)
end LFnExactBreakRoof

end Go.Proofs.YtcdobpnejbfbpaaDoor
