/- r.placesOf(kind): the places of all tiles of a kind. -/
import Derived.Test.YtfkcjgeeklngiaaRowT
import Derived.Test.YtfkcjgeeklngiaaLift
namespace Go.Proofs.Ytfkcjgeeklngiaa
open Go.RowKit Go.Shelf
attribute [local go_sem] Oper.semAt_some

theorem A_infoPc : (Try.prog.info? 37).map (fun i => (i.zero, i.size, i.bytes)) = some (some (.agg #[.int .i8 0, .int .i8 0]), 2, 2) := by kernel_rfl

/-- Of some places those whose tiles are of a kind. -/
def Rf.ofKind (r : Rf) (k : Int) {h w : Nat} (l : List (Pl h w)) : List (Pl h w) := l.filter fun x => decide (r.t (x.1.1 * 8 + x.1.2) = k)
theorem Rf.ofKind_hit {r : Rf} {k : Int} {h w : Nat} {l : List (Pl h w)} {x : Pl h w} (e : r.t (x.1.1 * 8 + x.1.2) = k) : r.ofKind k (l ++ [x]) = r.ofKind k l ++ [x] := by simp [Rf.ofKind, e]
theorem Rf.ofKind_miss {r : Rf} {k : Int} {h w : Nat} {l : List (Pl h w)} {x : Pl h w} (e : ¬ r.t (x.1.1 * 8 + x.1.2) = k) : r.ofKind k (l ++ [x]) = r.ofKind k l := by simp [Rf.ofKind, e]
theorem Rf.ofKind_len {r : Rf} {k : Int} {h w : Nat} (l : List (Pl h w)) : (r.ofKind k l).length ≤ l.length := List.length_filter_le _ _

set_option maxRecDepth 100000 in
set_option maxHeartbeats 4000000 in
theorem placesOf_any (c : Array Value) (r : Rf) (k : Int) (hh ww : Nat) (hhe : r.h = hh) (hwe : r.w = ww) (h8 : hh ≤ 8) (w8 : ww ≤ 8) (w : World) (hR : IsRoof c r) :
    Calls Try.prog 70 #[.agg c, .int .i64 k] w (GivesP w (r.ofKind k (plUpto hh ww (hh * ww)))) := by
  have hc := hR.size
  obtain ⟨i0, hi0, hz0, hz1, hz2⟩ := info_parts A_infoPc
  refine (callsIn_wide (n := 3)).1 ?_
  refine callsIn_of_wp_marks Try.func70 rfl trivial ?_ rfl
  simp only [Try.ntmps70, List.size_toArray, List.length_cons, List.length_nil, Nat.reduceAdd, Nat.reduceSub, Array.replicate_succ, Array.replicate_zero, List.push_toArray, List.append_toArray, List.nil_append, List.cons_append]
  gi_wp2_with (refine ⟨trivial, ?_⟩; gi_at_call 74; refine (callsIn_wide.2 (places_any c _)).mono ?_; rintro e w' ⟨rfl, rfl⟩)
  obtain ⟨W0, hW0⟩ : ∃ W0, (((w.alloc (.cells c 33)).alloc (.cells #[.int .i64 k] 2)).alloc (.cells #[.slice none 0 0] 56)).alloc (.cells c 33) = W0 := ⟨_, rfl⟩
  have hsz : W0.heap.size = w.heap.size + 4 := by rw [← hW0]; simp
  have rA : RowT W0 w.heap.size 33 c := by rw [← hW0]; exact (((RowT.new w 33 c).alloc _).alloc _).alloc _
  have rB : RowT W0 (w.heap.size + 1) 2 #[.int .i64 k] := by
    have := ((RowT.new (w.alloc (.cells c 33)) 2 #[.int .i64 k]).alloc (.cells #[.slice none 0 0] 56)).alloc (.cells c 33)
    rw [hW0] at this; simpa using this
  have rC0 : RowT W0 (w.heap.size + 1 + 1) 56 #[.slice none 0 0] := by
    have := (RowT.new ((w.alloc (.cells c 33)).alloc (.cells #[.int .i64 k] 2)) 56 #[.slice none 0 0]).alloc (.cells c 33)
    rw [hW0] at this; simpa using this
  have rC : Boxed W0 (w.heap.size + 1 + 1) 56 (.slice none 0 0) := rC0
  have rD : RowT W0 (w.heap.size + 1 + 1 + 1) 33 c := by
    have := RowT.new (((w.alloc (.cells c 33)).alloc (.cells #[.int .i64 k] 2)).alloc (.cells #[.slice none 0 0] 56)) 33 c
    rw [hW0] at this; simpa using this
  have hB0 : Below w.heap.size w W0 := by rw [← hW0]; exact ((((Below.refl _ w).alloc (Nat.le_refl _) _).alloc (by simp) _).alloc (by simp; omega) _).alloc (by simp; omega) _
  rw [hW0]
  clear hW0
  refine wpIn_rangeFunc_ownH rfl (by omega) (gf := 98) (lb := #[.pointer (some ⟨w.heap.size + 1 + 1 + 1, 0, none⟩)]) rfl trivial (enters_of Try.func98 (by kernel_rfl) rfl)
    (places_stops 2 (by omega) (w.heap.size + 1 + 1 + 1) w.heap.size c r hh ww hhe hwe h8 w8 hR W0 rD.row) KpR.trans (KpR.put (by omega) (by omega)) (Below.refl _ _) (fun _ => rfl)
    (fun pre W => ((RowT W w.heap.size 33 c ∧ RowT W (w.heap.size + 1) 2 #[.int .i64 k] ∧ RowT W (w.heap.size + 1 + 1 + 1) 33 c) ∧ (∃ v, Boxed W (w.heap.size + 1 + 1) 56 v ∧ W.ownsRow w.heap.size 37 2 v (r.ofKind k pre).length (plCells (r.ofKind k pre)) ∧ True)) ∧ Below w.heap.size w W)
    (fun _ _ _ => False)
    (OwnFrom.and (OwnFrom.and (OwnFrom.and (Own.from (RowT.own _ _ _) _) (OwnFrom.and (Own.from (RowT.own _ _ _) _) (Own.from (RowT.own _ _ _) _))) (Own.from (holdsRow_own w.heap.size (w.heap.size + 1 + 1) 56 37 2 (fun pre => (r.ofKind k pre).length) (fun pre => plCells (r.ofKind k pre)) (fun _ _ => True)) _)) (ownFrom_below (Nat.le_refl _) (by omega)))
    (fun _ _ _ _ _ hs _ _ => hs)
    ⟨⟨⟨rA, rB, rD⟩, ⟨_, rC, World.ownsRow_nil _ _ _ _, trivial⟩⟩, hB0⟩
    (fun x a' W => ∃ Bx, w.heap.size + 1 + 1 + 1 < Bx ∧ RowT W Bx 37 #[.int .i8 (x.1.1 : Int), .int .i8 (x.1.2 : Int)] ∧ a' = { tmps := #[.agg c, .int .i64 k, .pointer (some ⟨w.heap.size, 0, none⟩), .pointer (some ⟨w.heap.size + 1, 0, none⟩), .slice none 0 0, .pointer (some ⟨w.heap.size + 1 + 1, 0, none⟩), .pointer (some ⟨Bx, 0, none⟩), .agg c, .func (.func 98) #[] #[.pointer (some ⟨w.heap.size + 1 + 1 + 1, 0, none⟩)], x.enc, undef, undef, undef, undef, undef, undef, undef, undef, undef, undef], defers := [] })
    (fun x a' _ X Y row hs hg hr => by obtain ⟨Bx, h1, h2, h3⟩ := hs; exact ⟨Bx, h1, RowT.own Bx 37 (fun (_ : Unit) => #[Value.int .i8 (x.1.1 : Int), .int .i8 (x.1.2 : Int)]) () X Y row h2 hg (fun r e => (hr r e).2), h3⟩)
    ?assign ?body ?done ?stop
  case assign =>
    rintro l pre x W K ⟨⟨⟨gA, gB, gD⟩, v, gv, gl, _⟩, hB1⟩ hK
    dsimp only [Pl.enc]
    gi_wp2
    refine hK _ _ ((KeepsOthers.alloc _ _).from _) ⟨(Below.refl _ W).alloc hB1.size _, fun c' h => (rowAt_alloc_past _ _ _ (rowAt_lt h)).trans h⟩ ⟨⟨⟨gA.alloc _, gB.alloc _, gD.alloc _⟩, v, gv.alloc _, gl.alloc _, trivial⟩, hB1.alloc hB1.size _⟩ ⟨W.heap.size, gD.lt, RowT.new W 37 _, rfl⟩
  case body =>
    rintro l pre x a' W hl ⟨rr, hrr⟩ ⟨⟨⟨gA, gB, gD⟩, v, gv, gl, _⟩, hB1⟩ ⟨Bx, hBx, gX, rfl⟩ hlt
    have hpl := r.ofKind_len (k := k) pre
    have x8 : x.1.1 < 8 := by have := x.2.1; omega
    have y8 : x.1.2 < 8 := by have := x.2.2; omega
    have hpre : pre.length < 64 := by
      have : hh * ww ≤ 8 * 8 := Nat.mul_le_mul h8 w8
      omega
    have CK := fun W => kind_any c r x.1.1 x.1.2 W hR x8 y8
    gi_wp2
    by_cases hx : r.t (x.1.1 * 8 + x.1.2) = k
    · have hxb : (r.t (x.1.1 * 8 + x.1.2) == k) = true := by simp [hx]
      refine wpIn_region_held (S := (fun w' => (RowT w' w.heap.size 33 c ∧ RowT w' (w.heap.size + 1) 2 #[.int .i64 k] ∧ RowT w' Bx 37 #[.int .i8 (x.1.1 : Int), .int .i8 (x.1.2 : Int)]) ∧ Below W.heap.size W w')) (by kernel_rfl) (by kernel_rfl) (⟨⟨gA, gB, gX⟩, (Below.refl _ W).drew⟩) (fun hH => ?_)
      refine wpAnyH_take (i := 0) (v := .agg c) rfl (by kernel_rfl) (by kernel_rfl) (by kernel_rfl) (fun _ _ _ h => h) (Or.inl ⟨by rfl, ?_⟩) hH ?_
      · intro w1 hS; (try dsimp only at hS); obtain ⟨⟨s0, s1, s2⟩, _⟩ := hS; have u0 := s0.row; have u1 := cell_of_rowAt s1.row 0; have k0 := cell_of_rowAt s2.row 0; have k1 := cell_of_rowAt s2.row 1; simp at u1 k0 k1; go_simp
      (try simp only [List.getElem_toArray]); (try simp only [List.getElem_cons_succ]); (try simp only [List.getElem_cons_zero]); (try simp only [Act.put]); (try simp only [List.setIfInBounds_toArray]); (try simp only [List.set_cons_succ]); (try simp only [List.set_cons_zero])
      refine wpAnyH_take (i := 1) (v := .agg #[.int .i8 (x.1.1 : Int), .int .i8 (x.1.2 : Int)]) rfl (by kernel_rfl) (by kernel_rfl) (by kernel_rfl) (fun _ _ _ h => h) (Or.inl ⟨by rfl, ?_⟩) hH ?_
      · intro w1 hS; (try dsimp only at hS); obtain ⟨⟨s0, s1, s2⟩, _⟩ := hS; have u0 := s0.row; have u1 := cell_of_rowAt s1.row 0; have k0 := cell_of_rowAt s2.row 0; have k1 := cell_of_rowAt s2.row 1; simp at u1 k0 k1; go_simp
      (try simp only [List.getElem_toArray]); (try simp only [List.getElem_cons_succ]); (try simp only [List.getElem_cons_zero]); (try simp only [Act.put]); (try simp only [List.setIfInBounds_toArray]); (try simp only [List.set_cons_succ]); (try simp only [List.set_cons_zero])
      refine wpAnyH_take (i := 3) (v := .int .i64 k) rfl (by kernel_rfl) (by kernel_rfl) (by kernel_rfl) (fun _ _ _ h => h) (Or.inl ⟨by rfl, ?_⟩) hH ?_
      · intro w1 hS; (try dsimp only at hS); obtain ⟨⟨s0, s1, s2⟩, _⟩ := hS; have u0 := s0.row; have u1 := cell_of_rowAt s1.row 0; have k0 := cell_of_rowAt s2.row 0; have k1 := cell_of_rowAt s2.row 1; simp at u1 k0 k1; go_simp
      (try simp only [List.getElem_toArray]); (try simp only [List.getElem_cons_succ]); (try simp only [List.getElem_cons_zero]); (try simp only [Act.put]); (try simp only [List.setIfInBounds_toArray]); (try simp only [List.set_cons_succ]); (try simp only [List.set_cons_zero])
      refine wpAnyH_ready (rs := [2]) (by kernel_rfl) (by simp) (AllReadyH.cons rfl (fun K hK => ?_) AllReadyH.nil)
      go_simp
      refine (CK _).mono ?_
      rintro x wx ⟨rfl, bx⟩
      go_simp
      refine hK.out _ _ (⟨⟨hH.1.1.below bx, hH.1.2.1.below bx, hH.1.2.2.below bx⟩, hH.2.trans (bx.mono hH.2.size)⟩) (fun hG => ?_)
      clear hK K hH bx
      replace hH := hG
      clear hG
      (try simp only [List.getElem_toArray]); (try simp only [List.getElem_cons_succ]); (try simp only [List.getElem_cons_zero]); (try simp only [Act.put]); (try simp only [List.setIfInBounds_toArray]); (try simp only [List.set_cons_succ]); (try simp only [List.set_cons_zero])
      refine wpAnyH_take (i := 4) (v := .bool true) rfl (by kernel_rfl) (by kernel_rfl) (by kernel_rfl) (fun _ _ _ h => h) (Or.inl ⟨by rfl, ?_⟩) hH ?_
      · intro w1 hS; (try dsimp only at hS); go_simp; (try rw [hx])
      (try simp only [List.getElem_toArray]); (try simp only [List.getElem_cons_succ]); (try simp only [List.getElem_cons_zero]); (try simp only [Act.put]); (try simp only [List.setIfInBounds_toArray]); (try simp only [List.set_cons_succ]); (try simp only [List.set_cons_zero])
      refine wpAnyH_done (by kernel_rfl) ?_ _
      dsimp only [OnlyN]
      obtain ⟨W2, hW2⟩ : ∃ W2, W2 = wx := ⟨_, rfl⟩
      rw [← hW2] at hH ⊢
      have bW := hH.2
      have hb2 : Below w.heap.size w W2 := hB1.trans (bW.mono hB1.size)
      have gA2 := gA.below bW
      have gB2 := gB.below bW
      have gD2 := gD.below bW
      have gX2 := gX.below bW
      have hv : Boxed W2 (w.heap.size + 1 + 1) 56 v := RowT.below gv bW
      have hrow := owns_below gl bW
      have hc := hv.cell
      have kx0 := cell_of_rowAt gX2.row 0
      have kx1 := cell_of_rowAt gX2.row 1
      simp at kx0 kx1
      clear hW2 hH
      gi_wp2_with (gi_at_builtin; refine wpListIn_append_own _ rfl _ _ 56 rfl w.heap.size 37 i0 (.agg #[.int .i8 0, .int .i8 0]) 2 2 Try.underlying56 hi0 hz0 hz1 hz2 rfl (by decide) _ _ _ rfl (hrow.alloc _) ⟨W2.heap.size, 0, none⟩ 1 1 [.int .i8 (x.1.1 : Int), .int .i8 (x.1.2 : Int)] rfl rfl (cell_two_new _ _ _ _) (by simp [Value.oneCell']) (by unfold maxLen; omega) (by omega) (by have := hb2.size; simp; omega) ?_; intro v' w1 hown' hgrow _; obtain ⟨g', cap', rfl⟩ := ownsRow_succ hown'; obtain ⟨hv1, hv2, hr2, hk2, hb3⟩ := hv.appended (by decide) hrow hb2.size (by omega) hown' hgrow; have hc1 := hv1.cell; have hf1 := hv1.frozen; have zA := (gA2.appended (by decide) hrow hgrow).other (B' := w.heap.size + 1 + 1) (o := 0) (by omega) (.slice (some ⟨g', 0, none⟩) ((r.ofKind k pre).length + 1) cap'); have zB := (gB2.appended (by decide) hrow hgrow).other (B' := w.heap.size + 1 + 1) (o := 0) (by omega) (.slice (some ⟨g', 0, none⟩) ((r.ofKind k pre).length + 1) cap'); have zD := (gD2.appended (by decide) hrow hgrow).other (B' := w.heap.size + 1 + 1) (o := 0) (by omega) (.slice (some ⟨g', 0, none⟩) ((r.ofKind k pre).length + 1) cap'))
      refine ⟨((keeps_of_below bW).trans hk2).from _, ⟨(bW.mono hB1.size).trans hb3, fun c' h' => ?_⟩, ⟨⟨zA, zB, zD⟩, _, hv2, by rw [Rf.ofKind_hit hx, plCells_snoc]; simpa using hr2, trivial⟩, hb2.trans hb3⟩
      rw [zD.row, ← gD.row]
      exact h'
    · have hxb : (r.t (x.1.1 * 8 + x.1.2) == k) = false := by simp [hx]
      refine wpIn_region_held (S := (fun w' => (RowT w' w.heap.size 33 c ∧ RowT w' (w.heap.size + 1) 2 #[.int .i64 k] ∧ RowT w' Bx 37 #[.int .i8 (x.1.1 : Int), .int .i8 (x.1.2 : Int)]) ∧ Below W.heap.size W w')) (by kernel_rfl) (by kernel_rfl) (⟨⟨gA, gB, gX⟩, (Below.refl _ W).drew⟩) (fun hH => ?_)
      refine wpAnyH_take (i := 0) (v := .agg c) rfl (by kernel_rfl) (by kernel_rfl) (by kernel_rfl) (fun _ _ _ h => h) (Or.inl ⟨by rfl, ?_⟩) hH ?_
      · intro w1 hS; (try dsimp only at hS); obtain ⟨⟨s0, s1, s2⟩, _⟩ := hS; have u0 := s0.row; have u1 := cell_of_rowAt s1.row 0; have k0 := cell_of_rowAt s2.row 0; have k1 := cell_of_rowAt s2.row 1; simp at u1 k0 k1; go_simp
      (try simp only [List.getElem_toArray]); (try simp only [List.getElem_cons_succ]); (try simp only [List.getElem_cons_zero]); (try simp only [Act.put]); (try simp only [List.setIfInBounds_toArray]); (try simp only [List.set_cons_succ]); (try simp only [List.set_cons_zero])
      refine wpAnyH_take (i := 1) (v := .agg #[.int .i8 (x.1.1 : Int), .int .i8 (x.1.2 : Int)]) rfl (by kernel_rfl) (by kernel_rfl) (by kernel_rfl) (fun _ _ _ h => h) (Or.inl ⟨by rfl, ?_⟩) hH ?_
      · intro w1 hS; (try dsimp only at hS); obtain ⟨⟨s0, s1, s2⟩, _⟩ := hS; have u0 := s0.row; have u1 := cell_of_rowAt s1.row 0; have k0 := cell_of_rowAt s2.row 0; have k1 := cell_of_rowAt s2.row 1; simp at u1 k0 k1; go_simp
      (try simp only [List.getElem_toArray]); (try simp only [List.getElem_cons_succ]); (try simp only [List.getElem_cons_zero]); (try simp only [Act.put]); (try simp only [List.setIfInBounds_toArray]); (try simp only [List.set_cons_succ]); (try simp only [List.set_cons_zero])
      refine wpAnyH_take (i := 3) (v := .int .i64 k) rfl (by kernel_rfl) (by kernel_rfl) (by kernel_rfl) (fun _ _ _ h => h) (Or.inl ⟨by rfl, ?_⟩) hH ?_
      · intro w1 hS; (try dsimp only at hS); obtain ⟨⟨s0, s1, s2⟩, _⟩ := hS; have u0 := s0.row; have u1 := cell_of_rowAt s1.row 0; have k0 := cell_of_rowAt s2.row 0; have k1 := cell_of_rowAt s2.row 1; simp at u1 k0 k1; go_simp
      (try simp only [List.getElem_toArray]); (try simp only [List.getElem_cons_succ]); (try simp only [List.getElem_cons_zero]); (try simp only [Act.put]); (try simp only [List.setIfInBounds_toArray]); (try simp only [List.set_cons_succ]); (try simp only [List.set_cons_zero])
      refine wpAnyH_ready (rs := [2]) (by kernel_rfl) (by simp) (AllReadyH.cons rfl (fun K hK => ?_) AllReadyH.nil)
      go_simp
      refine (CK _).mono ?_
      rintro x wx ⟨rfl, bx⟩
      go_simp
      refine hK.out _ _ (⟨⟨hH.1.1.below bx, hH.1.2.1.below bx, hH.1.2.2.below bx⟩, hH.2.trans (bx.mono hH.2.size)⟩) (fun hG => ?_)
      clear hK K hH bx
      replace hH := hG
      clear hG
      (try simp only [List.getElem_toArray]); (try simp only [List.getElem_cons_succ]); (try simp only [List.getElem_cons_zero]); (try simp only [Act.put]); (try simp only [List.setIfInBounds_toArray]); (try simp only [List.set_cons_succ]); (try simp only [List.set_cons_zero])
      refine wpAnyH_take (i := 4) (v := .bool false) rfl (by kernel_rfl) (by kernel_rfl) (by kernel_rfl) (fun _ _ _ h => h) (Or.inl ⟨by rfl, ?_⟩) hH ?_
      · intro w1 hS; (try dsimp only at hS); go_simp; (try rw [hx])
      (try simp only [List.getElem_toArray]); (try simp only [List.getElem_cons_succ]); (try simp only [List.getElem_cons_zero]); (try simp only [Act.put]); (try simp only [List.setIfInBounds_toArray]); (try simp only [List.set_cons_succ]); (try simp only [List.set_cons_zero])
      refine wpAnyH_done (by kernel_rfl) ?_ _
      dsimp only [OnlyN]
      have bW := hH.2
      have hb2 : Below w.heap.size w wx := hB1.trans (bW.mono hB1.size)
      have gA2 := gA.below bW
      have gB2 := gB.below bW
      have gD2 := gD.below bW
      have hv : Boxed wx (w.heap.size + 1 + 1) 56 v := RowT.below gv bW
      have hrow := owns_below gl bW
      clear hH
      gi_wp2
      exact ⟨(keeps_of_below bW).from _, ⟨bW.mono hB1.size, fun c' h' => brow bW h'⟩, ⟨⟨gA2, gB2, gD2⟩, v, hv, by rw [Rf.ofKind_miss hx]; exact hrow, trivial⟩, hb2⟩
  case done =>
    rintro D ys W hD rfl ⟨⟨⟨gA, gB, gD⟩, v, gv, gl, _⟩, hB1⟩ hK
    have hc := gv.cell
    gi_wp2
    refine ⟨by simp, .inl ⟨_, _, rfl, run_takeDeferred hK, ?_⟩⟩
    exact ⟨_, results_tmp rfl _ _ _, v, rfl, IsList.of_pls (ownsRow_putObj gl _ hK rfl), hB1.trans (belowK_b (w := w) (Nat.le_refl _) W D _ _ (by omega) hK rfl rfl)⟩
  case stop =>
    rintro D c pre W _ _ h _
    exact h.elim
end Go.Proofs.Ytfkcjgeeklngiaa
