/- DifferIn: both sides. -/
import Derived.Test.YtfkcjgeeklngiaaTiles
import Derived.Test.YtfkcjgeeklngiaaMended
import Derived.Test.YtfkcjgeeklngiaaEqRoof
import Derived.Test.YtfkcjgeeklngiaaRainA
namespace Go.Proofs.Ytfkcjgeeklngiaa
open Go.RowKit Go.Shelf
attribute [local go_sem] Oper.semAt_some

def Rf.same (r q : Rf) : Prop := r.w = q.w ∧ r.h = q.h ∧ r.s = q.s
instance (r q : Rf) : Decidable (r.same q) := inferInstanceAs (Decidable (_ ∧ _ ∧ _))
/-- Of some places those whose tiles differ. -/
def Rf.diff (r q : Rf) {h w : Nat} (l : List (Pl h w)) : List (Pl h w) := l.filter fun x => r.t (x.1.1 * 8 + x.1.2) != q.t (x.1.1 * 8 + x.1.2)
theorem Rf.diff_hit {r q : Rf} {h w : Nat} {l : List (Pl h w)} {x : Pl h w} (e : (r.t (x.1.1 * 8 + x.1.2) != q.t (x.1.1 * 8 + x.1.2)) = true) : r.diff q (l ++ [x]) = r.diff q l ++ [x] := by simp only [Rf.diff, List.filter_append, List.filter_cons, e, List.filter_nil, if_true]
theorem Rf.diff_miss {r q : Rf} {h w : Nat} {l : List (Pl h w)} {x : Pl h w} (e : (r.t (x.1.1 * 8 + x.1.2) != q.t (x.1.1 * 8 + x.1.2)) = false) : r.diff q (l ++ [x]) = r.diff q l := by simp [Rf.diff, e]
theorem Rf.diff_len {r q : Rf} {h w : Nat} (l : List (Pl h w)) : (r.diff q l).length ≤ l.length := List.length_filter_le _ _
theorem Rf.bare_tiles (r q : Rf) : r.bare.tilesEq q.bare = true := by
  unfold Rf.tilesEq Rf.rowEq Rf.bare
  simp
theorem Rf.bare_t {r q : Rf} (h : r.same q) : r.bare.eqB q.bare = true := by
  unfold Rf.eqB
  rw [Rf.bare_tiles]
  exact (if_pos (show r.bare.w = q.bare.w from h.1)).trans ((if_pos (show r.bare.h = q.bare.h from h.2.1)).trans (if_pos (show r.bare.s = q.bare.s from h.2.2)))
theorem onlyN_out {Q : Exit → Act → World → Prop} : ∀ e a w, OnlyN Q e a w → Q e a w
  | .normal, _, _, h => h
  | .exit _, _, _, h => h.elim
  | .goto _, _, _, h => h.elim
  | .ret, _, _, h => h.elim
  | .panic _, _, _, h => h.elim
theorem Rf.bare_f {r q : Rf} (h : ¬ r.same q) : r.bare.eqB q.bare = false := by
  unfold Rf.eqB
  by_cases h0 : r.bare.w = q.bare.w
  · by_cases h1 : r.bare.h = q.bare.h
    · by_cases h2 : r.bare.s = q.bare.s
      · exact absurd ⟨h0, h1, h2⟩ h
      · rw [if_pos h0, if_pos h1, if_neg h2]
    · rw [if_pos h0, if_neg h1]
  · rw [if_neg h0]
noncomputable def Rf.dcode (r q : Rf) : Int := if r.ok = true then if q.ok = true then if r.same q then 0 else 4 else 1 else 1
noncomputable def Rf.dfL (r q : Rf) : List (Pl r.h.toNat r.w.toNat) := if r.dcode q = 0 then r.diff q r.all else []
theorem Rf.dfL_le (r q : Rf) : (r.dfL q).length ≤ 64 := by
  unfold Rf.dfL
  by_cases h : r.dcode q = 0
  · rw [if_pos h]
    unfold Rf.dcode at h
    by_cases ho : r.ok = true
    · exact Nat.le_trans (Rf.diff_len _) (Rf.all_le (by by_cases hk : r.Ok; exact hk; rw [Rf.ok_false hk] at ho; exact absurd ho (by simp)))
    · rw [if_neg ho] at h; exact absurd h (by decide)
  · rw [if_neg h]; simp

set_option maxRecDepth 100000 in
set_option maxHeartbeats 4000000 in
theorem differ_any (c e : Array Value) (r q : Rf) (hh ww : Nat) (hhe : r.h = hh) (hwe : r.w = ww) (h8 : hh ≤ 8) (w8 : ww ≤ 8) (w : World) (hR : IsRoof c r) (hQ : IsRoof e q) (ho : r.Ok) (hp : q.Ok) (hs : r.same q) :
    Calls Try.prog 41 #[.agg c, .agg e] w (GivesPs w (r.diff q (plUpto hh ww (hh * ww))) 0) := by
  have hc := hR.size
  have he := hQ.size
  have CM := fun w => mended_any c r w hR
  have CN := fun w => mended_any e q w hQ
  have heq := fun W => run_eq_roof (bareC c) (bareC e) r.bare q.bare hR.bare hQ.bare W
  rw [Rf.bare_t hs] at heq
  generalize bareC c = X at *
  generalize bareC e = Y at *
  have HEQ := Lib.hid heq
  clear heq
  obtain ⟨i0, hi0, hz0, hz1, hz2⟩ := info_parts A_infoPc
  have e0 : RowT ((w.alloc (.cells c 33)).alloc (.cells e 33)) w.heap.size 33 c := (RowT.new w 33 c).alloc _
  have e1 : RowT ((w.alloc (.cells c 33)).alloc (.cells e 33)) (w.heap.size + 1) 33 e := by
    have := RowT.new (w.alloc (.cells c 33)) 33 e
    simpa using this
  have eB : Below w.heap.size w ((w.alloc (.cells c 33)).alloc (.cells e 33)) := ((Below.refl _ w).alloc (Nat.le_refl _) _).alloc (by simp) _
  refine (callsIn_wide (n := 3)).1 ?_
  refine callsIn_of_wp_marks Try.func41 rfl trivial ?_ rfl
  simp only [Try.ntmps41, List.size_toArray, List.length_cons, List.length_nil, Nat.reduceAdd, Nat.reduceSub, Array.replicate_succ, Array.replicate_zero, List.push_toArray, List.append_toArray, List.nil_append, List.cons_append]
  gi_wp2
  refine ⟨trivial, (callsIn_wide.2 (implValid_t c r _ hR ho)).mono ?_⟩
  rintro x w1 ⟨rfl, b1⟩
  have d0 := e0.below b1
  have d1 := e1.below b1
  have dB := bnext eB b1 eB.size
  have dr0 := d0.row
  have dr1 := d1.row
  clear b1 e0 e1 eB
  gi_wp2
  refine ⟨trivial, (callsIn_wide.2 (implValid_t e q _ hQ hp)).mono ?_⟩
  rintro x w2 ⟨rfl, b2⟩
  have f0 := d0.below b2
  have f1 := d1.below b2
  have fB := bnext dB b2 dB.size
  clear b2 d0 d1 dB dr0 dr1
  gi_wp2
  refine wpIn_wide.2 (Code.wp_mono onlyN_out ?_)
  have heq := HEQ.out
  refine wp_region_held_drew (S := (fun w' => (RowT w' w.heap.size 33 c ∧ RowT w' (w.heap.size + 1) 33 e) ∧ Below w.heap.size w w')) (by kernel_rfl) (⟨⟨f0, f1⟩, fB.drew⟩) (fun hH => ?_)
  refine wpAnyH_take (i := 0) (v := .agg c) rfl (by kernel_rfl) (by kernel_rfl) (by kernel_rfl) (fun _ _ _ h => h) (Or.inl ⟨by rfl, ?_⟩) hH ?_
  · intro w1 hS; (try dsimp only at hS); obtain ⟨⟨s0, s1⟩, _⟩ := hS; have u0 := s0.row; have u1 := s1.row; go_simp
  (try simp only [List.getElem_toArray]); (try simp only [List.getElem_cons_succ]); (try simp only [List.getElem_cons_zero]); (try simp only [Act.put]); (try simp only [List.setIfInBounds_toArray]); (try simp only [List.set_cons_succ]); (try simp only [List.set_cons_zero])
  refine wpAnyH_take (i := 2) (v := .agg e) rfl (by kernel_rfl) (by kernel_rfl) (by kernel_rfl) (fun _ _ _ h => h) (Or.inl ⟨by rfl, ?_⟩) hH ?_
  · intro w1 hS; (try dsimp only at hS); obtain ⟨⟨s0, s1⟩, _⟩ := hS; have u0 := s0.row; have u1 := s1.row; go_simp
  (try simp only [List.getElem_toArray]); (try simp only [List.getElem_cons_succ]); (try simp only [List.getElem_cons_zero]); (try simp only [Act.put]); (try simp only [List.setIfInBounds_toArray]); (try simp only [List.set_cons_succ]); (try simp only [List.set_cons_zero])
  refine wpAnyH_ready (rs := [1]) (by kernel_rfl) (by simp) (AllReadyH.cons rfl (fun K hK => ?_) AllReadyH.nil)
  go_simp
  refine (CM _).mono ?_
  rintro x wx ⟨rfl, bx⟩
  go_simp
  refine hK.out _ _ (⟨⟨hH.1.1.below bx, hH.1.2.below bx⟩, bnext hH.2 bx hH.2.size⟩) (fun hG => ?_)
  clear hK K hH bx
  replace hH := hG
  clear hG
  (try simp only [List.getElem_toArray]); (try simp only [List.getElem_cons_succ]); (try simp only [List.getElem_cons_zero]); (try simp only [Act.put]); (try simp only [List.setIfInBounds_toArray]); (try simp only [List.set_cons_succ]); (try simp only [List.set_cons_zero])
  refine wpAnyH_ready (rs := [3]) (by kernel_rfl) (by simp) (AllReadyH.cons rfl (fun K hK => ?_) AllReadyH.nil)
  go_simp
  refine (CN _).mono ?_
  rintro x wx ⟨rfl, bx⟩
  go_simp
  refine hK.out _ _ (⟨⟨hH.1.1.below bx, hH.1.2.below bx⟩, bnext hH.2 bx hH.2.size⟩) (fun hG => ?_)
  clear hK K hH bx
  replace hH := hG
  clear hG
  (try simp only [List.getElem_toArray]); (try simp only [List.getElem_cons_succ]); (try simp only [List.getElem_cons_zero]); (try simp only [Act.put]); (try simp only [List.setIfInBounds_toArray]); (try simp only [List.set_cons_succ]); (try simp only [List.set_cons_zero])
  refine wpAnyH_take (i := 4) (v := .bool false) rfl (by kernel_rfl) (by kernel_rfl) (by kernel_rfl) (fun _ _ _ h => h) (Or.inl ⟨by rfl, ?_⟩) hH ?_
  · intro w1 hS; (try dsimp only at hS); go_simp
  (try simp only [List.getElem_toArray]); (try simp only [List.getElem_cons_succ]); (try simp only [List.getElem_cons_zero]); (try simp only [Act.put]); (try simp only [List.setIfInBounds_toArray]); (try simp only [List.set_cons_succ]); (try simp only [List.set_cons_zero])
  refine wpAnyH_done (by kernel_rfl) ?_ _
  dsimp only [OnlyN]
  clear heq HEQ CM CN
  obtain ⟨w4, hw4⟩ : ∃ w4, w4 = wx := ⟨_, rfl⟩
  rw [← hw4] at hH ⊢
  clear hw4
  obtain ⟨⟨g0, g1⟩, gB⟩ := hH
  have g0r := g0.row
  have lg0 : w.heap.size < w4.heap.size := g0.lt
  gi_wp2
  refine ⟨trivial, (callsIn_wide.2 (places_any c _)).mono ?_⟩
  rintro e' w' ⟨rfl, rfl⟩
  gi_wp2
  obtain ⟨W0, hW0⟩ : ∃ W0, (w4.alloc (.cells #[.slice none 0 0] 56)).alloc (.cells c 33) = W0 := ⟨_, rfl⟩
  have hsz : W0.heap.size = w4.heap.size + 2 := by rw [← hW0]; simp
  have rA : RowT W0 w.heap.size 33 c := by rw [← hW0]; exact (g0.alloc _).alloc _
  have rB : RowT W0 (w.heap.size + 1) 33 e := by rw [← hW0]; exact (g1.alloc _).alloc _
  have rC0 : RowT W0 w4.heap.size 56 #[.slice none 0 0] := by rw [← hW0]; exact (RowT.new w4 56 #[.slice none 0 0]).alloc _
  have rC : Boxed W0 w4.heap.size 56 (.slice none 0 0) := rC0
  have rD : RowT W0 (w4.heap.size + 1) 33 c := by
    have := RowT.new (w4.alloc (.cells #[.slice none 0 0] 56)) 33 c
    rw [hW0] at this; simpa using this
  have hB0 : Below w.heap.size w W0 := by rw [← hW0]; exact (gB.alloc gB.size _).alloc (by have := gB.size; simp; omega) _
  have fs := gB.size
  have lg1 : w.heap.size + 1 < w4.heap.size := g1.lt
  rw [hW0]
  clear hW0 g0 g1 gB g0r
  refine wpIn_rangeFunc_ownH rfl (by omega) (gf := 98) (lb := #[.pointer (some ⟨w4.heap.size + 1, 0, none⟩)]) rfl trivial (enters_of Try.func98 (by kernel_rfl) rfl)
    (places_stops 2 (by omega) (w4.heap.size + 1) w.heap.size c r hh ww hhe hwe h8 w8 hR W0 rD.row) KpR.trans (KpR.put (by omega) (by omega)) (Below.refl _ _) (fun _ => rfl)
    (fun pre W => ((RowT W w.heap.size 33 c ∧ RowT W (w.heap.size + 1) 33 e ∧ RowT W (w4.heap.size + 1) 33 c) ∧ (∃ v, Boxed W w4.heap.size 56 v ∧ W.ownsRow w.heap.size 37 2 v (r.diff q pre).length (plCells (r.diff q pre)) ∧ True)) ∧ Below w.heap.size w W)
    (fun _ _ _ => False)
    (OwnFrom.and (OwnFrom.and (OwnFrom.and (Own.from (RowT.own _ _ _) _) (OwnFrom.and (Own.from (RowT.own _ _ _) _) (Own.from (RowT.own _ _ _) _))) (Own.from (holdsRow_own w.heap.size w4.heap.size 56 37 2 (fun pre => (r.diff q pre).length) (fun pre => plCells (r.diff q pre)) (fun _ _ => True)) _)) (ownFrom_below (Nat.le_refl _) (by omega)))
    (fun _ _ _ _ _ hs _ _ => hs)
    ⟨⟨⟨rA, rB, rD⟩, ⟨_, rC, World.ownsRow_nil _ _ _ _, trivial⟩⟩, hB0⟩
    (fun x a' W => ∃ Bx, w4.heap.size + 1 < Bx ∧ RowT W Bx 37 #[.int .i8 (x.1.1 : Int), .int .i8 (x.1.2 : Int)] ∧ a' = { tmps := #[.agg c, .agg e, .pointer (some ⟨w.heap.size, 0, none⟩), .pointer (some ⟨w.heap.size + 1, 0, none⟩), .slice none 0 0, .int .i64 0, .pointer (some ⟨w4.heap.size, 0, none⟩), .pointer (some ⟨Bx, 0, none⟩), .agg c, .bool true, .bool false, .bool false, .agg e, .bool true, .bool false, .bool false, .agg c, .agg X, .agg e, .agg Y, .bool false, .agg c, .func (.func 98) #[] #[.pointer (some ⟨w4.heap.size + 1, 0, none⟩)], x.enc, undef, undef, undef, undef, undef, undef, undef, undef, undef, undef, undef, undef], defers := [] })
    (fun x a' _ X Y row hs hg hr => by obtain ⟨Bx, h1, h2, h3⟩ := hs; exact ⟨Bx, h1, RowT.own Bx 37 (fun (_ : Unit) => #[Value.int .i8 (x.1.1 : Int), .int .i8 (x.1.2 : Int)]) () X Y row h2 hg (fun r e => (hr r e).2), h3⟩)
    ?assign ?body ?done ?stop
  case assign =>
    rintro l pre x W K ⟨⟨⟨gA, gB, gD⟩, v, gv, gl, _⟩, hB1⟩ hK
    dsimp only [Pl.enc]
    gi_wp2
    refine hK _ _ ((KeepsOthers.alloc _ _).from _) ⟨(Below.refl _ W).alloc hB1.size _, fun c' h => (rowAt_alloc_past _ _ _ (rowAt_lt h)).trans h⟩ ⟨⟨⟨gA.alloc _, gB.alloc _, gD.alloc _⟩, v, gv.alloc _, gl.alloc _, trivial⟩, hB1.alloc hB1.size _⟩ ⟨W.heap.size, gD.lt, RowT.new W 37 _, rfl⟩
  case body =>
    rintro l pre x a' W hl ⟨rr, hrr⟩ ⟨⟨⟨gA, gB, gD⟩, v, gv, gl, _⟩, hB1⟩ ⟨Bx, hBx, gX, rfl⟩ hlt
    have hpl := r.diff_len (q := q) pre
    have x8 : x.1.1 < 8 := by have := x.2.1; omega
    have y8 : x.1.2 < 8 := by have := x.2.2; omega
    have hpre : pre.length < 64 := by
      have : hh * ww ≤ 8 * 8 := Nat.mul_le_mul h8 w8
      omega
    have CK := fun W => kind_any c r x.1.1 x.1.2 W hR x8 y8
    have CQ := fun W => kind_any e q x.1.1 x.1.2 W hQ x8 y8
    gi_wp2
    by_cases hx : (r.t (x.1.1 * 8 + x.1.2) != q.t (x.1.1 * 8 + x.1.2)) = true
    · refine wpIn_region_held (S := (fun w' => (RowT w' w.heap.size 33 c ∧ RowT w' (w.heap.size + 1) 33 e ∧ RowT w' Bx 37 #[.int .i8 (x.1.1 : Int), .int .i8 (x.1.2 : Int)]) ∧ Below W.heap.size W w')) (by kernel_rfl) (by kernel_rfl) (⟨⟨gA, gB, gX⟩, (Below.refl _ W).drew⟩) (fun hH => ?_)
      refine wpAnyH_take (i := 0) (v := .agg c) rfl (by kernel_rfl) (by kernel_rfl) (by kernel_rfl) (fun _ _ _ h => h) (Or.inl ⟨by rfl, ?_⟩) hH ?_
      · intro w1 hS; (try dsimp only at hS); obtain ⟨⟨s0, s1, s2⟩, _⟩ := hS; have u0 := s0.row; have u1 := s1.row; have k0 := cell_of_rowAt s2.row 0; have k1 := cell_of_rowAt s2.row 1; simp at k0 k1; go_simp
      (try simp only [List.getElem_toArray]); (try simp only [List.getElem_cons_succ]); (try simp only [List.getElem_cons_zero]); (try simp only [Act.put]); (try simp only [List.setIfInBounds_toArray]); (try simp only [List.set_cons_succ]); (try simp only [List.set_cons_zero])
      refine wpAnyH_take (i := 1) (v := .agg #[.int .i8 (x.1.1 : Int), .int .i8 (x.1.2 : Int)]) rfl (by kernel_rfl) (by kernel_rfl) (by kernel_rfl) (fun _ _ _ h => h) (Or.inl ⟨by rfl, ?_⟩) hH ?_
      · intro w1 hS; (try dsimp only at hS); obtain ⟨⟨s0, s1, s2⟩, _⟩ := hS; have u0 := s0.row; have u1 := s1.row; have k0 := cell_of_rowAt s2.row 0; have k1 := cell_of_rowAt s2.row 1; simp at k0 k1; go_simp
      (try simp only [List.getElem_toArray]); (try simp only [List.getElem_cons_succ]); (try simp only [List.getElem_cons_zero]); (try simp only [Act.put]); (try simp only [List.setIfInBounds_toArray]); (try simp only [List.set_cons_succ]); (try simp only [List.set_cons_zero])
      refine wpAnyH_take (i := 3) (v := .agg e) rfl (by kernel_rfl) (by kernel_rfl) (by kernel_rfl) (fun _ _ _ h => h) (Or.inl ⟨by rfl, ?_⟩) hH ?_
      · intro w1 hS; (try dsimp only at hS); obtain ⟨⟨s0, s1, s2⟩, _⟩ := hS; have u0 := s0.row; have u1 := s1.row; have k0 := cell_of_rowAt s2.row 0; have k1 := cell_of_rowAt s2.row 1; simp at k0 k1; go_simp
      (try simp only [List.getElem_toArray]); (try simp only [List.getElem_cons_succ]); (try simp only [List.getElem_cons_zero]); (try simp only [Act.put]); (try simp only [List.setIfInBounds_toArray]); (try simp only [List.set_cons_succ]); (try simp only [List.set_cons_zero])
      refine wpAnyH_take (i := 4) (v := .agg #[.int .i8 (x.1.1 : Int), .int .i8 (x.1.2 : Int)]) rfl (by kernel_rfl) (by kernel_rfl) (by kernel_rfl) (fun _ _ _ h => h) (Or.inl ⟨by rfl, ?_⟩) hH ?_
      · intro w1 hS; (try dsimp only at hS); obtain ⟨⟨s0, s1, s2⟩, _⟩ := hS; have u0 := s0.row; have u1 := s1.row; have k0 := cell_of_rowAt s2.row 0; have k1 := cell_of_rowAt s2.row 1; simp at k0 k1; go_simp
      (try simp only [List.getElem_toArray]); (try simp only [List.getElem_cons_succ]); (try simp only [List.getElem_cons_zero]); (try simp only [Act.put]); (try simp only [List.setIfInBounds_toArray]); (try simp only [List.set_cons_succ]); (try simp only [List.set_cons_zero])
      refine wpAnyH_ready (rs := [2]) (by kernel_rfl) (by simp) (AllReadyH.cons rfl (fun K hK => ?_) AllReadyH.nil)
      go_simp
      refine (CK _).mono ?_
      rintro x wx ⟨rfl, bx⟩
      go_simp
      refine hK.out _ _ (⟨⟨hH.1.1.below bx, hH.1.2.1.below bx, hH.1.2.2.below bx⟩, hH.2.trans (bx.mono hH.2.size)⟩) (fun hG => ?_)
      clear hK K hH bx
      replace hH := hG
      clear hG
      (try simp only [List.getElem_toArray]); (try simp only [List.getElem_cons_succ]); (try simp only [List.getElem_cons_zero]); (try simp only [Act.put]); (try simp only [List.setIfInBounds_toArray]); (try simp only [List.set_cons_succ]); (try simp only [List.set_cons_zero])
      refine wpAnyH_ready (rs := [5]) (by kernel_rfl) (by simp) (AllReadyH.cons rfl (fun K hK => ?_) AllReadyH.nil)
      go_simp
      refine (CQ _).mono ?_
      rintro x wx ⟨rfl, bx⟩
      go_simp
      refine hK.out _ _ (⟨⟨hH.1.1.below bx, hH.1.2.1.below bx, hH.1.2.2.below bx⟩, hH.2.trans (bx.mono hH.2.size)⟩) (fun hG => ?_)
      clear hK K hH bx
      replace hH := hG
      clear hG
      (try simp only [List.getElem_toArray]); (try simp only [List.getElem_cons_succ]); (try simp only [List.getElem_cons_zero]); (try simp only [Act.put]); (try simp only [List.setIfInBounds_toArray]); (try simp only [List.set_cons_succ]); (try simp only [List.set_cons_zero])
      refine wpAnyH_take (i := 6) (v := .bool true) rfl (by kernel_rfl) (by kernel_rfl) (by kernel_rfl) (fun _ _ _ h => h) (Or.inl ⟨by rfl, ?_⟩) hH ?_
      · intro w1 hS; (try dsimp only at hS); go_simp; (try rw [hx])
      (try simp only [List.getElem_toArray]); (try simp only [List.getElem_cons_succ]); (try simp only [List.getElem_cons_zero]); (try simp only [Act.put]); (try simp only [List.setIfInBounds_toArray]); (try simp only [List.set_cons_succ]); (try simp only [List.set_cons_zero])
      refine wpAnyH_done (by kernel_rfl) ?_ _
      dsimp only [OnlyN]
      obtain ⟨W2, hW2⟩ : ∃ W2, W2 = wx := ⟨_, rfl⟩
      rw [← hW2] at hH ⊢
      have bW := hH.2
      have hb2 : Below w.heap.size w W2 := hB1.trans (bW.mono hB1.size)
      have gA2 := gA.below bW
      have gB2 := gB.below bW
      have gD2 := gD.below bW
      have gX2 := gX.below bW
      have hv : Boxed W2 w4.heap.size 56 v := RowT.below gv bW
      have hrow := owns_below gl bW
      have hc := hv.cell
      have kx0 := cell_of_rowAt gX2.row 0
      have kx1 := cell_of_rowAt gX2.row 1
      simp at kx0 kx1
      clear hW2 hH
      gi_wp2_with (gi_at_builtin; refine wpListIn_append_own _ rfl _ _ 56 rfl w.heap.size 37 i0 (.agg #[.int .i8 0, .int .i8 0]) 2 2 Try.underlying56 hi0 hz0 hz1 hz2 rfl (by decide) _ _ _ rfl (hrow.alloc _) ⟨W2.heap.size, 0, none⟩ 1 1 [.int .i8 (x.1.1 : Int), .int .i8 (x.1.2 : Int)] rfl rfl (cell_two_new _ _ _ _) (by simp [Value.oneCell']) (by unfold maxLen; omega) (by omega) (by have := hb2.size; simp; omega) ?_; intro v' w3 hown' hgrow _; obtain ⟨g', cap', rfl⟩ := ownsRow_succ hown'; obtain ⟨hv1, hv2, hr2, hk2, hb3⟩ := hv.appended (by decide) hrow hb2.size (by omega) hown' hgrow; have hc1 := hv1.cell; have hf1 := hv1.frozen; have zA := (gA2.appended (by decide) hrow hgrow).other (B' := w4.heap.size) (o := 0) (by omega) (.slice (some ⟨g', 0, none⟩) ((r.diff q pre).length + 1) cap'); have zB := (gB2.appended (by decide) hrow hgrow).other (B' := w4.heap.size) (o := 0) (by omega) (.slice (some ⟨g', 0, none⟩) ((r.diff q pre).length + 1) cap'); have zD := (gD2.appended (by decide) hrow hgrow).other (B' := w4.heap.size) (o := 0) (by omega) (.slice (some ⟨g', 0, none⟩) ((r.diff q pre).length + 1) cap'))
      refine ⟨((keeps_of_below bW).trans hk2).from _, ⟨(bW.mono hB1.size).trans hb3, fun c' h' => ?_⟩, ⟨⟨zA, zB, zD⟩, _, hv2, by rw [Rf.diff_hit hx, plCells_snoc]; simpa using hr2, trivial⟩, hb2.trans hb3⟩
      rw [zD.row, ← gD.row]
      exact h'
    · replace hx : (r.t (x.1.1 * 8 + x.1.2) != q.t (x.1.1 * 8 + x.1.2)) = false := by simpa using hx
      refine wpIn_region_held (S := (fun w' => (RowT w' w.heap.size 33 c ∧ RowT w' (w.heap.size + 1) 33 e ∧ RowT w' Bx 37 #[.int .i8 (x.1.1 : Int), .int .i8 (x.1.2 : Int)]) ∧ Below W.heap.size W w')) (by kernel_rfl) (by kernel_rfl) (⟨⟨gA, gB, gX⟩, (Below.refl _ W).drew⟩) (fun hH => ?_)
      refine wpAnyH_take (i := 0) (v := .agg c) rfl (by kernel_rfl) (by kernel_rfl) (by kernel_rfl) (fun _ _ _ h => h) (Or.inl ⟨by rfl, ?_⟩) hH ?_
      · intro w1 hS; (try dsimp only at hS); obtain ⟨⟨s0, s1, s2⟩, _⟩ := hS; have u0 := s0.row; have u1 := s1.row; have k0 := cell_of_rowAt s2.row 0; have k1 := cell_of_rowAt s2.row 1; simp at k0 k1; go_simp
      (try simp only [List.getElem_toArray]); (try simp only [List.getElem_cons_succ]); (try simp only [List.getElem_cons_zero]); (try simp only [Act.put]); (try simp only [List.setIfInBounds_toArray]); (try simp only [List.set_cons_succ]); (try simp only [List.set_cons_zero])
      refine wpAnyH_take (i := 1) (v := .agg #[.int .i8 (x.1.1 : Int), .int .i8 (x.1.2 : Int)]) rfl (by kernel_rfl) (by kernel_rfl) (by kernel_rfl) (fun _ _ _ h => h) (Or.inl ⟨by rfl, ?_⟩) hH ?_
      · intro w1 hS; (try dsimp only at hS); obtain ⟨⟨s0, s1, s2⟩, _⟩ := hS; have u0 := s0.row; have u1 := s1.row; have k0 := cell_of_rowAt s2.row 0; have k1 := cell_of_rowAt s2.row 1; simp at k0 k1; go_simp
      (try simp only [List.getElem_toArray]); (try simp only [List.getElem_cons_succ]); (try simp only [List.getElem_cons_zero]); (try simp only [Act.put]); (try simp only [List.setIfInBounds_toArray]); (try simp only [List.set_cons_succ]); (try simp only [List.set_cons_zero])
      refine wpAnyH_take (i := 3) (v := .agg e) rfl (by kernel_rfl) (by kernel_rfl) (by kernel_rfl) (fun _ _ _ h => h) (Or.inl ⟨by rfl, ?_⟩) hH ?_
      · intro w1 hS; (try dsimp only at hS); obtain ⟨⟨s0, s1, s2⟩, _⟩ := hS; have u0 := s0.row; have u1 := s1.row; have k0 := cell_of_rowAt s2.row 0; have k1 := cell_of_rowAt s2.row 1; simp at k0 k1; go_simp
      (try simp only [List.getElem_toArray]); (try simp only [List.getElem_cons_succ]); (try simp only [List.getElem_cons_zero]); (try simp only [Act.put]); (try simp only [List.setIfInBounds_toArray]); (try simp only [List.set_cons_succ]); (try simp only [List.set_cons_zero])
      refine wpAnyH_take (i := 4) (v := .agg #[.int .i8 (x.1.1 : Int), .int .i8 (x.1.2 : Int)]) rfl (by kernel_rfl) (by kernel_rfl) (by kernel_rfl) (fun _ _ _ h => h) (Or.inl ⟨by rfl, ?_⟩) hH ?_
      · intro w1 hS; (try dsimp only at hS); obtain ⟨⟨s0, s1, s2⟩, _⟩ := hS; have u0 := s0.row; have u1 := s1.row; have k0 := cell_of_rowAt s2.row 0; have k1 := cell_of_rowAt s2.row 1; simp at k0 k1; go_simp
      (try simp only [List.getElem_toArray]); (try simp only [List.getElem_cons_succ]); (try simp only [List.getElem_cons_zero]); (try simp only [Act.put]); (try simp only [List.setIfInBounds_toArray]); (try simp only [List.set_cons_succ]); (try simp only [List.set_cons_zero])
      refine wpAnyH_ready (rs := [2]) (by kernel_rfl) (by simp) (AllReadyH.cons rfl (fun K hK => ?_) AllReadyH.nil)
      go_simp
      refine (CK _).mono ?_
      rintro x wx ⟨rfl, bx⟩
      go_simp
      refine hK.out _ _ (⟨⟨hH.1.1.below bx, hH.1.2.1.below bx, hH.1.2.2.below bx⟩, hH.2.trans (bx.mono hH.2.size)⟩) (fun hG => ?_)
      clear hK K hH bx
      replace hH := hG
      clear hG
      (try simp only [List.getElem_toArray]); (try simp only [List.getElem_cons_succ]); (try simp only [List.getElem_cons_zero]); (try simp only [Act.put]); (try simp only [List.setIfInBounds_toArray]); (try simp only [List.set_cons_succ]); (try simp only [List.set_cons_zero])
      refine wpAnyH_ready (rs := [5]) (by kernel_rfl) (by simp) (AllReadyH.cons rfl (fun K hK => ?_) AllReadyH.nil)
      go_simp
      refine (CQ _).mono ?_
      rintro x wx ⟨rfl, bx⟩
      go_simp
      refine hK.out _ _ (⟨⟨hH.1.1.below bx, hH.1.2.1.below bx, hH.1.2.2.below bx⟩, hH.2.trans (bx.mono hH.2.size)⟩) (fun hG => ?_)
      clear hK K hH bx
      replace hH := hG
      clear hG
      (try simp only [List.getElem_toArray]); (try simp only [List.getElem_cons_succ]); (try simp only [List.getElem_cons_zero]); (try simp only [Act.put]); (try simp only [List.setIfInBounds_toArray]); (try simp only [List.set_cons_succ]); (try simp only [List.set_cons_zero])
      refine wpAnyH_take (i := 6) (v := .bool false) rfl (by kernel_rfl) (by kernel_rfl) (by kernel_rfl) (fun _ _ _ h => h) (Or.inl ⟨by rfl, ?_⟩) hH ?_
      · intro w1 hS; (try dsimp only at hS); go_simp; (try rw [hx])
      (try simp only [List.getElem_toArray]); (try simp only [List.getElem_cons_succ]); (try simp only [List.getElem_cons_zero]); (try simp only [Act.put]); (try simp only [List.setIfInBounds_toArray]); (try simp only [List.set_cons_succ]); (try simp only [List.set_cons_zero])
      refine wpAnyH_done (by kernel_rfl) ?_ _
      dsimp only [OnlyN]
      have bW := hH.2
      have hb2 : Below w.heap.size w wx := hB1.trans (bW.mono hB1.size)
      have gA2 := gA.below bW
      have gB2 := gB.below bW
      have gD2 := gD.below bW
      have hv : Boxed wx w4.heap.size 56 v := RowT.below gv bW
      have hrow := owns_below gl bW
      clear hH
      gi_wp2
      exact ⟨(keeps_of_below bW).from _, ⟨bW.mono hB1.size, fun c' h' => brow bW h'⟩, ⟨⟨gA2, gB2, gD2⟩, v, hv, by rw [Rf.diff_miss hx]; exact hrow, trivial⟩, hb2⟩
  case done =>
    rintro D ys W hD rfl ⟨⟨⟨gA, gB, gD⟩, v, gv, gl, _⟩, hB1⟩ hK
    have hc := gv.cell
    gi_wp2
    refine ⟨by simp, .inl ⟨_, _, rfl, run_takeDeferred hK, ?_⟩⟩
    exact ⟨_, results_tmp2 rfl _ _ _, v, rfl, IsList.of_pls (ownsRow_putObj gl _ hK rfl), hB1.trans (belowK_b (w := w) (Nat.le_refl _) W D _ _ (by omega) hK rfl rfl)⟩
  case stop =>
    rintro D c pre W _ _ h _
    exact h.elim
end Go.Proofs.Ytfkcjgeeklngiaa
