/- oldest: the first of a roof's places with the greatest number. -/
import Derived.Test.YtcdddngdjhjdbaaDoorOldM
import Derived.Test.YtcdddngdjhjdbaaDoorStill
import Derived.Test.YtcdddngdjhjdbaaDoorGive
import Derived.Test.YtcdddngdjhjdbaaDoorEnd
import Derived.Deep.RegionHeld3
namespace Go.Proofs.YtcdddngdjhjdbaaDoor
open Go.RowKit Go.Shelf
attribute [local go_sem] Oper.semAt_some

theorem onlyN_outO {Q : Exit → Act → World → Prop} : ∀ e a w, OnlyN Q e a w → Q e a w
  | .normal, _, _, h => h

set_option maxRecDepth 100000 in
set_option maxHeartbeats 4000000 in
theorem oldest_any (fg : FuncId) (la lb : Array Value) (t : Nat → Int) (eg : ∀ args w, (callFunc fg args).run Tryd.prog w = .ok (.enter fg args) w) (c : Array Value) (r : Rf) (hh ww : Nat) (hhe : r.h = hh) (hwe : r.w = ww) (h8 : hh ≤ 8) (w8 : ww ≤ 8) (h0 : 0 < hh) (w0 : 0 < ww) (w : World) (hR : IsRoof c r) (hp : NumPl fg la lb t w) (p : Nat × Nat) (hF : oldP t (plUpto hh ww (hh * ww)) = p) :
    Calls Tryd.prog 57 #[.agg c, .func (.func fg) la lb] w fun e w' => e = .returned (.tuple #[.agg #[.int .i8 ((p).1 : Int), .int .i8 ((p).2 : Int)], .int .i64 (t (p.1 * 8 + p.2))]) ∧ Below w.heap.size w w' := by
  have hc := hR.size
  have HP := Lib.hid hp
  clear hp
  refine (callsIn_wide (n := 3)).1 ?_
  refine callsIn_of_wp_marks Tryd.func57 rfl trivial ?_ rfl
  simp only [Tryd.ntmps57, List.size_toArray, List.length_cons, List.length_nil, Nat.reduceAdd, Nat.reduceSub, Array.replicate_succ, Array.replicate_zero, List.push_toArray, List.append_toArray, List.nil_append, List.cons_append]
  gi_wp2_with (refine ⟨trivial, ?_⟩; gi_at_call 90; refine (callsIn_wide.2 (places_any c _)).mono ?_; rintro e w' ⟨rfl, rfl⟩)
  obtain ⟨W0, hW0⟩ : ∃ W0, (((((w.alloc (.cells c 30)).alloc (.cells #[.func (.func fg) la lb] 96)).alloc (.cells #[.int .i8 0, .int .i8 0] 79)).alloc (.cells #[.int .i8 0, .int .i8 0] 79)).alloc (.cells c 30)) = W0 := ⟨_, rfl⟩
  have hsz : W0.heap.size = w.heap.size + 5 := by rw [← hW0]; simp
  have rA : RowT W0 (w.heap.size) 30 c := by
    have := ((((RowT.new w 30 c).alloc (.cells #[.func (.func fg) la lb] 96)).alloc (.cells #[.int .i8 0, .int .i8 0] 79)).alloc (.cells #[.int .i8 0, .int .i8 0] 79)).alloc (.cells c 30)
    rw [hW0] at this; simpa using this
  have rF : RowT W0 (w.heap.size + 1) 96 #[.func (.func fg) la lb] := by
    have := (((RowT.new (w.alloc (.cells c 30)) 96 #[.func (.func fg) la lb]).alloc (.cells #[.int .i8 0, .int .i8 0] 79)).alloc (.cells #[.int .i8 0, .int .i8 0] 79)).alloc (.cells c 30)
    rw [hW0] at this; simpa using this
  have rZ : RowT W0 (w.heap.size + 1 + 1) 79 #[.int .i8 0, .int .i8 0] := by
    have := ((RowT.new ((w.alloc (.cells c 30)).alloc (.cells #[.func (.func fg) la lb] 96)) 79 #[.int .i8 0, .int .i8 0]).alloc (.cells #[.int .i8 0, .int .i8 0] 79)).alloc (.cells c 30)
    rw [hW0] at this; simpa using this
  have rO : RowT W0 (w.heap.size + 1 + 1 + 1) 79 #[.int .i8 0, .int .i8 0] := by
    have := (RowT.new (((w.alloc (.cells c 30)).alloc (.cells #[.func (.func fg) la lb] 96)).alloc (.cells #[.int .i8 0, .int .i8 0] 79)) 79 #[.int .i8 0, .int .i8 0]).alloc (.cells c 30)
    rw [hW0] at this; simpa using this
  have rD : RowT W0 (w.heap.size + 1 + 1 + 1 + 1) 30 c := by
    have := RowT.new ((((w.alloc (.cells c 30)).alloc (.cells #[.func (.func fg) la lb] 96)).alloc (.cells #[.int .i8 0, .int .i8 0] 79)).alloc (.cells #[.int .i8 0, .int .i8 0] 79)) 30 c
    rw [hW0] at this; simpa using this
  have hB0 : Below w.heap.size w W0 := by rw [← hW0]; exact (((((Below.refl _ w).alloc (Nat.le_refl _) _).alloc (by simp) _).alloc (by simp <;> omega) _).alloc (by simp <;> omega) _).alloc (by simp <;> omega) _
  rw [hW0]
  clear hW0
  refine wpIn_rangeFunc_ownH rfl (by omega) (gf := 125) (lb := #[.pointer (some ⟨w.heap.size + 1 + 1 + 1 + 1, 0, none⟩)]) rfl trivial (enters_of Tryd.func125 (by kernel_rfl) rfl)
    (places_stops 2 (by omega) (w.heap.size + 1 + 1 + 1 + 1) w.heap.size c r hh ww hhe hwe h8 w8 hR W0 rD.row) KpR.trans (KpR.put (by omega) (by omega)) (Below.refl _ _) (fun _ => rfl)
    (fun pre W => (RowT W (w.heap.size) 30 c ∧ RowT W (w.heap.size + 1) 96 #[.func (.func fg) la lb] ∧ RowT W (w.heap.size + 1 + 1) 79 (#[.int .i8 0, .int .i8 0]) ∧ RowT W (w.heap.size + 1 + 1 + 1) 79 #[.int .i8 ((oldP t pre).1 : Int), .int .i8 ((oldP t pre).2 : Int)] ∧ RowT W (w.heap.size + 1 + 1 + 1 + 1) 30 c) ∧ Below w.heap.size w W)
    (fun _ _ _ => False)
    (OwnFrom.and (OwnFrom.and (Own.from (RowT.own _ _ _) _) (OwnFrom.and (Own.from (RowT.own _ _ _) _) (OwnFrom.and (Own.from (RowT.own _ _ _) _) (OwnFrom.and (Own.from (RowT.own _ _ (fun pre => #[.int .i8 ((oldP t pre).1 : Int), .int .i8 ((oldP t pre).2 : Int)])) _) (Own.from (RowT.own _ _ _) _))))) (ownFrom_below (Nat.le_refl _) (by omega)))
    (fun _ _ _ _ _ hs _ _ => hs)
    ⟨⟨rA, rF, rZ, rO, rD⟩, hB0⟩
    (fun x a' W => ∃ Bx, w.heap.size + 1 + 1 + 1 + 1 < Bx ∧ RowT W Bx 79 #[.int .i8 (x.1.1 : Int), .int .i8 (x.1.2 : Int)] ∧ a' = { tmps := #[.agg c, .func (.func fg) la lb, .pointer (some ⟨w.heap.size, 0, none⟩), .pointer (some ⟨w.heap.size + 1, 0, none⟩), .pointer (some ⟨w.heap.size + 1 + 1, 0, none⟩), .int .i64 0, .pointer (some ⟨w.heap.size + 1 + 1 + 1, 0, none⟩), .pointer (some ⟨Bx, 0, none⟩), .agg c, .func (.func 125) #[] #[.pointer (some ⟨w.heap.size + 1 + 1 + 1 + 1, 0, none⟩)], x.enc, undef, undef, undef, undef, undef, undef, undef, undef, undef, undef, undef, undef], defers := [] })
    (fun x a' _ X Y row hs hg hr => by obtain ⟨Bx, h1, h2, h3⟩ := hs; exact ⟨Bx, h1, RowT.own Bx 79 (fun (_ : Unit) => #[Value.int .i8 (x.1.1 : Int), .int .i8 (x.1.2 : Int)]) () X Y row h2 hg (fun r e => (hr r e).2), h3⟩)
    ?assign ?body ?done ?stop
  case assign =>
    rintro l pre x W K ⟨⟨gA, gF, gZ, gO, gD⟩, hB1⟩ hK
    dsimp only [Pl.enc]
    gi_wp2
    refine hK _ _ ((KeepsOthers.alloc _ _).from _) ⟨(Below.refl _ W).alloc hB1.size _, fun c' h => (rowAt_alloc_past _ _ _ (rowAt_lt h)).trans h⟩ ⟨⟨gA.alloc _, gF.alloc _, gZ.alloc _, gO.alloc _, gD.alloc _⟩, hB1.alloc hB1.size _⟩ ⟨W.heap.size, gD.lt, RowT.new W 79 _, rfl⟩
  case body =>
    rintro l pre x a' W hl ⟨rr, hrr⟩ ⟨⟨gA, gF, gZ, gO, gD⟩, hB1⟩ ⟨Bx, hBx, gX, rfl⟩ hlt
    have xh := x.2.1
    have xw := x.2.2
    have x8 : x.1.1 < 8 := by omega
    have y8 : x.1.2 < 8 := by omega
    have qin := oldP_in (t := t) h0 w0 pre
    obtain ⟨⟨q1, q2⟩, hq⟩ : ∃ q, oldP t pre = q := ⟨_, rfl⟩
    rw [hq] at gO qin
    have q18 : q1 < 8 := by have := qin.1; simp only at this; omega
    have q28 : q2 < 8 := by have := qin.2; simp only at this; omega
    dsimp only at gO
    by_cases hx : t ((oldP t pre).1 * 8 + (oldP t pre).2) < t (ixP x)
    · have hx0 := hx
      have HX := Lib.hid hx0
      clear hx0
      rw [show oldP t pre = (q1, q2) from hq] at hx
      have hcmp : decide (t (q1 * 8 + q2) < t (x.1.1 * 8 + x.1.2)) = true := by simpa [ixP] using hx
      clear hx
      gi_wp2
      refine wpIn_region_held (S := (fun w' => (RowT w' (w.heap.size + 1) 96 #[.func (.func fg) la lb] ∧ RowT w' (w.heap.size + 1 + 1 + 1) 79 #[.int .i8 (q1 : Int), .int .i8 (q2 : Int)] ∧ RowT w' Bx 79 #[.int .i8 (x.1.1 : Int), .int .i8 (x.1.2 : Int)]) ∧ Below W.heap.size W w')) (by kernel_rfl) (by kernel_rfl) (⟨⟨gF, gO, gX⟩, (Below.refl _ W).drew⟩) (fun hH => ?_)
      refine wpAnyH_take (i := 0) (v := .func (.func fg) la lb) rfl (by kernel_rfl) (by kernel_rfl) (by kernel_rfl) (fun _ _ _ h => h) (Or.inl ⟨by rfl, ?_⟩) hH ?_
      · intro w1 hS; (try dsimp only at hS); obtain ⟨⟨s1, s2, s3⟩, _⟩ := hS; have u1 := cell_of_rowAt s1.row 0; have u2 := cell_of_rowAt s2.row 0; have u3 := cell_of_rowAt s2.row 1; have u4 := cell_of_rowAt s3.row 0; have u5 := cell_of_rowAt s3.row 1; simp at u1 u2 u3 u4 u5; go_simp
      (try simp only [List.getElem_toArray]); (try simp only [List.getElem_cons_succ]); (try simp only [List.getElem_cons_zero]); (try simp only [Act.put]); (try simp only [List.setIfInBounds_toArray]); (try simp only [List.set_cons_succ]); (try simp only [List.set_cons_zero])
      refine wpAnyH_take (i := 1) (v := .agg #[.int .i8 (x.1.1 : Int), .int .i8 (x.1.2 : Int)]) rfl (by kernel_rfl) (by kernel_rfl) (by kernel_rfl) (fun _ _ _ h => h) (Or.inl ⟨by rfl, ?_⟩) hH ?_
      · intro w1 hS; (try dsimp only at hS); obtain ⟨⟨s1, s2, s3⟩, _⟩ := hS; have u1 := cell_of_rowAt s1.row 0; have u2 := cell_of_rowAt s2.row 0; have u3 := cell_of_rowAt s2.row 1; have u4 := cell_of_rowAt s3.row 0; have u5 := cell_of_rowAt s3.row 1; simp at u1 u2 u3 u4 u5; go_simp
      (try simp only [List.getElem_toArray]); (try simp only [List.getElem_cons_succ]); (try simp only [List.getElem_cons_zero]); (try simp only [Act.put]); (try simp only [List.setIfInBounds_toArray]); (try simp only [List.set_cons_succ]); (try simp only [List.set_cons_zero])
      refine wpAnyH_take (i := 3) (v := .func (.func fg) la lb) rfl (by kernel_rfl) (by kernel_rfl) (by kernel_rfl) (fun _ _ _ h => h) (Or.inl ⟨by rfl, ?_⟩) hH ?_
      · intro w1 hS; (try dsimp only at hS); obtain ⟨⟨s1, s2, s3⟩, _⟩ := hS; have u1 := cell_of_rowAt s1.row 0; have u2 := cell_of_rowAt s2.row 0; have u3 := cell_of_rowAt s2.row 1; have u4 := cell_of_rowAt s3.row 0; have u5 := cell_of_rowAt s3.row 1; simp at u1 u2 u3 u4 u5; go_simp
      (try simp only [List.getElem_toArray]); (try simp only [List.getElem_cons_succ]); (try simp only [List.getElem_cons_zero]); (try simp only [Act.put]); (try simp only [List.setIfInBounds_toArray]); (try simp only [List.set_cons_succ]); (try simp only [List.set_cons_zero])
      refine wpAnyH_take (i := 4) (v := .agg #[.int .i8 (q1 : Int), .int .i8 (q2 : Int)]) rfl (by kernel_rfl) (by kernel_rfl) (by kernel_rfl) (fun _ _ _ h => h) (Or.inl ⟨by rfl, ?_⟩) hH ?_
      · intro w1 hS; (try dsimp only at hS); obtain ⟨⟨s1, s2, s3⟩, _⟩ := hS; have u1 := cell_of_rowAt s1.row 0; have u2 := cell_of_rowAt s2.row 0; have u3 := cell_of_rowAt s2.row 1; have u4 := cell_of_rowAt s3.row 0; have u5 := cell_of_rowAt s3.row 1; simp at u1 u2 u3 u4 u5; go_simp
      (try simp only [List.getElem_toArray]); (try simp only [List.getElem_cons_succ]); (try simp only [List.getElem_cons_zero]); (try simp only [Act.put]); (try simp only [List.setIfInBounds_toArray]); (try simp only [List.set_cons_succ]); (try simp only [List.set_cons_zero])
      refine wpAnyH_ready (rs := [2]) (by kernel_rfl) (by simp) (AllReadyH.cons rfl (fun K hK => ?_) AllReadyH.nil)
      go_simp
      refine (HP.out x.1.1 x.1.2 _ x8 y8 (hB1.trans (hH.2.mono hB1.size))).mono ?_
      rintro y wx ⟨rfl, bx⟩
      go_simp
      refine hK.out _ _ (⟨⟨hH.1.1.below bx, hH.1.2.1.below bx, hH.1.2.2.below bx⟩, hH.2.trans (bx.mono hH.2.size)⟩) (fun hG => ?_)
      clear hK K hH bx
      replace hH := hG
      clear hG
      (try simp only [List.getElem_toArray]); (try simp only [List.getElem_cons_succ]); (try simp only [List.getElem_cons_zero]); (try simp only [Act.put]); (try simp only [List.setIfInBounds_toArray]); (try simp only [List.set_cons_succ]); (try simp only [List.set_cons_zero])
      refine wpAnyH_ready (rs := [5]) (by kernel_rfl) (by simp) (AllReadyH.cons rfl (fun K hK => ?_) AllReadyH.nil)
      go_simp
      refine (HP.out q1 q2 _ q18 q28 (hB1.trans (hH.2.mono hB1.size))).mono ?_
      rintro y wx ⟨rfl, bx⟩
      go_simp
      refine hK.out _ _ (⟨⟨hH.1.1.below bx, hH.1.2.1.below bx, hH.1.2.2.below bx⟩, hH.2.trans (bx.mono hH.2.size)⟩) (fun hG => ?_)
      clear hK K hH bx
      replace hH := hG
      clear hG
      (try simp only [List.getElem_toArray]); (try simp only [List.getElem_cons_succ]); (try simp only [List.getElem_cons_zero]); (try simp only [Act.put]); (try simp only [List.setIfInBounds_toArray]); (try simp only [List.set_cons_succ]); (try simp only [List.set_cons_zero])
      refine wpAnyH_take (i := 6) (v := .bool true) rfl (by kernel_rfl) (by kernel_rfl) (by kernel_rfl) (fun _ _ _ h => h) (Or.inl ⟨by rfl, ?_⟩) hH ?_
      · intro w1 hS; (try dsimp only at hS); go_simp; (try exact hcmp)
      (try simp only [List.getElem_toArray]); (try simp only [List.getElem_cons_succ]); (try simp only [List.getElem_cons_zero]); (try simp only [Act.put]); (try simp only [List.setIfInBounds_toArray]); (try simp only [List.set_cons_succ]); (try simp only [List.set_cons_zero])
      refine wpAnyH_done (by kernel_rfl) ?_ _
      dsimp only [OnlyN]
      have bW := hH.2
      have hb2 : Below w.heap.size w wx := hB1.trans (bW.mono hB1.size)
      obtain ⟨W2, hW2⟩ : ∃ W2, W2 = wx := ⟨_, rfl⟩
      rw [← hW2] at hH hb2 bW ⊢
      have gA2 := gA.below bW
      have gF2 := gF.below bW
      have gZ2 := gZ.below bW
      have gO2 := gO.below bW
      have gD2 := gD.below bW
      have gX2 := gX.below bW
      clear hH hW2
      have v0 := cell_of_rowAt gX2.row 0
      have v1 := cell_of_rowAt gX2.row 1
      have v2 := cell_of_rowAt gO2.row 0
      have v3 := cell_of_rowAt gO2.row 1
      have f2 := frozen_of_rowAt gO2.row 0
      have f3 := frozen_of_rowAt gO2.row 1
      simp at v0 v1 v2 v3
      have n1 : w.heap.size ≠ w.heap.size + 1 + 1 + 1 := by omega
      have n2 : w.heap.size + 1 ≠ w.heap.size + 1 + 1 + 1 := by omega
      have n3 : w.heap.size + 1 + 1 ≠ w.heap.size + 1 + 1 + 1 := by omega
      have n4 : w.heap.size + 1 + 1 + 1 + 1 ≠ w.heap.size + 1 + 1 + 1 := by omega
      gi_wp2
      refine ⟨(((keeps_of_below bW).trans (KeepsOthers.setCell W2 _ _)).trans (KeepsOthers.setCell _ _ _)).from _, ⟨((bW.mono hB1.size).setCell (p := ⟨w.heap.size + 1 + 1 + 1, 0, none⟩) (by simp <;> omega) _).setCell (p := ⟨w.heap.size + 1 + 1 + 1, 1, none⟩) (by simp <;> omega) _, fun c' h' => ((rowAt_setCell_ne _ _ _ _ _ n4).trans (rowAt_setCell_ne _ _ _ _ _ n4)).trans (brow bW h')⟩, ⟨(gA2.other n1 _).other n1 _, (gF2.other n2 _).other n2 _, (gZ2.other n3 _).other n3 _, ?_, (gD2.other n4 _).other n4 _⟩, (hb2.setCell (p := ⟨w.heap.size + 1 + 1 + 1, 0, none⟩) (by simp <;> omega) _).setCell (p := ⟨w.heap.size + 1 + 1 + 1, 1, none⟩) (by simp <;> omega) _⟩
      rw [oldP_hit HX.out]
      exact (gO2.set _).set _
    · have hx0 := hx
      have HX := Lib.hid hx0
      clear hx0
      rw [show oldP t pre = (q1, q2) from hq] at hx
      have hcmp : decide (t (q1 * 8 + q2) < t (x.1.1 * 8 + x.1.2)) = false := by simpa [ixP] using hx
      clear hx
      gi_wp2
      refine wpIn_region_held (S := (fun w' => (RowT w' (w.heap.size + 1) 96 #[.func (.func fg) la lb] ∧ RowT w' (w.heap.size + 1 + 1 + 1) 79 #[.int .i8 (q1 : Int), .int .i8 (q2 : Int)] ∧ RowT w' Bx 79 #[.int .i8 (x.1.1 : Int), .int .i8 (x.1.2 : Int)]) ∧ Below W.heap.size W w')) (by kernel_rfl) (by kernel_rfl) (⟨⟨gF, gO, gX⟩, (Below.refl _ W).drew⟩) (fun hH => ?_)
      refine wpAnyH_take (i := 0) (v := .func (.func fg) la lb) rfl (by kernel_rfl) (by kernel_rfl) (by kernel_rfl) (fun _ _ _ h => h) (Or.inl ⟨by rfl, ?_⟩) hH ?_
      · intro w1 hS; (try dsimp only at hS); obtain ⟨⟨s1, s2, s3⟩, _⟩ := hS; have u1 := cell_of_rowAt s1.row 0; have u2 := cell_of_rowAt s2.row 0; have u3 := cell_of_rowAt s2.row 1; have u4 := cell_of_rowAt s3.row 0; have u5 := cell_of_rowAt s3.row 1; simp at u1 u2 u3 u4 u5; go_simp
      (try simp only [List.getElem_toArray]); (try simp only [List.getElem_cons_succ]); (try simp only [List.getElem_cons_zero]); (try simp only [Act.put]); (try simp only [List.setIfInBounds_toArray]); (try simp only [List.set_cons_succ]); (try simp only [List.set_cons_zero])
      refine wpAnyH_take (i := 1) (v := .agg #[.int .i8 (x.1.1 : Int), .int .i8 (x.1.2 : Int)]) rfl (by kernel_rfl) (by kernel_rfl) (by kernel_rfl) (fun _ _ _ h => h) (Or.inl ⟨by rfl, ?_⟩) hH ?_
      · intro w1 hS; (try dsimp only at hS); obtain ⟨⟨s1, s2, s3⟩, _⟩ := hS; have u1 := cell_of_rowAt s1.row 0; have u2 := cell_of_rowAt s2.row 0; have u3 := cell_of_rowAt s2.row 1; have u4 := cell_of_rowAt s3.row 0; have u5 := cell_of_rowAt s3.row 1; simp at u1 u2 u3 u4 u5; go_simp
      (try simp only [List.getElem_toArray]); (try simp only [List.getElem_cons_succ]); (try simp only [List.getElem_cons_zero]); (try simp only [Act.put]); (try simp only [List.setIfInBounds_toArray]); (try simp only [List.set_cons_succ]); (try simp only [List.set_cons_zero])
      refine wpAnyH_take (i := 3) (v := .func (.func fg) la lb) rfl (by kernel_rfl) (by kernel_rfl) (by kernel_rfl) (fun _ _ _ h => h) (Or.inl ⟨by rfl, ?_⟩) hH ?_
      · intro w1 hS; (try dsimp only at hS); obtain ⟨⟨s1, s2, s3⟩, _⟩ := hS; have u1 := cell_of_rowAt s1.row 0; have u2 := cell_of_rowAt s2.row 0; have u3 := cell_of_rowAt s2.row 1; have u4 := cell_of_rowAt s3.row 0; have u5 := cell_of_rowAt s3.row 1; simp at u1 u2 u3 u4 u5; go_simp
      (try simp only [List.getElem_toArray]); (try simp only [List.getElem_cons_succ]); (try simp only [List.getElem_cons_zero]); (try simp only [Act.put]); (try simp only [List.setIfInBounds_toArray]); (try simp only [List.set_cons_succ]); (try simp only [List.set_cons_zero])
      refine wpAnyH_take (i := 4) (v := .agg #[.int .i8 (q1 : Int), .int .i8 (q2 : Int)]) rfl (by kernel_rfl) (by kernel_rfl) (by kernel_rfl) (fun _ _ _ h => h) (Or.inl ⟨by rfl, ?_⟩) hH ?_
      · intro w1 hS; (try dsimp only at hS); obtain ⟨⟨s1, s2, s3⟩, _⟩ := hS; have u1 := cell_of_rowAt s1.row 0; have u2 := cell_of_rowAt s2.row 0; have u3 := cell_of_rowAt s2.row 1; have u4 := cell_of_rowAt s3.row 0; have u5 := cell_of_rowAt s3.row 1; simp at u1 u2 u3 u4 u5; go_simp
      (try simp only [List.getElem_toArray]); (try simp only [List.getElem_cons_succ]); (try simp only [List.getElem_cons_zero]); (try simp only [Act.put]); (try simp only [List.setIfInBounds_toArray]); (try simp only [List.set_cons_succ]); (try simp only [List.set_cons_zero])
      refine wpAnyH_ready (rs := [2]) (by kernel_rfl) (by simp) (AllReadyH.cons rfl (fun K hK => ?_) AllReadyH.nil)
      go_simp
      refine (HP.out x.1.1 x.1.2 _ x8 y8 (hB1.trans (hH.2.mono hB1.size))).mono ?_
      rintro y wx ⟨rfl, bx⟩
      go_simp
      refine hK.out _ _ (⟨⟨hH.1.1.below bx, hH.1.2.1.below bx, hH.1.2.2.below bx⟩, hH.2.trans (bx.mono hH.2.size)⟩) (fun hG => ?_)
      clear hK K hH bx
      replace hH := hG
      clear hG
      (try simp only [List.getElem_toArray]); (try simp only [List.getElem_cons_succ]); (try simp only [List.getElem_cons_zero]); (try simp only [Act.put]); (try simp only [List.setIfInBounds_toArray]); (try simp only [List.set_cons_succ]); (try simp only [List.set_cons_zero])
      refine wpAnyH_ready (rs := [5]) (by kernel_rfl) (by simp) (AllReadyH.cons rfl (fun K hK => ?_) AllReadyH.nil)
      go_simp
      refine (HP.out q1 q2 _ q18 q28 (hB1.trans (hH.2.mono hB1.size))).mono ?_
      rintro y wx ⟨rfl, bx⟩
      go_simp
      refine hK.out _ _ (⟨⟨hH.1.1.below bx, hH.1.2.1.below bx, hH.1.2.2.below bx⟩, hH.2.trans (bx.mono hH.2.size)⟩) (fun hG => ?_)
      clear hK K hH bx
      replace hH := hG
      clear hG
      (try simp only [List.getElem_toArray]); (try simp only [List.getElem_cons_succ]); (try simp only [List.getElem_cons_zero]); (try simp only [Act.put]); (try simp only [List.setIfInBounds_toArray]); (try simp only [List.set_cons_succ]); (try simp only [List.set_cons_zero])
      refine wpAnyH_take (i := 6) (v := .bool false) rfl (by kernel_rfl) (by kernel_rfl) (by kernel_rfl) (fun _ _ _ h => h) (Or.inl ⟨by rfl, ?_⟩) hH ?_
      · intro w1 hS; (try dsimp only at hS); go_simp; (try exact hcmp)
      (try simp only [List.getElem_toArray]); (try simp only [List.getElem_cons_succ]); (try simp only [List.getElem_cons_zero]); (try simp only [Act.put]); (try simp only [List.setIfInBounds_toArray]); (try simp only [List.set_cons_succ]); (try simp only [List.set_cons_zero])
      refine wpAnyH_done (by kernel_rfl) ?_ _
      dsimp only [OnlyN]
      have bW := hH.2
      have hb2 : Below w.heap.size w wx := hB1.trans (bW.mono hB1.size)
      have gA2 := gA.below bW
      have gF2 := gF.below bW
      have gZ2 := gZ.below bW
      have gO2 := gO.below bW
      have gD2 := gD.below bW
      clear hH
      gi_wp2
      refine ⟨(keeps_of_below bW).from _, ⟨bW.mono hB1.size, fun c' h' => brow bW h'⟩, ⟨gA2, gF2, gZ2, ?_, gD2⟩, hb2⟩
      rw [oldP_miss (by have := HX.out; omega), hq]
      exact gO2
  case done =>
    rintro D ys W hD rfl ⟨⟨gA, gF, gZ, gO, gD⟩, hB1⟩ hK
    have pin := oldP_in (t := t) h0 w0 (plUpto hh ww (hh * ww))
    rw [hF] at gO pin
    obtain ⟨p1, p2⟩ := p
    have p18 : p1 < 8 := by have := pin.1; simp only at this; omega
    have p28 : p2 < 8 := by have := pin.2; simp only at this; omega
    dsimp only at gO ⊢
    have hDn : D ≠ w.heap.size + 1 + 1 := fun h => by
      rw [h] at hK
      have : some (Obj.cells (#[.int .i8 0, .int .i8 0]) 79) = some (Obj.deferred (some [])) := gZ.symm.trans hK
      cases this
    clear hF
    gi_wp2
    refine wpIn_wide.2 (Code.wp_mono onlyN_outO ?_)
    have gw : ∃ z, RowT W (w.heap.size + 1 + 1) 79 z ∧ z.size = 2 := ⟨_, gZ, rfl⟩
    refine wp_region_held_drew (S := (fun w' => (RowT w' (w.heap.size + 1) 96 #[.func (.func fg) la lb] ∧ RowT w' (w.heap.size + 1 + 1 + 1) 79 #[.int .i8 (p1 : Int), .int .i8 (p2 : Int)] ∧ (∃ z, RowT w' (w.heap.size + 1 + 1) 79 z ∧ z.size = 2) ∧ w'.heap[D]? = some (Obj.deferred (some []))) ∧ Below w.heap.size w w')) (by kernel_rfl) (⟨⟨gF, gO, gw, hK⟩, hB1.drew⟩) (fun hH => ?_)
    refine wpAnyH_take (i := 0) (v := .agg #[.int .i8 (p1 : Int), .int .i8 (p2 : Int)]) rfl (by kernel_rfl) (by kernel_rfl) (by kernel_rfl) (fun _ _ _ h => h) (Or.inl ⟨by rfl, ?_⟩) hH ?_
    · intro w1 hS; (try dsimp only at hS); obtain ⟨⟨s1, s2, _⟩, _⟩ := hS; have u1 := cell_of_rowAt s1.row 0; have u2 := cell_of_rowAt s2.row 0; have u3 := cell_of_rowAt s2.row 1; simp at u1 u2 u3; go_simp
    (try simp only [List.getElem_toArray]); (try simp only [List.getElem_cons_succ]); (try simp only [List.getElem_cons_zero]); (try simp only [Act.put]); (try simp only [List.setIfInBounds_toArray]); (try simp only [List.set_cons_succ]); (try simp only [List.set_cons_zero])
    refine wpAnyH_take (i := 1) (v := .func (.func fg) la lb) rfl (by kernel_rfl) (by kernel_rfl) (by kernel_rfl) (fun _ _ _ h => h) (Or.inl ⟨by rfl, ?_⟩) hH ?_
    · intro w1 hS; (try dsimp only at hS); obtain ⟨⟨s1, s2, _⟩, _⟩ := hS; have u1 := cell_of_rowAt s1.row 0; have u2 := cell_of_rowAt s2.row 0; have u3 := cell_of_rowAt s2.row 1; simp at u1 u2 u3; go_simp
    (try simp only [List.getElem_toArray]); (try simp only [List.getElem_cons_succ]); (try simp only [List.getElem_cons_zero]); (try simp only [Act.put]); (try simp only [List.setIfInBounds_toArray]); (try simp only [List.set_cons_succ]); (try simp only [List.set_cons_zero])
    refine wpAnyH_take (i := 2) (v := .agg #[.int .i8 (p1 : Int), .int .i8 (p2 : Int)]) rfl (by kernel_rfl) (by kernel_rfl) (by kernel_rfl) (fun _ _ _ h => h) (Or.inl ⟨by rfl, ?_⟩) hH ?_
    · intro w1 hS; (try dsimp only at hS); obtain ⟨⟨s1, s2, _⟩, _⟩ := hS; have u1 := cell_of_rowAt s1.row 0; have u2 := cell_of_rowAt s2.row 0; have u3 := cell_of_rowAt s2.row 1; simp at u1 u2 u3; go_simp
    (try simp only [List.getElem_toArray]); (try simp only [List.getElem_cons_succ]); (try simp only [List.getElem_cons_zero]); (try simp only [Act.put]); (try simp only [List.setIfInBounds_toArray]); (try simp only [List.set_cons_succ]); (try simp only [List.set_cons_zero])
    refine wpAnyH_ready (rs := [3]) (by kernel_rfl) (by simp) (AllReadyH.cons rfl (fun K hK => ?_) AllReadyH.nil)
    go_simp
    refine (HP.out p1 p2 _ p18 p28 hH.2).mono ?_
    rintro y wx ⟨rfl, bx⟩
    go_simp
    refine hK.out _ _ (⟨⟨hH.1.1.below bx, hH.1.2.1.below bx, (let ⟨z, gz, hz⟩ := hH.1.2.2.1; ⟨z, gz.below bx, hz⟩), (bx.block D (Array.getElem?_eq_some_iff.1 hH.1.2.2.2).1).trans hH.1.2.2.2⟩, hH.2.trans (bx.mono hH.2.size)⟩) (fun hG => ?_)
    clear hK K hH bx
    replace hH := hG
    clear hG
    (try simp only [List.getElem_toArray]); (try simp only [List.getElem_cons_succ]); (try simp only [List.getElem_cons_zero]); (try simp only [Act.put]); (try simp only [List.setIfInBounds_toArray]); (try simp only [List.set_cons_succ]); (try simp only [List.set_cons_zero])
    refine wpAnyH_ready (rs := [4]) (by kernel_rfl) (by simp) (AllReadyH.cons rfl (fun K hK => ?_) AllReadyH.nil)
    obtain ⟨⟨s1, s2, ⟨z, s3, hz⟩, s4⟩, sB⟩ := hH
    obtain ⟨z0, z1, rfl⟩ : ∃ z0 z1, z = #[z0, z1] := by
      obtain ⟨l⟩ := z
      match l, hz with
      | [a, b], _ => exact ⟨a, b, rfl⟩
    have v2 := cell_of_rowAt s3.row 0
    have v3 := cell_of_rowAt s3.row 1
    have f2 := frozen_of_rowAt s3.row 0
    have f3 := frozen_of_rowAt s3.row 1
    simp at v2 v3
    go_simp
    have n1 : w.heap.size + 1 ≠ w.heap.size + 1 + 1 := by omega
    have n3 : w.heap.size + 1 + 1 + 1 ≠ w.heap.size + 1 + 1 := by omega
    have g4 : RowT ((wx.setCell ⟨w.heap.size + 1 + 1, 0, none⟩ (.int .i8 (p1 : Int))).setCell ⟨w.heap.size + 1 + 1, 1, none⟩ (.int .i8 (p2 : Int))) (w.heap.size + 1 + 1) 79 #[.int .i8 (p1 : Int), .int .i8 (p2 : Int)] := by simpa using (s3.set (o := 0) (.int .i8 (p1 : Int))).set (o := 1) (.int .i8 (p2 : Int))
    have g1 := (s1.other n1 (.int .i8 (p1 : Int)) (o := 0)).other n1 (.int .i8 (p2 : Int)) (o := 1)
    have g2 := (s2.other n3 (.int .i8 (p1 : Int)) (o := 0)).other n3 (.int .i8 (p2 : Int)) (o := 1)
    have g5 : ((wx.setCell ⟨w.heap.size + 1 + 1, 0, none⟩ (.int .i8 (p1 : Int))).setCell ⟨w.heap.size + 1 + 1, 1, none⟩ (.int .i8 (p2 : Int))).heap[D]? = some (Obj.deferred (some [])) := ((heap_setCell_other _ ⟨_, 1, none⟩ D _ hDn).trans (heap_setCell_other _ ⟨_, 0, none⟩ D _ hDn)).trans s4
    have gB := (sB.setCell (p := ⟨w.heap.size + 1 + 1, 0, none⟩) (by simp <;> omega) (.int .i8 (p1 : Int))).setCell (p := ⟨w.heap.size + 1 + 1, 1, none⟩) (by simp <;> omega) (.int .i8 (p2 : Int))
    obtain ⟨W3, hW3⟩ : ∃ W3, ((wx.setCell ⟨w.heap.size + 1 + 1, 0, none⟩ (.int .i8 (p1 : Int))).setCell ⟨w.heap.size + 1 + 1, 1, none⟩ (.int .i8 (p2 : Int))) = W3 := ⟨_, rfl⟩
    rw [hW3] at g4 g1 g2 g5 gB ⊢
    clear hW3
    refine hK.out _ _ (⟨⟨g1, g2, ⟨_, g4, rfl⟩, g5⟩, gB⟩) (fun hG => ?_)
    clear hK K s1 s2 s3 s4 sB v2 v3 f2 f3 gB
    replace hH := hG
    clear hG
    (try simp only [List.getElem_toArray]); (try simp only [List.getElem_cons_succ]); (try simp only [List.getElem_cons_zero]); (try simp only [Act.put]); (try simp only [List.setIfInBounds_toArray]); (try simp only [List.set_cons_succ]); (try simp only [List.set_cons_zero])
    refine wpAnyH_take (i := 5) (v := .int .i64 (t (p1 * 8 + p2))) rfl (by kernel_rfl) (by kernel_rfl) (by kernel_rfl) (fun _ _ _ h => h) (Or.inl ⟨by rfl, ?_⟩) hH ?_
    · intro w1 hS; (try dsimp only at hS); go_simp
    (try simp only [List.getElem_toArray]); (try simp only [List.getElem_cons_succ]); (try simp only [List.getElem_cons_zero]); (try simp only [Act.put]); (try simp only [List.setIfInBounds_toArray]); (try simp only [List.set_cons_succ]); (try simp only [List.set_cons_zero])
    refine wpAnyH_done (by kernel_rfl) ?_ _
    dsimp only [OnlyN]
    gi_wp2
    have gr := g4.row
    refine ⟨by simp, .inl ⟨_, _, rfl, run_takeDeferred g5, ?_⟩⟩
    refine ⟨.tuple #[.agg #[.int .i8 (p1 : Int), .int .i8 (p2 : Int)], .int .i64 (t (p1 * 8 + p2))], results_row2 (m := 2) rfl _ _ (w.heap.size + 1 + 1) _ _ rfl rfl ?_ Tryd.underlying79 rfl (by kernel_rfl) rfl, rfl, ?_⟩
    · obtain ⟨u, hu⟩ := rowAt_some gr
      exact rowAt_of_heap ((World.putObj_heap_other (fun e => hDn e.symm)).trans hu)
    · exact hH.2.trans (belowK_b (w := w) (Nat.le_refl _) _ D _ _ (by omega) g5 rfl rfl)
  case stop =>
    rintro D c pre W _ _ h _
    exact h.elim
end Go.Proofs.YtcdddngdjhjdbaaDoor
