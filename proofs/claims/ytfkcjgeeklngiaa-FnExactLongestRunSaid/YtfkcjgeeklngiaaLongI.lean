/- LongestRun: the program's side. -/
import Derived.Test.YtfkcjgeeklngiaaRunFrom
import Derived.Test.YtfkcjgeeklngiaaMendAll
import Derived.Test.YtfkcjgeeklngiaaLift
import Derived.RegionTactic
namespace Go.Proofs.Ytfkcjgeeklngiaa
open Go.RowKit Go.Shelf
attribute [local go_sem] Oper.semAt_some

/-- The place and the length of the longest run so far. -/
def Rf.best (r : Rf) (k : Int) {h w : Nat} (l : List (Pl h w)) : (Nat × Nat) × Nat := l.foldl (fun s x => if s.2 < r.run k x.1.1 x.1.2 w then (x.1, r.run k x.1.1 x.1.2 w) else s) ((0, 0), 0)
def Rf.bestN (r : Rf) (k : Int) {h w : Nat} (l : List (Pl h w)) : Nat := (r.best k l).2
def Rf.bestP (r : Rf) (k : Int) {h w : Nat} (l : List (Pl h w)) : Array Value := #[.int .i8 ((r.best k l).1.1 : Int), .int .i8 ((r.best k l).1.2 : Int)]
theorem Rf.best_hit {r : Rf} {k : Int} {h w : Nat} {l : List (Pl h w)} {x : Pl h w} (e : r.bestN k l < r.run k x.1.1 x.1.2 w) : r.bestN k (l ++ [x]) = r.run k x.1.1 x.1.2 w ∧ r.bestP k (l ++ [x]) = #[.int .i8 (x.1.1 : Int), .int .i8 (x.1.2 : Int)] := by
  unfold Rf.bestN at e
  constructor
  · unfold Rf.bestN Rf.best; rw [List.foldl_append]; exact congrArg Prod.snd (if_pos e)
  · unfold Rf.bestP Rf.best; rw [List.foldl_append]
    have : List.foldl (fun s x => if s.2 < r.run k x.1.1 x.1.2 w then (x.1, r.run k x.1.1 x.1.2 w) else s) (r.best k l) [x] = (x.1, r.run k x.1.1 x.1.2 w) := if_pos e
    exact congrArg (fun z => #[Value.int .i8 (z.1.1 : Int), .int .i8 (z.1.2 : Int)]) this
theorem Rf.best_miss {r : Rf} {k : Int} {h w : Nat} {l : List (Pl h w)} {x : Pl h w} (e : ¬ r.bestN k l < r.run k x.1.1 x.1.2 w) : r.bestN k (l ++ [x]) = r.bestN k l ∧ r.bestP k (l ++ [x]) = r.bestP k l := by
  unfold Rf.bestN at e
  have : r.best k (l ++ [x]) = r.best k l := by
    unfold Rf.best; rw [List.foldl_append]; exact if_neg e
  unfold Rf.bestN Rf.bestP
  rw [this]; exact ⟨rfl, rfl⟩
theorem Rf.best_le {r : Rf} {k : Int} {h w : Nat} : ∀ (l : List (Pl h w)) (s : (Nat × Nat) × Nat), s.2 ≤ w → (l.foldl (fun s x => if s.2 < r.run k x.1.1 x.1.2 w then (x.1, r.run k x.1.1 x.1.2 w) else s) s).2 ≤ w
  | [], s, hs => hs
  | x :: l, s, hs => Rf.best_le l _ (by
    dsimp only
    by_cases e : s.2 < r.run k x.1.1 x.1.2 w
    · rw [if_pos e]; exact Nat.le_trans (r.run_le _ _ _ _) (Nat.sub_le _ _)
    · rw [if_neg e]; exact hs)
theorem Rf.bestN_le {r : Rf} {k : Int} {h w : Nat} (l : List (Pl h w)) : r.bestN k l ≤ w := Rf.best_le l _ (Nat.zero_le _)
/-- The answer. -/
def Rf.longV (r : Rf) (k : Int) {h w : Nat} (l : List (Pl h w)) : Value := if r.bestN k l = 0 then .tuple #[.agg #[.int .i8 0, .int .i8 0], .int .i64 0, .int .i64 6] else .tuple #[.agg (r.bestP k l), .int .i64 (r.bestN k l), .int .i64 0]

set_option maxRecDepth 100000 in
set_option maxHeartbeats 4000000 in
theorem implLong_go (c : Array Value) (r : Rf) (k : Int) (hh ww : Nat) (hhe : r.h = hh) (hwe : r.w = ww) (h8 : hh ≤ 8) (w8 : ww ≤ 8) (w : World) (hR : IsRoof c r) (hk : r.told (inB k 0 3) = 0) :
    Calls Try.prog 47 #[.agg c, .int .i64 k] w fun e w' => e = .returned (r.longV k (plUpto hh ww (hh * ww))) ∧ Below w.heap.size w w' := by
  have hc := hR.size
  have e0 : RowT (((w.alloc (.cells c 33)).alloc (.cells #[.int .i64 k] 2)).alloc (.cells #[.int .i8 0, .int .i8 0] 37)) w.heap.size 33 c := ((RowT.new w 33 c).alloc _).alloc _
  have e1 : RowT (((w.alloc (.cells c 33)).alloc (.cells #[.int .i64 k] 2)).alloc (.cells #[.int .i8 0, .int .i8 0] 37)) (w.heap.size + 1) 2 #[.int .i64 k] := by
    have := (RowT.new (w.alloc (.cells c 33)) 2 #[.int .i64 k]).alloc (.cells #[.int .i8 0, .int .i8 0] 37)
    simpa using this
  have e2 : RowT (((w.alloc (.cells c 33)).alloc (.cells #[.int .i64 k] 2)).alloc (.cells #[.int .i8 0, .int .i8 0] 37)) (w.heap.size + 1 + 1) 37 #[.int .i8 0, .int .i8 0] := by
    have := RowT.new ((w.alloc (.cells c 33)).alloc (.cells #[.int .i64 k] 2)) 37 #[.int .i8 0, .int .i8 0]
    simpa using this
  have eB : Below w.heap.size w (((w.alloc (.cells c 33)).alloc (.cells #[.int .i64 k] 2)).alloc (.cells #[.int .i8 0, .int .i8 0] 37)) := (((Below.refl _ w).alloc (Nat.le_refl _) _).alloc (by simp) _).alloc (by simp; omega) _
  have CC := fun w => checkKind_any c r k w hR
  rw [hk] at CC
  have HKK := Lib.hid hk
  clear hk
  refine (callsIn_wide (n := 3)).1 ?_
  refine callsIn_of_wp_marks Try.func47 rfl trivial ?_ rfl
  simp only [Try.ntmps47, List.size_toArray, List.length_cons, List.length_nil, Nat.reduceAdd, Nat.reduceSub, Array.replicate_succ, Array.replicate_zero, List.push_toArray, List.append_toArray, List.nil_append, List.cons_append]
  gi_wp2
  refine ⟨trivial, (callsIn_wide.2 (CC _)).mono ?_⟩
  rintro x w1 ⟨rfl, b1⟩
  have f0 := e0.below b1
  have f1 := e1.below b1
  have f2 := e2.below b1
  have fB := bnext eB b1 eB.size
  have fr0 := f0.row
  have lf0 : w.heap.size < w1.heap.size := f0.lt
  clear b1 e0 e1 e2 eB CC
  gi_wp2
  refine ⟨trivial, (callsIn_wide.2 (places_any c _)).mono ?_⟩
  rintro e' w' ⟨rfl, rfl⟩
  gi_wp2
  obtain ⟨W0, hW0⟩ : ∃ W0, ((w1.alloc (.cells #[.int .i8 0, .int .i8 0] 37)).alloc (.cells #[.int .i64 0] 2)).alloc (.cells c 33) = W0 := ⟨_, rfl⟩
  have hsz : W0.heap.size = w1.heap.size + 3 := by rw [← hW0]; simp
  have rA : RowT W0 w.heap.size 33 c := by rw [← hW0]; exact ((f0.alloc _).alloc _).alloc _
  have rK : RowT W0 (w.heap.size + 1) 2 #[.int .i64 k] := by rw [← hW0]; exact ((f1.alloc _).alloc _).alloc _
  have rZ : RowT W0 (w.heap.size + 1 + 1) 37 #[.int .i8 0, .int .i8 0] := by rw [← hW0]; exact ((f2.alloc _).alloc _).alloc _
  have rP : RowT W0 w1.heap.size 37 #[.int .i8 0, .int .i8 0] := by rw [← hW0]; exact ((RowT.new w1 37 #[.int .i8 0, .int .i8 0]).alloc _).alloc _
  have rN : RowT W0 (w1.heap.size + 1) 2 #[.int .i64 0] := by
    have := (RowT.new (w1.alloc (.cells #[.int .i8 0, .int .i8 0] 37)) 2 #[.int .i64 0]).alloc (.cells c 33)
    rw [hW0] at this; simpa using this
  have rD : RowT W0 (w1.heap.size + 1 + 1) 33 c := by
    have := RowT.new ((w1.alloc (.cells #[.int .i8 0, .int .i8 0] 37)).alloc (.cells #[.int .i64 0] 2)) 33 c
    rw [hW0] at this; simpa using this
  have hB0 : Below w.heap.size w W0 := by rw [← hW0]; exact ((fB.alloc fB.size _).alloc (by have := fB.size; simp; omega) _).alloc (by have := fB.size; simp; omega) _
  have fs := fB.size
  have lf2 : w.heap.size + 1 + 1 < w1.heap.size := f2.lt
  rw [hW0]
  clear hW0 f0 f1 f2 fB fr0
  refine wpIn_rangeFunc_ownH rfl (by omega) (gf := 98) (lb := #[.pointer (some ⟨w1.heap.size + 1 + 1, 0, none⟩)]) rfl trivial (enters_of Try.func98 (by kernel_rfl) rfl)
    (places_stops 2 (by omega) (w1.heap.size + 1 + 1) w.heap.size c r hh ww hhe hwe h8 w8 hR W0 rD.row) KpR.trans (KpR.put (by omega) (by omega)) (Below.refl _ _) (fun _ => rfl)
    (fun pre W => (RowT W w.heap.size 33 c ∧ RowT W (w.heap.size + 1) 2 #[.int .i64 k] ∧ RowT W (w.heap.size + 1 + 1) 37 #[.int .i8 0, .int .i8 0] ∧ RowT W w1.heap.size 37 (r.bestP k pre) ∧ RowT W (w1.heap.size + 1) 2 #[.int .i64 (r.bestN k pre)] ∧ RowT W (w1.heap.size + 1 + 1) 33 c) ∧ Below w.heap.size w W)
    (fun _ _ _ => False)
    (OwnFrom.and (OwnFrom.and (Own.from (RowT.own _ _ _) _) (OwnFrom.and (Own.from (RowT.own _ _ _) _) (OwnFrom.and (Own.from (RowT.own _ _ _) _) (OwnFrom.and (Own.from (RowT.own _ _ (fun pre => r.bestP k pre)) _) (OwnFrom.and (Own.from (RowT.own _ _ (fun pre => #[.int .i64 (r.bestN k pre)])) _) (Own.from (RowT.own _ _ _) _)))))) (ownFrom_below (Nat.le_refl _) (by omega)))
    (fun _ _ _ _ _ hs _ _ => hs)
    ⟨⟨rA, rK, rZ, rP, rN, rD⟩, hB0⟩
    (fun x a' W => ∃ Bx, w1.heap.size + 1 + 1 < Bx ∧ RowT W Bx 37 #[.int .i8 (x.1.1 : Int), .int .i8 (x.1.2 : Int)] ∧ a' = { tmps := #[.agg c, .int .i64 k, .pointer (some ⟨w.heap.size, 0, none⟩), .pointer (some ⟨w.heap.size + 1, 0, none⟩), .pointer (some ⟨w.heap.size + 1 + 1, 0, none⟩), .int .i64 0, .int .i64 0, .int .i64 0, .pointer (some ⟨w1.heap.size, 0, none⟩), .pointer (some ⟨w1.heap.size + 1, 0, none⟩), .pointer (some ⟨Bx, 0, none⟩), undef, .agg c, .int .i64 k, .int .i64 0, .int .i64 0, .bool false, undef, undef, .agg c, .func (.func 98) #[] #[.pointer (some ⟨w1.heap.size + 1 + 1, 0, none⟩)], x.enc, undef, undef, undef, undef, undef, undef, undef, undef, undef, undef, undef, undef, undef, undef], defers := [] })
    (fun x a' _ X Y row hs hg hr => by obtain ⟨Bx, h1, h2, h3⟩ := hs; exact ⟨Bx, h1, RowT.own Bx 37 (fun (_ : Unit) => #[Value.int .i8 (x.1.1 : Int), .int .i8 (x.1.2 : Int)]) () X Y row h2 hg (fun r e => (hr r e).2), h3⟩)
    ?assign ?body ?done ?stop
  case assign =>
    rintro l pre x W K ⟨⟨gA, gK, gZ, gP, gN, gD⟩, hB1⟩ hK
    dsimp only [Pl.enc]
    gi_wp2
    refine hK _ _ ((KeepsOthers.alloc _ _).from _) ⟨(Below.refl _ W).alloc hB1.size _, fun c' h => (rowAt_alloc_past _ _ _ (rowAt_lt h)).trans h⟩ ⟨⟨gA.alloc _, gK.alloc _, gZ.alloc _, gP.alloc _, gN.alloc _, gD.alloc _⟩, hB1.alloc hB1.size _⟩ ⟨W.heap.size, gD.lt, RowT.new W 37 _, rfl⟩
  case body =>
    rintro l pre x a' W hl ⟨rr, hrr⟩ ⟨⟨gA, gK, gZ, gP, gN, gD⟩, hB1⟩ ⟨Bx, hBx, gX, rfl⟩ hlt
    have xh := x.2.1
    have xw := x.2.2
    have CR := fun W => runFrom_any c r k x.1.1 x.1.2 hh ww hhe hwe h8 w8 xh (by omega) W hR
    have gAr := gA.row
    have kx0 := cell_of_rowAt gX.row 0
    have kx1 := cell_of_rowAt gX.row 1
    have kk := cell_of_rowAt gK.row 0
    simp at kx0 kx1 kk
    gi_wp2
    refine ⟨trivial, (CallsIn.inRound l (callsIn_wide.2 (CR _))).mono ?_⟩
    rintro e wx ⟨rfl, bx⟩
    have hA2 := gA.below bx
    have hK2 := gK.below bx
    have hZ2 := gZ.below bx
    have hP2 := gP.below bx
    have hN2 := gN.below bx
    have hD2 := gD.below bx
    have hX2 := gX.below bx
    have kx0 := cell_of_rowAt hX2.row 0
    have kx1 := cell_of_rowAt hX2.row 1
    have kn := cell_of_rowAt hN2.row 0
    simp at kx0 kx1 kn
    have bW := bx
    have hb2 : Below w.heap.size w wx := hB1.trans (bx.mono hB1.size)
    obtain ⟨pa, pb, hab⟩ : ∃ pa pb : Nat, r.bestP k pre = #[.int .i8 pa, .int .i8 pb] := ⟨_, _, rfl⟩
    rw [hab] at hP2
    have kp0 := cell_of_rowAt hP2.row 0
    have kp1 := cell_of_rowAt hP2.row 1
    simp at kp0 kp1
    have kpf := frozen_of_rowAt hP2.row
    have knf := frozen_of_rowAt hN2.row
    clear bx gA gK gZ gP gN gD gX gAr kk CR
    by_cases hx : r.bestN k pre < r.run k x.1.1 x.1.2 ww
    · have hxb : decide (((r.bestN k pre : Nat) : Int) < ((r.run k x.1.1 x.1.2 ww : Nat) : Int)) = true := by simpa using hx
      have a0 : w.heap.size ≠ w1.heap.size := by omega
      have a1 : w.heap.size ≠ w1.heap.size + 1 := by omega
      have b0 : w.heap.size + 1 ≠ w1.heap.size := by omega
      have b1 : w.heap.size + 1 ≠ w1.heap.size + 1 := by omega
      have c0 : w.heap.size + 1 + 1 ≠ w1.heap.size := by omega
      have c1 : w.heap.size + 1 + 1 ≠ w1.heap.size + 1 := by omega
      have d0 : w1.heap.size + 1 + 1 ≠ w1.heap.size := by omega
      have d1 : w1.heap.size + 1 + 1 ≠ w1.heap.size + 1 := by omega
      have m0 : w1.heap.size ≠ w1.heap.size + 1 := by omega
      have m1 : w1.heap.size + 1 ≠ w1.heap.size := by omega
      have fs1 : w.heap.size ≤ w1.heap.size + 1 := by omega
      gi_wp2
      refine ⟨((((keeps_of_below bW).trans (KeepsOthers.setCell _ _ _)).trans (KeepsOthers.setCell _ _ _)).trans (KeepsOthers.setCell _ _ _)).from _, ⟨(((bW.mono hB1.size).setCell (p := ⟨w1.heap.size, 0, none⟩) fs _).setCell (p := ⟨w1.heap.size, 1, none⟩) fs _).setCell (p := ⟨w1.heap.size + 1, 0, none⟩) fs1 _, fun c' h' => ?_⟩, ⟨((hA2.other a0 _).other a0 _).other a1 _, ((hK2.other b0 _).other b0 _).other b1 _, ((hZ2.other c0 _).other c0 _).other c1 _, ?_, ?_, ((hD2.other d0 _).other d0 _).other d1 _⟩, ((hb2.setCell (p := ⟨w1.heap.size, 0, none⟩) fs _).setCell (p := ⟨w1.heap.size, 1, none⟩) fs _).setCell (p := ⟨w1.heap.size + 1, 0, none⟩) fs1 _⟩
      · exact (rowAt_setCell_ne _ _ _ _ _ d1).trans ((rowAt_setCell_ne _ _ _ _ _ d0).trans ((rowAt_setCell_ne _ _ _ _ _ d0).trans (brow bW h')))
      · rw [(Rf.best_hit hx).2]
        exact ((hP2.set _).set _).other m0 _
      · rw [(Rf.best_hit hx).1]
        exact ((hN2.other m1 _).other m1 _).set _
    · have hxb : decide (((r.bestN k pre : Nat) : Int) < ((r.run k x.1.1 x.1.2 ww : Nat) : Int)) = false := by simpa using hx
      gi_wp2
      exact ⟨(keeps_of_below bW).from _, ⟨bW.mono hB1.size, fun c' h' => brow bW h'⟩, ⟨hA2, hK2, hZ2, by rw [(Rf.best_miss hx).2, hab]; exact hP2, by rw [(Rf.best_miss hx).1]; exact hN2, hD2⟩, hb2⟩
  case done =>
    rintro D ys W hD rfl ⟨⟨gA, gK, gZ, gP, gN, gD⟩, hB1⟩ hK
    have kn := cell_of_rowAt gN.row 0
    have z0 := cell_of_rowAt gZ.row 0
    have z1 := cell_of_rowAt gZ.row 1
    have zf := frozen_of_rowAt gZ.row
    have nz : w1.heap.size ≠ w.heap.size + 1 + 1 := by omega
    have nz1 : w1.heap.size + 1 ≠ w.heap.size + 1 + 1 := by omega
    obtain ⟨pa, pb, hab⟩ : ∃ pa pb : Nat, r.bestP k (plUpto hh ww (hh * ww)) = #[.int .i8 pa, .int .i8 pb] := ⟨_, _, rfl⟩
    rw [hab] at gP
    have p0 := cell_of_rowAt gP.row 0
    have p1 := cell_of_rowAt gP.row 1
    simp at kn z0 z1 p0 p1
    have hDn : D ≠ w.heap.size + 1 + 1 := fun h => by
      rw [h] at hK
      have : some (Obj.cells #[Value.int .i8 0, .int .i8 0] 37) = some (Obj.deferred (some [])) := gZ.symm.trans hK
      cases this
    by_cases h0 : r.bestN k (plUpto hh ww (hh * ww)) = 0
    · have hv : r.longV k (plUpto hh ww (hh * ww)) = .tuple #[.agg #[.int .i8 0, .int .i8 0], .int .i64 0, .int .i64 6] := if_pos h0
      have HV := Lib.hid hv
      rw [h0] at kn
      clear hv
      gi_wp2
      have zz := (gZ.set (o := 0) (.int .i8 0)).set (o := 1) (.int .i8 0)
      have hK2 := (heap_setCell_other (W.setCell ⟨w.heap.size + 1 + 1, 0, none⟩ (.int .i8 0)) ⟨w.heap.size + 1 + 1, 1, none⟩ D (.int .i8 0) hDn).trans ((heap_setCell_other W ⟨w.heap.size + 1 + 1, 0, none⟩ D (.int .i8 0) hDn).trans hK)
      refine ⟨by simp, .inl ⟨_, _, rfl, run_takeDeferred hK2, ?_⟩⟩
      refine ⟨.tuple #[.agg #[.int .i8 0, .int .i8 0], .int .i64 0, .int .i64 6], results_row3 (m := 2) rfl _ _ (w.heap.size + 1 + 1) _ _ _ rfl rfl rfl (rowAt_of_heap ((World.putObj_heap_other (fun e => hDn e.symm)).trans zz)) Try.underlying37 rfl (by kernel_rfl) rfl, by rw [HV.out], ?_⟩
      exact ((hB1.setCell (p := ⟨w.heap.size + 1 + 1, 0, none⟩) (by show _ ≤ w.heap.size + 1 + 1; omega) (.int .i8 0)).setCell (p := ⟨w.heap.size + 1 + 1, 1, none⟩) (by show _ ≤ w.heap.size + 1 + 1; omega) (.int .i8 0)).trans (belowK_b (w := w) (Nat.le_refl _) _ D _ _ (by omega) hK2 rfl rfl)
    · have hv : r.longV k (plUpto hh ww (hh * ww)) = .tuple #[.agg (r.bestP k (plUpto hh ww (hh * ww))), .int .i64 (r.bestN k (plUpto hh ww (hh * ww))), .int .i64 0] := if_neg h0
      rw [hab] at hv
      have HV := Lib.hid hv
      clear hv
      have hxb : (((r.bestN k (plUpto hh ww (hh * ww)) : Nat) : Int) == 0) = false := by simpa using h0
      gi_wp2
      refine wpIn_wide.2 ?_
      go_region
      gi_wp2
      have zz := (gZ.set (o := 0) (.int .i8 pa)).set (o := 1) (.int .i8 pb)
      have hK2 := (heap_setCell_other (W.setCell ⟨w.heap.size + 1 + 1, 0, none⟩ (.int .i8 pa)) ⟨w.heap.size + 1 + 1, 1, none⟩ D (.int .i8 pb) hDn).trans ((heap_setCell_other W ⟨w.heap.size + 1 + 1, 0, none⟩ D (.int .i8 pa) hDn).trans hK)
      have hK3 : ((W.setCell ⟨w.heap.size + 1 + 1, 0, none⟩ (.int .i8 pa)).setCell ⟨w.heap.size + 1 + 1, 1, none⟩ (.int .i8 pb)).drew.heap[D]? = some (.deferred (some [])) := hK2
      refine ⟨by simp, .inl ⟨_, _, rfl, run_takeDeferred hK3, ?_⟩⟩
      refine ⟨.tuple #[.agg #[.int .i8 pa, .int .i8 pb], .int .i64 (r.bestN k (plUpto hh ww (hh * ww))), .int .i64 0], results_row3 (m := 2) rfl _ _ (w.heap.size + 1 + 1) _ _ _ rfl rfl rfl (rowAt_of_heap ((World.putObj_heap_other (fun e => hDn e.symm)).trans zz)) Try.underlying37 rfl (by kernel_rfl) rfl, by rw [HV.out], ?_⟩
      exact ((hB1.setCell (p := ⟨w.heap.size + 1 + 1, 0, none⟩) (by show _ ≤ w.heap.size + 1 + 1; omega) (.int .i8 pa)).setCell (p := ⟨w.heap.size + 1 + 1, 1, none⟩) (by show _ ≤ w.heap.size + 1 + 1; omega) (.int .i8 pb)).drew.trans (belowK_b (w := w) (Nat.le_refl _) _ D _ _ (by omega) hK3 rfl rfl)
  case stop =>
    rintro D c pre W _ _ h _
    exact h.elim
end Go.Proofs.Ytfkcjgeeklngiaa
