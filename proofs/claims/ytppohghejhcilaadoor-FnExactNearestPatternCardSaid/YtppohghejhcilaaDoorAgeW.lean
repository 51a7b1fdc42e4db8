/- within: the ages of a roof's tiles alone, none greater than the greatest. -/
import Derived.Test.YtppohghejhcilaaDoorAgeM
import Derived.Test.YtppohghejhcilaaDoorStill
import Derived.Test.YtppohghejhcilaaDoorGive
namespace Go.Proofs.YtppohghejhcilaaDoor
open Go.RowKit Go.Shelf
attribute [local go_sem] Oper.semAt_some

theorem cap100_bd {t : Nat → Int} (h : ∀ i, i < 64 → 0 ≤ t i ∧ t i ≤ 255) {i : Nat} (hi : i < 64) : 0 ≤ cap100 t i ∧ cap100 t i ≤ 255 := by
  have := h i hi
  unfold cap100
  split <;> omega

set_option maxRecDepth 100000 in
set_option maxHeartbeats 4000000 in
theorem within_any (d c : Array Value) (t : Nat → Int) (r : Rf) (hh ww : Nat) (hhe : r.h = hh) (hwe : r.w = ww) (h8 : hh ≤ 8) (w8 : ww ≤ 8) (w : World) (hA : IsU8 d 64 t) (hR : IsRoof c r) (X : Array Value) (hF : mkU (setL (cap100 t) (fun _ => 0) (plUpto hh ww (hh * ww))) = X) :
    Calls Tryd.prog 60 #[.agg d, .agg c] w fun e w' => e = .returned (.agg X) ∧ Below w.heap.size w w' := by
  have hc := hR.size
  have hd := hA.size
  have hz : (#[.int .u8 0, .int .u8 0, .int .u8 0, .int .u8 0, .int .u8 0, .int .u8 0, .int .u8 0, .int .u8 0, .int .u8 0, .int .u8 0, .int .u8 0, .int .u8 0, .int .u8 0, .int .u8 0, .int .u8 0, .int .u8 0, .int .u8 0, .int .u8 0, .int .u8 0, .int .u8 0, .int .u8 0, .int .u8 0, .int .u8 0, .int .u8 0, .int .u8 0, .int .u8 0, .int .u8 0, .int .u8 0, .int .u8 0, .int .u8 0, .int .u8 0, .int .u8 0, .int .u8 0, .int .u8 0, .int .u8 0, .int .u8 0, .int .u8 0, .int .u8 0, .int .u8 0, .int .u8 0, .int .u8 0, .int .u8 0, .int .u8 0, .int .u8 0, .int .u8 0, .int .u8 0, .int .u8 0, .int .u8 0, .int .u8 0, .int .u8 0, .int .u8 0, .int .u8 0, .int .u8 0, .int .u8 0, .int .u8 0, .int .u8 0, .int .u8 0, .int .u8 0, .int .u8 0, .int .u8 0, .int .u8 0, .int .u8 0, .int .u8 0, .int .u8 0] : Array Value) = mkU (fun _ => 0) := by kernel_rfl
  refine (callsIn_wide (n := 3)).1 ?_
  refine callsIn_of_wp_marks Tryd.func60 rfl trivial ?_ rfl
  simp only [Tryd.ntmps60, List.size_toArray, List.length_cons, List.length_nil, Nat.reduceAdd, Nat.reduceSub, Array.replicate_succ, Array.replicate_zero, List.push_toArray, List.append_toArray, List.nil_append, List.cons_append]
  gi_wp2_with (refine ⟨trivial, ?_⟩; gi_at_call 82; refine (callsIn_wide.2 (places_any c _)).mono ?_; rintro e w' ⟨rfl, rfl⟩)
  try rw [hz]
  obtain ⟨W0, hW0⟩ : ∃ W0, (((((w.alloc (.cells d 30)).alloc (.cells c 28)).alloc (.cells (mkU (fun _ => 0)) 30)).alloc (.cells (mkU (fun _ => 0)) 30)).alloc (.cells c 28)) = W0 := ⟨_, rfl⟩
  have hsz : W0.heap.size = w.heap.size + 5 := by rw [← hW0]; simp
  have rF : RowT W0 (w.heap.size) 30 d := by
    have := ((((RowT.new w 30 d).alloc (.cells c 28)).alloc (.cells (mkU (fun _ => 0)) 30)).alloc (.cells (mkU (fun _ => 0)) 30)).alloc (.cells c 28)
    rw [hW0] at this; simpa using this
  have rA : RowT W0 (w.heap.size + 1) 28 c := by
    have := (((RowT.new (w.alloc (.cells d 30)) 28 c).alloc (.cells (mkU (fun _ => 0)) 30)).alloc (.cells (mkU (fun _ => 0)) 30)).alloc (.cells c 28)
    rw [hW0] at this; simpa using this
  have rZ : RowT W0 (w.heap.size + 1 + 1) 30 (mkU (fun _ => 0)) := by
    have := ((RowT.new ((w.alloc (.cells d 30)).alloc (.cells c 28)) 30 (mkU (fun _ => 0))).alloc (.cells (mkU (fun _ => 0)) 30)).alloc (.cells c 28)
    rw [hW0] at this; simpa using this
  have rM : RowT W0 (w.heap.size + 1 + 1 + 1) 30 (mkU (fun _ => 0)) := by
    have := (RowT.new (((w.alloc (.cells d 30)).alloc (.cells c 28)).alloc (.cells (mkU (fun _ => 0)) 30)) 30 (mkU (fun _ => 0))).alloc (.cells c 28)
    rw [hW0] at this; simpa using this
  have rD : RowT W0 (w.heap.size + 1 + 1 + 1 + 1) 28 c := by
    have := RowT.new ((((w.alloc (.cells d 30)).alloc (.cells c 28)).alloc (.cells (mkU (fun _ => 0)) 30)).alloc (.cells (mkU (fun _ => 0)) 30)) 28 c
    rw [hW0] at this; simpa using this
  have hB0 : Below w.heap.size w W0 := by rw [← hW0]; exact (((((Below.refl _ w).alloc (Nat.le_refl _) _).alloc (by simp) _).alloc (by simp <;> omega) _).alloc (by simp <;> omega) _).alloc (by simp <;> omega) _
  rw [hW0]
  clear hW0 hz
  refine wpIn_rangeFunc_ownH rfl (by omega) (gf := 106) (lb := #[.pointer (some ⟨w.heap.size + 1 + 1 + 1 + 1, 0, none⟩)]) rfl trivial (enters_of Tryd.func106 (by kernel_rfl) rfl)
    (places_stops 2 (by omega) (w.heap.size + 1 + 1 + 1 + 1) w.heap.size c r hh ww hhe hwe h8 w8 hR W0 rD.row) KpR.trans (KpR.put (by omega) (by omega)) (Below.refl _ _) (fun _ => rfl)
    (fun pre W => (RowT W (w.heap.size) 30 d ∧ RowT W (w.heap.size + 1) 28 c ∧ RowT W (w.heap.size + 1 + 1) 30 (mkU (fun _ => 0)) ∧ RowT W (w.heap.size + 1 + 1 + 1) 30 (mkU (setL (cap100 t) (fun _ => 0) pre)) ∧ RowT W (w.heap.size + 1 + 1 + 1 + 1) 28 c) ∧ Below w.heap.size w W)
    (fun _ _ _ => False)
    (OwnFrom.and (OwnFrom.and (Own.from (RowT.own _ _ _) _) (OwnFrom.and (Own.from (RowT.own _ _ _) _) (OwnFrom.and (Own.from (RowT.own _ _ _) _) (OwnFrom.and (Own.from (RowT.own _ _ (fun pre => mkU (setL (cap100 t) (fun _ => 0) pre))) _) (Own.from (RowT.own _ _ _) _))))) (ownFrom_below (Nat.le_refl _) (by omega)))
    (fun _ _ _ _ _ hs _ _ => hs)
    ⟨⟨rF, rA, rZ, rM, rD⟩, hB0⟩
    (fun x a' W => ∃ Bx, w.heap.size + 1 + 1 + 1 + 1 < Bx ∧ RowT W Bx 37 #[.int .i8 (x.1.1 : Int), .int .i8 (x.1.2 : Int)] ∧ a' = { tmps := #[.agg d, .agg c, .pointer (some ⟨w.heap.size, 0, none⟩), .pointer (some ⟨w.heap.size + 1, 0, none⟩), .pointer (some ⟨w.heap.size + 1 + 1, 0, none⟩), .pointer (some ⟨w.heap.size + 1 + 1 + 1, 0, none⟩), .pointer (some ⟨Bx, 0, none⟩), .agg c, .func (.func 106) #[] #[.pointer (some ⟨w.heap.size + 1 + 1 + 1 + 1, 0, none⟩)], x.enc, undef, undef, undef, undef, undef, undef, undef, undef, undef, undef, undef, undef, undef, undef, undef], defers := [] })
    (fun x a' _ X Y row hs hg hr => by obtain ⟨Bx, h1, h2, h3⟩ := hs; exact ⟨Bx, h1, RowT.own Bx 37 (fun (_ : Unit) => #[Value.int .i8 (x.1.1 : Int), .int .i8 (x.1.2 : Int)]) () X Y row h2 hg (fun r e => (hr r e).2), h3⟩)
    ?assign ?body ?done ?stop
  case assign =>
    rintro l pre x W K ⟨⟨gF, gA, gZ, gM, gD⟩, hB1⟩ hK
    dsimp only [Pl.enc]
    gi_wp2
    refine hK _ _ ((KeepsOthers.alloc _ _).from _) ⟨(Below.refl _ W).alloc hB1.size _, fun c' h => (rowAt_alloc_past _ _ _ (rowAt_lt h)).trans h⟩ ⟨⟨gF.alloc _, gA.alloc _, gZ.alloc _, gM.alloc _, gD.alloc _⟩, hB1.alloc hB1.size _⟩ ⟨W.heap.size, gD.lt, RowT.new W 37 _, rfl⟩
  case body =>
    rintro l pre x a' W hl ⟨rr, hrr⟩ ⟨⟨gF, gA, gZ, gM, gD⟩, hB1⟩ ⟨Bx, hBx, gX, rfl⟩ hlt
    have xh := x.2.1
    have xw := x.2.2
    have x8 : x.1.1 < 8 := by omega
    have y8 : x.1.2 < 8 := by omega
    have kx0 := cell_of_rowAt gX.row 0
    have kx1 := cell_of_rowAt gX.row 1
    simp at kx0 kx1
    obtain ⟨q, hq⟩ : ∃ q, setL (cap100 t) (fun _ => 0) pre = q := ⟨_, rfl⟩
    rw [hq] at gM
    have hi64 : x.1.1 * 8 + x.1.2 < 64 := by omega
    have ct : W.cell? ⟨w.heap.size, x.1.1 * 8 + x.1.2, none⟩ = some (.int .u8 (t (x.1.1 * 8 + x.1.2))) := (cell_of_rowAt gF.row _).trans (hA.isK.get hi64)
    have cm : W.cell? ⟨w.heap.size + 1 + 1 + 1, x.1.1 * 8 + x.1.2, none⟩ = some (.int .u8 (q (x.1.1 * 8 + x.1.2))) := (cell_of_rowAt gM.row _).trans ((isK_mkI .u8 64 q).get hi64)
    have fm := frozen_of_rowAt gM.row (x.1.1 * 8 + x.1.2)
    have t0 := hA.lo _ hi64
    have t1 := hA.hi _ hi64
    have xi0 : 0 ≤ (x.1.1 : Int) := by omega
    have xi1 : (x.1.1 : Int) < 8 := by omega
    have yi0 : 0 ≤ (x.1.2 : Int) := by omega
    have yi1 : (x.1.2 : Int) < 8 := by omega
    have n1 : w.heap.size ≠ w.heap.size + 1 + 1 + 1 := by omega
    have n2 : w.heap.size + 1 ≠ w.heap.size + 1 + 1 + 1 := by omega
    have n3 : w.heap.size + 1 + 1 ≠ w.heap.size + 1 + 1 + 1 := by omega
    have n4 : w.heap.size + 1 + 1 + 1 + 1 ≠ w.heap.size + 1 + 1 + 1 := by omega
    have hcap : Hid (setL (cap100 t) (fun _ => 0) (pre ++ [x]) = upd q (x.1.1 * 8 + x.1.2) (cap100 t (x.1.1 * 8 + x.1.2))) := Lib.hid (by rw [setL_snoc, hq]; rfl)
    clear hq
    by_cases hm : 100 < t (x.1.1 * 8 + x.1.2)
    · have hv : Hid (cap100 t (x.1.1 * 8 + x.1.2) = 100) := Lib.hid (if_pos hm)
      gi_wp2
      refine wpIn_still_tail 14 (by kernel_rfl) (by kernel_rfl) (by kernel_rfl) ?_
      simp only [List.take_succ_cons, List.take_zero, List.drop_succ_cons, List.drop_zero]
      repeat still_step
      try refine wpStill_nil ?_
      repeat go_step
      dsimp only [OnlyN]
      gi_wp2
      refine ⟨((KeepsOthers.setCell W _ _).trans (KeepsOthers.drew _)).from _, ⟨((Below.refl _ W).setCell (p := ⟨_, _, none⟩) (by simp <;> omega) _).drew, fun c' h' => (rowAt_setCell_ne _ _ _ _ _ n4).trans h'⟩, ⟨(gF.other n1 _).drew, (gA.other n2 _).drew, (gZ.other n3 _).drew, ?_, (gD.other n4 _).drew⟩, (hB1.setCell (p := ⟨_, _, none⟩) (by simp <;> omega) _).drew⟩
      rw [hcap.out, hv.out, ← mkU_set]
      exact (gM.set _).drew
    · have hv : Hid (cap100 t (x.1.1 * 8 + x.1.2) = t (x.1.1 * 8 + x.1.2)) := Lib.hid (if_neg hm)
      gi_wp2
      refine wpIn_still_tail 14 (by kernel_rfl) (by kernel_rfl) (by kernel_rfl) ?_
      simp only [List.take_succ_cons, List.take_zero, List.drop_succ_cons, List.drop_zero]
      repeat still_step
      try refine wpStill_nil ?_
      repeat go_step
      dsimp only [OnlyN]
      gi_wp2
      refine ⟨((KeepsOthers.setCell W _ _).trans (KeepsOthers.drew _)).from _, ⟨((Below.refl _ W).setCell (p := ⟨_, _, none⟩) (by simp <;> omega) _).drew, fun c' h' => (rowAt_setCell_ne _ _ _ _ _ n4).trans h'⟩, ⟨(gF.other n1 _).drew, (gA.other n2 _).drew, (gZ.other n3 _).drew, ?_, (gD.other n4 _).drew⟩, (hB1.setCell (p := ⟨_, _, none⟩) (by simp <;> omega) _).drew⟩
      rw [hcap.out, hv.out, ← mkU_set]
      exact (gM.set _).drew
  case done =>
    rintro D ys W hD rfl ⟨⟨gF, gA, gZ, gM, gD⟩, hB1⟩ hK
    rw [hF] at gM
    have gMr := gM.row
    have gMs : X.size = 64 := by rw [← hF]; exact size_mkU _
    have gZr := gZ.row
    have gZs : (mkU (fun _ => 0)).size = 64 := size_mkU _
    have gMo : Ones X := by rw [← hF]; exact (isK_mkI _ _ _).ones
    have hDn : D ≠ w.heap.size + 1 + 1 := fun h => by
      rw [h] at hK
      have : some (Obj.cells (mkU (fun _ => 0)) 30) = some (Obj.deferred (some [])) := gZ.symm.trans hK
      cases this
    clear hF
    generalize mkU (fun _ => 0) = Y at *
    have hK2 := fun c' => (setRow_other W (w.heap.size + 1 + 1) D c' hDn).trans hK
    gi_wp2
    refine ⟨by simp, .inl ⟨_, _, rfl, run_takeDeferred (hK2 _), ?_⟩⟩
    refine ⟨.agg X, results_row1 (m := 64) rfl _ _ (w.heap.size + 1 + 1) _ rfl ?_ Tryd.underlying30 rfl (by kernel_rfl) gMs, rfl, ?_⟩
    · obtain ⟨t, ht⟩ := rowAt_some (rowAt_setRow_at W (w.heap.size + 1 + 1) X (by rw [gZr]; rfl))
      exact rowAt_of_heap ((World.putObj_heap_other (fun e => hDn e.symm)).trans ht)
    · exact (below_setRow hB1 (by omega) _).trans (belowK_b (w := w) (Nat.le_refl _) _ D _ _ (by omega) (hK2 _) rfl rfl)
  case stop =>
    rintro D c pre W _ _ h _
    exact h.elim
end Go.Proofs.YtppohghejhcilaaDoor
