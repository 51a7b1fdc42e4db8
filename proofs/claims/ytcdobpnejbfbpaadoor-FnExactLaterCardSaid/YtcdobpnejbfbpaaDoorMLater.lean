import Derived.Test.YtcdobpnejbfbpaaDoorAgeM
import Derived.IntWalk
import Derived.Test.YtcdobpnejbfbpaaDoorAgeW
import Derived.Test.YtcdobpnejbfbpaaDoorStill
import Derived.Test.YtcdobpnejbfbpaaDoorGive
import Derived.Test.YtcdobpnejbfbpaaDoorFstB
import Derived.Deep.RegionHeld3
import Derived.Test.YtcdobpnejbfbpaaDoorCards
import Derived.Test.YtcdobpnejbfbpaaDoorTie
import Derived.Test.YtcdobpnejbfbpaaDoorLaidN
import Derived.Test.YtcdobpnejbfbpaaDoorLaidA
import Derived.Test.YtcdobpnejbfbpaaDoorHelp
import Derived.Test.YtcdobpnejbfbpaaDoorBox
import Derived.Test.YtcdobpnejbfbpaaDoorSame
import Derived.Test.YtcdobpnejbfbpaaDoorOpen
import Derived.Test.YtcdobpnejbfbpaaDoorNums
import Derived.Test.YtcdobpnejbfbpaaDoorAge
import Derived.Deep.DeepCutAuto

/- Ages some years later: mathematics. -/
namespace Go.Proofs.YtcdobpnejbfbpaaDoor
open Go.RowKit

theorem mem_upto {h w : Nat} : ∀ {n : Nat}, n ≤ h * w → ∀ x ∈ plUpto h w n, ∃ k, k < n ∧ x.1 = (k / w, k % w)
  | 0, _, x, hx => by cases hx
  | n + 1, hn, x, hx => by
    rw [plUpto_next (by omega)] at hx
    rcases List.mem_append.1 hx with hx | hx
    · obtain ⟨k, hk, e⟩ := mem_upto (by omega) x hx
      exact ⟨k, by omega, e⟩
    · have e := List.mem_singleton.1 hx
      exact ⟨n, by omega, by rw [e]⟩
/-- The next place is none of those before it. -/
theorem fresh_upto {h w n : Nat} (w8 : w ≤ 8) (hn : n < h * w) : ¬ ∃ x ∈ plUpto h w n, ixP x = (n / w) * 8 + n % w := by
  rintro ⟨x, hx, e⟩
  obtain ⟨k, hk, ex⟩ := mem_upto (by omega) x hx
  have hw : 0 < w := Nat.pos_of_ne_zero fun e => by subst e; simp at hn
  have h1 := Nat.mod_lt k hw
  have h2 := Nat.mod_lt n hw
  unfold ixP at e
  rw [ex] at e
  simp only at e
  have h3 := Nat.div_add_mod k w
  have h4 := Nat.div_add_mod n w
  have h5 : k / w = n / w := by omega
  have h6 : k % w = n % w := by omega
  rw [h5, h6, h4] at h3
  omega
/-- What the program writes: it adds, place by place. -/
def addL (y : Int) (f : Nat → Int) {h w : Nat} (l : List (Pl h w)) : Nat → Int := l.foldl (fun f x => upd f (ixP x) (IntKind.u8.wrap (f (ixP x) + IntKind.u8.wrap y))) f
theorem addL_snoc {y : Int} {f : Nat → Int} {h w : Nat} {l : List (Pl h w)} {x : Pl h w} : addL y f (l ++ [x]) = upd (addL y f l) (ixP x) (IntKind.u8.wrap (addL y f l (ixP x) + IntKind.u8.wrap y)) := by
  unfold addL; rw [List.foldl_append]; rfl
theorem addL_upto {y : Int} {f : Nat → Int} {h w : Nat} (w8 : w ≤ 8) (hy : 0 ≤ y ∧ y ≤ 255) (hf : ∀ x : Pl h w, 0 ≤ f (ixP x) + y ∧ f (ixP x) + y ≤ 255) : ∀ n, n ≤ h * w → addL y f (plUpto h w n) = setL (fun i => f i + y) f (plUpto h w n)
  | 0, _ => rfl
  | n + 1, hn => by
    have hlt : n < h * w := by omega
    rw [plUpto_next hlt, addL_snoc, setL_snoc, addL_upto w8 hy hf n (by omega)]
    have hfr := fresh_upto w8 hlt
    have e : ixP (⟨(n / w, n % w), pl_in hlt⟩ : Pl h w) = (n / w) * 8 + n % w := rfl
    rw [← e] at hfr
    rw [setL_out _ _ hfr, IntWalk.u8_in y hy, IntWalk.u8_in _ (hf _)]
end Go.Proofs.YtcdobpnejbfbpaaDoor

/- later: ages some years later, the program's side. -/
namespace Go.Proofs.YtcdobpnejbfbpaaDoor
open Go.RowKit Go.Shelf
attribute [local go_sem] Oper.semAt_some

set_option maxRecDepth 100000 in
set_option maxHeartbeats 4000000 in
theorem later_any (d c : Array Value) (t : Nat → Int) (r : Rf) (y : Int) (hh ww : Nat) (hhe : r.h = hh) (hwe : r.w = ww) (h8 : hh ≤ 8) (w8 : ww ≤ 8) (w : World) (hA : IsU8 d 64 t) (hR : IsRoof c r) (X : Array Value) (hF : mkU (addL y t (plUpto hh ww (hh * ww))) = X) :
    Calls Tryd.prog 49 #[.agg d, .agg c, .int .i64 y] w fun e w' => e = .returned (.agg X) ∧ Below w.heap.size w w' := by
  have hc := hR.size
  have hd := hA.size
  have hz : (#[.int .u8 0, .int .u8 0, .int .u8 0, .int .u8 0, .int .u8 0, .int .u8 0, .int .u8 0, .int .u8 0, .int .u8 0, .int .u8 0, .int .u8 0, .int .u8 0, .int .u8 0, .int .u8 0, .int .u8 0, .int .u8 0, .int .u8 0, .int .u8 0, .int .u8 0, .int .u8 0, .int .u8 0, .int .u8 0, .int .u8 0, .int .u8 0, .int .u8 0, .int .u8 0, .int .u8 0, .int .u8 0, .int .u8 0, .int .u8 0, .int .u8 0, .int .u8 0, .int .u8 0, .int .u8 0, .int .u8 0, .int .u8 0, .int .u8 0, .int .u8 0, .int .u8 0, .int .u8 0, .int .u8 0, .int .u8 0, .int .u8 0, .int .u8 0, .int .u8 0, .int .u8 0, .int .u8 0, .int .u8 0, .int .u8 0, .int .u8 0, .int .u8 0, .int .u8 0, .int .u8 0, .int .u8 0, .int .u8 0, .int .u8 0, .int .u8 0, .int .u8 0, .int .u8 0, .int .u8 0, .int .u8 0, .int .u8 0, .int .u8 0, .int .u8 0] : Array Value) = mkU (fun _ => 0) := by kernel_rfl
  refine (callsIn_wide (n := 3)).1 ?_
  refine callsIn_of_wp_marks Tryd.func49 rfl trivial ?_ rfl
  simp only [Tryd.ntmps49, List.size_toArray, List.length_cons, List.length_nil, Nat.reduceAdd, Nat.reduceSub, Array.replicate_succ, Array.replicate_zero, List.push_toArray, List.append_toArray, List.nil_append, List.cons_append]
  gi_wp2_with (refine ⟨trivial, ?_⟩; gi_at_call 70; refine (callsIn_wide.2 (places_any c _)).mono ?_; rintro e w' ⟨rfl, rfl⟩)
  try rw [hz]
  obtain ⟨W0, hW0⟩ : ∃ W0, (((((w.alloc (.cells d 27)).alloc (.cells c 30)).alloc (.cells #[.int .i64 y] 2)).alloc (.cells (mkU (fun _ => 0)) 27)).alloc (.cells c 30)) = W0 := ⟨_, rfl⟩
  have hsz : W0.heap.size = w.heap.size + 5 := by rw [← hW0]; simp
  have rF : RowT W0 (w.heap.size) 27 d := by
    have := ((((RowT.new w 27 d).alloc (.cells c 30)).alloc (.cells #[.int .i64 y] 2)).alloc (.cells (mkU (fun _ => 0)) 27)).alloc (.cells c 30)
    rw [hW0] at this; simpa using this
  have rA : RowT W0 (w.heap.size + 1) 30 c := by
    have := (((RowT.new (w.alloc (.cells d 27)) 30 c).alloc (.cells #[.int .i64 y] 2)).alloc (.cells (mkU (fun _ => 0)) 27)).alloc (.cells c 30)
    rw [hW0] at this; simpa using this
  have rY : RowT W0 (w.heap.size + 1 + 1) 2 #[.int .i64 y] := by
    have := ((RowT.new ((w.alloc (.cells d 27)).alloc (.cells c 30)) 2 #[.int .i64 y]).alloc (.cells (mkU (fun _ => 0)) 27)).alloc (.cells c 30)
    rw [hW0] at this; simpa using this
  have rZ : RowT W0 (w.heap.size + 1 + 1 + 1) 27 (mkU (fun _ => 0)) := by
    have := (RowT.new (((w.alloc (.cells d 27)).alloc (.cells c 30)).alloc (.cells #[.int .i64 y] 2)) 27 (mkU (fun _ => 0))).alloc (.cells c 30)
    rw [hW0] at this; simpa using this
  have rD : RowT W0 (w.heap.size + 1 + 1 + 1 + 1) 30 c := by
    have := RowT.new ((((w.alloc (.cells d 27)).alloc (.cells c 30)).alloc (.cells #[.int .i64 y] 2)).alloc (.cells (mkU (fun _ => 0)) 27)) 30 c
    rw [hW0] at this; simpa using this
  have hB0 : Below w.heap.size w W0 := by rw [← hW0]; exact (((((Below.refl _ w).alloc (Nat.le_refl _) _).alloc (by simp) _).alloc (by simp <;> omega) _).alloc (by simp <;> omega) _).alloc (by simp <;> omega) _
  rw [hW0]
  clear hW0 hz
  rw [hA.eqU] at rF
  refine wpIn_rangeFunc_ownH rfl (by omega) (gf := 85) (lb := #[.pointer (some ⟨w.heap.size + 1 + 1 + 1 + 1, 0, none⟩)]) rfl trivial (enters_of Tryd.func85 (by kernel_rfl) rfl)
    (places_stops 2 (by omega) (w.heap.size + 1 + 1 + 1 + 1) w.heap.size c r hh ww hhe hwe h8 w8 hR W0 rD.row) KpR.trans (KpR.put (by omega) (by omega)) (Below.refl _ _) (fun _ => rfl)
    (fun pre W => (RowT W (w.heap.size) 27 (mkU (addL y t pre)) ∧ RowT W (w.heap.size + 1) 30 c ∧ RowT W (w.heap.size + 1 + 1) 2 #[.int .i64 y] ∧ RowT W (w.heap.size + 1 + 1 + 1) 27 (mkU (fun _ => 0)) ∧ RowT W (w.heap.size + 1 + 1 + 1 + 1) 30 c) ∧ Below w.heap.size w W)
    (fun _ _ _ => False)
    (OwnFrom.and (OwnFrom.and (Own.from (RowT.own _ _ (fun pre => mkU (addL y t pre))) _) (OwnFrom.and (Own.from (RowT.own _ _ _) _) (OwnFrom.and (Own.from (RowT.own _ _ _) _) (OwnFrom.and (Own.from (RowT.own _ _ _) _) (Own.from (RowT.own _ _ _) _))))) (ownFrom_below (Nat.le_refl _) (by omega)))
    (fun _ _ _ _ _ hs _ _ => hs)
    ⟨⟨rF, rA, rY, rZ, rD⟩, hB0⟩
    (fun x a' W => ∃ Bx, w.heap.size + 1 + 1 + 1 + 1 < Bx ∧ RowT W Bx 36 #[.int .i8 (x.1.1 : Int), .int .i8 (x.1.2 : Int)] ∧ a' = { tmps := #[.agg d, .agg c, .int .i64 y, .pointer (some ⟨w.heap.size, 0, none⟩), .pointer (some ⟨w.heap.size + 1, 0, none⟩), .pointer (some ⟨w.heap.size + 1 + 1, 0, none⟩), .pointer (some ⟨w.heap.size + 1 + 1 + 1, 0, none⟩), .pointer (some ⟨Bx, 0, none⟩), .agg c, .func (.func 85) #[] #[.pointer (some ⟨w.heap.size + 1 + 1 + 1 + 1, 0, none⟩)], x.enc, undef, undef, undef, undef, undef, undef, undef, undef, undef, undef, undef, undef, undef], defers := [] })
    (fun x a' _ X Y row hs hg hr => by obtain ⟨Bx, h1, h2, h3⟩ := hs; exact ⟨Bx, h1, RowT.own Bx 36 (fun (_ : Unit) => #[Value.int .i8 (x.1.1 : Int), .int .i8 (x.1.2 : Int)]) () X Y row h2 hg (fun r e => (hr r e).2), h3⟩)
    ?assign ?body ?done ?stop
  case assign =>
    rintro l pre x W K ⟨⟨gF, gA, gY, gZ, gD⟩, hB1⟩ hK
    dsimp only [Pl.enc]
    gi_wp2
    refine hK _ _ ((KeepsOthers.alloc _ _).from _) ⟨(Below.refl _ W).alloc hB1.size _, fun c' h => (rowAt_alloc_past _ _ _ (rowAt_lt h)).trans h⟩ ⟨⟨gF.alloc _, gA.alloc _, gY.alloc _, gZ.alloc _, gD.alloc _⟩, hB1.alloc hB1.size _⟩ ⟨W.heap.size, gD.lt, RowT.new W 36 _, rfl⟩
  case body =>
    rintro l pre x a' W hl ⟨rr, hrr⟩ ⟨⟨gF, gA, gY, gZ, gD⟩, hB1⟩ ⟨Bx, hBx, gX, rfl⟩ hlt
    have xh := x.2.1
    have xw := x.2.2
    have x8 : x.1.1 < 8 := by omega
    have y8 : x.1.2 < 8 := by omega
    have kx0 := cell_of_rowAt gX.row 0
    have kx1 := cell_of_rowAt gX.row 1
    have ky := cell_of_rowAt gY.row 0
    simp at kx0 kx1 ky
    obtain ⟨q, hq⟩ : ∃ q, addL y t pre = q := ⟨_, rfl⟩
    rw [hq] at gF
    have hi64 : x.1.1 * 8 + x.1.2 < 64 := by omega
    have cm : W.cell? ⟨w.heap.size, x.1.1 * 8 + x.1.2, none⟩ = some (.int .u8 (q (x.1.1 * 8 + x.1.2))) := (cell_of_rowAt gF.row _).trans ((isK_mkI .u8 64 q).get hi64)
    have fm := frozen_of_rowAt gF.row (x.1.1 * 8 + x.1.2)
    have xi0 : 0 ≤ (x.1.1 : Int) := by omega
    have xi1 : (x.1.1 : Int) < 8 := by omega
    have yi0 : 0 ≤ (x.1.2 : Int) := by omega
    have yi1 : (x.1.2 : Int) < 8 := by omega
    have n1 : w.heap.size + 1 ≠ w.heap.size := by omega
    have n2 : w.heap.size + 1 + 1 ≠ w.heap.size := by omega
    have n3 : w.heap.size + 1 + 1 + 1 ≠ w.heap.size := by omega
    have n4 : w.heap.size + 1 + 1 + 1 + 1 ≠ w.heap.size := by omega
    have hsn : Hid (addL y t (pre ++ [x]) = upd q (x.1.1 * 8 + x.1.2) (IntKind.u8.wrap (q (x.1.1 * 8 + x.1.2) + IntKind.u8.wrap y))) := Lib.hid (by rw [addL_snoc, hq]; rfl)
    clear hq
    obtain ⟨y8', hy8⟩ : ∃ z, IntKind.u8.wrap y = z := ⟨_, rfl⟩
    obtain ⟨s8, hs8⟩ : ∃ z, IntKind.u8.wrap (q (x.1.1 * 8 + x.1.2) + y8') = z := ⟨_, rfl⟩
    rw [hy8, hs8] at hsn
    gi_wp2
    refine wpIn_still_tail 12 (by kernel_rfl) (by kernel_rfl) (by kernel_rfl) ?_
    simp only [List.take_succ_cons, List.take_zero, List.drop_succ_cons, List.drop_zero]
    repeat still_step
    try refine wpStill_nil ?_
    repeat go_step
    dsimp only [OnlyN]
    gi_wp2
    refine ⟨((KeepsOthers.setCell W _ _).trans (KeepsOthers.drew _)).from _, ⟨((Below.refl _ W).setCell (p := ⟨_, _, none⟩) (by simp <;> omega) _).drew, fun c' h' => (rowAt_setCell_ne _ _ _ _ _ n4).trans h'⟩, ⟨?_, (gA.other n1 _).drew, (gY.other n2 _).drew, (gZ.other n3 _).drew, (gD.other n4 _).drew⟩, (hB1.setCell (p := ⟨_, _, none⟩) (by simp <;> omega) _).drew⟩
    rw [hsn.out, ← mkU_set]
    exact (gF.set _).drew
  case done =>
    rintro D ys W hD rfl ⟨⟨gF, gA, gY, gZ, gD⟩, hB1⟩ hK
    rw [hF] at gF
    have gMr := gF.row
    have gMs : X.size = 64 := by rw [← hF]; exact size_mkU _
    have gZr := gZ.row
    have gZs : (mkU (fun _ => 0)).size = 64 := size_mkU _
    have gMo : Ones X := by rw [← hF]; exact (isK_mkI _ _ _).ones
    have hDn : D ≠ w.heap.size + 1 + 1 + 1 := fun h => by
      rw [h] at hK
      have : some (Obj.cells (mkU (fun _ => 0)) 27) = some (Obj.deferred (some [])) := gZ.symm.trans hK
      cases this
    clear hF
    generalize mkU (fun _ => 0) = Y at *
    have hK2 := fun c' => (setRow_other W (w.heap.size + 1 + 1 + 1) D c' hDn).trans hK
    gi_wp2
    refine ⟨by simp, .inl ⟨_, _, rfl, run_takeDeferred (hK2 _), ?_⟩⟩
    refine ⟨.agg X, results_row1 (m := 64) rfl _ _ (w.heap.size + 1 + 1 + 1) _ rfl ?_ Tryd.underlying27 rfl (by kernel_rfl) gMs, rfl, ?_⟩
    · obtain ⟨t, ht⟩ := rowAt_some (rowAt_setRow_at W (w.heap.size + 1 + 1 + 1) X (by rw [gZr]; rfl))
      exact rowAt_of_heap ((World.putObj_heap_other (fun e => hDn e.symm)).trans ht)
    · exact (below_setRow hB1 (by omega) _).trans (belowK_b (w := w) (Nat.le_refl _) _ D _ _ (by omega) (hK2 _) rfl rfl)
  case stop =>
    rintro D c pre W _ _ h _
    exact h.elim
end Go.Proofs.YtcdobpnejbfbpaaDoor

/- Later: both sides. -/
namespace Go.Proofs.YtcdobpnejbfbpaaDoor
open Go.RowKit

theorem Rf.ageC_z {r : Rf} {t : Nat → Int} {b : Bool} (h : r.ageC t b = 0) : r.Aged t ∧ b = true := by
  rcases Classical.em (r.Aged t) with ha | ha
  · cases b with
    | true => exact ⟨ha, rfl⟩
    | false => rw [Rf.ageC_r ha rfl] at h; cases h
  · rw [Rf.ageC_v ha] at h; cases h
noncomputable def Rf.latC (r : Rf) (t : Nat → Int) (y : Int) : Int := if r.ageC t (inB y 0 100) = 0 then (if 100 < r.oldV t + y then 3 else 0) else r.ageC t (inB y 0 100)
noncomputable def Rf.latA (r : Rf) (t : Nat → Int) (y : Int) : Array Value := if r.latC t y = 0 then mkU (setL (fun i => t i + y) t (plUpto r.h.toNat r.w.toNat (r.h.toNat * r.w.toNat))) else mkU (fun _ => 0)
theorem Rf.latA_size {r : Rf} {t : Nat → Int} {y : Int} : (r.latA t y).size = 64 := by
  unfold Rf.latA; split <;> exact size_mkU _
theorem Rf.latA_ones {r : Rf} {t : Nat → Int} {y : Int} : Ones (r.latA t y) := by
  unfold Rf.latA; split <;> exact (isK_mkI _ _ _).ones
theorem Rf.latA_at {r : Rf} {t : Nat → Int} {y : Int} {hh ww : Nat} (hhe : r.h = hh) (hwe : r.w = ww) (h : r.latC t y = 0) : r.latA t y = mkU (setL (fun i => t i + y) t (plUpto hh ww (hh * ww))) := by
  obtain rfl : hh = r.h.toNat := by omega
  obtain rfl : ww = r.w.toNat := by omega
  exact if_pos h
theorem setL_next {v f : Nat → Int} {h w n : Nat} (hn : n < h * w) : setL v f (plUpto h w (n + 1)) = upd (setL v f (plUpto h w n)) (n / w * 8 + n % w) (v (n / w * 8 + n % w)) := by
  rw [plUpto_next hn, setL_snoc]; rfl
theorem all_next {P : Nat → Prop} {h w n : Nat} (hn : n < h * w) (h1 : ∀ x ∈ plUpto h w n, P (ixP x)) (h2 : P (n / w * 8 + n % w)) : ∀ x ∈ plUpto h w (n + 1), P (ixP x) := by
  intro x hx
  rw [plUpto_next hn] at hx
  rcases List.mem_append.1 hx with hx | hx
  · exact h1 x hx
  · rw [List.mem_singleton.1 hx]; exact h2
theorem oldV_max {r : Rf} {t : Nat → Int} {hh ww : Nat} (hhe : r.h = hh) (hwe : r.w = ww) (w8 : ww ≤ 8) {i j : Nat} (hi : i < hh) (hj : j < ww) : t (i * 8 + j) ≤ r.oldV t := by
  obtain rfl : hh = r.h.toNat := by omega
  obtain rfl : ww = r.w.toNat := by omega
  obtain ⟨x, hx, e⟩ := (ix_all (h := r.h.toNat) (w := r.w.toNat) (i := i * 8 + j) w8).2 ⟨by omega, by omega⟩
  have := oldP_max (t := t) _ x hx
  rw [e] at this
  exact this
theorem oldV_all {r : Rf} {t : Nat → Int} {y : Int} {hh ww : Nat} (hhe : r.h = hh) (hwe : r.w = ww) (w8 : ww ≤ 8) (h0 : 0 < hh) (w0 : 0 < ww) (h : ∀ x ∈ plUpto hh ww (hh * ww), t (ixP x) + y ≤ 100) : ¬ 100 < r.oldV t + y := by
  obtain rfl : hh = r.h.toNat := by omega
  obtain rfl : ww = r.w.toNat := by omega
  have hin := oldP_in (t := t) h0 w0 (plUpto r.h.toNat r.w.toNat (r.h.toNat * r.w.toNat))
  obtain ⟨x, hx, e⟩ := (ix_all (h := r.h.toNat) (w := r.w.toNat) (i := (r.oldAt t).1 * 8 + (r.oldAt t).2) w8).2 (by unfold Rf.oldAt; exact ⟨by omega, by omega⟩)
  have := h x hx
  rw [e] at this
  unfold Rf.oldV
  omega

set_option maxRecDepth 100000 in
set_option maxHeartbeats 4000000 in
theorem specLater_any (c d : Array Value) (r : Rf) (t : Nat → Int) (y : Int) (w : World) (hR : IsRoof c r) (hA : IsU8 d 64 t) (X : Array Value) (hX : r.latA t y = X) :
    Calls Tryd.prog 11 #[.agg c, .agg d, .int .i64 y] w fun e w' => e = .returned (.tuple #[.agg X, .int .i64 (r.latC t y)]) ∧ Below w.heap.size w w' := by
  have hc := hR.size
  have hd := hA.size
  have hXs : X.size = 64 := by rw [← hX]; exact Rf.latA_size
  have hXo : Ones X := by rw [← hX]; exact Rf.latA_ones
  have hz : (#[.int .u8 0, .int .u8 0, .int .u8 0, .int .u8 0, .int .u8 0, .int .u8 0, .int .u8 0, .int .u8 0, .int .u8 0, .int .u8 0, .int .u8 0, .int .u8 0, .int .u8 0, .int .u8 0, .int .u8 0, .int .u8 0, .int .u8 0, .int .u8 0, .int .u8 0, .int .u8 0, .int .u8 0, .int .u8 0, .int .u8 0, .int .u8 0, .int .u8 0, .int .u8 0, .int .u8 0, .int .u8 0, .int .u8 0, .int .u8 0, .int .u8 0, .int .u8 0, .int .u8 0, .int .u8 0, .int .u8 0, .int .u8 0, .int .u8 0, .int .u8 0, .int .u8 0, .int .u8 0, .int .u8 0, .int .u8 0, .int .u8 0, .int .u8 0, .int .u8 0, .int .u8 0, .int .u8 0, .int .u8 0, .int .u8 0, .int .u8 0, .int .u8 0, .int .u8 0, .int .u8 0, .int .u8 0, .int .u8 0, .int .u8 0, .int .u8 0, .int .u8 0, .int .u8 0, .int .u8 0, .int .u8 0, .int .u8 0, .int .u8 0, .int .u8 0] : Array Value) = mkU (fun _ => 0) := by kernel_rfl
  have hzo : Ones (#[.int .u8 0, .int .u8 0, .int .u8 0, .int .u8 0, .int .u8 0, .int .u8 0, .int .u8 0, .int .u8 0, .int .u8 0, .int .u8 0, .int .u8 0, .int .u8 0, .int .u8 0, .int .u8 0, .int .u8 0, .int .u8 0, .int .u8 0, .int .u8 0, .int .u8 0, .int .u8 0, .int .u8 0, .int .u8 0, .int .u8 0, .int .u8 0, .int .u8 0, .int .u8 0, .int .u8 0, .int .u8 0, .int .u8 0, .int .u8 0, .int .u8 0, .int .u8 0, .int .u8 0, .int .u8 0, .int .u8 0, .int .u8 0, .int .u8 0, .int .u8 0, .int .u8 0, .int .u8 0, .int .u8 0, .int .u8 0, .int .u8 0, .int .u8 0, .int .u8 0, .int .u8 0, .int .u8 0, .int .u8 0, .int .u8 0, .int .u8 0, .int .u8 0, .int .u8 0, .int .u8 0, .int .u8 0, .int .u8 0, .int .u8 0, .int .u8 0, .int .u8 0, .int .u8 0, .int .u8 0, .int .u8 0, .int .u8 0, .int .u8 0, .int .u8 0] : Array Value) := by rw [hz]; exact (isK_mkI _ _ _).ones
  have HZ := Lib.hid hz
  clear hz
  have CA := fun W h0 h1 => l07Asked_any w.heap.size (w.heap.size + 1) c d r t (inB y 0 100) W h0 hR h1 hA
  have CL := fun W => l00In_any y 0 100 W
  by_cases hz0 : r.ageC t (inB y 0 100) = 0
  · obtain ⟨ha, hf⟩ := Rf.ageC_z hz0
    have yb : 0 ≤ y ∧ y ≤ 100 := by simpa [inB] using hf
    have ho := ha.1
    obtain ⟨ww, hwe⟩ := Int.eq_ofNat_of_zero_le (show 0 ≤ r.w by have := ho.1; omega)
    obtain ⟨hh, hhe⟩ := Int.eq_ofNat_of_zero_le (show 0 ≤ r.h by have := ho.2.2.1; omega)
    have w8 : ww ≤ 8 := by have := ho.2.1; omega
    have h8 : hh ≤ 8 := by have := ho.2.2.2.1; omega
    have w0 : 0 < ww := by have := ho.1; omega
    have h0 : 0 < hh := by have := ho.2.2.1; omega
    have hzb : (r.ageC t (inB y 0 100) != 0) = false := by simp [hz0]
    have hlc : r.latC t y = if 100 < r.oldV t + y then 3 else 0 := if_pos hz0
    have H3 := Lib.hid (show 100 < r.oldV t + y → r.latC t y = 3 ∧ (#[.int .u8 0, .int .u8 0, .int .u8 0, .int .u8 0, .int .u8 0, .int .u8 0, .int .u8 0, .int .u8 0, .int .u8 0, .int .u8 0, .int .u8 0, .int .u8 0, .int .u8 0, .int .u8 0, .int .u8 0, .int .u8 0, .int .u8 0, .int .u8 0, .int .u8 0, .int .u8 0, .int .u8 0, .int .u8 0, .int .u8 0, .int .u8 0, .int .u8 0, .int .u8 0, .int .u8 0, .int .u8 0, .int .u8 0, .int .u8 0, .int .u8 0, .int .u8 0, .int .u8 0, .int .u8 0, .int .u8 0, .int .u8 0, .int .u8 0, .int .u8 0, .int .u8 0, .int .u8 0, .int .u8 0, .int .u8 0, .int .u8 0, .int .u8 0, .int .u8 0, .int .u8 0, .int .u8 0, .int .u8 0, .int .u8 0, .int .u8 0, .int .u8 0, .int .u8 0, .int .u8 0, .int .u8 0, .int .u8 0, .int .u8 0, .int .u8 0, .int .u8 0, .int .u8 0, .int .u8 0, .int .u8 0, .int .u8 0, .int .u8 0, .int .u8 0] : Array Value) = X by
      intro h
      have e : r.latC t y = 3 := by rw [hlc, if_pos h]
      exact ⟨e, by rw [HZ.out, ← hX]; exact (if_neg (by rw [e]; decide)).symm⟩)
    have H0 := Lib.hid (show ¬ 100 < r.oldV t + y → r.latC t y = 0 ∧ mkU (setL (fun i => t i + y) t (plUpto hh ww (hh * ww))) = X by
      intro h
      have e : r.latC t y = 0 := by rw [hlc, if_neg h]
      exact ⟨e, by rw [← hX]; exact (Rf.latA_at hhe hwe e).symm⟩)
    have HMX := Lib.hid (show ∀ i j, i < hh → j < ww → t (i * 8 + j) ≤ r.oldV t from fun i j hi hj => oldV_max hhe hwe w8 hi hj)
    have HAL := Lib.hid (show (∀ x ∈ plUpto hh ww (hh * ww), t (ixP x) + y ≤ 100) → ¬ 100 < r.oldV t + y from oldV_all hhe hwe w8 h0 w0)
    have HDU := Lib.hid hA.eqU
    have HB := Lib.hid (show ∀ i, i < 64 → 0 ≤ t i ∧ t i ≤ 255 from fun i hi => ⟨hA.lo i hi, by have := hA.hi i hi; omega⟩)
    generalize r.ageC t (inB y 0 100) = k at *
    generalize inB y 0 100 = fb at *
    generalize r.latC t y = lc at *
    generalize r.oldV t = ov at *
    clear hX hlc hz0 hf ha
    go_enter Tryd.func11, Tryd.ntmps11
    go_wp2_with fail
    refine (CL _).mono ?_
    rintro e w1 ⟨rfl, rfl⟩
    go_wp2_with fail
    refine gen_callsW fun W hW => ?_
    have p0 : rowAt W w.heap.size = some c := by rw [hW]; exact (rowAt_alloc_past _ _ _ (by first | (simp; done) | (simp; omega) | omega)).trans ((rowAt_alloc_past _ _ _ (by first | (simp; done) | (simp; omega) | omega)).trans (rowAt_alloc_at _ _ _ _ (by first | rfl | simp | omega)))
    have p1 : rowAt W (w.heap.size + 1) = some d := by rw [hW]; exact (rowAt_alloc_past _ _ _ (by first | (simp; done) | (simp; omega) | omega)).trans (rowAt_alloc_at _ _ _ _ (by first | rfl | simp | omega))
    have p2 : rowAt W (w.heap.size + 1 + 1) = some (mkU (fun _ => 0)) := by rw [hW, ← HZ.out]; exact rowAt_alloc_at _ _ _ _ (by first | rfl | simp | omega)
    have pB : Below w.heap.size w W := by rw [hW]; exact (((Below.refl _ _).alloc (Nat.le_refl _) _).alloc (by first | (simp; done) | (simp; omega) | omega) _).alloc (by first | (simp; done) | (simp; omega) | omega) _
    clear hW
    refine (CA _ p0 p1).mono ?_
    rintro e w1 ⟨rfl, b1⟩
    have q0 := brow b1 p0
    have q1 := brow b1 p1
    have q2 := brow b1 p2
    have B1 := bnext pB b1 pB.size
    clear b1 p0 p1 p2 pB CA CL
    go_wp2_with fail
    refine (l01All_any w.heap.size c r hh ww hhe hwe h8 w8 _ q0 hR).mono ?_
    rintro e w2 ⟨va, rfl, la, b2⟩
    have r1 := brow b2 q1
    have r2 := brow b2 q2
    have B2 := bnext B1 b2 B1.size
    have l2 := rowAt_lt q2
    rw [plUpto_size (Nat.le_refl _)] at la
    obtain ⟨aa, cap, rfl⟩ := la.shape
    have hpos : 0 < hh * ww := Nat.mul_pos h0 w0
    obtain ⟨h1, _⟩ | ⟨g, cap', cur, e1, hg, hgr, hgs, hgf⟩ := la
    · omega
    cases e1
    have HGF := Lib.hid hgf
    rw [HDU.out] at r1
    clear b2 q0 q1 q2 B1 hgs hgf
    have g1 : w.heap.size + 1 ≠ g := by omega
    have g2 : w.heap.size + 1 + 1 ≠ w.heap.size + 1 := by omega
    have hsz : hh * ww ≤ 64 := Nat.mul_le_mul h8 w8
    obtain ⟨N, hN⟩ : ∃ N, N = hh * ww := ⟨_, rfl⟩
    have HN := Lib.hid hN
    rw [← hN] at hpos hsz ⊢
    clear hN
    go_wp2_with fail
    go_loopw [10] (fun i W => ∃ m : Nat, m ≤ N ∧ i = .int .i64 m ∧ Hid (∀ x ∈ plUpto hh ww m, t (ixP x) + y ≤ 100) ∧ rowAt W (w.heap.size + 1) = some (mkU (setL (fun i => t i + y) t (plUpto hh ww m))) ∧ rowAt W (w.heap.size + 1 + 1) = some (mkU (fun _ => 0)) ∧ rowAt W g = some cur ∧ Below w.heap.size w W) (fun i _ => N - (intOf i).toNat)
    case atStart => exact ⟨0, by omega, rfl, Lib.hid (fun x hx => by cases hx), r1, r2, hgr, B2⟩
    case round =>
      clear r1 r2 hgr B2
      obtain ⟨m, hm, rfl, hal, r1, r2, hgr, B2⟩ := hrel
      have m0 : 0 ≤ (m : Int) := by omega
      by_cases hlt : m < N
      · have hp := pl_in (show m < hh * ww by rw [← HN.out]; exact hlt)
        have i8 : m / ww < 8 := by omega
        have j8 : m % ww < 8 := by omega
        have hnx := Lib.hid (setL_next (v := fun i => t i + y) (f := t) (h := hh) (w := ww) (n := m) (by rw [← HN.out]; exact hlt))
        have hal2 := Lib.hid (fun h2 => all_next (P := fun q => t q + y ≤ 100) (h := hh) (w := ww) (n := m) (by rw [← HN.out]; exact hlt) hal.out h2)
        have hfr := Lib.hid (fresh_upto (h := hh) (w := ww) (n := m) w8 (by rw [← HN.out]; exact hlt))
        have c0 : wr.cell? ⟨g, m * 2, none⟩ = some (.int .i8 ((m / ww : Nat) : Int)) := (cell_of_rowAt hgr _).trans ((HGF.out _ (by rw [← HN.out]; omega)).trans (congrArg (fun z => some (Value.int .i8 z)) (plAt_even (Nat.le_refl _) (by rw [← HN.out]; exact hlt))))
        have c1 : wr.cell? ⟨g, m * 2 + 1, none⟩ = some (.int .i8 ((m % ww : Nat) : Int)) := (cell_of_rowAt hgr _).trans ((HGF.out _ (by rw [← HN.out]; omega)).trans (congrArg (fun z => some (Value.int .i8 z)) (plAt_odd (Nat.le_refl _) (by rw [← HN.out]; exact hlt))))
        have m1 : (m : Int) < N := by omega
        have lgg : g < wr.heap.size := rowAt_lt hgr
        have HP := Lib.hid hp
        clear hp
        generalize hi : m / ww = i at *
        generalize hj : m % ww = j at *
        have HI := Lib.hid hi
        have HJ := Lib.hid hj
        clear hi hj
        have hi64 : i * 8 + j < 64 := by omega
        obtain ⟨t0, t1⟩ := HB.out _ hi64
        obtain ⟨f, hf⟩ : ∃ f, setL (fun i => t i + y) t (plUpto hh ww m) = f := ⟨_, rfl⟩
        have hfe : f (i * 8 + j) = t (i * 8 + j) := by rw [← hf]; exact setL_out _ _ hfr.out
        have HF := Lib.hid hf
        rw [hf] at r1
        have HA' : IsU8 (mkU f) 64 f := isU8_mkU fun q hq => by
          rw [← hf]
          by_cases hx : ∃ x ∈ plUpto hh ww m, ixP x = q
          · rw [setL_in _ _ hx]
            obtain ⟨x, hx, rfl⟩ := hx
            have h1 := hal.out x hx
            have h2 := HB.out _ hq
            (try dsimp only)
            omega
          · rw [setL_out _ _ hx]; exact HB.out _ hq
        clear hf
        have i0 : (0 : Int) ≤ i := by omega
        have i1 : (i : Int) < 8 := by omega
        have j0 : (0 : Int) ≤ j := by omega
        have j1 : (j : Int) < 8 := by omega
        go_wp2_with fail
        refine (l07Age_any (w.heap.size + 1) (mkU f) f i j _ r1 HA' i8 j8).mono ?_
        rintro e w3 ⟨rfl, b3⟩
        rw [hfe]
        have s1 := brow b3 r1
        have s2 := brow b3 r2
        have sg := brow b3 hgr
        have B3 := bnext B2 b3 B2.size
        have d0 : w3.cell? ⟨g, m * 2, none⟩ = some (.int .i8 (i : Int)) := (b3.cell (p := ⟨g, m * 2, none⟩) lgg).trans c0
        have d1 : w3.cell? ⟨g, m * 2 + 1, none⟩ = some (.int .i8 (j : Int)) := (b3.cell (p := ⟨g, m * 2 + 1, none⟩) lgg).trans c1
        have lg3 : g < w3.heap.size := rowAt_lt sg
        clear b3 r1 r2 hgr B2 c0 c1 lgg
        by_cases hx : 100 < t (i * 8 + j) + y
        · have hov : 100 < ov + y := by have := HMX.out i j HP.out.1 HP.out.2; omega
          obtain ⟨rfl, hFZ⟩ := H3.out hov
          have HFZ := Lib.hid hFZ
          have e64 : IntKind.i64.wrap (t (i * 8 + j) + y) = t (i * 8 + j) + y := IntWalk.i64_in _ (by omega)
          clear hFZ
          have zs : (mkU (fun _ => 0)).size = 64 := size_mkU _
          go_wp2_with fail
          refine bodyPost_ret (v := .tuple #[.agg X, .int .i64 3]) (results_row2 (m := 64) rfl _ _ (w.heap.size + 1 + 1) _ _ rfl rfl (by rw [← HFZ.out]; exact rowAt_setRow_at _ _ _ (Option.isSome_iff_exists.2 ⟨_, s2⟩)) Tryd.underlying27 rfl (by kernel_rfl) hXs) rfl ⟨rfl, ?_⟩
          exact below_setRow B3 (by omega) _
        · obtain ⟨v, hv⟩ : ∃ v, v = t (i * 8 + j) + y := ⟨_, rfl⟩
          have v0 : 0 ≤ v := by omega
          have v1 : v ≤ 255 := by omega
          have v2 : v ≤ 100 := by omega
          have e8 : IntKind.u8.wrap v = v := IntWalk.u8_in _ ⟨v0, v1⟩
          have e64 : IntKind.i64.wrap (t (i * 8 + j) + y) = v := by rw [← hv]; exact IntWalk.i64_in _ (by omega)
          have HV := Lib.hid hv
          have cm : w3.cell? ⟨w.heap.size + 1, i * 8 + j, none⟩ = some (.int .u8 (f (i * 8 + j))) := (cell_of_rowAt s1 _).trans ((isK_mkI .u8 64 f).get hi64)
          have fm := frozen_of_rowAt s1 (i * 8 + j)
          have hxb : decide (100 < v) = false := by simp; omega
          clear hv hx
          go_wp2_with fail
          go_still_tail 14, (by kernel_rfl)
          change wpList _ _ _ _ _ w3.drew
          repeat go_step
          refine ⟨⟨m + 1, by omega, by go_num, Lib.hid (hal2.out (by rw [← HV.out]; exact v2)), ?_, (rowAt_setCell_ne w3 _ _ _ _ g2).trans s2, (rowAt_setCell_ne w3 _ _ _ _ (fun e => g1 e.symm)).trans sg, (B3.setCell (p := ⟨w.heap.size + 1, i * 8 + j, none⟩) (by simp) _).drew⟩, by simp [intOf]; omega⟩
          have := rowAt_setCell_at w3 (w.heap.size + 1) (i * 8 + j) (.int .u8 v) (by rw [s1]; rfl)
          rw [s1, Option.getD_some, mkU_set] at this
          rw [hnx.out, HF.out, ← HV.out]
          exact this
      · obtain rfl : m = N := by omega
        have hal' : ∀ x ∈ plUpto hh ww (hh * ww), t (ixP x) + y ≤ 100 := by rw [← HN.out]; exact hal.out
        obtain ⟨rfl, hFX⟩ := H0.out (HAL.out hal')
        have r3 : rowAt wr (w.heap.size + 1) = some X := by rw [r1, ← hFX, ← HN.out]
        have zs : (mkU (fun _ => 0)).size = 64 := size_mkU _
        clear r1 hal hal' hFX
        go_wp2_with fail
        refine bodyPost_ret (v := .tuple #[.agg X, .int .i64 0]) (results_row2 (m := 64) rfl _ _ (w.heap.size + 1 + 1) _ _ rfl rfl (rowAt_setRow_at _ _ _ (Option.isSome_iff_exists.2 ⟨_, r2⟩)) Tryd.underlying27 rfl (by kernel_rfl) hXs) rfl ⟨rfl, ?_⟩
        exact below_setRow B2 (by omega) _
  · have hcd : r.latC t y = r.ageC t (inB y 0 100) := if_neg hz0
    have HFZ := Lib.hid (show (#[.int .u8 0, .int .u8 0, .int .u8 0, .int .u8 0, .int .u8 0, .int .u8 0, .int .u8 0, .int .u8 0, .int .u8 0, .int .u8 0, .int .u8 0, .int .u8 0, .int .u8 0, .int .u8 0, .int .u8 0, .int .u8 0, .int .u8 0, .int .u8 0, .int .u8 0, .int .u8 0, .int .u8 0, .int .u8 0, .int .u8 0, .int .u8 0, .int .u8 0, .int .u8 0, .int .u8 0, .int .u8 0, .int .u8 0, .int .u8 0, .int .u8 0, .int .u8 0, .int .u8 0, .int .u8 0, .int .u8 0, .int .u8 0, .int .u8 0, .int .u8 0, .int .u8 0, .int .u8 0, .int .u8 0, .int .u8 0, .int .u8 0, .int .u8 0, .int .u8 0, .int .u8 0, .int .u8 0, .int .u8 0, .int .u8 0, .int .u8 0, .int .u8 0, .int .u8 0, .int .u8 0, .int .u8 0, .int .u8 0, .int .u8 0, .int .u8 0, .int .u8 0, .int .u8 0, .int .u8 0, .int .u8 0, .int .u8 0, .int .u8 0, .int .u8 0] : Array Value) = X by rw [HZ.out, ← hX]; exact (if_neg (by rw [hcd]; exact hz0)).symm)
    have hzb : (r.ageC t (inB y 0 100) != 0) = true := by simp [hz0]
    rw [hcd]
    generalize r.ageC t (inB y 0 100) = k at *
    generalize inB y 0 100 = fb at *
    clear hcd hz0 hX
    go_enter Tryd.func11, Tryd.ntmps11
    go_wp2_with fail
    refine (CL _).mono ?_
    rintro e w1 ⟨rfl, rfl⟩
    go_wp2_with fail
    refine gen_callsW fun W hW => ?_
    have p0 : rowAt W w.heap.size = some c := by rw [hW]; exact (rowAt_alloc_past _ _ _ (by first | (simp; done) | (simp; omega) | omega)).trans ((rowAt_alloc_past _ _ _ (by first | (simp; done) | (simp; omega) | omega)).trans (rowAt_alloc_at _ _ _ _ (by first | rfl | simp | omega)))
    have p1 : rowAt W (w.heap.size + 1) = some d := by rw [hW]; exact (rowAt_alloc_past _ _ _ (by first | (simp; done) | (simp; omega) | omega)).trans (rowAt_alloc_at _ _ _ _ (by first | rfl | simp | omega))
    have p2 : rowAt W (w.heap.size + 1 + 1) = some (mkU (fun _ => 0)) := by rw [hW, ← HZ.out]; exact rowAt_alloc_at _ _ _ _ (by first | rfl | simp | omega)
    have pB : Below w.heap.size w W := by rw [hW]; exact (((Below.refl _ _).alloc (Nat.le_refl _) _).alloc (by first | (simp; done) | (simp; omega) | omega) _).alloc (by first | (simp; done) | (simp; omega) | omega) _
    clear hW
    refine (CA _ p0 p1).mono ?_
    rintro e w1 ⟨rfl, b1⟩
    have q2 := brow b1 p2
    have B1 := bnext pB b1 pB.size
    clear b1 p0 p1 p2 pB CA CL
    have zs : (mkU (fun _ => 0)).size = 64 := size_mkU _
    go_wp2_with fail
    refine bodyPost_ret (v := .tuple #[.agg X, .int .i64 k]) (results_row2 (m := 64) rfl _ _ (w.heap.size + 1 + 1) _ _ rfl rfl (by rw [← HFZ.out]; exact rowAt_setRow_at _ _ _ (Option.isSome_iff_exists.2 ⟨_, q2⟩)) Tryd.underlying27 rfl (by kernel_rfl) hXs) rfl ⟨rfl, ?_⟩
    exact below_setRow B1 (by omega) _
end Go.Proofs.YtcdobpnejbfbpaaDoor

/- Later: the program's side. -/
namespace Go.Proofs.YtcdobpnejbfbpaaDoor
open Go.RowKit

noncomputable def Rf.latF (r : Rf) (t : Nat → Int) (y : Int) : Nat → Int := if r.latC t y = 0 then setL (fun i => t i + y) t (plUpto r.h.toNat r.w.toNat (r.h.toNat * r.w.toNat)) else fun _ => 0
theorem Rf.latA_is {c d : Array Value} {r : Rf} {t : Nat → Int} {y : Int} {X : Array Value} (_hR : IsRoof c r) (hA : IsU8 d 64 t) (hX : r.latA t y = X) : IsU8 X 64 (r.latF t y) := by
  rw [← hX]
  unfold Rf.latA Rf.latF
  split
  · rename_i h
    by_cases hz : r.ageC t (inB y 0 100) = 0
    · obtain ⟨ha, hf⟩ := Rf.ageC_z hz
      have yb : 0 ≤ y ∧ y ≤ 100 := by simpa [inB] using hf
      refine isU8_mkU fun q hq => ?_
      have h1 := hA.lo q hq
      have h2 := (ha.2 q hq).1
      by_cases hx : ∃ x ∈ plUpto r.h.toNat r.w.toNat (r.h.toNat * r.w.toNat), ixP x = q
      · rw [setL_in _ _ hx]; (try dsimp only); omega
      · rw [setL_out _ _ hx]; omega
    · exact absurd h (by unfold Rf.latC; rw [if_neg hz]; exact hz)
  · exact isU8_mkU fun _ _ => by omega

set_option maxRecDepth 100000 in
set_option maxHeartbeats 4000000 in
theorem implLater_any (c d : Array Value) (r : Rf) (t : Nat → Int) (y : Int) (w : World) (hR : IsRoof c r) (hA : IsU8 d 64 t) (X : Array Value) (hX : r.latA t y = X) (hT : ErrT w) :
    Calls Tryd.prog 14 #[.agg c, .agg d, .int .i64 y] w fun e w' => e = .returned (.tuple #[.agg X, .int .i64 (r.latC t y)]) ∧ Below w.heap.size w w' := by
  have hc := hR.size
  have hd := hA.size
  have hXs : X.size = 64 := by rw [← hX]; exact Rf.latA_size
  have hXo : Ones X := by rw [← hX]; exact Rf.latA_ones
  have hz : (#[.int .u8 0, .int .u8 0, .int .u8 0, .int .u8 0, .int .u8 0, .int .u8 0, .int .u8 0, .int .u8 0, .int .u8 0, .int .u8 0, .int .u8 0, .int .u8 0, .int .u8 0, .int .u8 0, .int .u8 0, .int .u8 0, .int .u8 0, .int .u8 0, .int .u8 0, .int .u8 0, .int .u8 0, .int .u8 0, .int .u8 0, .int .u8 0, .int .u8 0, .int .u8 0, .int .u8 0, .int .u8 0, .int .u8 0, .int .u8 0, .int .u8 0, .int .u8 0, .int .u8 0, .int .u8 0, .int .u8 0, .int .u8 0, .int .u8 0, .int .u8 0, .int .u8 0, .int .u8 0, .int .u8 0, .int .u8 0, .int .u8 0, .int .u8 0, .int .u8 0, .int .u8 0, .int .u8 0, .int .u8 0, .int .u8 0, .int .u8 0, .int .u8 0, .int .u8 0, .int .u8 0, .int .u8 0, .int .u8 0, .int .u8 0, .int .u8 0, .int .u8 0, .int .u8 0, .int .u8 0, .int .u8 0, .int .u8 0, .int .u8 0, .int .u8 0] : Array Value) = mkU (fun _ => 0) := by kernel_rfl
  have hzo : Ones (#[.int .u8 0, .int .u8 0, .int .u8 0, .int .u8 0, .int .u8 0, .int .u8 0, .int .u8 0, .int .u8 0, .int .u8 0, .int .u8 0, .int .u8 0, .int .u8 0, .int .u8 0, .int .u8 0, .int .u8 0, .int .u8 0, .int .u8 0, .int .u8 0, .int .u8 0, .int .u8 0, .int .u8 0, .int .u8 0, .int .u8 0, .int .u8 0, .int .u8 0, .int .u8 0, .int .u8 0, .int .u8 0, .int .u8 0, .int .u8 0, .int .u8 0, .int .u8 0, .int .u8 0, .int .u8 0, .int .u8 0, .int .u8 0, .int .u8 0, .int .u8 0, .int .u8 0, .int .u8 0, .int .u8 0, .int .u8 0, .int .u8 0, .int .u8 0, .int .u8 0, .int .u8 0, .int .u8 0, .int .u8 0, .int .u8 0, .int .u8 0, .int .u8 0, .int .u8 0, .int .u8 0, .int .u8 0, .int .u8 0, .int .u8 0, .int .u8 0, .int .u8 0, .int .u8 0, .int .u8 0, .int .u8 0, .int .u8 0, .int .u8 0, .int .u8 0] : Array Value) := by rw [hz]; exact (isK_mkI _ _ _).ones
  have HZ := Lib.hid hz
  clear hz
  have hn0 := fun w => run_neq_nil_nil_at (P := Tryd.prog) (w := w) 70 (by kernel_rfl)
  have hnv := fun w => run_neq_iface_nil (P := Tryd.prog) (w := w) 70 (by kernel_rfl) 97 (.agg #[])
  have hnr := fun w => run_neq_iface_nil (P := Tryd.prog) (w := w) 70 (by kernel_rfl) 101 (.agg #[])
  by_cases ha : r.Aged t
  · cases hf : inB y 0 100 with
    | true =>
      have hcd : r.ageC t true = 0 := Rf.ageC_ok ha rfl
      have hlc : r.latC t y = if 100 < r.oldV t + y then 3 else 0 := if_pos (by rw [hf]; exact hcd)
      have hfine : fineB (bn3 y 0 100) 1 = true := by rw [fineB_bn3]; exact hf
      have yb : 0 ≤ y ∧ y ≤ 100 := by simpa [inB] using hf
      have vb := Rf.oldV_bd ha hA.lo
      have ho := ha.1
      obtain ⟨ww, hwe⟩ := Int.eq_ofNat_of_zero_le (show 0 ≤ r.w by have := ho.1; omega)
      obtain ⟨hh, hhe⟩ := Int.eq_ofNat_of_zero_le (show 0 ≤ r.h by have := ho.2.2.1; omega)
      have w8 : ww ≤ 8 := by have := ho.2.1; omega
      have h8 : hh ≤ 8 := by have := ho.2.2.2.1; omega
      have CK := fun W v h0 => checkAges_ok 0 1 c d r t v (bn3 y 0 100) W hR hA ha h0 (by omega) hfine
      have CO := fun W => oldest_ok c d r t W hR hA ha.1
      have H3 := Lib.hid (show 100 < r.oldV t + y → r.latC t y = 3 ∧ (#[.int .u8 0, .int .u8 0, .int .u8 0, .int .u8 0, .int .u8 0, .int .u8 0, .int .u8 0, .int .u8 0, .int .u8 0, .int .u8 0, .int .u8 0, .int .u8 0, .int .u8 0, .int .u8 0, .int .u8 0, .int .u8 0, .int .u8 0, .int .u8 0, .int .u8 0, .int .u8 0, .int .u8 0, .int .u8 0, .int .u8 0, .int .u8 0, .int .u8 0, .int .u8 0, .int .u8 0, .int .u8 0, .int .u8 0, .int .u8 0, .int .u8 0, .int .u8 0, .int .u8 0, .int .u8 0, .int .u8 0, .int .u8 0, .int .u8 0, .int .u8 0, .int .u8 0, .int .u8 0, .int .u8 0, .int .u8 0, .int .u8 0, .int .u8 0, .int .u8 0, .int .u8 0, .int .u8 0, .int .u8 0, .int .u8 0, .int .u8 0, .int .u8 0, .int .u8 0, .int .u8 0, .int .u8 0, .int .u8 0, .int .u8 0, .int .u8 0, .int .u8 0, .int .u8 0, .int .u8 0, .int .u8 0, .int .u8 0, .int .u8 0, .int .u8 0] : Array Value) = X by
        intro h
        have e : r.latC t y = 3 := by rw [hlc, if_pos h]
        exact ⟨e, by rw [HZ.out, ← hX]; exact (if_neg (by rw [e]; decide)).symm⟩)
      have HL := Lib.hid (show ¬ 100 < r.oldV t + y → r.latC t y = 0 ∧ ∀ W, Calls Tryd.prog 49 #[.agg d, .agg c, .int .i64 y] W fun e w' => e = .returned (.agg X) ∧ Below W.heap.size W w' by
        intro h
        have e : r.latC t y = 0 := by rw [hlc, if_neg h]
        refine ⟨e, fun W => later_any d c t r y hh ww hhe hwe h8 w8 W hA hR X ?_⟩
        rw [← hX, Rf.latA_at hhe hwe e, addL_upto w8 (by omega) (fun x => ?_) _ (Nat.le_refl _)]
        have hl := ixP_lt h8 w8 x
        have h1 := hA.lo _ hl
        have h2 := (ha.2 _ hl).1
        omega)
      generalize r.latC t y = lc at *
      generalize r.oldV t = v at *
      generalize (r.oldAt t).1 = p1 at *
      generalize (r.oldAt t).2 = p2 at *
      clear hX hlc hcd hf hfine hwe hhe
      have e64 : IntKind.i64.wrap (v + y) = v + y := IntWalk.i64_in _ (by omega)
      go_enter Tryd.func14, Tryd.ntmps14
      go_wp2_with fail
      refine gen_callsW fun W hW => ?_
      have p0 : rowAt W w.heap.size = some c := by rw [hW]; exact (rowAt_alloc_past _ _ _ (by first | (simp; done) | (simp; omega) | omega)).trans ((rowAt_alloc_past _ _ _ (by first | (simp; done) | (simp; omega) | omega)).trans ((rowAt_alloc_past _ _ _ (by first | (simp; done) | (simp; omega) | omega)).trans (rowAt_alloc_at _ _ _ _ (by first | rfl | simp | omega))))
      have p1 : rowAt W (w.heap.size + 1) = some d := by rw [hW]; exact (rowAt_alloc_past _ _ _ (by first | (simp; done) | (simp; omega) | omega)).trans ((rowAt_alloc_past _ _ _ (by first | (simp; done) | (simp; omega) | omega)).trans (rowAt_alloc_at _ _ _ _ (by first | rfl | simp | omega)))
      have p2 : rowAt W (w.heap.size + 1 + 1) = some (mkU (fun _ => 0)) := by rw [hW, ← HZ.out]; exact (rowAt_alloc_past _ _ _ (by first | (simp; done) | (simp; omega) | omega)).trans (rowAt_alloc_at _ _ _ _ (by first | rfl | simp | omega))
      have p3 : rowAt W (w.heap.size + 1 + 1 + 1) = some #[.int .i64 y, .int .i64 0, .int .i64 100] := by rw [hW]; exact rowAt_alloc_at _ _ _ _ (by first | rfl | simp | omega)
      have pB : Below w.heap.size w W := by rw [hW]; exact ((((Below.refl _ _).alloc (Nat.le_refl _) _).alloc (by first | (simp; done) | (simp; omega) | omega) _).alloc (by first | (simp; done) | (simp; omega) | omega) _).alloc (by first | (simp; done) | (simp; omega) | omega) _
      clear hW
      refine (CK _ _ (IsList.li3 p3 (Nat.zero_le _))).mono ?_
      rintro e w1 ⟨rfl, b1⟩
      have q0 := brow b1 p0
      have q1 := brow b1 p1
      have q2 := brow b1 p2
      have B1 := bnext pB b1 pB.size
      clear b1 p0 p1 p2 p3 pB CK
      go_wp2_with fail
      refine (CO _).mono ?_
      rintro e w2 ⟨rfl, b2⟩
      have r0 := brow b2 q0
      have r1 := brow b2 q1
      have r2 := brow b2 q2
      have B2 := bnext B1 b2 B1.size
      have l0 := rowAt_lt r0
      have l1 := rowAt_lt r1
      have l2 := rowAt_lt r2
      clear b2 q0 q1 q2 B1 CO
      have zs : (mkU (fun _ => 0)).size = 64 := size_mkU _
      by_cases hx : 100 < v + y
      · obtain ⟨rfl, hFZ⟩ := H3.out hx
        have HFZ := Lib.hid hFZ
        clear hFZ
        go_wp2_with fail
        refine bodyPost_ret (v := .tuple #[.agg X, .int .i64 3]) (results_row2 (m := 64) rfl _ _ (w.heap.size + 1 + 1) _ _ rfl rfl (by rw [← HFZ.out]; exact (rowAt_alloc_past _ _ _ (by simpa using l2)).trans (rowAt_setRow_at _ _ _ (Option.isSome_iff_exists.2 ⟨_, r2⟩))) Tryd.underlying27 rfl (by kernel_rfl) hXs) rfl ⟨rfl, ?_⟩
        have B3 := below_setRow B2 (show w.heap.size ≤ w.heap.size + 1 + 1 by omega) (#[.int .u8 0, .int .u8 0, .int .u8 0, .int .u8 0, .int .u8 0, .int .u8 0, .int .u8 0, .int .u8 0, .int .u8 0, .int .u8 0, .int .u8 0, .int .u8 0, .int .u8 0, .int .u8 0, .int .u8 0, .int .u8 0, .int .u8 0, .int .u8 0, .int .u8 0, .int .u8 0, .int .u8 0, .int .u8 0, .int .u8 0, .int .u8 0, .int .u8 0, .int .u8 0, .int .u8 0, .int .u8 0, .int .u8 0, .int .u8 0, .int .u8 0, .int .u8 0, .int .u8 0, .int .u8 0, .int .u8 0, .int .u8 0, .int .u8 0, .int .u8 0, .int .u8 0, .int .u8 0, .int .u8 0, .int .u8 0, .int .u8 0, .int .u8 0, .int .u8 0, .int .u8 0, .int .u8 0, .int .u8 0, .int .u8 0, .int .u8 0, .int .u8 0, .int .u8 0, .int .u8 0, .int .u8 0, .int .u8 0, .int .u8 0, .int .u8 0, .int .u8 0, .int .u8 0, .int .u8 0, .int .u8 0, .int .u8 0, .int .u8 0, .int .u8 0] : Array Value)
        exact B3.alloc B3.size _
      · obtain ⟨rfl, CL⟩ := HL.out (by omega)
        go_wp2_with fail
        refine gen_callsW fun W3 hW => ?_
        have s2 : rowAt W3 (w.heap.size + 1 + 1) = some (mkU (fun _ => 0)) := by rw [hW]; exact (rowAt_alloc_past _ _ _ l2).trans r2
        have B3 : Below w.heap.size w W3 := by rw [hW]; exact B2.alloc B2.size _
        clear hW
        refine (CL _).mono ?_
        rintro e w4 ⟨rfl, b4⟩
        have u2 := brow b4 s2
        have B4 := bnext B3 b4 B3.size
        clear b4 s2 B3 CL
        go_wp2_with fail
        refine bodyPost_ret (v := .tuple #[.agg X, .int .i64 0]) (results_row2 (m := 64) rfl _ _ (w.heap.size + 1 + 1) _ _ rfl rfl (rowAt_setRow_at _ _ _ (Option.isSome_iff_exists.2 ⟨_, u2⟩)) Tryd.underlying27 rfl (by kernel_rfl) hXs) rfl ⟨rfl, ?_⟩
        exact below_setRow B4 (by omega) _
    | false =>
      have hcd : r.ageC t false = 2 := Rf.ageC_r ha rfl
      have hlc : r.latC t y = 2 := by unfold Rf.latC; rw [hf, hcd]; rfl
      have hfine : fineB (bn3 y 0 100) 1 = false := by rw [fineB_bn3]; exact hf
      have HFZ := Lib.hid (show (#[.int .u8 0, .int .u8 0, .int .u8 0, .int .u8 0, .int .u8 0, .int .u8 0, .int .u8 0, .int .u8 0, .int .u8 0, .int .u8 0, .int .u8 0, .int .u8 0, .int .u8 0, .int .u8 0, .int .u8 0, .int .u8 0, .int .u8 0, .int .u8 0, .int .u8 0, .int .u8 0, .int .u8 0, .int .u8 0, .int .u8 0, .int .u8 0, .int .u8 0, .int .u8 0, .int .u8 0, .int .u8 0, .int .u8 0, .int .u8 0, .int .u8 0, .int .u8 0, .int .u8 0, .int .u8 0, .int .u8 0, .int .u8 0, .int .u8 0, .int .u8 0, .int .u8 0, .int .u8 0, .int .u8 0, .int .u8 0, .int .u8 0, .int .u8 0, .int .u8 0, .int .u8 0, .int .u8 0, .int .u8 0, .int .u8 0, .int .u8 0, .int .u8 0, .int .u8 0, .int .u8 0, .int .u8 0, .int .u8 0, .int .u8 0, .int .u8 0, .int .u8 0, .int .u8 0, .int .u8 0, .int .u8 0, .int .u8 0, .int .u8 0, .int .u8 0] : Array Value) = X by rw [HZ.out, ← hX]; exact (if_neg (by rw [hlc]; decide)).symm)
      have CK := fun W v h0 => checkAges_r 0 1 c d r t v (bn3 y 0 100) W hR hA ha h0 (by omega) hfine
      rw [hlc]
      clear hcd hlc hf hfine hX
      go_enter Tryd.func14, Tryd.ntmps14
      go_wp2_with fail
      refine gen_callsW fun W hW => ?_
      have p0 : rowAt W w.heap.size = some c := by rw [hW]; exact (rowAt_alloc_past _ _ _ (by first | (simp; done) | (simp; omega) | omega)).trans ((rowAt_alloc_past _ _ _ (by first | (simp; done) | (simp; omega) | omega)).trans ((rowAt_alloc_past _ _ _ (by first | (simp; done) | (simp; omega) | omega)).trans (rowAt_alloc_at _ _ _ _ (by first | rfl | simp | omega))))
      have p1 : rowAt W (w.heap.size + 1) = some d := by rw [hW]; exact (rowAt_alloc_past _ _ _ (by first | (simp; done) | (simp; omega) | omega)).trans ((rowAt_alloc_past _ _ _ (by first | (simp; done) | (simp; omega) | omega)).trans (rowAt_alloc_at _ _ _ _ (by first | rfl | simp | omega)))
      have p2 : rowAt W (w.heap.size + 1 + 1) = some (mkU (fun _ => 0)) := by rw [hW, ← HZ.out]; exact (rowAt_alloc_past _ _ _ (by first | (simp; done) | (simp; omega) | omega)).trans (rowAt_alloc_at _ _ _ _ (by first | rfl | simp | omega))
      have p3 : rowAt W (w.heap.size + 1 + 1 + 1) = some #[.int .i64 y, .int .i64 0, .int .i64 100] := by rw [hW]; exact rowAt_alloc_at _ _ _ _ (by first | rfl | simp | omega)
      have pB : Below w.heap.size w W := by rw [hW]; exact ((((Below.refl _ _).alloc (Nat.le_refl _) _).alloc (by first | (simp; done) | (simp; omega) | omega) _).alloc (by first | (simp; done) | (simp; omega) | omega) _).alloc (by first | (simp; done) | (simp; omega) | omega) _
      clear hW
      refine (CK _ _ (IsList.li3 p3 (Nat.zero_le _))).mono ?_
      rintro e w1 ⟨rfl, b1⟩
      have q2 := brow b1 p2
      have B1 := bnext pB b1 pB.size
      have T1 := hT.below B1
      have l2 := rowAt_lt q2
      clear b1 p0 p1 p2 p3 pB
      go_wp2_with fail
      refine (yearCode_R _ T1).mono ?_
      rintro e w2 ⟨rfl, b2⟩
      have r2 := brow b2 q2
      have B2 := bnext B1 b2 B1.size
      clear b2 q2 B1 T1
      have zs : (mkU (fun _ => 0)).size = 64 := size_mkU _
      go_wp2_with fail
      refine bodyPost_ret (v := .tuple #[.agg X, .int .i64 2]) (results_row2 (m := 64) rfl _ _ (w.heap.size + 1 + 1) _ _ rfl rfl (by rw [← HFZ.out]; exact rowAt_setRow_at _ _ _ (Option.isSome_iff_exists.2 ⟨_, r2⟩)) Tryd.underlying27 rfl (by kernel_rfl) hXs) rfl ⟨rfl, ?_⟩
      exact below_setRow B2 (by omega) _
  · have hcd : r.ageC t (inB y 0 100) = 1 := Rf.ageC_v ha
    have hlc : r.latC t y = 1 := by unfold Rf.latC; rw [hcd]; rfl
    have HFZ := Lib.hid (show (#[.int .u8 0, .int .u8 0, .int .u8 0, .int .u8 0, .int .u8 0, .int .u8 0, .int .u8 0, .int .u8 0, .int .u8 0, .int .u8 0, .int .u8 0, .int .u8 0, .int .u8 0, .int .u8 0, .int .u8 0, .int .u8 0, .int .u8 0, .int .u8 0, .int .u8 0, .int .u8 0, .int .u8 0, .int .u8 0, .int .u8 0, .int .u8 0, .int .u8 0, .int .u8 0, .int .u8 0, .int .u8 0, .int .u8 0, .int .u8 0, .int .u8 0, .int .u8 0, .int .u8 0, .int .u8 0, .int .u8 0, .int .u8 0, .int .u8 0, .int .u8 0, .int .u8 0, .int .u8 0, .int .u8 0, .int .u8 0, .int .u8 0, .int .u8 0, .int .u8 0, .int .u8 0, .int .u8 0, .int .u8 0, .int .u8 0, .int .u8 0, .int .u8 0, .int .u8 0, .int .u8 0, .int .u8 0, .int .u8 0, .int .u8 0, .int .u8 0, .int .u8 0, .int .u8 0, .int .u8 0, .int .u8 0, .int .u8 0, .int .u8 0, .int .u8 0] : Array Value) = X by rw [HZ.out, ← hX]; exact (if_neg (by rw [hlc]; decide)).symm)
    have CV := fun W v => checkAges_v c d r t v W hR hA ha
    rw [hlc]
    clear hcd hlc hX
    go_enter Tryd.func14, Tryd.ntmps14
    go_wp2_with fail
    refine gen_callsW fun W hW => ?_
    have p0 : rowAt W w.heap.size = some c := by rw [hW]; exact (rowAt_alloc_past _ _ _ (by first | (simp; done) | (simp; omega) | omega)).trans ((rowAt_alloc_past _ _ _ (by first | (simp; done) | (simp; omega) | omega)).trans ((rowAt_alloc_past _ _ _ (by first | (simp; done) | (simp; omega) | omega)).trans (rowAt_alloc_at _ _ _ _ (by first | rfl | simp | omega))))
    have p1 : rowAt W (w.heap.size + 1) = some d := by rw [hW]; exact (rowAt_alloc_past _ _ _ (by first | (simp; done) | (simp; omega) | omega)).trans ((rowAt_alloc_past _ _ _ (by first | (simp; done) | (simp; omega) | omega)).trans (rowAt_alloc_at _ _ _ _ (by first | rfl | simp | omega)))
    have p2 : rowAt W (w.heap.size + 1 + 1) = some (mkU (fun _ => 0)) := by rw [hW, ← HZ.out]; exact (rowAt_alloc_past _ _ _ (by first | (simp; done) | (simp; omega) | omega)).trans (rowAt_alloc_at _ _ _ _ (by first | rfl | simp | omega))
    have p3 : rowAt W (w.heap.size + 1 + 1 + 1) = some #[.int .i64 y, .int .i64 0, .int .i64 100] := by rw [hW]; exact rowAt_alloc_at _ _ _ _ (by first | rfl | simp | omega)
    have pB : Below w.heap.size w W := by rw [hW]; exact ((((Below.refl _ _).alloc (Nat.le_refl _) _).alloc (by first | (simp; done) | (simp; omega) | omega) _).alloc (by first | (simp; done) | (simp; omega) | omega) _).alloc (by first | (simp; done) | (simp; omega) | omega) _
    clear hW
    refine (CV _ _).mono ?_
    rintro e w1 ⟨rfl, b1⟩
    have q2 := brow b1 p2
    have B1 := bnext pB b1 pB.size
    have T1 := hT.below B1
    have l2 := rowAt_lt q2
    clear b1 p0 p1 p2 p3 pB
    go_wp2_with fail
    refine (yearCode_V _ T1).mono ?_
    rintro e w2 ⟨rfl, b2⟩
    have r2 := brow b2 q2
    have B2 := bnext B1 b2 B1.size
    clear b2 q2 B1 T1
    have zs : (mkU (fun _ => 0)).size = 64 := size_mkU _
    go_wp2_with fail
    refine bodyPost_ret (v := .tuple #[.agg X, .int .i64 1]) (results_row2 (m := 64) rfl _ _ (w.heap.size + 1 + 1) _ _ rfl rfl (by rw [← HFZ.out]; exact rowAt_setRow_at _ _ _ (Option.isSome_iff_exists.2 ⟨_, r2⟩)) Tryd.underlying27 rfl (by kernel_rfl) hXs) rfl ⟨rfl, ?_⟩
    exact below_setRow B2 (by omega) _
end Go.Proofs.YtcdobpnejbfbpaaDoor

/- laws.FnExactLater returns true for all its arguments, and leaves them as they were. No condition. -/
namespace Go.Proofs.YtcdobpnejbfbpaaDoor
open Go.RowKit

theorem Boxes.belA {N : Nat} {w W : World} {L : List (Nat × Array Value)} {A : Prop} (h : A ∧ Boxes N w L W) : Below w.heap.size w W := h.2.bel
set_option maxRecDepth 100000 in
set_option maxHeartbeats 4000000 in
theorem law_walk_FnExactLater {c : Array Value} {r : Rf} (hR : IsRoof c r) {d0 : Array Value} {t0 : Nat → Int} (hA0 : IsU8 d0 64 t0) {y : Int} (_hy : -9223372036854775808 ≤ y ∧ y ≤ 9223372036854775807) (w : World) (hE : ErrT w) :
    Calls Tryd.prog 3 #[.agg c, .agg d0, .int .i64 y] w fun e w' => e = .returned (.bool true) ∧ Below w.heap.size w w' := by
  obtain ⟨l0⟩ := d0
  have hl0 : l0.length = 64 := by have := hA0.size; simpa using this
  have htk0 : List.take 64 l0 = l0 := List.take_of_length_le (by omega)
  have hu0 := Tryd.underlying24
  have hi0 : (Tryd.prog.info? 24).map (·.size) = some l0.length := by rw [hl0]; kernel_rfl
  have HE := Lib.hid hE
  clear hE
  have hs0 := hR.size
  obtain ⟨X, hX⟩ : ∃ X, r.latA t0 y = X := ⟨_, rfl⟩
  have hI := (fun X hX => Rf.latA_is hR hA0 hX) X hX
  have CS := fun w => specLater_any c l0.toArray r t0 y w hR hA0 X hX
  have CI := fun w hT => implLater_any c l0.toArray r t0 y w hR hA0 X hX hT
  have hne0 : ((r.latC t0 y) != (r.latC t0 y)) = false := by simp
  generalize (r.latC t0 y) = v0 at *
  have hXs := hI.size
  have hXo := hI.ones
  have CE := fun w => eqAges_same X _ w hI
  clear hX
  have pb := boxes2 w c l0.toArray 26 24
  go_enter Tryd.func3, Tryd.ntmps3
  go_wp2_with fail
  refine gen_world fun W hW => ?_
  rw [← hW] at pb
  clear hW
  have mk : ∀ (N : Nat) (Y : List (Nat × Array Value)) (W' : World), Boxes N w (Y ++ [(w.heap.size + 1, l0.toArray), (w.heap.size, c)]) W' → rowAt W' (w.heap.size) = some c ∧ rowAt W' (w.heap.size + 1) = some l0.toArray ∧ W'.rangeAt (w.heap.size + 1) 0 l0 := fun N Y W' h => ⟨h.rows (w.heap.size, c) (by simp), h.rows (w.heap.size + 1, l0.toArray) (by simp), rangeAt_of_row (h.rows (w.heap.size + 1, l0.toArray) (by simp))⟩
  have HM := Lib.hid mk
  clear mk
  have ls := pb.size
  go_cut [7, 8] (fun p q0 W' => ∃ n N : Nat, p = .pointer (some ⟨n, 0, none⟩) ∧ q0 = .int .i64 v0 ∧ Boxes N w ((n, X) :: [(w.heap.size + 1, l0.toArray), (w.heap.size, c)]) W')
  case first =>
    go_region_held3 (fun w' => (rowAt w' (w.heap.size) = some c ∧ rowAt w' (w.heap.size + 1) = some l0.toArray ∧ w'.rangeAt (w.heap.size + 1) 0 l0) ∧ Boxes (w.heap.size + 1 + 1) w ([(w.heap.size + 1, l0.toArray), (w.heap.size, c)]) w')
      ((refine mkS (HM.out _ [] _) ?_; first | exact pb.drew | exact Boxes.allocA (by assumption) | exact Boxes.callA (by assumption) (by assumption) | exact Boxes.setA (by assumption) (by omega) | exact Boxes.reallocA (by assumption) (by omega)))
      (first | (go_at_call 12; (with_reducible refine (toRoof_any c r _ hR).mono ?_); rintro x wx ⟨rfl, bx⟩; have hy := Boxes.szA (by assumption); have hq := bx.size; (try replace rz := brow bx rz); (try (have rz := brow bx (rowAt_alloc_at _ _ _ _ rfl)))) | (go_at_call 13; (with_reducible refine (toAges_any l0.toArray t0 _ hA0).mono ?_); rintro x wx ⟨rfl, bx⟩; have hy := Boxes.szA (by assumption); have hq := bx.size; (try replace rz := brow bx rz); (try (have rz := brow bx (rowAt_alloc_at _ _ _ _ rfl)))) | (go_at_call 11; (with_reducible refine (CS _).mono ?_); rintro x wx ⟨rfl, bx⟩; have hy := Boxes.szA (by assumption); have hq := bx.size; (try replace rz := brow bx rz); (try (have rz := brow bx (rowAt_alloc_at _ _ _ _ rfl)))))
    all_goals
      go_wp2_with fail
      go_meet
      case rel =>
        first
        | exact ⟨_, _, rfl, rfl, (Boxes.outA (by assumption)).more (rowAt_alloc_at _ _ _ _ rfl)⟩
        | exact ⟨_, _, rfl, rfl, (Boxes.outA (by assumption)).more (rowAt_setRow_at _ _ _ (by rw [rz]; rfl))⟩
  case rest =>
    obtain ⟨n, N, rfl, rfl, pc⟩ := hcut
    clear pb ls
    have ls := pc.size
    go_wp2_with fail
    go_cut [9, 10] (fun p q0 W' => ∃ m M : Nat, p = .pointer (some ⟨m, 0, none⟩) ∧ q0 = .int .i64 v0 ∧ Boxes M w ((m, X) :: (n, X) :: [(w.heap.size + 1, l0.toArray), (w.heap.size, c)]) W')
    case first =>
      go_region_held3 (fun w' => (rowAt w' (w.heap.size) = some c ∧ rowAt w' (w.heap.size + 1) = some l0.toArray ∧ w'.rangeAt (w.heap.size + 1) 0 l0) ∧ Boxes (N) w ([(n, X), (w.heap.size + 1, l0.toArray), (w.heap.size, c)]) w')
        ((refine mkS (HM.out _ [(n, X)] _) ?_; first | exact pc.drew | exact Boxes.allocA (by assumption) | exact Boxes.callA (by assumption) (by assumption) | exact Boxes.setA (by assumption) (by omega) | exact Boxes.reallocA (by assumption) (by omega)))
        (first | (go_at_call 12; (with_reducible refine (toRoof_any c r _ hR).mono ?_); rintro x wx ⟨rfl, bx⟩; have hy := Boxes.szA (by assumption); have hq := bx.size; (try replace rz := brow bx rz); (try (have rz := brow bx (rowAt_alloc_at _ _ _ _ rfl)))) | (go_at_call 13; (with_reducible refine (toAges_any l0.toArray t0 _ hA0).mono ?_); rintro x wx ⟨rfl, bx⟩; have hy := Boxes.szA (by assumption); have hq := bx.size; (try replace rz := brow bx rz); (try (have rz := brow bx (rowAt_alloc_at _ _ _ _ rfl)))) | (go_at_call 14; (with_reducible refine (CI _ (HE.out.below (Boxes.belA (by assumption)))).mono ?_); rintro x wx ⟨rfl, bx⟩; have hy := Boxes.szA (by assumption); have hq := bx.size; (try replace rz := brow bx rz); (try (have rz := brow bx (rowAt_alloc_at _ _ _ _ rfl)))))
      all_goals
        go_wp2_with fail
        go_meet
        case rel =>
          first
          | exact ⟨_, _, rfl, rfl, (Boxes.outA (by assumption)).more (rowAt_alloc_at _ _ _ _ rfl)⟩
          | exact ⟨_, _, rfl, rfl, (Boxes.outA (by assumption)).more (rowAt_setRow_at _ _ _ (by rw [rz]; rfl))⟩
    case rest =>
      obtain ⟨m, M, rfl, rfl, pd⟩ := hcut
      have r1 := pd.rows (n, X) (by simp)
      have r2 := pd.rows (m, X) (by simp)
      have pB := pd.bel
      clear pc ls pd
      go_wp2_with fail
      refine (CE _).mono ?_
      rintro e w5 ⟨rfl, b5⟩
      have B5 := bnext pB b5 pB.size
      clear b5 r1 r2 pB
      go_wp2_with fail
      go_ret
      exact ⟨rfl, B5⟩

namespace LFnExactLater
open Go.RowKit Go.ChangeShapes Go.WideShapes Go.ChangeAt
theorem own : ownKnob Tryd.prog.godebug = none := by kernel_rfl
theorem laidOut : laidOutB Tryd.prog = true := by kernel_rfl
theorem door_met (os : Os) (args : Array Value) : laidMetH Tryd.prog Rows.fnExactLaterRow.laid ((World.doorLaid Tryd.prog 400 os).forCall (fun _ _ => 0) ⟨#[], args, []⟩).memory :=
  laidMetH_of_parts3 (fuel := 8) (laidMet_of_run' 8 (by kernel_rfl) (by kernel_rfl)) (by kernel_rfl) (by kernel_rfl)
set_option maxRecDepth 100000 in
theorem lifted (os : Os) (started : os.Started) (H : Type) (enc : TypeId × Value → H) :
    ReturnsInHanded {} Tryd.checked os 3 .any (fun w args => (Rows.fnExactLaterSpec.pre enc Tryd.prog Tryd.f3 [] false w args ∧ laidMetH Tryd.prog Rows.fnExactLaterRow.laid w) ∧ sizedMet enc Tryd.prog Tryd.f3 (OpenSpec.ofChange Rows.fnExactLaterSpec) false w args)
      (Rows.fnExactLaterSpec.post enc Tryd.prog Tryd.f3 false true false false) := by
  refine returnsInHanded_of_change_and (C := Tryd.checked) (X := fun w _ => laidMetH Tryd.prog Rows.fnExactLaterRow.laid w) (fun _ _ _ hh h => h.of_heap hh) own started (by kernel_rfl) Tryd.func3
    (ChangeSpec.witness_shaped (enc := enc) (C := Tryd.checked) (os := os) (X := fun w _ => laidMetH Tryd.prog Rows.fnExactLaterRow.laid w) false (World.doorLaid Tryd.prog 400 os) #[.agg Tryd.zeroCells26, .agg (Array.replicate 64 (.int .u8 0)), .int .i64 0] 8 rfl (World.shaped_of_RefB (by kernel_rfl) (by kernel_rfl)) (by kernel_rfl) (by kernel_rfl) (by kernel_rfl) (door_met os _)) ?_
  intro W base args ds gs before hval0 hW _ _ hL _
  have hval : ∀ (j : Nat) t v, Tryd.f3.params[j]? = some t → args[j]? = some v → Value.okWide Tryd.prog W .any base t v := hval0
  have hW' := hW
  obtain ⟨p, q, hA0, hV, rfl, hfz, hnd⟩ := hW
  have hA : DataW.TrodAll enc Tryd.prog W 0 (fun _ => true) true Tryd.f3.params.toList args.toList ds p := hA0
  rw [Tryd.params3] at hA hval
  obtain ⟨v0, vs0, d0, ds0, p0, q0, hargs, rfl, rfl, h0, r0⟩ := trodAll_cons hA
  obtain ⟨v1, vs1, d1, ds1, p1, q1, rfl, rfl, rfl, h1, r1⟩ := trodAll_cons r0
  obtain ⟨v2, vs2, d2, ds2, p2, q2, rfl, rfl, rfl, h2, r2⟩ := trodAll_cons r1
  obtain ⟨rfl, rfl, rfl⟩ := trodAll_nil r2
  obtain rfl : args = #[v0, v1, v2] := by cases args; simp_all
  obtain ⟨rfl, rfl⟩ := trodVars_none hV
  have k0 := h0
  have lt0 : ∀ x ∈ p0, x.block < W.heap.size := by obtain ⟨m, hm⟩ := k0; exact DataW.trod_lt m _ _ _ hm
  have k1 := h1
  have lt1 : ∀ x ∈ p1, x.block < W.heap.size := by obtain ⟨m, hm⟩ := k1; exact DataW.trod_lt m _ _ _ hm
  obtain ⟨c0, f0, rfl, wf0⟩ := open_roof (hval 0 26 v0 rfl rfl) h0
  obtain ⟨c1, f1, rfl, wf1⟩ := open_ages (hval 1 24 v1 rfl rfl) h1
  obtain ⟨n2, rfl, rfl, rfl, wf2⟩ := open_int Tryd.underlying2 (hval 2 2 v2 rfl rfl) h2
  clear hA0 hval0
  refine ((law_walk_FnExactLater wf0 wf1 (bounds_i64 wf2) W (errT_of hL))).mono fun e W' ⟨he, bel⟩ => ?_
  subst he
  exact ⟨_, rfl, _, _, _, [], _, [], hW', trodAll_mk1 (shut_bool Tryd.underlying4 _), (trodAll_cons_mk (Below.trod laidOut (by kernel_rfl) (of_decide_eq_true (by kernel_rfl)) k0 bel lt0) (trodAll_cons_mk (Below.trod laidOut (by kernel_rfl) (of_decide_eq_true (by kernel_rfl)) k1 bel lt1) (trodAll_cons_mk (shut_int Tryd.underlying2 wf2) trodAll_mk0))), rfl, bel.frame _, fun h => by cases h⟩

theorem over : Rows.FnExactLaterSaid :=
  OpenClaim.holds_of_wide 3 Tryd.f3 rfl rfl rfl rfl rfl rfl rfl ⟨rfl, rfl, rfl, rfl, rfl⟩ rfl rfl rfl rfl rfl (by kernel_rfl) Tryd.func3 (by kernel_rfl)
    (of_decide_eq_true (by kernel_rfl)) (by unfold Func.isWrapper; first | (rw [if_pos (by decide +kernel)]; kernel_rfl) | (rw [if_neg (by decide +kernel)]; exact ⟨rfl, rfl⟩))
    (fun os started H enc _ => lifted os started H enc)

theorem proved : Rows.FnExactLaterCardSaid :=
  Claim7.holds_tied_plain_at .later [] Rows.fnExactLaterCard.laidKinds true Rows.fnExactLaterCard.stood.harness Rows.fnExactLaterCard.stood.looks
    over (fun _ h => by cases h) (by kernel_rfl) (fun _ h => by cases h) fnExactLater_row_tie rfl ⟨rfl, rfl⟩ (by kernel_rfl) rfl
    (fun f fn hf hfn => by
      obtain rfl : f = 3 := Option.some.inj ((show Tryd.prog.funcNamed "loop.example/g01376/laws.FnExactLater" = some 3 by kernel_rfl).symm.trans hf) |>.symm
      obtain rfl : fn = Tryd.f3 := (Option.some.inj (Tryd.func3.symm.trans hfn)).symm
      exact ⟨by kernel_rfl, fun j t ht => by
        rw [Tryd.params3] at ht
        have hm : t ∈ [26, 24, 2] := by simpa using Array.mem_of_getElem? ht
        have hall : ([26, 24, 2].all fun u => !Tryd.prog.wantsStandIn u) = true := by kernel_rfl
        exact (show Tryd.prog.wantsStandIn t = false by simpa using List.all_eq_true.1 hall t hm)⟩)
    (by kernel_rfl)
end LFnExactLater

end Go.Proofs.YtcdobpnejbfbpaaDoor
