import Derived.Test.YtcopdilmkfmpiaaDoorDripS
import Derived.Test.YtcopdilmkfmpiaaDoorEqRoof
import Derived.Test.YtcopdilmkfmpiaaDoorRHeld
import Derived.Test.YtcopdilmkfmpiaaDoorFlow
import Derived.Test.YtcopdilmkfmpiaaDoorBox
import Derived.StillTailTactics
import Derived.Test.YtcopdilmkfmpiaaDoorSight
import Derived.Test.YtcopdilmkfmpiaaDoorDAfter
import Derived.Test.YtcopdilmkfmpiaaDoorEnd
import Derived.RegionTactic
import Derived.Test.YtcopdilmkfmpiaaDoorCards
import Derived.Test.YtcopdilmkfmpiaaDoorTie
import Derived.Test.YtcopdilmkfmpiaaDoorLaidN
import Derived.Test.YtcopdilmkfmpiaaDoorErr
import Derived.Deep.DeepCutAuto
import Derived.Deep.RegionHeld3

/- The first drip: contracts of both sides. -/
namespace Go.Proofs.YtcopdilmkfmpiaaDoor
open Go.RowKit

/-- The first of the first n that is greater than 0. -/
def firstTo (D : Nat → Int) : Nat → Option Nat
  | 0 => none
  | n + 1 => match firstTo D n with
    | some i => some i
    | none => if 0 < D n then some n else none
theorem firstTo_none {D : Nat → Int} : ∀ {n : Nat}, (∀ j, j < n → D j ≤ 0) → firstTo D n = none
  | 0, _ => rfl
  | n + 1, h => by
    have h1 := firstTo_none (n := n) fun j hj => h j (by omega)
    have h2 := h n (by omega)
    simp only [firstTo, h1]
    rw [if_neg (by omega)]
theorem firstTo_at {D : Nat → Int} {i : Nat} (hp : 0 < D i) (hm : ∀ j, j < i → D j ≤ 0) : ∀ {n : Nat}, i < n → firstTo D n = some i
  | n + 1, h => by
    by_cases hi : i = n
    · subst hi
      simp only [firstTo, firstTo_none hm]
      rw [if_pos hp]
    · have h1 := firstTo_at hp hm (n := n) (by omega)
      simp only [firstTo, h1]
def firstI (D : Nat → Int) : Nat := (firstTo D 136).getD 136
theorem firstI_at {D : Nat → Int} {i : Nat} (hi : i < 136) (hp : 0 < D i) (hm : ∀ j, j < i → D j ≤ 0) : firstI D = i := by
  unfold firstI; rw [firstTo_at hp hm hi]; rfl
theorem firstI_none {D : Nat → Int} (hm : ∀ j, j < 136 → D j ≤ 0) : firstI D = 136 := by
  unfold firstI; rw [firstTo_none hm]; rfl

noncomputable def Rf.fdc (r : Rf) (t : Nat → Int) : Int := if r.rok t = true then (if firstI (r.drips t) < 136 then 0 else 6) else 1
noncomputable def Rf.fdv (r : Rf) (t : Nat → Int) (x : Int) : Int := if r.fdc t = 0 then x else 0
theorem Rf.fdc_f {r : Rf} {t : Nat → Int} (h : ¬ r.Rains t) : r.fdc t = 1 := by simp [Rf.fdc, Rf.rok_false h]
/-- The answer, if i is the first. -/
def FdIs (r : Rf) (t : Nat → Int) (a b c : Int) : Prop := (Ending.returned (.tuple #[.int .i64 a, .int .i64 b, .int .i64 c])) = .returned (.tuple #[.int .i64 (r.fdv t ((firstI (r.drips t) / 17 : Nat) : Int)), .int .i64 (r.fdv t ((firstI (r.drips t) % 17 : Nat) : Int)), .int .i64 (r.fdc t)])
theorem FdIs.at {r : Rf} {t : Nat → Int} (h : r.Rains t) {c k : Nat} (hc : c < 8) (hk : k < 17) (hp : 0 < r.drips t (c * 17 + k)) (hm : ∀ j, j < c * 17 + k → r.drips t j ≤ 0) : FdIs r t c k 0 := by
  have h1 := firstI_at (by omega) hp hm
  have h2 : r.fdc t = 0 := by rw [Rf.fdc, if_pos (Rf.rok_true h), h1, if_pos (by omega)]
  unfold FdIs
  rw [Rf.fdv, Rf.fdv, if_pos h2, if_pos h2, h1, h2, show (c * 17 + k) / 17 = c from by omega, show (c * 17 + k) % 17 = k from by omega]
theorem FdIs.none {r : Rf} {t : Nat → Int} (h : r.Rains t) (hm : ∀ j, j < 136 → r.drips t j ≤ 0) : FdIs r t 0 0 6 := by
  have h1 := firstI_none hm
  have h2 : r.fdc t = 6 := by rw [Rf.fdc, if_pos (Rf.rok_true h), h1, if_neg (by omega)]
  unfold FdIs
  rw [Rf.fdv, Rf.fdv, if_neg (by omega), if_neg (by omega), h2]

open Classical in
theorem run_eq_drips (x y : Array Value) (f g : Nat → Int) (hx : IsK .i32 x 136 f) (hy : IsK .i32 y 136 g) (w : World) : ∃ b : Bool, (Op.equalIn 10000 48 (.agg x) (.agg y)).run Tryd.prog w = .ok b w ∧ (b = true ↔ ∀ i, i < 136 → f i = g i) := by
  refine ⟨_, run_equalIn_arr Tryd.underlying48 (sz := 17) (by kernel_rfl) 9999 x y w (fun i => decide (∀ j, j < 17 → f (i * 17 + j) = g (i * 17 + j))) ?_, ?_⟩
  · intro i hi
    refine ⟨_, _, run_part_agg Tryd.underlying46 rfl (sz := 17) (by kernel_rfl) x (i * 17) w, run_part_agg Tryd.underlying46 rfl (sz := 17) (by kernel_rfl) y (i * 17) w, ?_⟩
    have h1 := hx.extract (i * 17) 17 (by omega)
    have h2 := hy.extract (i * 17) 17 (by omega)
    rw [run_equalIn_ints Tryd.underlying46 Tryd.underlying21 (by kernel_rfl) _ _ (fun j => f (i * 17 + j)) (fun j => g (i * 17 + j)) (fun j hj => h1.get hj) (fun j hj => h2.get hj) 9997 w]
    congr 1
    rw [Bool.eq_iff_iff]; simp
  · simp only [decide_eq_true_eq]
    constructor
    · intro h j hj
      have := h (j / 17) (by omega) (j % 17) (by omega)
      rwa [show j / 17 * 17 + j % 17 = j from by omega] at this
    · intro h i hi j hj
      exact h _ (by omega)

/-- What first returns. -/
def FirstEnd (D : Nat → Int) (w : World) (e : Ending) (w' : World) : Prop := ∃ c k : Nat, c < 8 ∧ k < 17 ∧ 0 < D (c * 17 + k) ∧ (∀ j, j < c * 17 + k → D j ≤ 0) ∧ e = .returned (.tuple #[.int .i64 c, .int .i64 k]) ∧ Below w.heap.size w w'

end Go.Proofs.YtcopdilmkfmpiaaDoor

/- Drips compared with themselves; lists among the boxes. -/
namespace Go.Proofs.YtcopdilmkfmpiaaDoor
open Go.RowKit

set_option maxRecDepth 100000 in
set_option maxHeartbeats 400000 in
theorem eqI17_same (X : Array Value) (f : Nat → Int) (w : World) (hX : IsK .i32 X 17 f) :
    Calls Tryd.prog 56 #[.agg X, .agg X] w fun e w' => e = .returned (.bool true) ∧ Below w.heap.size w w' := by
  obtain ⟨p0, p1, pB⟩ := two_boxes w X X 46 46
  go_enter Tryd.func56, Tryd.ntmps56
  go_wp2_with fail
  refine gen_world fun W hW => ?_
  rw [← hW] at p0 p1 pB
  clear hW
  have P0 := Lib.hid p0
  have P1 := Lib.hid p1
  clear p0 p1
  go_loopw [5] (fun i W' => ∃ k : Nat, k ≤ 17 ∧ i = .int .i64 k ∧ Below W.heap.size W W') (fun i _ => 17 - (intOf i).toNat)
  case atStart => exact ⟨0, by omega, rfl, Below.refl _ _⟩
  case round =>
    obtain ⟨k, hk, rfl, hB⟩ := hrel
    by_cases hlt : k < 17
    · have c0 : wr.cell? ⟨w.heap.size, k, none⟩ = some (.int .i32 (f k)) := (cell_of_rowAt (brow hB P0.out) k).trans (hX.get hlt)
      have c1 : wr.cell? ⟨w.heap.size + 1, k, none⟩ = some (.int .i32 (f k)) := (cell_of_rowAt (brow hB P1.out) k).trans (hX.get hlt)
      have hff : (f k != f k) = false := by simp
      have k0 : (0 : Int) ≤ k := by omega
      have k1 : (k : Int) < 17 := by omega
      go_wp2_with fail
      go_quiet (fail)
      go_wp2_with fail
      refine ⟨⟨k + 1, by omega, by go_num, below_drewN hB _⟩, by simp [intOf]; omega⟩
    · go_wp2_with fail
      go_ret
      exact ⟨rfl, bnext pB hB pB.size⟩

set_option maxRecDepth 100000 in
set_option maxHeartbeats 400000 in
theorem eqDrips_same (X : Array Value) (f : Nat → Int) (w : World) (hX : IsK .i32 X 136 f) :
    Calls Tryd.prog 25 #[.agg X, .agg X] w fun e w' => e = .returned (.bool true) ∧ Below w.heap.size w w' := by
  obtain ⟨p0, p1, pB⟩ := two_boxes w X X 48 48
  have hx := hX.size
  have H := Lib.hid hX; clear hX
  go_enter Tryd.func25, Tryd.ntmps25
  go_wp2_with fail
  refine gen_world fun W hW => ?_
  rw [← hW] at p0 p1 pB
  clear hW
  go_loopw [5] (fun i W' => ∃ k : Nat, k ≤ 8 ∧ i = .int .i64 k ∧ rowAt W' w.heap.size = some X ∧ rowAt W' (w.heap.size + 1) = some X ∧ Below W.heap.size W W') (fun i _ => 8 - (intOf i).toNat)
  case atStart => exact ⟨0, by omega, rfl, p0, p1, Below.refl _ _⟩
  case round =>
    clear p0 p1
    obtain ⟨k, hk, rfl, r0, r1, hB⟩ := hrel
    by_cases hlt : k < 8
    · have hk8 : k * 17 + 17 ≤ 136 := by omega
      have hi0 : 0 ≤ (k : Int) := by omega
      have hi1 : (k : Int) < 8 := by omega
      go_wp2_with fail
      go_still_tail 6, (by kernel_rfl)
      change wpList _ _ _ _ _ wr.drew
      go_wp2_with fail
      refine (eqI17_same _ _ _ (H.out.extract (k * 17) 17 hk8)).mono ?_
      rintro e w1 ⟨rfl, hb⟩
      have q0 := brow hb r0
      have q1 := brow hb r1
      have hB1 := (hB.drew).trans (hb.mono hB.size)
      clear hb r0 r1
      go_wp2_with fail
      refine ⟨⟨k + 1, by omega, by go_num, q0, q1, hB1⟩, by simp [intOf]; omega⟩
    · go_wp2_with fail
      go_ret
      exact ⟨rfl, bnext pB hB pB.size⟩

/-- A list's block as a box: what holds of its row holds of the list. -/
theorem IsList.box {w : World} {b sz n : Nat} {v : Value} {f : Nat → Value} (h : IsList w b v sz n f) :
    ∃ L : List (Nat × Array Value), (∀ p, p ∈ L → rowAt w p.1 = some p.2) ∧ ∀ W, (∀ p, p ∈ L → rowAt W p.1 = some p.2) → IsList W 0 v sz n f := by
  rcases h with h | ⟨g, cap, cur, rfl, hg, hr, hs, hf⟩
  · exact ⟨[], by simp, fun W _ => .inl h⟩
  · exact ⟨[(g, cur)], fun p hp => by obtain rfl := List.mem_singleton.1 hp; exact hr, fun W hW => .inr ⟨g, cap, cur, rfl, Nat.zero_le _, hW (g, cur) (by simp), hs, hf⟩⟩
theorem Boxes.app {N : Nat} {w W : World} {L L1 : List (Nat × Array Value)} (h : Boxes N w L W) (h1 : ∀ p, p ∈ L1 → rowAt W p.1 = some p.2) : Boxes W.heap.size w (L1 ++ L) W :=
  ⟨fun p hp => by
    rcases List.mem_append.1 hp with hp | hp
    · exact h1 p hp
    · exact h.rows p hp, h.bel, h.bel.size, Nat.le_refl _, fun p hp => by
    rcases List.mem_append.1 hp with hp | hp
    · exact rowAt_lt (h1 p hp)
    · exact Nat.lt_of_lt_of_le (h.low p hp) h.size⟩
theorem Boxes.belowN {N M : Nat} {w W W' : World} {L : List (Nat × Array Value)} (h : Boxes N w L W) (b : Below M W W') (hM : N ≤ M) : Boxes N w L W' :=
  ⟨fun p hp => (rowAt_below b p.1 (Nat.lt_of_lt_of_le (h.low p hp) hM)).trans (h.rows p hp), h.bel.trans (b.mono (Nat.le_trans h.base hM)), h.base, Nat.le_trans h.size b.size, h.low⟩
theorem Boxes.sub {N : Nat} {w W : World} {L L1 : List (Nat × Array Value)} (h : Boxes N w L W) (hs : ∀ p, p ∈ L1 → p ∈ L) : Boxes N w L1 W :=
  ⟨fun p hp => h.rows p (hs p hp), h.bel, h.base, h.size, fun p hp => h.low p (hs p hp)⟩
end Go.Proofs.YtcopdilmkfmpiaaDoor

/- What has been seen of a roof: the program's look. -/
namespace Go.Proofs.YtcopdilmkfmpiaaDoor
open Go.RowKit

theorem onesZ_sight : Ones Tryd.zeroCells99 := by
  have h : (Tryd.zeroCells99).toList.all (fun v => v.oneCell') = true := by kernel_rfl
  intro v hv
  exact List.all_eq_true.1 h v (by simpa using hv)

set_option maxRecDepth 100000 in
set_option maxHeartbeats 2000000 in
theorem look_no (a : Nat → Addr) (b n : Nat) (c d X : Array Value) (r : Rf) (t D f : Nat → Int) (v : Value) (w : World) (hE : Errs a w) (hR : IsRoof c r) (hT : IsRain d t) (hX : IsD X D) (hv : IsList w b v 2 n (fun i => .int .i8 (f i))) (_hn : n ≤ 2000000) (ho : ¬ r.Rains t) :
    Calls Tryd.prog 55 #[.agg c, .agg d, .agg X, v] w fun e w' => e = .returned (.tuple #[.agg Tryd.zeroCells99, errV (a 0)]) ∧ Below w.heap.size w w' := by
  have hxs := hX.size
  have hcs := hR.size
  have hds := hT.size
  have hzs := zsight_size
  have hzo : Ones Tryd.zeroCells99 := onesZ_sight
  have ne1 := neqNilE
  have ne0 := neqNil0
  have HE := Lib.hid hE
  have HV := Lib.hid hv
  obtain ⟨av, cv, rfl⟩ := hv.shape
  clear hE hv
  go_enter Tryd.func55, Tryd.ntmps55
  go_wp2_with fail
  refine gen_callsS fun W1 hW => ?_
  have p0 : rowAt W1 w.heap.size = some c := by rw [hW]; exact (rowAt_alloc_past _ _ _ (by first | omega | (simp; done) | (simp; omega))).trans ((rowAt_alloc_past _ _ _ (by first | omega | (simp; done) | (simp; omega))).trans ((rowAt_alloc_past _ _ _ (by simp)).trans (rowAt_alloc_at _ _ _ _ rfl)))
  have p1 : rowAt W1 (w.heap.size + 1) = some d := by rw [hW]; exact (rowAt_alloc_past _ _ _ (by first | omega | (simp; done) | (simp; omega))).trans ((rowAt_alloc_past _ _ _ (by simp)).trans (rowAt_alloc_at _ _ _ _ (by simp)))
  have p2 : rowAt W1 (w.heap.size + 1 + 1) = some X := by rw [hW]; exact (rowAt_alloc_past _ _ _ (by simp)).trans (rowAt_alloc_at _ _ _ _ (by simp))
  have p3 : rowAt W1 (w.heap.size + 1 + 1 + 1) = some Tryd.zeroCells99 := by rw [hW]; exact rowAt_alloc_at _ _ _ _ (by simp)
  have pB : Below w.heap.size w W1 := by rw [hW]; exact ((((Below.refl _ _).alloc (Nat.le_refl _) _).alloc (by simp) _).alloc (by first | omega | (simp; done) | (simp; omega)) _).alloc (by first | omega | (simp; done) | (simp; omega)) _
  have HV1 := Lib.hid (HV.out.below pB (Nat.le_refl _))
  have HE1 := Lib.hid (HE.out.below pB)
  clear hW
  refine (checkPlaces_no a c d r t _ _ HE1.out hR hT ho).mono ?_
  rintro e w2 ⟨rfl, b2⟩
  have s3 := brow b2 p3
  have sB := bnext pB b2 pB.size
  clear b2 p0 p1 p2 p3 pB
  go_wp2_with fail
  refine bodyPost_ret (v := .tuple #[.agg Tryd.zeroCells99, errV (a 0)]) (results_row2 (m := 343) rfl _ _ (w.heap.size + 1 + 1 + 1) _ _ rfl rfl (rowAt_setRow_at _ _ _ (by rw [s3]; rfl)) Tryd.underlying99 rfl (by kernel_rfl) hzs) rfl ⟨rfl, ?_⟩
  exact below_setRow sB (by omega) _

set_option maxRecDepth 100000 in
set_option maxHeartbeats 2000000 in
theorem look_bad (a : Nat → Addr) (b n : Nat) (c d X : Array Value) (r : Rf) (t D f : Nat → Int) (v : Value) (w : World) (hE : Errs a w) (hR : IsRoof c r) (hT : IsRain d t) (hX : IsD X D) (hv : IsList w b v 2 n (fun i => .int .i8 (f i))) (hn : n ≤ 2000000) (ho : r.Rains t) (hP : ¬ r.okP f n) :
    Calls Tryd.prog 55 #[.agg c, .agg d, .agg X, v] w fun e w' => e = .returned (.tuple #[.agg Tryd.zeroCells99, errV (a 1)]) ∧ Below w.heap.size w w' := by
  have hxs := hX.size
  have hcs := hR.size
  have hds := hT.size
  have hzs := zsight_size
  have hzo : Ones Tryd.zeroCells99 := onesZ_sight
  have ne1 := neqNilE
  have ne0 := neqNil0
  have HE := Lib.hid hE
  have HV := Lib.hid hv
  obtain ⟨av, cv, rfl⟩ := hv.shape
  clear hE hv
  go_enter Tryd.func55, Tryd.ntmps55
  go_wp2_with fail
  refine gen_callsS fun W1 hW => ?_
  have p0 : rowAt W1 w.heap.size = some c := by rw [hW]; exact (rowAt_alloc_past _ _ _ (by first | omega | (simp; done) | (simp; omega))).trans ((rowAt_alloc_past _ _ _ (by first | omega | (simp; done) | (simp; omega))).trans ((rowAt_alloc_past _ _ _ (by simp)).trans (rowAt_alloc_at _ _ _ _ rfl)))
  have p1 : rowAt W1 (w.heap.size + 1) = some d := by rw [hW]; exact (rowAt_alloc_past _ _ _ (by first | omega | (simp; done) | (simp; omega))).trans ((rowAt_alloc_past _ _ _ (by simp)).trans (rowAt_alloc_at _ _ _ _ (by simp)))
  have p2 : rowAt W1 (w.heap.size + 1 + 1) = some X := by rw [hW]; exact (rowAt_alloc_past _ _ _ (by simp)).trans (rowAt_alloc_at _ _ _ _ (by simp))
  have p3 : rowAt W1 (w.heap.size + 1 + 1 + 1) = some Tryd.zeroCells99 := by rw [hW]; exact rowAt_alloc_at _ _ _ _ (by simp)
  have pB : Below w.heap.size w W1 := by rw [hW]; exact ((((Below.refl _ _).alloc (Nat.le_refl _) _).alloc (by simp) _).alloc (by first | omega | (simp; done) | (simp; omega)) _).alloc (by first | omega | (simp; done) | (simp; omega)) _
  have HV1 := Lib.hid (HV.out.below pB (Nat.le_refl _))
  have HE1 := Lib.hid (HE.out.below pB)
  clear hW
  refine (checkPlaces_bad a b n c d r t f _ _ HE1.out hR hT ho HV1.out hn hP).mono ?_
  rintro e w2 ⟨rfl, b2⟩
  have s3 := brow b2 p3
  have sB := bnext pB b2 pB.size
  clear b2 p0 p1 p2 p3 pB
  go_wp2_with fail
  refine bodyPost_ret (v := .tuple #[.agg Tryd.zeroCells99, errV (a 1)]) (results_row2 (m := 343) rfl _ _ (w.heap.size + 1 + 1 + 1) _ _ rfl rfl (rowAt_setRow_at _ _ _ (by rw [s3]; rfl)) Tryd.underlying99 rfl (by kernel_rfl) hzs) rfl ⟨rfl, ?_⟩
  exact below_setRow sB (by omega) _

set_option maxRecDepth 100000 in
set_option maxHeartbeats 2000000 in
theorem look_unsound (a : Nat → Addr) (b n : Nat) (c d X : Array Value) (r : Rf) (t D f : Nat → Int) (v : Value) (w : World) (hE : Errs a w) (hR : IsRoof c r) (hT : IsRain d t) (hX : IsD X D) (hv : IsList w b v 2 n (fun i => .int .i8 (f i))) (hn : n ≤ 2000000) (ho : r.Rains t) (hP : r.okP f n) (hs : ¬ r.Sound t D) :
    Calls Tryd.prog 55 #[.agg c, .agg d, .agg X, v] w fun e w' => e = .returned (.tuple #[.agg Tryd.zeroCells99, errV (a 3)]) ∧ Below w.heap.size w w' := by
  have CS := fun w => areSound_any X c d r t D w hX hR hT ho
  rw [Rf.sB_f hs] at CS
  have hxs := hX.size
  have hcs := hR.size
  have hds := hT.size
  have hzs := zsight_size
  have hzo : Ones Tryd.zeroCells99 := onesZ_sight
  have ne1 := neqNilE
  have ne0 := neqNil0
  have HE := Lib.hid hE
  have HV := Lib.hid hv
  obtain ⟨av, cv, rfl⟩ := hv.shape
  clear hE hv
  go_enter Tryd.func55, Tryd.ntmps55
  go_wp2_with fail
  refine gen_callsS fun W1 hW => ?_
  have p0 : rowAt W1 w.heap.size = some c := by rw [hW]; exact (rowAt_alloc_past _ _ _ (by first | omega | (simp; done) | (simp; omega))).trans ((rowAt_alloc_past _ _ _ (by first | omega | (simp; done) | (simp; omega))).trans ((rowAt_alloc_past _ _ _ (by simp)).trans (rowAt_alloc_at _ _ _ _ rfl)))
  have p1 : rowAt W1 (w.heap.size + 1) = some d := by rw [hW]; exact (rowAt_alloc_past _ _ _ (by first | omega | (simp; done) | (simp; omega))).trans ((rowAt_alloc_past _ _ _ (by simp)).trans (rowAt_alloc_at _ _ _ _ (by simp)))
  have p2 : rowAt W1 (w.heap.size + 1 + 1) = some X := by rw [hW]; exact (rowAt_alloc_past _ _ _ (by simp)).trans (rowAt_alloc_at _ _ _ _ (by simp))
  have p3 : rowAt W1 (w.heap.size + 1 + 1 + 1) = some Tryd.zeroCells99 := by rw [hW]; exact rowAt_alloc_at _ _ _ _ (by simp)
  have pB : Below w.heap.size w W1 := by rw [hW]; exact ((((Below.refl _ _).alloc (Nat.le_refl _) _).alloc (by simp) _).alloc (by first | omega | (simp; done) | (simp; omega)) _).alloc (by first | omega | (simp; done) | (simp; omega)) _
  have HV1 := Lib.hid (HV.out.below pB (Nat.le_refl _))
  have HE1 := Lib.hid (HE.out.below pB)
  clear hW
  refine (checkPlaces_ok a b n c d r t f _ _ HE1.out hR hT ho HV1.out hn hP).mono ?_
  rintro e w2 ⟨rfl, b2⟩
  have s0 := brow b2 p0
  have s1 := brow b2 p1
  have s2 := brow b2 p2
  have s3 := brow b2 p3
  have HE2 := Lib.hid (HE1.out.below b2)
  have sB := bnext pB b2 pB.size
  clear b2 p0 p1 p2 p3 pB
  go_wp2_with fail
  refine (CS _).mono ?_
  rintro e w3 ⟨rfl, b3⟩
  have u3 := brow b3 s3
  have uB := bnext sB b3 sB.size
  have k3 := (HE2.out.below b3).v3
  have lt3 := rowAt_lt u3
  have l5 := lt_of_cellE HE.out.v3
  have n5 : 5 ≠ w.heap.size + 1 + 1 + 1 := by simp at l5; omega
  clear b3 s0 s1 s2 s3 sB CS
  go_wp2_with fail
  go_region
  go_wp2_with fail
  refine bodyPost_ret (v := .tuple #[.agg Tryd.zeroCells99, errV (a 3)]) (results_row2 (m := 343) rfl _ _ (w.heap.size + 1 + 1 + 1) _ _ rfl rfl (rowAt_setRow_at _ _ _ (by rw [u3]; rfl)) Tryd.underlying99 rfl (by kernel_rfl) hzs) rfl ⟨rfl, ?_⟩
  exact (below_setRow uB (by omega) _).drew

/-- What look gives where all is well. -/
def LookEnd (w : World) (c X : Array Value) (r : Rf) (t D : Nat → Int) (e : Ending) (w' : World) : Prop :=
  ∃ B2 B3, e = .returned (.tuple #[.agg (sightC (bareC c) (mkI .i32 136 (r.seen t D)) X (dripK B2 B3)), .nilIface]) ∧ rowAt w' B2 = some #[.int .i64 2] ∧ rowAt w' B3 = some #[.int .i64 3] ∧ w.heap.size ≤ B2 ∧ w.heap.size ≤ B3 ∧ Below w.heap.size w w'

set_option maxRecDepth 100000 in
set_option maxHeartbeats 4000000 in
theorem look_ok (a : Nat → Addr) (b n : Nat) (c d X : Array Value) (r : Rf) (t D f : Nat → Int) (v : Value) (w : World) (hE : Errs a w) (hR : IsRoof c r) (hT : IsRain d t) (hX : IsD X D) (hv : IsList w b v 2 n (fun i => .int .i8 (f i))) (hn : n ≤ 2000000) (ho : r.Rains t) (hP : r.okP f n) (hs : r.Sound t D) :
    Calls Tryd.prog 55 #[.agg c, .agg d, .agg X, v] w (LookEnd w c X r t D) := by
  have CS := fun w => areSound_any X c d r t D w hX hR hT ho
  rw [Rf.sB_t hs] at CS
  have CM := fun w => mended_any c r w hR
  have CC := fun w => comesTo_any X c d r t D w hX hR hT ho hs
  have hbs := hR.bare.size
  have hbo := hR.bare.ones
  have hys : (mkI .i32 136 (r.seen t D)).size = 136 := by simp
  have hyo := (isK_mkI .i32 136 (r.seen t D)).ones
  have hxo := hX.ones
  obtain ⟨Y, hY⟩ : ∃ Y, Y = mkI .i32 136 (r.seen t D) := ⟨_, rfl⟩
  obtain ⟨C, hC⟩ : ∃ C, C = bareC c := ⟨_, rfl⟩
  rw [← hY] at CC hys hyo
  rw [← hC] at CM hbs hbo
  have HY := Lib.hid hY
  have HC := Lib.hid hC
  clear hY hC
  have hxs := hX.size
  have hcs := hR.size
  have hds := hT.size
  have hzs := zsight_size
  have hzo : Ones Tryd.zeroCells99 := onesZ_sight
  have ne1 := neqNilE
  have ne0 := neqNil0
  have HE := Lib.hid hE
  have HV := Lib.hid hv
  obtain ⟨av, cv, rfl⟩ := hv.shape
  clear hE hv
  go_enter Tryd.func55, Tryd.ntmps55
  go_wp2_with fail
  refine gen_callsS fun W1 hW => ?_
  have p0 : rowAt W1 w.heap.size = some c := by rw [hW]; exact (rowAt_alloc_past _ _ _ (by first | omega | (simp; done) | (simp; omega))).trans ((rowAt_alloc_past _ _ _ (by first | omega | (simp; done) | (simp; omega))).trans ((rowAt_alloc_past _ _ _ (by simp)).trans (rowAt_alloc_at _ _ _ _ rfl)))
  have p1 : rowAt W1 (w.heap.size + 1) = some d := by rw [hW]; exact (rowAt_alloc_past _ _ _ (by first | omega | (simp; done) | (simp; omega))).trans ((rowAt_alloc_past _ _ _ (by simp)).trans (rowAt_alloc_at _ _ _ _ (by simp)))
  have p2 : rowAt W1 (w.heap.size + 1 + 1) = some X := by rw [hW]; exact (rowAt_alloc_past _ _ _ (by simp)).trans (rowAt_alloc_at _ _ _ _ (by simp))
  have p3 : rowAt W1 (w.heap.size + 1 + 1 + 1) = some Tryd.zeroCells99 := by rw [hW]; exact rowAt_alloc_at _ _ _ _ (by simp)
  have pB : Below w.heap.size w W1 := by rw [hW]; exact ((((Below.refl _ _).alloc (Nat.le_refl _) _).alloc (by simp) _).alloc (by first | omega | (simp; done) | (simp; omega)) _).alloc (by first | omega | (simp; done) | (simp; omega)) _
  have HV1 := Lib.hid (HV.out.below pB (Nat.le_refl _))
  have HE1 := Lib.hid (HE.out.below pB)
  clear hW
  refine (checkPlaces_ok a b n c d r t f _ _ HE1.out hR hT ho HV1.out hn hP).mono ?_
  rintro e w2 ⟨rfl, b2⟩
  have s0 := brow b2 p0
  have s1 := brow b2 p1
  have s2 := brow b2 p2
  have s3 := brow b2 p3
  have sB := bnext pB b2 pB.size
  clear b2 p0 p1 p2 p3 pB
  go_wp2_with fail
  refine (CS _).mono ?_
  rintro e w3 ⟨rfl, b3⟩
  have u0 := brow b3 s0
  have u1 := brow b3 s1
  have u2 := brow b3 s2
  have u3 := brow b3 s3
  have uB := bnext sB b3 sB.size
  have lt3 := rowAt_lt u3
  clear b3 s0 s1 s2 s3 sB CS
  go_wp2_with fail
  refine wp_region_held_drew (S := (fun w' => (rowAt w' w.heap.size = some c ∧ rowAt w' (w.heap.size + 1) = some d ∧ rowAt w' (w.heap.size + 1 + 1) = some X ∧ (∃ Z, rowAt w' (w.heap.size + 1 + 1 + 1) = some Z ∧ Z.size = 343)) ∧ Below w.heap.size w w' ∧ w.heap.size + 1 + 1 + 1 < w'.heap.size)) (by kernel_rfl) (⟨⟨u0, u1, u2, _, u3, hzs⟩, uB.drew, lt3⟩) (fun hH => ?_)
  refine wpAnyH_take (i := 0) (v := .agg c) rfl (by kernel_rfl) (by kernel_rfl) (by kernel_rfl) (fun _ _ _ h => h) (Or.inl ⟨by rfl, ?_⟩) hH ?_
  · intro w1 hS; (try dsimp only at hS); obtain ⟨⟨q0, q1, q2, _⟩, _⟩ := hS; go_simp
  (try simp only [List.getElem_toArray]); (try simp only [List.getElem_cons_succ]); (try simp only [List.getElem_cons_zero]); (try simp only [Act.put]); (try simp only [List.setIfInBounds_toArray]); (try simp only [List.set_cons_succ]); (try simp only [List.set_cons_zero])
  refine wpAnyH_take (i := 2) (v := .agg X) rfl (by kernel_rfl) (by kernel_rfl) (by kernel_rfl) (fun _ _ _ h => h) (Or.inl ⟨by rfl, ?_⟩) hH ?_
  · intro w1 hS; (try dsimp only at hS); obtain ⟨⟨q0, q1, q2, _⟩, _⟩ := hS; go_simp
  (try simp only [List.getElem_toArray]); (try simp only [List.getElem_cons_succ]); (try simp only [List.getElem_cons_zero]); (try simp only [Act.put]); (try simp only [List.setIfInBounds_toArray]); (try simp only [List.set_cons_succ]); (try simp only [List.set_cons_zero])
  refine wpAnyH_take (i := 3) (v := .agg c) rfl (by kernel_rfl) (by kernel_rfl) (by kernel_rfl) (fun _ _ _ h => h) (Or.inl ⟨by rfl, ?_⟩) hH ?_
  · intro w1 hS; (try dsimp only at hS); obtain ⟨⟨q0, q1, q2, _⟩, _⟩ := hS; go_simp
  (try simp only [List.getElem_toArray]); (try simp only [List.getElem_cons_succ]); (try simp only [List.getElem_cons_zero]); (try simp only [Act.put]); (try simp only [List.setIfInBounds_toArray]); (try simp only [List.set_cons_succ]); (try simp only [List.set_cons_zero])
  refine wpAnyH_take (i := 4) (v := .agg d) rfl (by kernel_rfl) (by kernel_rfl) (by kernel_rfl) (fun _ _ _ h => h) (Or.inl ⟨by rfl, ?_⟩) hH ?_
  · intro w1 hS; (try dsimp only at hS); obtain ⟨⟨q0, q1, q2, _⟩, _⟩ := hS; go_simp
  (try simp only [List.getElem_toArray]); (try simp only [List.getElem_cons_succ]); (try simp only [List.getElem_cons_zero]); (try simp only [Act.put]); (try simp only [List.setIfInBounds_toArray]); (try simp only [List.set_cons_succ]); (try simp only [List.set_cons_zero])
  refine wpAnyH_take (i := 6) (v := .agg X) rfl (by kernel_rfl) (by kernel_rfl) (by kernel_rfl) (fun _ _ _ h => h) (Or.inl ⟨by rfl, ?_⟩) hH ?_
  · intro w1 hS; (try dsimp only at hS); obtain ⟨⟨q0, q1, q2, _⟩, _⟩ := hS; go_simp
  (try simp only [List.getElem_toArray]); (try simp only [List.getElem_cons_succ]); (try simp only [List.getElem_cons_zero]); (try simp only [Act.put]); (try simp only [List.setIfInBounds_toArray]); (try simp only [List.set_cons_succ]); (try simp only [List.set_cons_zero])
  refine wpAnyH_ready (rs := [1]) (by kernel_rfl) (by simp) (AllReadyH.cons rfl (fun K hK => ?_) AllReadyH.nil)
  go_simp
  refine (CM _).mono ?_
  rintro x wx ⟨rfl, bx⟩
  go_simp
  refine hK.out _ _ (⟨⟨brow bx hH.1.1, brow bx hH.1.2.1, brow bx hH.1.2.2.1, by obtain ⟨z, hz, hs⟩ := hH.1.2.2.2; exact ⟨z, brow bx hz, hs⟩⟩, bnext hH.2.1 bx hH.2.1.size, Nat.lt_of_lt_of_le hH.2.2 bx.size⟩) (fun hG => ?_)
  clear hK K hH bx
  replace hH := hG
  clear hG
  (try simp only [List.getElem_toArray]); (try simp only [List.getElem_cons_succ]); (try simp only [List.getElem_cons_zero]); (try simp only [Act.put]); (try simp only [List.setIfInBounds_toArray]); (try simp only [List.set_cons_succ]); (try simp only [List.set_cons_zero])
  refine wpAnyH_ready (rs := [5]) (by kernel_rfl) (by simp) (AllReadyH.cons rfl (fun K hK => ?_) AllReadyH.nil)
  go_simp
  refine (CC _).mono ?_
  rintro x wx ⟨rfl, bx⟩
  go_simp
  refine hK.out _ _ (⟨⟨brow bx hH.1.1, brow bx hH.1.2.1, brow bx hH.1.2.2.1, by obtain ⟨z, hz, hs⟩ := hH.1.2.2.2; exact ⟨z, brow bx hz, hs⟩⟩, bnext hH.2.1 bx hH.2.1.size, Nat.lt_of_lt_of_le hH.2.2 bx.size⟩) (fun hG => ?_)
  clear hK K hH bx
  replace hH := hG
  clear hG
  (try simp only [List.getElem_toArray]); (try simp only [List.getElem_cons_succ]); (try simp only [List.getElem_cons_zero]); (try simp only [Act.put]); (try simp only [List.setIfInBounds_toArray]); (try simp only [List.set_cons_succ]); (try simp only [List.set_cons_zero])
  refine wpAnyH_ready (rs := [7]) (by kernel_rfl) (by simp) (AllReadyH.cons rfl (fun K hK => ?_) AllReadyH.nil)
  go_simp
  refine (drippers_any _).mono ?_
  rintro x wx ⟨B2, B3, rfl, e2, e3, g2, g3, bx⟩
  have lx := hH.2.2
  go_simp
  refine hK.out _ _ (⟨⟨brow bx hH.1.1, brow bx hH.1.2.1, brow bx hH.1.2.2.1, by obtain ⟨z, hz, hs⟩ := hH.1.2.2.2; exact ⟨z, brow bx hz, hs⟩⟩, bnext hH.2.1 bx hH.2.1.size, Nat.lt_of_lt_of_le hH.2.2 bx.size⟩) (fun hG => ?_)
  clear hK K hH bx
  replace hH := hG
  clear hG
  (try simp only [List.getElem_toArray]); (try simp only [List.getElem_cons_succ]); (try simp only [List.getElem_cons_zero]); (try simp only [Act.put]); (try simp only [List.setIfInBounds_toArray]); (try simp only [List.set_cons_succ]); (try simp only [List.set_cons_zero])
  have hkl : (dripK B2 B3).size = 4 := rfl
  have hbu := fun w => run_build_sight (w := w) hbs hys hxs hkl
  have hSs := sightC_size hbs hys hxs hkl
  have hSo := sightC_ones hbs hys hxs hkl hbo hyo hxo (ones_dripK B2 B3)
  obtain ⟨S, hS⟩ : ∃ S, S = sightC C Y X (dripK B2 B3) := ⟨_, rfl⟩
  rw [← hS] at hbu hSs hSo
  have HS := Lib.hid hS
  clear hS
  refine wpAnyH_take (i := 8) (v := .agg S) rfl (by kernel_rfl) (by kernel_rfl) (by kernel_rfl) (fun _ _ _ h => h) (Or.inl ⟨by rfl, ?_⟩) hH ?_
  · intro w1 hS; (try dsimp only at hS); go_simp; (first | done | (rw [hbu]; rfl))
  (try simp only [List.getElem_toArray]); (try simp only [List.getElem_cons_succ]); (try simp only [List.getElem_cons_zero]); (try simp only [Act.put]); (try simp only [List.setIfInBounds_toArray]); (try simp only [List.set_cons_succ]); (try simp only [List.set_cons_zero])
  refine wpAnyH_ready (rs := [9]) (by kernel_rfl) (by simp) (AllReadyH.cons rfl (fun K hK => ?_) AllReadyH.nil)
  obtain ⟨Z, hZ, hZs⟩ := hH.1.2.2.2
  go_simp
  refine hK.out _ _ ?_ (fun hG => ?_)
  · exact ⟨⟨(rowAt_setRow_ne _ _ _ _ (by omega)).trans hH.1.1, (rowAt_setRow_ne _ _ _ _ (by omega)).trans hH.1.2.1, (rowAt_setRow_ne _ _ _ _ (by omega)).trans hH.1.2.2.1, ⟨_, rowAt_setRow_at _ _ _ (by rw [hZ]; rfl), hSs⟩⟩, below_setRow hH.2.1 (by omega) _, by simpa using hH.2.2⟩
  clear hK K
  have hH0 := hH
  replace hH := hG
  clear hG
  (try simp only [List.getElem_toArray]); (try simp only [List.getElem_cons_succ]); (try simp only [List.getElem_cons_zero]); (try simp only [Act.put]); (try simp only [List.setIfInBounds_toArray]); (try simp only [List.set_cons_succ]); (try simp only [List.set_cons_zero])
  refine wpAnyH_take (i := 10) (v := .nilIface) rfl (by kernel_rfl) (by kernel_rfl) (by kernel_rfl) (fun _ _ _ h => h) (Or.inl ⟨by rfl, ?_⟩) hH ?_
  · intro w1 hS; (try dsimp only at hS); go_simp
  (try simp only [List.getElem_toArray]); (try simp only [List.getElem_cons_succ]); (try simp only [List.getElem_cons_zero]); (try simp only [Act.put]); (try simp only [List.setIfInBounds_toArray]); (try simp only [List.set_cons_succ]); (try simp only [List.set_cons_zero])
  refine wpAnyH_done (by kernel_rfl) ?_ _
  go_wp2_with fail
  refine bodyPost_ret (v := .tuple #[.agg S, .nilIface]) (results_row2 (m := 343) rfl _ _ (w.heap.size + 1 + 1 + 1) _ _ rfl rfl (rowAt_setRow_at _ _ _ (by rw [hZ]; rfl)) Tryd.underlying99 rfl (by kernel_rfl) hSs) rfl ⟨B2, B3, by rw [HS.out, HY.out, HC.out], (rowAt_setRow_ne _ _ _ _ (by omega)).trans e2, (rowAt_setRow_ne _ _ _ _ (by omega)).trans e3, by omega, by omega, ?_⟩
  exact below_setRow hH0.2.1 (by omega) _
end Go.Proofs.YtcopdilmkfmpiaaDoor

/- The model's code of a roof, rain and drips. -/
namespace Go.Proofs.YtcopdilmkfmpiaaDoor
open Go.RowKit

noncomputable def Rf.acode (r : Rf) (t D : Nat → Int) (fine : Bool) : Int := if r.rok t = true then (if fine = true then (if r.sB t D = true then 0 else 4) else 2) else 1
noncomputable def Rf.seenF (r : Rf) (t D : Nat → Int) (fine : Bool) : Nat → Int := if r.acode t D fine = 0 then r.seen t D else fun _ => 0
noncomputable def Rf.seenA (r : Rf) (t D : Nat → Int) (fine : Bool) : Array Value := mkI .i32 136 (r.seenF t D fine)
theorem Rf.acode_no {r : Rf} {t D : Nat → Int} {fine : Bool} (h : ¬ r.Rains t) : r.acode t D fine = 1 := by unfold Rf.acode; rw [Rf.rok_false h]; rfl
theorem Rf.acode_out {r : Rf} {t D : Nat → Int} (h : r.Rains t) : r.acode t D false = 2 := by unfold Rf.acode; rw [Rf.rok_true h]; rfl
theorem Rf.acode_uns {r : Rf} {t D : Nat → Int} (h : r.Rains t) (hs : ¬ r.Sound t D) : r.acode t D true = 4 := by unfold Rf.acode; rw [Rf.rok_true h, Rf.sB_f hs]; rfl
theorem Rf.acode_in {r : Rf} {t D : Nat → Int} (h : r.Rains t) (hs : r.Sound t D) : r.acode t D true = 0 := by unfold Rf.acode; rw [Rf.rok_true h, Rf.sB_t hs]; rfl
theorem Rf.seenA_no {r : Rf} {t D : Nat → Int} {fine : Bool} (h : r.acode t D fine ≠ 0) : r.seenA t D fine = mkI .i32 136 fun _ => 0 := by unfold Rf.seenA Rf.seenF; rw [if_neg h]
theorem Rf.seenA_in {r : Rf} {t D : Nat → Int} {fine : Bool} (h : r.acode t D fine = 0) : r.seenA t D fine = mkI .i32 136 (r.seen t D) := by unfold Rf.seenA Rf.seenF; rw [if_pos h]

def AskEnd (w : World) (r : Rf) (t D : Nat → Int) (fine : Bool) (e : Ending) (w' : World) : Prop := e = .returned (.tuple #[.agg (r.seenA t D fine), .int .i64 (r.acode t D fine)]) ∧ Below w.heap.size w w'

set_option maxRecDepth 100000 in
set_option maxHeartbeats 2000000 in
theorem l03Asked_any (n0 n1 n2 : Nat) (c d X0 : Array Value) (r : Rf) (t D : Nat → Int) (fine : Bool) (w : World) (hr : rowAt w n0 = some c) (hR : IsRoof c r) (hd : rowAt w n1 = some d) (hT : IsRain d t) (he : rowAt w n2 = some X0) (hD : IsD X0 D) :
    Calls Tryd.prog 53 #[.pointer (some ⟨n0, 0, none⟩), .pointer (some ⟨n1, 0, none⟩), .pointer (some ⟨n2, 0, none⟩), .bool fine] w (AskEnd w r t D fine) := by
  have lt0 := rowAt_lt hr
  have lt1 := rowAt_lt hd
  have lt2 := rowAt_lt he
  have hz : Tryd.zeroCells48 = mkI .i32 136 (fun _ => 0) := by kernel_rfl
  have hzs : Tryd.zeroCells48.size = 136 := by rw [hz]; simp
  have hzo : Ones Tryd.zeroCells48 := by rw [hz]; exact (isK_mkI _ _ _).ones
  have HZ := Lib.hid hz
  have p3 := rowAt_alloc_at w Tryd.zeroCells48 48 w.heap.size rfl
  have pB : Below w.heap.size w (w.alloc (.cells Tryd.zeroCells48 48)) := (Below.refl _ _).alloc (Nat.le_refl _) _
  have p0 := brow pB hr
  have p1 := brow pB hd
  have p2 := brow pB he
  clear hz hr hd he
  by_cases ho : r.Rains t
  · cases fine with
    | false =>
      have hc := Rf.acode_out (D := D) ho
      have HA : Hid (r.acode t D false = 2) := Lib.hid hc
      have HSA : Hid (r.seenA t D false = mkI .i32 136 fun _ => 0) := Lib.hid (Rf.seenA_no (by rw [hc]; decide))
      clear hc
      go_enter Tryd.func53, Tryd.ntmps53
      go_wp2_with fail
      refine (l02Ok_t n0 n1 c d r t _ p0 hR p1 hT ho).mono ?_
      rintro e w1 ⟨rfl, b1⟩
      have s3 := brow b1 p3
      have sB := bnext pB b1 pB.size
      clear b1 p0 p1 p2 p3 pB
      go_wp2_with fail
      refine bodyPost_ret (v := .tuple #[.agg Tryd.zeroCells48, .int .i64 2]) (results_row2 (m := 136) rfl _ _ w.heap.size _ _ rfl rfl (rowAt_setRow_at _ _ _ (by rw [s3]; rfl)) Tryd.underlying48 rfl (by kernel_rfl) hzs) rfl ⟨by rw [HSA.out, HA.out, HZ.out], below_setRow sB (Nat.le_refl _) _⟩
    | true =>
      have CC := fun W h0 h1 h2 => l03Comes_any n0 n1 n2 c d X0 r t D W h0 hR h1 hT h2 hD ho
      by_cases hs : r.Sound t D
      · have hc := Rf.acode_in ho hs
        have HA : Hid (r.acode t D true = 0) := Lib.hid hc
        have HSA : Hid (r.seenA t D true = mkI .i32 136 (r.seen t D)) := Lib.hid (Rf.seenA_in hc)
        have hsb := Rf.sB_t hs
        have HSB := Lib.hid hsb
        clear hc hsb
        go_enter Tryd.func53, Tryd.ntmps53
        go_wp2_with fail
        refine (l02Ok_t n0 n1 c d r t _ p0 hR p1 hT ho).mono ?_
        rintro e w1 ⟨rfl, b1⟩
        have s0 := brow b1 p0
        have s1 := brow b1 p1
        have s2 := brow b1 p2
        have s3 := brow b1 p3
        have sB := bnext pB b1 pB.size
        clear b1 p0 p1 p2 p3 pB
        go_wp2_with fail
        refine (CC _ s0 s1 s2).mono ?_
        rintro e w2 ⟨F, rfl, hF, b2⟩
        have u3 := brow b2 s3
        have uB := bnext sB b2 sB.size
        have lt3 := rowAt_lt u3
        rw [HSB.out, hF hs]
        have hXs : (mkI .i32 136 (r.seen t D)).size = 136 := by simp
        have hXo := (isK_mkI .i32 136 (r.seen t D)).ones
        obtain ⟨X, hX⟩ : ∃ X, X = mkI .i32 136 (r.seen t D) := ⟨_, rfl⟩
        rw [← hX] at hXs hXo ⊢
        have HX := Lib.hid hX
        have hne : w2.heap.size ≠ w.heap.size := by omega
        clear b2 s0 s1 s2 s3 sB hX hF CC
        go_wp2_with fail
        refine bodyPost_ret (v := .tuple #[.agg X, .int .i64 0]) (results_row2 (m := 136) rfl _ _ w.heap.size _ _ rfl rfl ((rowAt_alloc_past _ _ _ (by simpa using lt3)).trans (rowAt_setRow_at _ _ _ (by rw [u3]; rfl))) Tryd.underlying48 rfl (by kernel_rfl) hXs) rfl ⟨by rw [HSA.out, HA.out, HX.out], ?_⟩
        exact (below_setRow uB (Nat.le_refl _) _).alloc (by simpa using uB.size) _
      · have hc := Rf.acode_uns ho hs
        have HA : Hid (r.acode t D true = 4) := Lib.hid hc
        have HSA : Hid (r.seenA t D true = mkI .i32 136 fun _ => 0) := Lib.hid (Rf.seenA_no (by rw [hc]; decide))
        have hsb := Rf.sB_f hs
        have HSB := Lib.hid hsb
        clear hc hsb
        go_enter Tryd.func53, Tryd.ntmps53
        go_wp2_with fail
        refine (l02Ok_t n0 n1 c d r t _ p0 hR p1 hT ho).mono ?_
        rintro e w1 ⟨rfl, b1⟩
        have s0 := brow b1 p0
        have s1 := brow b1 p1
        have s2 := brow b1 p2
        have s3 := brow b1 p3
        have sB := bnext pB b1 pB.size
        clear b1 p0 p1 p2 p3 pB
        go_wp2_with fail
        refine (CC _ s0 s1 s2).mono ?_
        rintro e w2 ⟨F, rfl, hF, b2⟩
        have u3 := brow b2 s3
        have uB := bnext sB b2 sB.size
        have lt3 := rowAt_lt u3
        rw [HSB.out]
        have hXs : (mkI .i32 136 F).size = 136 := by simp
        have hXo := (isK_mkI .i32 136 F).ones
        generalize mkI .i32 136 F = X at *
        have hne : w2.heap.size ≠ w.heap.size := by omega
        clear b2 s0 s1 s2 s3 sB hF CC
        go_wp2_with fail
        refine bodyPost_ret (v := .tuple #[.agg Tryd.zeroCells48, .int .i64 4]) (results_row2 (m := 136) rfl _ _ w.heap.size _ _ rfl rfl ((rowAt_alloc_past _ _ _ (by simpa using lt3)).trans (rowAt_setRow_at _ _ _ (by rw [u3]; rfl))) Tryd.underlying48 rfl (by kernel_rfl) hzs) rfl ⟨by rw [HSA.out, HA.out, HZ.out], ?_⟩
        exact (below_setRow uB (Nat.le_refl _) _).alloc (by simpa using uB.size) _
  · have hc := Rf.acode_no (D := D) (fine := fine) ho
    have HA : Hid (r.acode t D fine = 1) := Lib.hid hc
    have HSA : Hid (r.seenA t D fine = mkI .i32 136 fun _ => 0) := Lib.hid (Rf.seenA_no (by rw [hc]; decide))
    clear hc
    go_enter Tryd.func53, Tryd.ntmps53
    go_wp2_with fail
    refine (l02Ok_f n0 n1 c d r t _ p0 hR p1 hT ho).mono ?_
    rintro e w1 ⟨rfl, b1⟩
    have s3 := brow b1 p3
    have sB := bnext pB b1 pB.size
    clear b1 p0 p1 p2 p3 pB
    go_wp2_with fail
    refine bodyPost_ret (v := .tuple #[.agg Tryd.zeroCells48, .int .i64 1]) (results_row2 (m := 136) rfl _ _ w.heap.size _ _ rfl rfl (rowAt_setRow_at _ _ _ (by rw [s3]; rfl)) Tryd.underlying48 rfl (by kernel_rfl) hzs) rfl ⟨by rw [HSA.out, HA.out, HZ.out], below_setRow sB (Nat.le_refl _) _⟩
end Go.Proofs.YtcopdilmkfmpiaaDoor

/- ComesTo, Explains: contracts of both sides. -/
namespace Go.Proofs.YtcopdilmkfmpiaaDoor
open Go.RowKit

set_option maxRecDepth 100000 in
set_option maxHeartbeats 2000000 in
theorem specComesTo_any (c d X : Array Value) (r : Rf) (t D : Nat → Int) (w : World) (hR : IsRoof c r) (hT : IsRain d t) (hX : IsD X D) :
    Calls Tryd.prog 22 #[.agg c, .agg d, .agg X] w fun e w' => e = .returned (.tuple #[.agg (r.seenA t D true), .int .i64 (r.acode t D true)]) ∧ Below w.heap.size w w' := by
  have hz : Tryd.zeroCells48 = mkI .i32 136 (fun _ => 0) := by kernel_rfl
  have hzs : Tryd.zeroCells48.size = 136 := by rw [hz]; simp
  have hzo : Ones Tryd.zeroCells48 := by rw [hz]; exact (isK_mkI _ _ _).ones
  have HZ := Lib.hid hz
  clear hz
  have hAs : (r.seenA t D true).size = 136 := by simp [Rf.seenA]
  have hAo : Ones (r.seenA t D true) := (isK_mkI _ _ _).ones
  obtain ⟨cd, hcd⟩ : ∃ cd, cd = r.acode t D true := ⟨_, rfl⟩
  have CA := fun W h0 h1 h2 => l03Asked_any w.heap.size (w.heap.size + 1) (w.heap.size + 1 + 1) c d X r t D true W h0 hR h1 hT h2 hX
  unfold AskEnd at CA
  have hno := Rf.seenA_no (r := r) (t := t) (D := D) (fine := true)
  rw [← hcd] at CA hno
  obtain ⟨A, hA⟩ : ∃ A, A = r.seenA t D true := ⟨_, rfl⟩
  rw [← hA] at CA hAs hAo hno
  have HA := Lib.hid hA
  have HC := Lib.hid hcd
  have HN := Lib.hid hno
  clear hA hcd hno
  by_cases hz0 : cd = 0
  · subst hz0
    go_enter Tryd.func22, Tryd.ntmps22
    go_wp2_with fail
    refine gen_callsS fun W1 hW => ?_
    have p0 : rowAt W1 (w.heap.size) = some c := by rw [hW]; exact (rowAt_alloc_past _ _ _ (by first | omega | (simp; done) | (simp; omega))).trans ((rowAt_alloc_past _ _ _ (by first | omega | (simp; done) | (simp; omega))).trans ((rowAt_alloc_past _ _ _ (by first | omega | (simp; done) | (simp; omega))).trans (rowAt_alloc_at _ _ _ _ rfl)))
    have p1 : rowAt W1 (w.heap.size + 1) = some d := by rw [hW]; exact (rowAt_alloc_past _ _ _ (by first | omega | (simp; done) | (simp; omega))).trans ((rowAt_alloc_past _ _ _ (by first | omega | (simp; done) | (simp; omega))).trans (rowAt_alloc_at _ _ _ _ (by simp)))
    have p2 : rowAt W1 (w.heap.size + 1 + 1) = some X := by rw [hW]; exact (rowAt_alloc_past _ _ _ (by first | omega | (simp; done) | (simp; omega))).trans (rowAt_alloc_at _ _ _ _ (by simp))
    have p3 : rowAt W1 (w.heap.size + 1 + 1 + 1) = some Tryd.zeroCells48 := by rw [hW]; exact rowAt_alloc_at _ _ _ _ (by simp)
    have pB : Below w.heap.size w W1 := by rw [hW]; exact ((((Below.refl _ _).alloc (Nat.le_refl _) _).alloc (by first | omega | (simp; done) | (simp; omega)) _).alloc (by first | omega | (simp; done) | (simp; omega)) _).alloc (by first | omega | (simp; done) | (simp; omega)) _
    clear hW
    refine (CA _ p0 p1 p2).mono ?_
    rintro e w2 ⟨rfl, b2⟩
    have u3 := brow b2 p3
    have uB := bnext pB b2 pB.size
    have lt3 := rowAt_lt u3
    have hne : w2.heap.size ≠ w.heap.size + 1 + 1 + 1 := by omega
    clear b2 p0 p1 p2 p3 pB CA
    go_wp2_with fail
    refine bodyPost_ret (v := .tuple #[.agg A, .int .i64 0]) (results_row2 (m := 136) rfl _ _ (w.heap.size + 1 + 1 + 1) _ _ rfl rfl ((rowAt_alloc_past _ _ _ (by simpa using lt3)).trans (rowAt_setRow_at _ _ _ (by rw [u3]; rfl))) Tryd.underlying48 rfl (by kernel_rfl) hAs) rfl ⟨by rw [HA.out, ← HC.out], ?_⟩
    exact (below_setRow uB (by omega) _).alloc (by simpa using uB.size) _
  · have hc0 : (cd != 0) = true := by simpa using hz0
    have HAz := Lib.hid (HN.out hz0)
    clear hz0
    go_enter Tryd.func22, Tryd.ntmps22
    go_wp2_with fail
    refine gen_callsS fun W1 hW => ?_
    have p0 : rowAt W1 (w.heap.size) = some c := by rw [hW]; exact (rowAt_alloc_past _ _ _ (by first | omega | (simp; done) | (simp; omega))).trans ((rowAt_alloc_past _ _ _ (by first | omega | (simp; done) | (simp; omega))).trans ((rowAt_alloc_past _ _ _ (by first | omega | (simp; done) | (simp; omega))).trans (rowAt_alloc_at _ _ _ _ rfl)))
    have p1 : rowAt W1 (w.heap.size + 1) = some d := by rw [hW]; exact (rowAt_alloc_past _ _ _ (by first | omega | (simp; done) | (simp; omega))).trans ((rowAt_alloc_past _ _ _ (by first | omega | (simp; done) | (simp; omega))).trans (rowAt_alloc_at _ _ _ _ (by simp)))
    have p2 : rowAt W1 (w.heap.size + 1 + 1) = some X := by rw [hW]; exact (rowAt_alloc_past _ _ _ (by first | omega | (simp; done) | (simp; omega))).trans (rowAt_alloc_at _ _ _ _ (by simp))
    have p3 : rowAt W1 (w.heap.size + 1 + 1 + 1) = some Tryd.zeroCells48 := by rw [hW]; exact rowAt_alloc_at _ _ _ _ (by simp)
    have pB : Below w.heap.size w W1 := by rw [hW]; exact ((((Below.refl _ _).alloc (Nat.le_refl _) _).alloc (by first | omega | (simp; done) | (simp; omega)) _).alloc (by first | omega | (simp; done) | (simp; omega)) _).alloc (by first | omega | (simp; done) | (simp; omega)) _
    clear hW
    refine (CA _ p0 p1 p2).mono ?_
    rintro e w2 ⟨rfl, b2⟩
    have u3 := brow b2 p3
    have uB := bnext pB b2 pB.size
    have lt3 := rowAt_lt u3
    have hne : w2.heap.size ≠ w.heap.size + 1 + 1 + 1 := by omega
    clear b2 p0 p1 p2 p3 pB CA
    go_wp2_with fail
    refine bodyPost_ret (v := .tuple #[.agg Tryd.zeroCells48, .int .i64 cd]) (results_row2 (m := 136) rfl _ _ (w.heap.size + 1 + 1 + 1) _ _ rfl rfl ((rowAt_alloc_past _ _ _ (by simpa using lt3)).trans (rowAt_setRow_at _ _ _ (by rw [u3]; rfl))) Tryd.underlying48 rfl (by kernel_rfl) hzs) rfl ⟨by rw [← HA.out, HAz.out, HZ.out, HC.out], ?_⟩
    exact (below_setRow uB (by omega) _).alloc (by simpa using uB.size) _

/-- What look's code says where there are no places. -/
theorem Rf.look_code {r : Rf} {t D : Nat → Int} : (¬ r.Rains t ∧ r.acode t D true = 1) ∨ (r.Rains t ∧ ¬ r.Sound t D ∧ r.acode t D true = 4) ∨ (r.Rains t ∧ r.Sound t D ∧ r.acode t D true = 0) := by
  by_cases ho : r.Rains t
  · by_cases hs : r.Sound t D
    · exact .inr (.inr ⟨ho, hs, Rf.acode_in ho hs⟩)
    · exact .inr (.inl ⟨ho, hs, Rf.acode_uns ho hs⟩)
  · exact .inl ⟨ho, Rf.acode_no ho⟩
theorem isList_nil (w : World) (b : Nat) (f : Nat → Value) : IsList w b (.slice none 0 0) 2 0 f := .inl ⟨rfl, none, 0, rfl⟩
/-- look without places: an error with its code. -/
theorem look0_err {a : Nat → Addr} {c d X : Array Value} {r : Rf} {t D : Nat → Int} (hR : IsRoof c r) (hT : IsRain d t) (hX : IsD X D) (hz : r.acode t D true ≠ 0) :
    ∃ i, i < 6 ∧ ecode i = r.acode t D true ∧ ∀ w, Errs a w → Calls Tryd.prog 55 #[.agg c, .agg d, .agg X, .slice none 0 0] w fun e w' => e = .returned (.tuple #[.agg Tryd.zeroCells99, errV (a i)]) ∧ Below w.heap.size w w' := by
  rcases Rf.look_code (r := r) (t := t) (D := D) with ⟨ho, hc⟩ | ⟨ho, hs, hc⟩ | ⟨ho, hs, hc⟩
  · exact ⟨0, by omega, by rw [hc]; rfl, fun w hE => look_no a 0 0 c d X r t D (fun _ => 0) _ w hE hR hT hX (isList_nil _ _ _) (by omega) ho⟩
  · exact ⟨3, by omega, by rw [hc]; rfl, fun w hE => look_unsound a 0 0 c d X r t D (fun _ => 0) _ w hE hR hT hX (isList_nil _ _ _) (by omega) ho (r.okP_zero _) hs⟩
  · exact absurd hc hz
theorem look0_ok {a : Nat → Addr} {c d X : Array Value} {r : Rf} {t D : Nat → Int} (hR : IsRoof c r) (hT : IsRain d t) (hX : IsD X D) (hz : r.acode t D true = 0) (w : World) (hE : Errs a w) :
    Calls Tryd.prog 55 #[.agg c, .agg d, .agg X, .slice none 0 0] w (LookEnd w c X r t D) := by
  rcases Rf.look_code (r := r) (t := t) (D := D) with ⟨ho, hc⟩ | ⟨ho, hs, hc⟩ | ⟨ho, hs, hc⟩
  · omega
  · omega
  · exact look_ok a 0 0 c d X r t D (fun _ => 0) _ w hE hR hT hX (isList_nil _ _ _) (by omega) ho (r.okP_zero _) hs

set_option maxRecDepth 100000 in
set_option maxHeartbeats 2000000 in
theorem implComesTo_any (a : Nat → Addr) (c d X : Array Value) (r : Rf) (t D : Nat → Int) (w : World) (hR : IsRoof c r) (hT : IsRain d t) (hX : IsD X D) (hE : Errs a w) :
    Calls Tryd.prog 24 #[.agg c, .agg d, .agg X] w fun e w' => e = .returned (.tuple #[.agg (r.seenA t D true), .int .i64 (r.acode t D true)]) ∧ Below w.heap.size w w' := by
  have hxs := hX.size
  have hcs := hR.size
  have hds := hT.size
  have ne1 := neqNilE
  have ne0 := neqNil0
  have hss := zsight_size
  have hso := onesZ_sight
  have hz : Tryd.zeroCells48 = mkI .i32 136 (fun _ => 0) := by kernel_rfl
  have hzs : Tryd.zeroCells48.size = 136 := by rw [hz]; simp
  have hzo : Ones Tryd.zeroCells48 := by rw [hz]; exact (isK_mkI _ _ _).ones
  have HZ := Lib.hid hz
  clear hz
  have HE := Lib.hid hE
  clear hE
  by_cases hz0 : r.acode t D true = 0
  · have CL := fun w hE => look0_ok (a := a) hR hT hX hz0 w hE
    unfold LookEnd at CL
    have hYs : (mkI .i32 136 (r.seen t D)).size = 136 := by simp
    have hYo := (isK_mkI .i32 136 (r.seen t D)).ones
    have hSA := Rf.seenA_in hz0
    obtain ⟨Y, hY⟩ : ∃ Y, Y = mkI .i32 136 (r.seen t D) := ⟨_, rfl⟩
    rw [← hY] at CL hYs hYo hSA
    have HA := Lib.hid hSA
    have HC := Lib.hid hz0
    clear hSA hz0 hY
    go_enter Tryd.func24, Tryd.ntmps24
    go_wp2_with fail
    refine gen_callsS fun W1 hW => ?_
    have p0 : rowAt W1 (w.heap.size) = some c := by rw [hW]; exact (rowAt_alloc_past _ _ _ (by first | omega | (simp; done) | (simp; omega))).trans ((rowAt_alloc_past _ _ _ (by first | omega | (simp; done) | (simp; omega))).trans ((rowAt_alloc_past _ _ _ (by first | omega | (simp; done) | (simp; omega))).trans (rowAt_alloc_at _ _ _ _ rfl)))
    have p1 : rowAt W1 (w.heap.size + 1) = some d := by rw [hW]; exact (rowAt_alloc_past _ _ _ (by first | omega | (simp; done) | (simp; omega))).trans ((rowAt_alloc_past _ _ _ (by first | omega | (simp; done) | (simp; omega))).trans (rowAt_alloc_at _ _ _ _ (by simp)))
    have p2 : rowAt W1 (w.heap.size + 1 + 1) = some X := by rw [hW]; exact (rowAt_alloc_past _ _ _ (by first | omega | (simp; done) | (simp; omega))).trans (rowAt_alloc_at _ _ _ _ (by simp))
    have p3 : rowAt W1 (w.heap.size + 1 + 1 + 1) = some Tryd.zeroCells48 := by rw [hW]; exact rowAt_alloc_at _ _ _ _ (by simp)
    have pB : Below w.heap.size w W1 := by rw [hW]; exact ((((Below.refl _ _).alloc (Nat.le_refl _) _).alloc (by first | omega | (simp; done) | (simp; omega)) _).alloc (by first | omega | (simp; done) | (simp; omega)) _).alloc (by first | omega | (simp; done) | (simp; omega)) _
    clear hW
    refine (CL _ (HE.out.below pB)).mono ?_
    rintro e w2 ⟨B2, B3, rfl, _, _, _, _, b2⟩
    have hbs := hR.bare.size
    have hSs := sightC_size hbs hYs hxs (show (dripK B2 B3).size = 4 from rfl)
    have hSo := sightC_ones hbs hYs hxs (show (dripK B2 B3).size = 4 from rfl) hR.bare.ones hYo hX.ones (ones_dripK B2 B3)
    have hSc := sightC_comes hbs hYs hxs (show (dripK B2 B3).size = 4 from rfl)
    generalize sightC (bareC c) Y X (dripK B2 B3) = S at *
    have u3 := brow b2 p3
    have uB := bnext pB b2 pB.size
    have lt3 := rowAt_lt u3
    have hne : w2.heap.size ≠ w.heap.size + 1 + 1 + 1 := by omega
    clear b2 p0 p1 p2 p3 pB CL
    go_wp2_with fail
    refine bodyPost_ret (v := .tuple #[.agg Y, .int .i64 0]) (results_row2 (m := 136) rfl _ _ (w.heap.size + 1 + 1 + 1) _ _ rfl rfl ((rowAt_alloc_past _ _ _ (by simpa using lt3)).trans (rowAt_setRow_at _ _ _ (by rw [u3]; rfl))) Tryd.underlying48 rfl (by kernel_rfl) hYs) rfl ⟨by rw [HA.out, HC.out], ?_⟩
    exact (below_setRow uB (by omega) _).alloc (by simpa using uB.size) _
  · obtain ⟨i, hi, he, CL⟩ := look0_err (a := a) hR hT hX hz0
    have HAz := Lib.hid (Rf.seenA_no hz0)
    have HI := Lib.hid he
    have CLH := Lib.hid CL
    clear hz0 he CL
    go_enter Tryd.func24, Tryd.ntmps24
    go_wp2_with fail
    refine gen_callsS fun W1 hW => ?_
    have p0 : rowAt W1 (w.heap.size) = some c := by rw [hW]; exact (rowAt_alloc_past _ _ _ (by first | omega | (simp; done) | (simp; omega))).trans ((rowAt_alloc_past _ _ _ (by first | omega | (simp; done) | (simp; omega))).trans ((rowAt_alloc_past _ _ _ (by first | omega | (simp; done) | (simp; omega))).trans (rowAt_alloc_at _ _ _ _ rfl)))
    have p1 : rowAt W1 (w.heap.size + 1) = some d := by rw [hW]; exact (rowAt_alloc_past _ _ _ (by first | omega | (simp; done) | (simp; omega))).trans ((rowAt_alloc_past _ _ _ (by first | omega | (simp; done) | (simp; omega))).trans (rowAt_alloc_at _ _ _ _ (by simp)))
    have p2 : rowAt W1 (w.heap.size + 1 + 1) = some X := by rw [hW]; exact (rowAt_alloc_past _ _ _ (by first | omega | (simp; done) | (simp; omega))).trans (rowAt_alloc_at _ _ _ _ (by simp))
    have p3 : rowAt W1 (w.heap.size + 1 + 1 + 1) = some Tryd.zeroCells48 := by rw [hW]; exact rowAt_alloc_at _ _ _ _ (by simp)
    have pB : Below w.heap.size w W1 := by rw [hW]; exact ((((Below.refl _ _).alloc (Nat.le_refl _) _).alloc (by first | omega | (simp; done) | (simp; omega)) _).alloc (by first | omega | (simp; done) | (simp; omega)) _).alloc (by first | omega | (simp; done) | (simp; omega)) _
    clear hW
    refine (CLH.out _ (HE.out.below pB)).mono ?_
    rintro e w2 ⟨rfl, b2⟩
    have HE2 := Lib.hid ((HE.out.below pB).below b2)
    have u3 := brow b2 p3
    have uB := bnext pB b2 pB.size
    have lt3 := rowAt_lt u3
    have hne : w2.heap.size ≠ w.heap.size + 1 + 1 + 1 := by omega
    clear b2 p0 p1 p2 p3 pB
    go_wp2_with fail
    refine gen_callsS fun W3 hW => ?_
    have v3 : rowAt W3 (w.heap.size + 1 + 1 + 1) = some Tryd.zeroCells48 := by rw [hW]; exact (rowAt_alloc_past _ _ _ lt3).trans u3
    have vB : Below w.heap.size w W3 := by rw [hW]; exact uB.alloc uB.size _
    have HE3 := Lib.hid (show Errs a W3 by rw [hW]; exact HE2.out.below ((Below.refl _ _).alloc (Nat.le_refl _) _))
    clear hW u3 uB
    refine (leakCode_any a i _ HE3.out hi).mono ?_
    rintro e w4 ⟨rfl, rfl⟩
    go_wp2_with fail
    refine bodyPost_ret (v := .tuple #[.agg Tryd.zeroCells48, .int .i64 (ecode i)]) (results_row2 (m := 136) rfl _ _ (w.heap.size + 1 + 1 + 1) _ _ rfl rfl (rowAt_setRow_at _ _ _ (by rw [v3]; rfl)) Tryd.underlying48 rfl (by kernel_rfl) hzs) rfl ⟨by rw [HAz.out, HZ.out, HI.out], ?_⟩
    exact below_setRow vB (by omega) _
end Go.Proofs.YtcopdilmkfmpiaaDoor

/- laws.FnExactComesTo returns true for every roof, rain and drips, and leaves them as they were. The sentinels stand in package-level variables: they are listed, and tied by the card. -/
namespace Go.Proofs.YtcopdilmkfmpiaaDoor
open Go.RowKit

/-- Where the ways of a region meet: a box for the drips, a code, and all the boxes that were. -/
def DrCut (w : World) (L : List (Nat × Array Value)) (N : Nat) (A : Array Value) (cd : Int) (p s : Value) (W : World) : Prop :=
  ∃ n, p = .pointer (some ⟨n, 0, none⟩) ∧ s = .int .i64 cd ∧ rowAt W n = some A ∧ Boxes N w L W

set_option maxRecDepth 100000 in
set_option maxHeartbeats 8000000 in
theorem law_walk_FnExactComesTo (a : Nat → Addr) {w : World} {c : Array Value} {r : Rf} (hR : IsRoof c r) {d : Array Value} {t : Nat → Int} (hT : IsRain d t) {X : Array Value} {D : Nat → Int} (hX : IsD X D) (hE : Errs a w) :
    Calls Tryd.prog 6 #[.agg c, .agg d, .agg X] w fun e w' => e = .returned (.bool true) ∧ Below w.heap.size w w' := by
  have pb := boxes3 w c d X 28 30 47
  have hc := hR.size
  have hd := hT.size
  have hxs := hX.size
  have HE := Lib.hid hE
  clear hE
  have CS := fun W => specComesTo_any c d X r t D W hR hT hX
  have CI := fun W hE => implComesTo_any a c d X r t D W hR hT hX hE
  have hne1 : (r.acode t D true != r.acode t D true) = false := by simp
  have hAK : IsK .i32 (r.seenA t D true) 136 (r.seenF t D true) := isK_mkI _ _ _
  have hAs := hAK.size
  have hAo := hAK.ones
  have hzs : Tryd.zeroCells48.size = 136 := by kernel_rfl
  generalize r.seenA t D true = A at *
  generalize r.acode t D true = cd at *
  have CE := fun W => eqDrips_same A _ W hAK
  go_enter Tryd.func6, Tryd.ntmps6
  go_wp2_with fail
  refine gen_world fun W hW => ?_
  rw [← hW] at pb
  clear hW
  go_cut [7, 8] (fun p s W' => DrCut w [(w.heap.size + 1 + 1, X), (w.heap.size + 1, d), (w.heap.size, c)] (w.heap.size + 1 + 1 + 1) A cd p s W')
  case first =>
    refine wp_region_held_drew (S := fun w' => Boxes (w.heap.size + 1 + 1 + 1) w [(w.heap.size + 1 + 1, X), (w.heap.size + 1, d), (w.heap.size, c)] w') (by kernel_rfl) (pb.drew) (fun hH => ?_)
    refine wpAnyH_take (i := 0) (v := .agg c) rfl (by kernel_rfl) (by kernel_rfl) (by kernel_rfl) (fun _ _ _ h => h) (Or.inl ⟨by rfl, ?_⟩) hH ?_
    · intro w1 hS; (try dsimp only at hS); have s0 := hS.rows (w.heap.size, c) (by simp); have s1 := hS.rows (w.heap.size + 1, d) (by simp); have s2 := hS.rows (w.heap.size + 1 + 1, X) (by simp); dsimp only at s0 s1 s2; go_simp
    (try simp only [List.getElem_toArray]); (try simp only [List.getElem_cons_succ]); (try simp only [List.getElem_cons_zero]); (try simp only [Act.put]); (try simp only [List.setIfInBounds_toArray]); (try simp only [List.set_cons_succ]); (try simp only [List.set_cons_zero])
    refine wpAnyH_take (i := 2) (v := .agg d) rfl (by kernel_rfl) (by kernel_rfl) (by kernel_rfl) (fun _ _ _ h => h) (Or.inl ⟨by rfl, ?_⟩) hH ?_
    · intro w1 hS; (try dsimp only at hS); have s0 := hS.rows (w.heap.size, c) (by simp); have s1 := hS.rows (w.heap.size + 1, d) (by simp); have s2 := hS.rows (w.heap.size + 1 + 1, X) (by simp); dsimp only at s0 s1 s2; go_simp
    (try simp only [List.getElem_toArray]); (try simp only [List.getElem_cons_succ]); (try simp only [List.getElem_cons_zero]); (try simp only [Act.put]); (try simp only [List.setIfInBounds_toArray]); (try simp only [List.set_cons_succ]); (try simp only [List.set_cons_zero])
    refine wpAnyH_take (i := 4) (v := .agg X) rfl (by kernel_rfl) (by kernel_rfl) (by kernel_rfl) (fun _ _ _ h => h) (Or.inl ⟨by rfl, ?_⟩) hH ?_
    · intro w1 hS; (try dsimp only at hS); have s0 := hS.rows (w.heap.size, c) (by simp); have s1 := hS.rows (w.heap.size + 1, d) (by simp); have s2 := hS.rows (w.heap.size + 1 + 1, X) (by simp); dsimp only at s0 s1 s2; go_simp
    (try simp only [List.getElem_toArray]); (try simp only [List.getElem_cons_succ]); (try simp only [List.getElem_cons_zero]); (try simp only [Act.put]); (try simp only [List.setIfInBounds_toArray]); (try simp only [List.set_cons_succ]); (try simp only [List.set_cons_zero])
    refine wpAnyH_ready (rs := [1, 10]) (by kernel_rfl) (by simp) (AllReadyH.cons rfl (fun K hK => ?_) (AllReadyH.cons rfl (fun K hK => ?_) (AllReadyH.nil)))
    · go_simp
      refine (toRoof_any c r _ hR).mono ?_
      rintro x wx1 ⟨rfl, bx⟩
      go_simp
      refine hK.out _ _ (hH.call bx) (fun hG => ?_)
      clear hK K hH bx
      replace hH := hG
      clear hG
      (try simp only [List.getElem_toArray]); (try simp only [List.getElem_cons_succ]); (try simp only [List.getElem_cons_zero]); (try simp only [Act.put]); (try simp only [List.setIfInBounds_toArray]); (try simp only [List.set_cons_succ]); (try simp only [List.set_cons_zero])
      refine wpAnyH_ready (rs := [3, 10]) (by kernel_rfl) (by simp) (AllReadyH.cons rfl (fun K hK => ?_) (AllReadyH.cons rfl (fun K hK => ?_) (AllReadyH.nil)))
      · go_simp
        refine (toRain_any d t _ hT).mono ?_
        rintro x wx2 ⟨rfl, bx⟩
        go_simp
        refine hK.out _ _ (hH.call bx) (fun hG => ?_)
        clear hK K hH bx
        replace hH := hG
        clear hG
        (try simp only [List.getElem_toArray]); (try simp only [List.getElem_cons_succ]); (try simp only [List.getElem_cons_zero]); (try simp only [Act.put]); (try simp only [List.setIfInBounds_toArray]); (try simp only [List.set_cons_succ]); (try simp only [List.set_cons_zero])
        refine wpAnyH_ready (rs := [5, 10]) (by kernel_rfl) (by simp) (AllReadyH.cons rfl (fun K hK => ?_) (AllReadyH.cons rfl (fun K hK => ?_) (AllReadyH.nil)))
        · go_simp
          refine (toDrips_any X D _ hX).mono ?_
          rintro x wx3 ⟨rfl, bx⟩
          go_simp
          refine hK.out _ _ (hH.call bx) (fun hG => ?_)
          clear hK K hH bx
          replace hH := hG
          clear hG
          (try simp only [List.getElem_toArray]); (try simp only [List.getElem_cons_succ]); (try simp only [List.getElem_cons_zero]); (try simp only [Act.put]); (try simp only [List.setIfInBounds_toArray]); (try simp only [List.set_cons_succ]); (try simp only [List.set_cons_zero])
          refine wpAnyH_ready (rs := [6, 10]) (by kernel_rfl) (by simp) (AllReadyH.cons rfl (fun K hK => ?_) (AllReadyH.cons rfl (fun K hK => ?_) (AllReadyH.nil)))
          · go_simp
            refine (CS _).mono ?_
            rintro x wx4 ⟨rfl, bx⟩
            go_simp
            refine hK.out _ _ (hH.call bx) (fun hG => ?_)
            clear hK K hH bx
            replace hH := hG
            clear hG
            (try simp only [List.getElem_toArray]); (try simp only [List.getElem_cons_succ]); (try simp only [List.getElem_cons_zero]); (try simp only [Act.put]); (try simp only [List.setIfInBounds_toArray]); (try simp only [List.set_cons_succ]); (try simp only [List.set_cons_zero])
            refine wpAnyH_take (i := 7) (v := .tuple #[.agg A, .int .i64 cd]) rfl (by kernel_rfl) (by kernel_rfl) (by kernel_rfl) (fun _ _ _ h => h) (Or.inl ⟨by rfl, ?_⟩) hH ?_
            · intro w1 hS; (try dsimp only at hS); go_simp
            (try simp only [List.getElem_toArray]); (try simp only [List.getElem_cons_succ]); (try simp only [List.getElem_cons_zero]); (try simp only [Act.put]); (try simp only [List.setIfInBounds_toArray]); (try simp only [List.set_cons_succ]); (try simp only [List.set_cons_zero])
            refine wpAnyH_take (i := 8) (v := .agg A) rfl (by kernel_rfl) (by kernel_rfl) (by kernel_rfl) (fun _ _ _ h => h) (Or.inl ⟨by rfl, ?_⟩) hH ?_
            · intro w1 hS; (try dsimp only at hS); go_simp
            (try simp only [List.getElem_toArray]); (try simp only [List.getElem_cons_succ]); (try simp only [List.getElem_cons_zero]); (try simp only [Act.put]); (try simp only [List.setIfInBounds_toArray]); (try simp only [List.set_cons_succ]); (try simp only [List.set_cons_zero])
            refine wpAnyH_take (i := 9) (v := .int .i64 cd) rfl (by kernel_rfl) (by kernel_rfl) (by kernel_rfl) (fun _ _ _ h => h) (Or.inl ⟨by rfl, ?_⟩) hH ?_
            · intro w1 hS; (try dsimp only at hS); go_simp
            (try simp only [List.getElem_toArray]); (try simp only [List.getElem_cons_succ]); (try simp only [List.getElem_cons_zero]); (try simp only [Act.put]); (try simp only [List.setIfInBounds_toArray]); (try simp only [List.set_cons_succ]); (try simp only [List.set_cons_zero])
            refine wpAnyH_ready (rs := [10]) (by kernel_rfl) (by simp) (AllReadyH.cons rfl (fun K hK => ?_) (AllReadyH.nil))
            · have hB4 := hH
              go_simp
              refine hK.out _ _ ?_ (fun hG => ?_)
              · exact hH.alloc _
              clear hK K hH
              replace hH := hG
              clear hG
              (try simp only [List.getElem_toArray]); (try simp only [List.getElem_cons_succ]); (try simp only [List.getElem_cons_zero]); (try simp only [Act.put]); (try simp only [List.setIfInBounds_toArray]); (try simp only [List.set_cons_succ]); (try simp only [List.set_cons_zero])
              refine wpAnyH_ready (rs := [11]) (by kernel_rfl) (by simp) (AllReadyH.cons rfl (fun K hK => ?_) (AllReadyH.nil))
              · have rA := rowAt_alloc_at wx4 A 48 wx4.heap.size rfl
                go_simp
                refine hK.out _ _ ?_ (fun hG => ?_)
                · exact hB4.alloc _
                clear hK K hH
                replace hH := hG
                clear hG
                (try simp only [List.getElem_toArray]); (try simp only [List.getElem_cons_succ]); (try simp only [List.getElem_cons_zero]); (try simp only [Act.put]); (try simp only [List.setIfInBounds_toArray]); (try simp only [List.set_cons_succ]); (try simp only [List.set_cons_zero])
                refine wpAnyH_take (i := 12) (v := .int .i64 cd) rfl (by kernel_rfl) (by kernel_rfl) (by kernel_rfl) (fun _ _ _ h => h) (Or.inl ⟨by rfl, ?_⟩) hH ?_
                · intro w1 hS; (try dsimp only at hS); go_simp
                (try simp only [List.getElem_toArray]); (try simp only [List.getElem_cons_succ]); (try simp only [List.getElem_cons_zero]); (try simp only [Act.put]); (try simp only [List.setIfInBounds_toArray]); (try simp only [List.set_cons_succ]); (try simp only [List.set_cons_zero])
                refine wpAnyH_done (by kernel_rfl) ?_ _
                go_wp2_with fail
                go_meet
                case rel => exact ⟨_, rfl, rfl, rA, hH⟩
          · have rz := rowAt_alloc_at wx3 Tryd.zeroCells48 48 (wx3.heap.size) rfl
            have hN : (w.heap.size + 1 + 1 + 1) ≤ wx3.heap.size := hH.size
            go_simp
            refine hK.out _ _ ?_ (fun hG => ?_)
            · exact hH.alloc _
            clear hK K hH
            replace hH := hG
            clear hG
            (try simp only [List.getElem_toArray]); (try simp only [List.getElem_cons_succ]); (try simp only [List.getElem_cons_zero]); (try simp only [Act.put]); (try simp only [List.setIfInBounds_toArray]); (try simp only [List.set_cons_succ]); (try simp only [List.set_cons_zero])
            refine wpAnyH_ready (rs := [6]) (by kernel_rfl) (by simp) (AllReadyH.cons rfl (fun K hK => ?_) (AllReadyH.nil))
            · go_simp
              refine (CS _).mono ?_
              rintro x wx4 ⟨rfl, bx⟩
              go_simp
              refine hK.out _ _ (hH.call bx) (fun hG => ?_)
              replace rz := brow bx rz
              clear hK K hH bx
              replace hH := hG
              clear hG
              (try simp only [List.getElem_toArray]); (try simp only [List.getElem_cons_succ]); (try simp only [List.getElem_cons_zero]); (try simp only [Act.put]); (try simp only [List.setIfInBounds_toArray]); (try simp only [List.set_cons_succ]); (try simp only [List.set_cons_zero])
              refine wpAnyH_take (i := 7) (v := .tuple #[.agg A, .int .i64 cd]) rfl (by kernel_rfl) (by kernel_rfl) (by kernel_rfl) (fun _ _ _ h => h) (Or.inl ⟨by rfl, ?_⟩) hH ?_
              · intro w1 hS; (try dsimp only at hS); go_simp
              (try simp only [List.getElem_toArray]); (try simp only [List.getElem_cons_succ]); (try simp only [List.getElem_cons_zero]); (try simp only [Act.put]); (try simp only [List.setIfInBounds_toArray]); (try simp only [List.set_cons_succ]); (try simp only [List.set_cons_zero])
              refine wpAnyH_take (i := 8) (v := .agg A) rfl (by kernel_rfl) (by kernel_rfl) (by kernel_rfl) (fun _ _ _ h => h) (Or.inl ⟨by rfl, ?_⟩) hH ?_
              · intro w1 hS; (try dsimp only at hS); go_simp
              (try simp only [List.getElem_toArray]); (try simp only [List.getElem_cons_succ]); (try simp only [List.getElem_cons_zero]); (try simp only [Act.put]); (try simp only [List.setIfInBounds_toArray]); (try simp only [List.set_cons_succ]); (try simp only [List.set_cons_zero])
              refine wpAnyH_take (i := 9) (v := .int .i64 cd) rfl (by kernel_rfl) (by kernel_rfl) (by kernel_rfl) (fun _ _ _ h => h) (Or.inl ⟨by rfl, ?_⟩) hH ?_
              · intro w1 hS; (try dsimp only at hS); go_simp
              (try simp only [List.getElem_toArray]); (try simp only [List.getElem_cons_succ]); (try simp only [List.getElem_cons_zero]); (try simp only [Act.put]); (try simp only [List.setIfInBounds_toArray]); (try simp only [List.set_cons_succ]); (try simp only [List.set_cons_zero])
              refine wpAnyH_ready (rs := [11]) (by kernel_rfl) (by simp) (AllReadyH.cons rfl (fun K hK => ?_) (AllReadyH.nil))
              · have rS := rowAt_setRow_at wx4 _ A (by rw [rz]; rfl)
                go_simp
                refine hK.out _ _ ?_ (fun hG => ?_)
                · exact hH.set hN
                clear hK K hH
                replace hH := hG
                have rA := rS
                clear hG
                (try simp only [List.getElem_toArray]); (try simp only [List.getElem_cons_succ]); (try simp only [List.getElem_cons_zero]); (try simp only [Act.put]); (try simp only [List.setIfInBounds_toArray]); (try simp only [List.set_cons_succ]); (try simp only [List.set_cons_zero])
                refine wpAnyH_take (i := 12) (v := .int .i64 cd) rfl (by kernel_rfl) (by kernel_rfl) (by kernel_rfl) (fun _ _ _ h => h) (Or.inl ⟨by rfl, ?_⟩) hH ?_
                · intro w1 hS; (try dsimp only at hS); go_simp
                (try simp only [List.getElem_toArray]); (try simp only [List.getElem_cons_succ]); (try simp only [List.getElem_cons_zero]); (try simp only [Act.put]); (try simp only [List.setIfInBounds_toArray]); (try simp only [List.set_cons_succ]); (try simp only [List.set_cons_zero])
                refine wpAnyH_done (by kernel_rfl) ?_ _
                go_wp2_with fail
                go_meet
                case rel => exact ⟨_, rfl, rfl, rA, hH⟩
        · have rz := rowAt_alloc_at wx2 Tryd.zeroCells48 48 (wx2.heap.size) rfl
          have hN : (w.heap.size + 1 + 1 + 1) ≤ wx2.heap.size := hH.size
          go_simp
          refine hK.out _ _ ?_ (fun hG => ?_)
          · exact hH.alloc _
          clear hK K hH
          replace hH := hG
          clear hG
          (try simp only [List.getElem_toArray]); (try simp only [List.getElem_cons_succ]); (try simp only [List.getElem_cons_zero]); (try simp only [Act.put]); (try simp only [List.setIfInBounds_toArray]); (try simp only [List.set_cons_succ]); (try simp only [List.set_cons_zero])
          refine wpAnyH_ready (rs := [5]) (by kernel_rfl) (by simp) (AllReadyH.cons rfl (fun K hK => ?_) (AllReadyH.nil))
          · go_simp
            refine (toDrips_any X D _ hX).mono ?_
            rintro x wx3 ⟨rfl, bx⟩
            go_simp
            refine hK.out _ _ (hH.call bx) (fun hG => ?_)
            replace rz := brow bx rz
            clear hK K hH bx
            replace hH := hG
            clear hG
            (try simp only [List.getElem_toArray]); (try simp only [List.getElem_cons_succ]); (try simp only [List.getElem_cons_zero]); (try simp only [Act.put]); (try simp only [List.setIfInBounds_toArray]); (try simp only [List.set_cons_succ]); (try simp only [List.set_cons_zero])
            refine wpAnyH_ready (rs := [6]) (by kernel_rfl) (by simp) (AllReadyH.cons rfl (fun K hK => ?_) (AllReadyH.nil))
            · go_simp
              refine (CS _).mono ?_
              rintro x wx4 ⟨rfl, bx⟩
              go_simp
              refine hK.out _ _ (hH.call bx) (fun hG => ?_)
              replace rz := brow bx rz
              clear hK K hH bx
              replace hH := hG
              clear hG
              (try simp only [List.getElem_toArray]); (try simp only [List.getElem_cons_succ]); (try simp only [List.getElem_cons_zero]); (try simp only [Act.put]); (try simp only [List.setIfInBounds_toArray]); (try simp only [List.set_cons_succ]); (try simp only [List.set_cons_zero])
              refine wpAnyH_take (i := 7) (v := .tuple #[.agg A, .int .i64 cd]) rfl (by kernel_rfl) (by kernel_rfl) (by kernel_rfl) (fun _ _ _ h => h) (Or.inl ⟨by rfl, ?_⟩) hH ?_
              · intro w1 hS; (try dsimp only at hS); go_simp
              (try simp only [List.getElem_toArray]); (try simp only [List.getElem_cons_succ]); (try simp only [List.getElem_cons_zero]); (try simp only [Act.put]); (try simp only [List.setIfInBounds_toArray]); (try simp only [List.set_cons_succ]); (try simp only [List.set_cons_zero])
              refine wpAnyH_take (i := 8) (v := .agg A) rfl (by kernel_rfl) (by kernel_rfl) (by kernel_rfl) (fun _ _ _ h => h) (Or.inl ⟨by rfl, ?_⟩) hH ?_
              · intro w1 hS; (try dsimp only at hS); go_simp
              (try simp only [List.getElem_toArray]); (try simp only [List.getElem_cons_succ]); (try simp only [List.getElem_cons_zero]); (try simp only [Act.put]); (try simp only [List.setIfInBounds_toArray]); (try simp only [List.set_cons_succ]); (try simp only [List.set_cons_zero])
              refine wpAnyH_take (i := 9) (v := .int .i64 cd) rfl (by kernel_rfl) (by kernel_rfl) (by kernel_rfl) (fun _ _ _ h => h) (Or.inl ⟨by rfl, ?_⟩) hH ?_
              · intro w1 hS; (try dsimp only at hS); go_simp
              (try simp only [List.getElem_toArray]); (try simp only [List.getElem_cons_succ]); (try simp only [List.getElem_cons_zero]); (try simp only [Act.put]); (try simp only [List.setIfInBounds_toArray]); (try simp only [List.set_cons_succ]); (try simp only [List.set_cons_zero])
              refine wpAnyH_ready (rs := [11]) (by kernel_rfl) (by simp) (AllReadyH.cons rfl (fun K hK => ?_) (AllReadyH.nil))
              · have rS := rowAt_setRow_at wx4 _ A (by rw [rz]; rfl)
                go_simp
                refine hK.out _ _ ?_ (fun hG => ?_)
                · exact hH.set hN
                clear hK K hH
                replace hH := hG
                have rA := rS
                clear hG
                (try simp only [List.getElem_toArray]); (try simp only [List.getElem_cons_succ]); (try simp only [List.getElem_cons_zero]); (try simp only [Act.put]); (try simp only [List.setIfInBounds_toArray]); (try simp only [List.set_cons_succ]); (try simp only [List.set_cons_zero])
                refine wpAnyH_take (i := 12) (v := .int .i64 cd) rfl (by kernel_rfl) (by kernel_rfl) (by kernel_rfl) (fun _ _ _ h => h) (Or.inl ⟨by rfl, ?_⟩) hH ?_
                · intro w1 hS; (try dsimp only at hS); go_simp
                (try simp only [List.getElem_toArray]); (try simp only [List.getElem_cons_succ]); (try simp only [List.getElem_cons_zero]); (try simp only [Act.put]); (try simp only [List.setIfInBounds_toArray]); (try simp only [List.set_cons_succ]); (try simp only [List.set_cons_zero])
                refine wpAnyH_done (by kernel_rfl) ?_ _
                go_wp2_with fail
                go_meet
                case rel => exact ⟨_, rfl, rfl, rA, hH⟩
      · have rz := rowAt_alloc_at wx1 Tryd.zeroCells48 48 (wx1.heap.size) rfl
        have hN : (w.heap.size + 1 + 1 + 1) ≤ wx1.heap.size := hH.size
        go_simp
        refine hK.out _ _ ?_ (fun hG => ?_)
        · exact hH.alloc _
        clear hK K hH
        replace hH := hG
        clear hG
        (try simp only [List.getElem_toArray]); (try simp only [List.getElem_cons_succ]); (try simp only [List.getElem_cons_zero]); (try simp only [Act.put]); (try simp only [List.setIfInBounds_toArray]); (try simp only [List.set_cons_succ]); (try simp only [List.set_cons_zero])
        refine wpAnyH_ready (rs := [3]) (by kernel_rfl) (by simp) (AllReadyH.cons rfl (fun K hK => ?_) (AllReadyH.nil))
        · go_simp
          refine (toRain_any d t _ hT).mono ?_
          rintro x wx2 ⟨rfl, bx⟩
          go_simp
          refine hK.out _ _ (hH.call bx) (fun hG => ?_)
          replace rz := brow bx rz
          clear hK K hH bx
          replace hH := hG
          clear hG
          (try simp only [List.getElem_toArray]); (try simp only [List.getElem_cons_succ]); (try simp only [List.getElem_cons_zero]); (try simp only [Act.put]); (try simp only [List.setIfInBounds_toArray]); (try simp only [List.set_cons_succ]); (try simp only [List.set_cons_zero])
          refine wpAnyH_ready (rs := [5]) (by kernel_rfl) (by simp) (AllReadyH.cons rfl (fun K hK => ?_) (AllReadyH.nil))
          · go_simp
            refine (toDrips_any X D _ hX).mono ?_
            rintro x wx3 ⟨rfl, bx⟩
            go_simp
            refine hK.out _ _ (hH.call bx) (fun hG => ?_)
            replace rz := brow bx rz
            clear hK K hH bx
            replace hH := hG
            clear hG
            (try simp only [List.getElem_toArray]); (try simp only [List.getElem_cons_succ]); (try simp only [List.getElem_cons_zero]); (try simp only [Act.put]); (try simp only [List.setIfInBounds_toArray]); (try simp only [List.set_cons_succ]); (try simp only [List.set_cons_zero])
            refine wpAnyH_ready (rs := [6]) (by kernel_rfl) (by simp) (AllReadyH.cons rfl (fun K hK => ?_) (AllReadyH.nil))
            · go_simp
              refine (CS _).mono ?_
              rintro x wx4 ⟨rfl, bx⟩
              go_simp
              refine hK.out _ _ (hH.call bx) (fun hG => ?_)
              replace rz := brow bx rz
              clear hK K hH bx
              replace hH := hG
              clear hG
              (try simp only [List.getElem_toArray]); (try simp only [List.getElem_cons_succ]); (try simp only [List.getElem_cons_zero]); (try simp only [Act.put]); (try simp only [List.setIfInBounds_toArray]); (try simp only [List.set_cons_succ]); (try simp only [List.set_cons_zero])
              refine wpAnyH_take (i := 7) (v := .tuple #[.agg A, .int .i64 cd]) rfl (by kernel_rfl) (by kernel_rfl) (by kernel_rfl) (fun _ _ _ h => h) (Or.inl ⟨by rfl, ?_⟩) hH ?_
              · intro w1 hS; (try dsimp only at hS); go_simp
              (try simp only [List.getElem_toArray]); (try simp only [List.getElem_cons_succ]); (try simp only [List.getElem_cons_zero]); (try simp only [Act.put]); (try simp only [List.setIfInBounds_toArray]); (try simp only [List.set_cons_succ]); (try simp only [List.set_cons_zero])
              refine wpAnyH_take (i := 8) (v := .agg A) rfl (by kernel_rfl) (by kernel_rfl) (by kernel_rfl) (fun _ _ _ h => h) (Or.inl ⟨by rfl, ?_⟩) hH ?_
              · intro w1 hS; (try dsimp only at hS); go_simp
              (try simp only [List.getElem_toArray]); (try simp only [List.getElem_cons_succ]); (try simp only [List.getElem_cons_zero]); (try simp only [Act.put]); (try simp only [List.setIfInBounds_toArray]); (try simp only [List.set_cons_succ]); (try simp only [List.set_cons_zero])
              refine wpAnyH_take (i := 9) (v := .int .i64 cd) rfl (by kernel_rfl) (by kernel_rfl) (by kernel_rfl) (fun _ _ _ h => h) (Or.inl ⟨by rfl, ?_⟩) hH ?_
              · intro w1 hS; (try dsimp only at hS); go_simp
              (try simp only [List.getElem_toArray]); (try simp only [List.getElem_cons_succ]); (try simp only [List.getElem_cons_zero]); (try simp only [Act.put]); (try simp only [List.setIfInBounds_toArray]); (try simp only [List.set_cons_succ]); (try simp only [List.set_cons_zero])
              refine wpAnyH_ready (rs := [11]) (by kernel_rfl) (by simp) (AllReadyH.cons rfl (fun K hK => ?_) (AllReadyH.nil))
              · have rS := rowAt_setRow_at wx4 _ A (by rw [rz]; rfl)
                go_simp
                refine hK.out _ _ ?_ (fun hG => ?_)
                · exact hH.set hN
                clear hK K hH
                replace hH := hG
                have rA := rS
                clear hG
                (try simp only [List.getElem_toArray]); (try simp only [List.getElem_cons_succ]); (try simp only [List.getElem_cons_zero]); (try simp only [Act.put]); (try simp only [List.setIfInBounds_toArray]); (try simp only [List.set_cons_succ]); (try simp only [List.set_cons_zero])
                refine wpAnyH_take (i := 12) (v := .int .i64 cd) rfl (by kernel_rfl) (by kernel_rfl) (by kernel_rfl) (fun _ _ _ h => h) (Or.inl ⟨by rfl, ?_⟩) hH ?_
                · intro w1 hS; (try dsimp only at hS); go_simp
                (try simp only [List.getElem_toArray]); (try simp only [List.getElem_cons_succ]); (try simp only [List.getElem_cons_zero]); (try simp only [Act.put]); (try simp only [List.setIfInBounds_toArray]); (try simp only [List.set_cons_succ]); (try simp only [List.set_cons_zero])
                refine wpAnyH_done (by kernel_rfl) ?_ _
                go_wp2_with fail
                go_meet
                case rel => exact ⟨_, rfl, rfl, rA, hH⟩
    · have rz := rowAt_alloc_at W.drew Tryd.zeroCells48 48 (W.heap.size) rfl
      have hN : (w.heap.size + 1 + 1 + 1) ≤ W.heap.size := hH.size
      go_simp
      refine hK.out _ _ ?_ (fun hG => ?_)
      · exact hH.alloc _
      clear hK K hH
      replace hH := hG
      clear hG
      (try simp only [List.getElem_toArray]); (try simp only [List.getElem_cons_succ]); (try simp only [List.getElem_cons_zero]); (try simp only [Act.put]); (try simp only [List.setIfInBounds_toArray]); (try simp only [List.set_cons_succ]); (try simp only [List.set_cons_zero])
      refine wpAnyH_ready (rs := [1]) (by kernel_rfl) (by simp) (AllReadyH.cons rfl (fun K hK => ?_) (AllReadyH.nil))
      · go_simp
        refine (toRoof_any c r _ hR).mono ?_
        rintro x wx1 ⟨rfl, bx⟩
        go_simp
        refine hK.out _ _ (hH.call bx) (fun hG => ?_)
        replace rz := brow bx rz
        clear hK K hH bx
        replace hH := hG
        clear hG
        (try simp only [List.getElem_toArray]); (try simp only [List.getElem_cons_succ]); (try simp only [List.getElem_cons_zero]); (try simp only [Act.put]); (try simp only [List.setIfInBounds_toArray]); (try simp only [List.set_cons_succ]); (try simp only [List.set_cons_zero])
        refine wpAnyH_ready (rs := [3]) (by kernel_rfl) (by simp) (AllReadyH.cons rfl (fun K hK => ?_) (AllReadyH.nil))
        · go_simp
          refine (toRain_any d t _ hT).mono ?_
          rintro x wx2 ⟨rfl, bx⟩
          go_simp
          refine hK.out _ _ (hH.call bx) (fun hG => ?_)
          replace rz := brow bx rz
          clear hK K hH bx
          replace hH := hG
          clear hG
          (try simp only [List.getElem_toArray]); (try simp only [List.getElem_cons_succ]); (try simp only [List.getElem_cons_zero]); (try simp only [Act.put]); (try simp only [List.setIfInBounds_toArray]); (try simp only [List.set_cons_succ]); (try simp only [List.set_cons_zero])
          refine wpAnyH_ready (rs := [5]) (by kernel_rfl) (by simp) (AllReadyH.cons rfl (fun K hK => ?_) (AllReadyH.nil))
          · go_simp
            refine (toDrips_any X D _ hX).mono ?_
            rintro x wx3 ⟨rfl, bx⟩
            go_simp
            refine hK.out _ _ (hH.call bx) (fun hG => ?_)
            replace rz := brow bx rz
            clear hK K hH bx
            replace hH := hG
            clear hG
            (try simp only [List.getElem_toArray]); (try simp only [List.getElem_cons_succ]); (try simp only [List.getElem_cons_zero]); (try simp only [Act.put]); (try simp only [List.setIfInBounds_toArray]); (try simp only [List.set_cons_succ]); (try simp only [List.set_cons_zero])
            refine wpAnyH_ready (rs := [6]) (by kernel_rfl) (by simp) (AllReadyH.cons rfl (fun K hK => ?_) (AllReadyH.nil))
            · go_simp
              refine (CS _).mono ?_
              rintro x wx4 ⟨rfl, bx⟩
              go_simp
              refine hK.out _ _ (hH.call bx) (fun hG => ?_)
              replace rz := brow bx rz
              clear hK K hH bx
              replace hH := hG
              clear hG
              (try simp only [List.getElem_toArray]); (try simp only [List.getElem_cons_succ]); (try simp only [List.getElem_cons_zero]); (try simp only [Act.put]); (try simp only [List.setIfInBounds_toArray]); (try simp only [List.set_cons_succ]); (try simp only [List.set_cons_zero])
              refine wpAnyH_take (i := 7) (v := .tuple #[.agg A, .int .i64 cd]) rfl (by kernel_rfl) (by kernel_rfl) (by kernel_rfl) (fun _ _ _ h => h) (Or.inl ⟨by rfl, ?_⟩) hH ?_
              · intro w1 hS; (try dsimp only at hS); go_simp
              (try simp only [List.getElem_toArray]); (try simp only [List.getElem_cons_succ]); (try simp only [List.getElem_cons_zero]); (try simp only [Act.put]); (try simp only [List.setIfInBounds_toArray]); (try simp only [List.set_cons_succ]); (try simp only [List.set_cons_zero])
              refine wpAnyH_take (i := 8) (v := .agg A) rfl (by kernel_rfl) (by kernel_rfl) (by kernel_rfl) (fun _ _ _ h => h) (Or.inl ⟨by rfl, ?_⟩) hH ?_
              · intro w1 hS; (try dsimp only at hS); go_simp
              (try simp only [List.getElem_toArray]); (try simp only [List.getElem_cons_succ]); (try simp only [List.getElem_cons_zero]); (try simp only [Act.put]); (try simp only [List.setIfInBounds_toArray]); (try simp only [List.set_cons_succ]); (try simp only [List.set_cons_zero])
              refine wpAnyH_take (i := 9) (v := .int .i64 cd) rfl (by kernel_rfl) (by kernel_rfl) (by kernel_rfl) (fun _ _ _ h => h) (Or.inl ⟨by rfl, ?_⟩) hH ?_
              · intro w1 hS; (try dsimp only at hS); go_simp
              (try simp only [List.getElem_toArray]); (try simp only [List.getElem_cons_succ]); (try simp only [List.getElem_cons_zero]); (try simp only [Act.put]); (try simp only [List.setIfInBounds_toArray]); (try simp only [List.set_cons_succ]); (try simp only [List.set_cons_zero])
              refine wpAnyH_ready (rs := [11]) (by kernel_rfl) (by simp) (AllReadyH.cons rfl (fun K hK => ?_) (AllReadyH.nil))
              · have rS := rowAt_setRow_at wx4 _ A (by rw [rz]; rfl)
                go_simp
                refine hK.out _ _ ?_ (fun hG => ?_)
                · exact hH.set hN
                clear hK K hH
                replace hH := hG
                have rA := rS
                clear hG
                (try simp only [List.getElem_toArray]); (try simp only [List.getElem_cons_succ]); (try simp only [List.getElem_cons_zero]); (try simp only [Act.put]); (try simp only [List.setIfInBounds_toArray]); (try simp only [List.set_cons_succ]); (try simp only [List.set_cons_zero])
                refine wpAnyH_take (i := 12) (v := .int .i64 cd) rfl (by kernel_rfl) (by kernel_rfl) (by kernel_rfl) (fun _ _ _ h => h) (Or.inl ⟨by rfl, ?_⟩) hH ?_
                · intro w1 hS; (try dsimp only at hS); go_simp
                (try simp only [List.getElem_toArray]); (try simp only [List.getElem_cons_succ]); (try simp only [List.getElem_cons_zero]); (try simp only [Act.put]); (try simp only [List.setIfInBounds_toArray]); (try simp only [List.set_cons_succ]); (try simp only [List.set_cons_zero])
                refine wpAnyH_done (by kernel_rfl) ?_ _
                go_wp2_with fail
                go_meet
                case rel => exact ⟨_, rfl, rfl, rA, hH⟩
  case rest =>
    obtain ⟨m, rfl, rfl, rA, pc0⟩ := hcut
    have pc := pc0.more rA
    obtain ⟨N1, hN1⟩ : ∃ N1, N1 = wc.heap.size := ⟨_, rfl⟩
    rw [← hN1] at pc
    clear pb CS rA pc0 hN1
    go_wp2_with fail
    go_cut [9, 10] (fun p s W' => DrCut w ((m, A) :: [(w.heap.size + 1 + 1, X), (w.heap.size + 1, d), (w.heap.size, c)]) N1 A cd p s W')
    case first =>
      refine wp_region_held_drew (S := fun w' => Boxes N1 w ((m, A) :: [(w.heap.size + 1 + 1, X), (w.heap.size + 1, d), (w.heap.size, c)]) w') (by kernel_rfl) (pc.drew) (fun hH => ?_)
      refine wpAnyH_take (i := 0) (v := .agg c) rfl (by kernel_rfl) (by kernel_rfl) (by kernel_rfl) (fun _ _ _ h => h) (Or.inl ⟨by rfl, ?_⟩) hH ?_
      · intro w1 hS; (try dsimp only at hS); have s0 := hS.rows (w.heap.size, c) (by simp); have s1 := hS.rows (w.heap.size + 1, d) (by simp); have s2 := hS.rows (w.heap.size + 1 + 1, X) (by simp); dsimp only at s0 s1 s2; go_simp
      (try simp only [List.getElem_toArray]); (try simp only [List.getElem_cons_succ]); (try simp only [List.getElem_cons_zero]); (try simp only [Act.put]); (try simp only [List.setIfInBounds_toArray]); (try simp only [List.set_cons_succ]); (try simp only [List.set_cons_zero])
      refine wpAnyH_take (i := 2) (v := .agg d) rfl (by kernel_rfl) (by kernel_rfl) (by kernel_rfl) (fun _ _ _ h => h) (Or.inl ⟨by rfl, ?_⟩) hH ?_
      · intro w1 hS; (try dsimp only at hS); have s0 := hS.rows (w.heap.size, c) (by simp); have s1 := hS.rows (w.heap.size + 1, d) (by simp); have s2 := hS.rows (w.heap.size + 1 + 1, X) (by simp); dsimp only at s0 s1 s2; go_simp
      (try simp only [List.getElem_toArray]); (try simp only [List.getElem_cons_succ]); (try simp only [List.getElem_cons_zero]); (try simp only [Act.put]); (try simp only [List.setIfInBounds_toArray]); (try simp only [List.set_cons_succ]); (try simp only [List.set_cons_zero])
      refine wpAnyH_take (i := 4) (v := .agg X) rfl (by kernel_rfl) (by kernel_rfl) (by kernel_rfl) (fun _ _ _ h => h) (Or.inl ⟨by rfl, ?_⟩) hH ?_
      · intro w1 hS; (try dsimp only at hS); have s0 := hS.rows (w.heap.size, c) (by simp); have s1 := hS.rows (w.heap.size + 1, d) (by simp); have s2 := hS.rows (w.heap.size + 1 + 1, X) (by simp); dsimp only at s0 s1 s2; go_simp
      (try simp only [List.getElem_toArray]); (try simp only [List.getElem_cons_succ]); (try simp only [List.getElem_cons_zero]); (try simp only [Act.put]); (try simp only [List.setIfInBounds_toArray]); (try simp only [List.set_cons_succ]); (try simp only [List.set_cons_zero])
      refine wpAnyH_ready (rs := [1, 10]) (by kernel_rfl) (by simp) (AllReadyH.cons rfl (fun K hK => ?_) (AllReadyH.cons rfl (fun K hK => ?_) (AllReadyH.nil)))
      · go_simp
        refine (toRoof_any c r _ hR).mono ?_
        rintro x wx1 ⟨rfl, bx⟩
        go_simp
        refine hK.out _ _ (hH.call bx) (fun hG => ?_)
        clear hK K hH bx
        replace hH := hG
        clear hG
        (try simp only [List.getElem_toArray]); (try simp only [List.getElem_cons_succ]); (try simp only [List.getElem_cons_zero]); (try simp only [Act.put]); (try simp only [List.setIfInBounds_toArray]); (try simp only [List.set_cons_succ]); (try simp only [List.set_cons_zero])
        refine wpAnyH_ready (rs := [3, 10]) (by kernel_rfl) (by simp) (AllReadyH.cons rfl (fun K hK => ?_) (AllReadyH.cons rfl (fun K hK => ?_) (AllReadyH.nil)))
        · go_simp
          refine (toRain_any d t _ hT).mono ?_
          rintro x wx2 ⟨rfl, bx⟩
          go_simp
          refine hK.out _ _ (hH.call bx) (fun hG => ?_)
          clear hK K hH bx
          replace hH := hG
          clear hG
          (try simp only [List.getElem_toArray]); (try simp only [List.getElem_cons_succ]); (try simp only [List.getElem_cons_zero]); (try simp only [Act.put]); (try simp only [List.setIfInBounds_toArray]); (try simp only [List.set_cons_succ]); (try simp only [List.set_cons_zero])
          refine wpAnyH_ready (rs := [5, 10]) (by kernel_rfl) (by simp) (AllReadyH.cons rfl (fun K hK => ?_) (AllReadyH.cons rfl (fun K hK => ?_) (AllReadyH.nil)))
          · go_simp
            refine (toDrips_any X D _ hX).mono ?_
            rintro x wx3 ⟨rfl, bx⟩
            go_simp
            refine hK.out _ _ (hH.call bx) (fun hG => ?_)
            clear hK K hH bx
            replace hH := hG
            clear hG
            (try simp only [List.getElem_toArray]); (try simp only [List.getElem_cons_succ]); (try simp only [List.getElem_cons_zero]); (try simp only [Act.put]); (try simp only [List.setIfInBounds_toArray]); (try simp only [List.set_cons_succ]); (try simp only [List.set_cons_zero])
            refine wpAnyH_ready (rs := [6, 10]) (by kernel_rfl) (by simp) (AllReadyH.cons rfl (fun K hK => ?_) (AllReadyH.cons rfl (fun K hK => ?_) (AllReadyH.nil)))
            · go_simp
              refine (CI _ (HE.out.below hH.bel)).mono ?_
              rintro x wx4 ⟨rfl, bx⟩
              go_simp
              refine hK.out _ _ (hH.call bx) (fun hG => ?_)
              clear hK K hH bx
              replace hH := hG
              clear hG
              (try simp only [List.getElem_toArray]); (try simp only [List.getElem_cons_succ]); (try simp only [List.getElem_cons_zero]); (try simp only [Act.put]); (try simp only [List.setIfInBounds_toArray]); (try simp only [List.set_cons_succ]); (try simp only [List.set_cons_zero])
              refine wpAnyH_take (i := 7) (v := .tuple #[.agg A, .int .i64 cd]) rfl (by kernel_rfl) (by kernel_rfl) (by kernel_rfl) (fun _ _ _ h => h) (Or.inl ⟨by rfl, ?_⟩) hH ?_
              · intro w1 hS; (try dsimp only at hS); go_simp
              (try simp only [List.getElem_toArray]); (try simp only [List.getElem_cons_succ]); (try simp only [List.getElem_cons_zero]); (try simp only [Act.put]); (try simp only [List.setIfInBounds_toArray]); (try simp only [List.set_cons_succ]); (try simp only [List.set_cons_zero])
              refine wpAnyH_take (i := 8) (v := .agg A) rfl (by kernel_rfl) (by kernel_rfl) (by kernel_rfl) (fun _ _ _ h => h) (Or.inl ⟨by rfl, ?_⟩) hH ?_
              · intro w1 hS; (try dsimp only at hS); go_simp
              (try simp only [List.getElem_toArray]); (try simp only [List.getElem_cons_succ]); (try simp only [List.getElem_cons_zero]); (try simp only [Act.put]); (try simp only [List.setIfInBounds_toArray]); (try simp only [List.set_cons_succ]); (try simp only [List.set_cons_zero])
              refine wpAnyH_take (i := 9) (v := .int .i64 cd) rfl (by kernel_rfl) (by kernel_rfl) (by kernel_rfl) (fun _ _ _ h => h) (Or.inl ⟨by rfl, ?_⟩) hH ?_
              · intro w1 hS; (try dsimp only at hS); go_simp
              (try simp only [List.getElem_toArray]); (try simp only [List.getElem_cons_succ]); (try simp only [List.getElem_cons_zero]); (try simp only [Act.put]); (try simp only [List.setIfInBounds_toArray]); (try simp only [List.set_cons_succ]); (try simp only [List.set_cons_zero])
              refine wpAnyH_ready (rs := [10]) (by kernel_rfl) (by simp) (AllReadyH.cons rfl (fun K hK => ?_) (AllReadyH.nil))
              · have hB4 := hH
                go_simp
                refine hK.out _ _ ?_ (fun hG => ?_)
                · exact hH.alloc _
                clear hK K hH
                replace hH := hG
                clear hG
                (try simp only [List.getElem_toArray]); (try simp only [List.getElem_cons_succ]); (try simp only [List.getElem_cons_zero]); (try simp only [Act.put]); (try simp only [List.setIfInBounds_toArray]); (try simp only [List.set_cons_succ]); (try simp only [List.set_cons_zero])
                refine wpAnyH_ready (rs := [11]) (by kernel_rfl) (by simp) (AllReadyH.cons rfl (fun K hK => ?_) (AllReadyH.nil))
                · have rA := rowAt_alloc_at wx4 A 48 wx4.heap.size rfl
                  go_simp
                  refine hK.out _ _ ?_ (fun hG => ?_)
                  · exact hB4.alloc _
                  clear hK K hH
                  replace hH := hG
                  clear hG
                  (try simp only [List.getElem_toArray]); (try simp only [List.getElem_cons_succ]); (try simp only [List.getElem_cons_zero]); (try simp only [Act.put]); (try simp only [List.setIfInBounds_toArray]); (try simp only [List.set_cons_succ]); (try simp only [List.set_cons_zero])
                  refine wpAnyH_take (i := 12) (v := .int .i64 cd) rfl (by kernel_rfl) (by kernel_rfl) (by kernel_rfl) (fun _ _ _ h => h) (Or.inl ⟨by rfl, ?_⟩) hH ?_
                  · intro w1 hS; (try dsimp only at hS); go_simp
                  (try simp only [List.getElem_toArray]); (try simp only [List.getElem_cons_succ]); (try simp only [List.getElem_cons_zero]); (try simp only [Act.put]); (try simp only [List.setIfInBounds_toArray]); (try simp only [List.set_cons_succ]); (try simp only [List.set_cons_zero])
                  refine wpAnyH_done (by kernel_rfl) ?_ _
                  go_wp2_with fail
                  go_meet
                  case rel => exact ⟨_, rfl, rfl, rA, hH⟩
            · have rz := rowAt_alloc_at wx3 Tryd.zeroCells48 48 (wx3.heap.size) rfl
              have hN : N1 ≤ wx3.heap.size := hH.size
              go_simp
              refine hK.out _ _ ?_ (fun hG => ?_)
              · exact hH.alloc _
              clear hK K hH
              replace hH := hG
              clear hG
              (try simp only [List.getElem_toArray]); (try simp only [List.getElem_cons_succ]); (try simp only [List.getElem_cons_zero]); (try simp only [Act.put]); (try simp only [List.setIfInBounds_toArray]); (try simp only [List.set_cons_succ]); (try simp only [List.set_cons_zero])
              refine wpAnyH_ready (rs := [6]) (by kernel_rfl) (by simp) (AllReadyH.cons rfl (fun K hK => ?_) (AllReadyH.nil))
              · go_simp
                refine (CI _ (HE.out.below hH.bel)).mono ?_
                rintro x wx4 ⟨rfl, bx⟩
                go_simp
                refine hK.out _ _ (hH.call bx) (fun hG => ?_)
                replace rz := brow bx rz
                clear hK K hH bx
                replace hH := hG
                clear hG
                (try simp only [List.getElem_toArray]); (try simp only [List.getElem_cons_succ]); (try simp only [List.getElem_cons_zero]); (try simp only [Act.put]); (try simp only [List.setIfInBounds_toArray]); (try simp only [List.set_cons_succ]); (try simp only [List.set_cons_zero])
                refine wpAnyH_take (i := 7) (v := .tuple #[.agg A, .int .i64 cd]) rfl (by kernel_rfl) (by kernel_rfl) (by kernel_rfl) (fun _ _ _ h => h) (Or.inl ⟨by rfl, ?_⟩) hH ?_
                · intro w1 hS; (try dsimp only at hS); go_simp
                (try simp only [List.getElem_toArray]); (try simp only [List.getElem_cons_succ]); (try simp only [List.getElem_cons_zero]); (try simp only [Act.put]); (try simp only [List.setIfInBounds_toArray]); (try simp only [List.set_cons_succ]); (try simp only [List.set_cons_zero])
                refine wpAnyH_take (i := 8) (v := .agg A) rfl (by kernel_rfl) (by kernel_rfl) (by kernel_rfl) (fun _ _ _ h => h) (Or.inl ⟨by rfl, ?_⟩) hH ?_
                · intro w1 hS; (try dsimp only at hS); go_simp
                (try simp only [List.getElem_toArray]); (try simp only [List.getElem_cons_succ]); (try simp only [List.getElem_cons_zero]); (try simp only [Act.put]); (try simp only [List.setIfInBounds_toArray]); (try simp only [List.set_cons_succ]); (try simp only [List.set_cons_zero])
                refine wpAnyH_take (i := 9) (v := .int .i64 cd) rfl (by kernel_rfl) (by kernel_rfl) (by kernel_rfl) (fun _ _ _ h => h) (Or.inl ⟨by rfl, ?_⟩) hH ?_
                · intro w1 hS; (try dsimp only at hS); go_simp
                (try simp only [List.getElem_toArray]); (try simp only [List.getElem_cons_succ]); (try simp only [List.getElem_cons_zero]); (try simp only [Act.put]); (try simp only [List.setIfInBounds_toArray]); (try simp only [List.set_cons_succ]); (try simp only [List.set_cons_zero])
                refine wpAnyH_ready (rs := [11]) (by kernel_rfl) (by simp) (AllReadyH.cons rfl (fun K hK => ?_) (AllReadyH.nil))
                · have rS := rowAt_setRow_at wx4 _ A (by rw [rz]; rfl)
                  go_simp
                  refine hK.out _ _ ?_ (fun hG => ?_)
                  · exact hH.set hN
                  clear hK K hH
                  replace hH := hG
                  have rA := rS
                  clear hG
                  (try simp only [List.getElem_toArray]); (try simp only [List.getElem_cons_succ]); (try simp only [List.getElem_cons_zero]); (try simp only [Act.put]); (try simp only [List.setIfInBounds_toArray]); (try simp only [List.set_cons_succ]); (try simp only [List.set_cons_zero])
                  refine wpAnyH_take (i := 12) (v := .int .i64 cd) rfl (by kernel_rfl) (by kernel_rfl) (by kernel_rfl) (fun _ _ _ h => h) (Or.inl ⟨by rfl, ?_⟩) hH ?_
                  · intro w1 hS; (try dsimp only at hS); go_simp
                  (try simp only [List.getElem_toArray]); (try simp only [List.getElem_cons_succ]); (try simp only [List.getElem_cons_zero]); (try simp only [Act.put]); (try simp only [List.setIfInBounds_toArray]); (try simp only [List.set_cons_succ]); (try simp only [List.set_cons_zero])
                  refine wpAnyH_done (by kernel_rfl) ?_ _
                  go_wp2_with fail
                  go_meet
                  case rel => exact ⟨_, rfl, rfl, rA, hH⟩
          · have rz := rowAt_alloc_at wx2 Tryd.zeroCells48 48 (wx2.heap.size) rfl
            have hN : N1 ≤ wx2.heap.size := hH.size
            go_simp
            refine hK.out _ _ ?_ (fun hG => ?_)
            · exact hH.alloc _
            clear hK K hH
            replace hH := hG
            clear hG
            (try simp only [List.getElem_toArray]); (try simp only [List.getElem_cons_succ]); (try simp only [List.getElem_cons_zero]); (try simp only [Act.put]); (try simp only [List.setIfInBounds_toArray]); (try simp only [List.set_cons_succ]); (try simp only [List.set_cons_zero])
            refine wpAnyH_ready (rs := [5]) (by kernel_rfl) (by simp) (AllReadyH.cons rfl (fun K hK => ?_) (AllReadyH.nil))
            · go_simp
              refine (toDrips_any X D _ hX).mono ?_
              rintro x wx3 ⟨rfl, bx⟩
              go_simp
              refine hK.out _ _ (hH.call bx) (fun hG => ?_)
              replace rz := brow bx rz
              clear hK K hH bx
              replace hH := hG
              clear hG
              (try simp only [List.getElem_toArray]); (try simp only [List.getElem_cons_succ]); (try simp only [List.getElem_cons_zero]); (try simp only [Act.put]); (try simp only [List.setIfInBounds_toArray]); (try simp only [List.set_cons_succ]); (try simp only [List.set_cons_zero])
              refine wpAnyH_ready (rs := [6]) (by kernel_rfl) (by simp) (AllReadyH.cons rfl (fun K hK => ?_) (AllReadyH.nil))
              · go_simp
                refine (CI _ (HE.out.below hH.bel)).mono ?_
                rintro x wx4 ⟨rfl, bx⟩
                go_simp
                refine hK.out _ _ (hH.call bx) (fun hG => ?_)
                replace rz := brow bx rz
                clear hK K hH bx
                replace hH := hG
                clear hG
                (try simp only [List.getElem_toArray]); (try simp only [List.getElem_cons_succ]); (try simp only [List.getElem_cons_zero]); (try simp only [Act.put]); (try simp only [List.setIfInBounds_toArray]); (try simp only [List.set_cons_succ]); (try simp only [List.set_cons_zero])
                refine wpAnyH_take (i := 7) (v := .tuple #[.agg A, .int .i64 cd]) rfl (by kernel_rfl) (by kernel_rfl) (by kernel_rfl) (fun _ _ _ h => h) (Or.inl ⟨by rfl, ?_⟩) hH ?_
                · intro w1 hS; (try dsimp only at hS); go_simp
                (try simp only [List.getElem_toArray]); (try simp only [List.getElem_cons_succ]); (try simp only [List.getElem_cons_zero]); (try simp only [Act.put]); (try simp only [List.setIfInBounds_toArray]); (try simp only [List.set_cons_succ]); (try simp only [List.set_cons_zero])
                refine wpAnyH_take (i := 8) (v := .agg A) rfl (by kernel_rfl) (by kernel_rfl) (by kernel_rfl) (fun _ _ _ h => h) (Or.inl ⟨by rfl, ?_⟩) hH ?_
                · intro w1 hS; (try dsimp only at hS); go_simp
                (try simp only [List.getElem_toArray]); (try simp only [List.getElem_cons_succ]); (try simp only [List.getElem_cons_zero]); (try simp only [Act.put]); (try simp only [List.setIfInBounds_toArray]); (try simp only [List.set_cons_succ]); (try simp only [List.set_cons_zero])
                refine wpAnyH_take (i := 9) (v := .int .i64 cd) rfl (by kernel_rfl) (by kernel_rfl) (by kernel_rfl) (fun _ _ _ h => h) (Or.inl ⟨by rfl, ?_⟩) hH ?_
                · intro w1 hS; (try dsimp only at hS); go_simp
                (try simp only [List.getElem_toArray]); (try simp only [List.getElem_cons_succ]); (try simp only [List.getElem_cons_zero]); (try simp only [Act.put]); (try simp only [List.setIfInBounds_toArray]); (try simp only [List.set_cons_succ]); (try simp only [List.set_cons_zero])
                refine wpAnyH_ready (rs := [11]) (by kernel_rfl) (by simp) (AllReadyH.cons rfl (fun K hK => ?_) (AllReadyH.nil))
                · have rS := rowAt_setRow_at wx4 _ A (by rw [rz]; rfl)
                  go_simp
                  refine hK.out _ _ ?_ (fun hG => ?_)
                  · exact hH.set hN
                  clear hK K hH
                  replace hH := hG
                  have rA := rS
                  clear hG
                  (try simp only [List.getElem_toArray]); (try simp only [List.getElem_cons_succ]); (try simp only [List.getElem_cons_zero]); (try simp only [Act.put]); (try simp only [List.setIfInBounds_toArray]); (try simp only [List.set_cons_succ]); (try simp only [List.set_cons_zero])
                  refine wpAnyH_take (i := 12) (v := .int .i64 cd) rfl (by kernel_rfl) (by kernel_rfl) (by kernel_rfl) (fun _ _ _ h => h) (Or.inl ⟨by rfl, ?_⟩) hH ?_
                  · intro w1 hS; (try dsimp only at hS); go_simp
                  (try simp only [List.getElem_toArray]); (try simp only [List.getElem_cons_succ]); (try simp only [List.getElem_cons_zero]); (try simp only [Act.put]); (try simp only [List.setIfInBounds_toArray]); (try simp only [List.set_cons_succ]); (try simp only [List.set_cons_zero])
                  refine wpAnyH_done (by kernel_rfl) ?_ _
                  go_wp2_with fail
                  go_meet
                  case rel => exact ⟨_, rfl, rfl, rA, hH⟩
        · have rz := rowAt_alloc_at wx1 Tryd.zeroCells48 48 (wx1.heap.size) rfl
          have hN : N1 ≤ wx1.heap.size := hH.size
          go_simp
          refine hK.out _ _ ?_ (fun hG => ?_)
          · exact hH.alloc _
          clear hK K hH
          replace hH := hG
          clear hG
          (try simp only [List.getElem_toArray]); (try simp only [List.getElem_cons_succ]); (try simp only [List.getElem_cons_zero]); (try simp only [Act.put]); (try simp only [List.setIfInBounds_toArray]); (try simp only [List.set_cons_succ]); (try simp only [List.set_cons_zero])
          refine wpAnyH_ready (rs := [3]) (by kernel_rfl) (by simp) (AllReadyH.cons rfl (fun K hK => ?_) (AllReadyH.nil))
          · go_simp
            refine (toRain_any d t _ hT).mono ?_
            rintro x wx2 ⟨rfl, bx⟩
            go_simp
            refine hK.out _ _ (hH.call bx) (fun hG => ?_)
            replace rz := brow bx rz
            clear hK K hH bx
            replace hH := hG
            clear hG
            (try simp only [List.getElem_toArray]); (try simp only [List.getElem_cons_succ]); (try simp only [List.getElem_cons_zero]); (try simp only [Act.put]); (try simp only [List.setIfInBounds_toArray]); (try simp only [List.set_cons_succ]); (try simp only [List.set_cons_zero])
            refine wpAnyH_ready (rs := [5]) (by kernel_rfl) (by simp) (AllReadyH.cons rfl (fun K hK => ?_) (AllReadyH.nil))
            · go_simp
              refine (toDrips_any X D _ hX).mono ?_
              rintro x wx3 ⟨rfl, bx⟩
              go_simp
              refine hK.out _ _ (hH.call bx) (fun hG => ?_)
              replace rz := brow bx rz
              clear hK K hH bx
              replace hH := hG
              clear hG
              (try simp only [List.getElem_toArray]); (try simp only [List.getElem_cons_succ]); (try simp only [List.getElem_cons_zero]); (try simp only [Act.put]); (try simp only [List.setIfInBounds_toArray]); (try simp only [List.set_cons_succ]); (try simp only [List.set_cons_zero])
              refine wpAnyH_ready (rs := [6]) (by kernel_rfl) (by simp) (AllReadyH.cons rfl (fun K hK => ?_) (AllReadyH.nil))
              · go_simp
                refine (CI _ (HE.out.below hH.bel)).mono ?_
                rintro x wx4 ⟨rfl, bx⟩
                go_simp
                refine hK.out _ _ (hH.call bx) (fun hG => ?_)
                replace rz := brow bx rz
                clear hK K hH bx
                replace hH := hG
                clear hG
                (try simp only [List.getElem_toArray]); (try simp only [List.getElem_cons_succ]); (try simp only [List.getElem_cons_zero]); (try simp only [Act.put]); (try simp only [List.setIfInBounds_toArray]); (try simp only [List.set_cons_succ]); (try simp only [List.set_cons_zero])
                refine wpAnyH_take (i := 7) (v := .tuple #[.agg A, .int .i64 cd]) rfl (by kernel_rfl) (by kernel_rfl) (by kernel_rfl) (fun _ _ _ h => h) (Or.inl ⟨by rfl, ?_⟩) hH ?_
                · intro w1 hS; (try dsimp only at hS); go_simp
                (try simp only [List.getElem_toArray]); (try simp only [List.getElem_cons_succ]); (try simp only [List.getElem_cons_zero]); (try simp only [Act.put]); (try simp only [List.setIfInBounds_toArray]); (try simp only [List.set_cons_succ]); (try simp only [List.set_cons_zero])
                refine wpAnyH_take (i := 8) (v := .agg A) rfl (by kernel_rfl) (by kernel_rfl) (by kernel_rfl) (fun _ _ _ h => h) (Or.inl ⟨by rfl, ?_⟩) hH ?_
                · intro w1 hS; (try dsimp only at hS); go_simp
                (try simp only [List.getElem_toArray]); (try simp only [List.getElem_cons_succ]); (try simp only [List.getElem_cons_zero]); (try simp only [Act.put]); (try simp only [List.setIfInBounds_toArray]); (try simp only [List.set_cons_succ]); (try simp only [List.set_cons_zero])
                refine wpAnyH_take (i := 9) (v := .int .i64 cd) rfl (by kernel_rfl) (by kernel_rfl) (by kernel_rfl) (fun _ _ _ h => h) (Or.inl ⟨by rfl, ?_⟩) hH ?_
                · intro w1 hS; (try dsimp only at hS); go_simp
                (try simp only [List.getElem_toArray]); (try simp only [List.getElem_cons_succ]); (try simp only [List.getElem_cons_zero]); (try simp only [Act.put]); (try simp only [List.setIfInBounds_toArray]); (try simp only [List.set_cons_succ]); (try simp only [List.set_cons_zero])
                refine wpAnyH_ready (rs := [11]) (by kernel_rfl) (by simp) (AllReadyH.cons rfl (fun K hK => ?_) (AllReadyH.nil))
                · have rS := rowAt_setRow_at wx4 _ A (by rw [rz]; rfl)
                  go_simp
                  refine hK.out _ _ ?_ (fun hG => ?_)
                  · exact hH.set hN
                  clear hK K hH
                  replace hH := hG
                  have rA := rS
                  clear hG
                  (try simp only [List.getElem_toArray]); (try simp only [List.getElem_cons_succ]); (try simp only [List.getElem_cons_zero]); (try simp only [Act.put]); (try simp only [List.setIfInBounds_toArray]); (try simp only [List.set_cons_succ]); (try simp only [List.set_cons_zero])
                  refine wpAnyH_take (i := 12) (v := .int .i64 cd) rfl (by kernel_rfl) (by kernel_rfl) (by kernel_rfl) (fun _ _ _ h => h) (Or.inl ⟨by rfl, ?_⟩) hH ?_
                  · intro w1 hS; (try dsimp only at hS); go_simp
                  (try simp only [List.getElem_toArray]); (try simp only [List.getElem_cons_succ]); (try simp only [List.getElem_cons_zero]); (try simp only [Act.put]); (try simp only [List.setIfInBounds_toArray]); (try simp only [List.set_cons_succ]); (try simp only [List.set_cons_zero])
                  refine wpAnyH_done (by kernel_rfl) ?_ _
                  go_wp2_with fail
                  go_meet
                  case rel => exact ⟨_, rfl, rfl, rA, hH⟩
      · have rz := rowAt_alloc_at wc.drew Tryd.zeroCells48 48 (wc.heap.size) rfl
        have hN : N1 ≤ wc.heap.size := hH.size
        go_simp
        refine hK.out _ _ ?_ (fun hG => ?_)
        · exact hH.alloc _
        clear hK K hH
        replace hH := hG
        clear hG
        (try simp only [List.getElem_toArray]); (try simp only [List.getElem_cons_succ]); (try simp only [List.getElem_cons_zero]); (try simp only [Act.put]); (try simp only [List.setIfInBounds_toArray]); (try simp only [List.set_cons_succ]); (try simp only [List.set_cons_zero])
        refine wpAnyH_ready (rs := [1]) (by kernel_rfl) (by simp) (AllReadyH.cons rfl (fun K hK => ?_) (AllReadyH.nil))
        · go_simp
          refine (toRoof_any c r _ hR).mono ?_
          rintro x wx1 ⟨rfl, bx⟩
          go_simp
          refine hK.out _ _ (hH.call bx) (fun hG => ?_)
          replace rz := brow bx rz
          clear hK K hH bx
          replace hH := hG
          clear hG
          (try simp only [List.getElem_toArray]); (try simp only [List.getElem_cons_succ]); (try simp only [List.getElem_cons_zero]); (try simp only [Act.put]); (try simp only [List.setIfInBounds_toArray]); (try simp only [List.set_cons_succ]); (try simp only [List.set_cons_zero])
          refine wpAnyH_ready (rs := [3]) (by kernel_rfl) (by simp) (AllReadyH.cons rfl (fun K hK => ?_) (AllReadyH.nil))
          · go_simp
            refine (toRain_any d t _ hT).mono ?_
            rintro x wx2 ⟨rfl, bx⟩
            go_simp
            refine hK.out _ _ (hH.call bx) (fun hG => ?_)
            replace rz := brow bx rz
            clear hK K hH bx
            replace hH := hG
            clear hG
            (try simp only [List.getElem_toArray]); (try simp only [List.getElem_cons_succ]); (try simp only [List.getElem_cons_zero]); (try simp only [Act.put]); (try simp only [List.setIfInBounds_toArray]); (try simp only [List.set_cons_succ]); (try simp only [List.set_cons_zero])
            refine wpAnyH_ready (rs := [5]) (by kernel_rfl) (by simp) (AllReadyH.cons rfl (fun K hK => ?_) (AllReadyH.nil))
            · go_simp
              refine (toDrips_any X D _ hX).mono ?_
              rintro x wx3 ⟨rfl, bx⟩
              go_simp
              refine hK.out _ _ (hH.call bx) (fun hG => ?_)
              replace rz := brow bx rz
              clear hK K hH bx
              replace hH := hG
              clear hG
              (try simp only [List.getElem_toArray]); (try simp only [List.getElem_cons_succ]); (try simp only [List.getElem_cons_zero]); (try simp only [Act.put]); (try simp only [List.setIfInBounds_toArray]); (try simp only [List.set_cons_succ]); (try simp only [List.set_cons_zero])
              refine wpAnyH_ready (rs := [6]) (by kernel_rfl) (by simp) (AllReadyH.cons rfl (fun K hK => ?_) (AllReadyH.nil))
              · go_simp
                refine (CI _ (HE.out.below hH.bel)).mono ?_
                rintro x wx4 ⟨rfl, bx⟩
                go_simp
                refine hK.out _ _ (hH.call bx) (fun hG => ?_)
                replace rz := brow bx rz
                clear hK K hH bx
                replace hH := hG
                clear hG
                (try simp only [List.getElem_toArray]); (try simp only [List.getElem_cons_succ]); (try simp only [List.getElem_cons_zero]); (try simp only [Act.put]); (try simp only [List.setIfInBounds_toArray]); (try simp only [List.set_cons_succ]); (try simp only [List.set_cons_zero])
                refine wpAnyH_take (i := 7) (v := .tuple #[.agg A, .int .i64 cd]) rfl (by kernel_rfl) (by kernel_rfl) (by kernel_rfl) (fun _ _ _ h => h) (Or.inl ⟨by rfl, ?_⟩) hH ?_
                · intro w1 hS; (try dsimp only at hS); go_simp
                (try simp only [List.getElem_toArray]); (try simp only [List.getElem_cons_succ]); (try simp only [List.getElem_cons_zero]); (try simp only [Act.put]); (try simp only [List.setIfInBounds_toArray]); (try simp only [List.set_cons_succ]); (try simp only [List.set_cons_zero])
                refine wpAnyH_take (i := 8) (v := .agg A) rfl (by kernel_rfl) (by kernel_rfl) (by kernel_rfl) (fun _ _ _ h => h) (Or.inl ⟨by rfl, ?_⟩) hH ?_
                · intro w1 hS; (try dsimp only at hS); go_simp
                (try simp only [List.getElem_toArray]); (try simp only [List.getElem_cons_succ]); (try simp only [List.getElem_cons_zero]); (try simp only [Act.put]); (try simp only [List.setIfInBounds_toArray]); (try simp only [List.set_cons_succ]); (try simp only [List.set_cons_zero])
                refine wpAnyH_take (i := 9) (v := .int .i64 cd) rfl (by kernel_rfl) (by kernel_rfl) (by kernel_rfl) (fun _ _ _ h => h) (Or.inl ⟨by rfl, ?_⟩) hH ?_
                · intro w1 hS; (try dsimp only at hS); go_simp
                (try simp only [List.getElem_toArray]); (try simp only [List.getElem_cons_succ]); (try simp only [List.getElem_cons_zero]); (try simp only [Act.put]); (try simp only [List.setIfInBounds_toArray]); (try simp only [List.set_cons_succ]); (try simp only [List.set_cons_zero])
                refine wpAnyH_ready (rs := [11]) (by kernel_rfl) (by simp) (AllReadyH.cons rfl (fun K hK => ?_) (AllReadyH.nil))
                · have rS := rowAt_setRow_at wx4 _ A (by rw [rz]; rfl)
                  go_simp
                  refine hK.out _ _ ?_ (fun hG => ?_)
                  · exact hH.set hN
                  clear hK K hH
                  replace hH := hG
                  have rA := rS
                  clear hG
                  (try simp only [List.getElem_toArray]); (try simp only [List.getElem_cons_succ]); (try simp only [List.getElem_cons_zero]); (try simp only [Act.put]); (try simp only [List.setIfInBounds_toArray]); (try simp only [List.set_cons_succ]); (try simp only [List.set_cons_zero])
                  refine wpAnyH_take (i := 12) (v := .int .i64 cd) rfl (by kernel_rfl) (by kernel_rfl) (by kernel_rfl) (fun _ _ _ h => h) (Or.inl ⟨by rfl, ?_⟩) hH ?_
                  · intro w1 hS; (try dsimp only at hS); go_simp
                  (try simp only [List.getElem_toArray]); (try simp only [List.getElem_cons_succ]); (try simp only [List.getElem_cons_zero]); (try simp only [Act.put]); (try simp only [List.setIfInBounds_toArray]); (try simp only [List.set_cons_succ]); (try simp only [List.set_cons_zero])
                  refine wpAnyH_done (by kernel_rfl) ?_ _
                  go_wp2_with fail
                  go_meet
                  case rel => exact ⟨_, rfl, rfl, rA, hH⟩
    case rest =>
      obtain ⟨k, rfl, rfl, rB, pd⟩ := hcut
      have rA := pd.rows (m, A) (by simp)
      dsimp only at rA
      have HP := Lib.hid pd
      clear pd pc CI
      go_wp2_with fail
      refine (CE _).mono ?_
      rintro e w6 ⟨rfl, b6⟩
      have HP6 := Lib.hid (HP.out.call b6)
      clear b6 rA rB
      go_wp2_with fail
      go_ret
      exact ⟨rfl, HP6.out.bel⟩

namespace LFnExactComesTo
open Go.RowKit Go.ChangeShapes Go.WideShapes Go.ChangeAt
theorem own : ownKnob Tryd.prog.godebug = none := by kernel_rfl
theorem laidOut : laidOutB Tryd.prog = true := by kernel_rfl
theorem door_met (os : Os) (args : Array Value) : laidMetH Tryd.prog Rows.fnExactComesToRow.laid ((World.doorLaid Tryd.prog 400 os).forCall (fun _ _ => 0) ⟨#[], args, []⟩).memory :=
  laidMetH_of_parts3 (fuel := 8) (laidMet_of_run' 8 (by kernel_rfl) (by kernel_rfl)) (by kernel_rfl) (by kernel_rfl)
set_option maxRecDepth 100000 in
theorem lifted (os : Os) (started : os.Started) (H : Type) (enc : TypeId × Value → H) :
    ReturnsInHanded {} Tryd.checked os 6 .any (fun w args => (Rows.fnExactComesToSpec.pre enc Tryd.prog Tryd.f6 [] false w args ∧ laidMetH Tryd.prog Rows.fnExactComesToRow.laid w) ∧ sizedMet enc Tryd.prog Tryd.f6 (OpenSpec.ofChange Rows.fnExactComesToSpec) false w args)
      (Rows.fnExactComesToSpec.post enc Tryd.prog Tryd.f6 false true false false) := by
  refine returnsInHanded_of_change_and (C := Tryd.checked) (X := fun w _ => laidMetH Tryd.prog Rows.fnExactComesToRow.laid w) (fun _ _ _ hh h => h.of_heap hh) own started (by kernel_rfl) Tryd.func6
    (ChangeSpec.witness_shaped (enc := enc) (C := Tryd.checked) (os := os) (X := fun w _ => laidMetH Tryd.prog Rows.fnExactComesToRow.laid w) false (World.doorLaid Tryd.prog 400 os) #[.agg Tryd.zeroCells28, .agg (Array.replicate 17 (.int .i16 0)), .agg (Array.replicate 136 (.int .i32 0))] 8 rfl (World.shaped_of_RefB (by kernel_rfl) (by kernel_rfl)) (by kernel_rfl) (by kernel_rfl) (by kernel_rfl) (door_met os _)) ?_
  intro W base args ds gs before hval0 hW _ _ hL _
  have hval : ∀ (j : Nat) t v, Tryd.f6.params[j]? = some t → args[j]? = some v → Value.okWide Tryd.prog W .any base t v := hval0
  have hW' := hW
  obtain ⟨p, q, hA0, hV, rfl, hfz, hnd⟩ := hW
  have hA : DataW.TrodAll enc Tryd.prog W 0 (fun _ => true) true Tryd.f6.params.toList args.toList ds p := hA0
  rw [Tryd.params6] at hA hval
  obtain ⟨v0, vs0, d0, ds0, p0, q0, hargs, rfl, rfl, h0, r0⟩ := trodAll_cons hA
  obtain ⟨v1, vs1, d1, ds1, p1, q1, rfl, rfl, rfl, h1, r1⟩ := trodAll_cons r0
  obtain ⟨v2, vs2, d2, ds2, p2, q2, rfl, rfl, rfl, h2, r2⟩ := trodAll_cons r1
  obtain ⟨rfl, rfl, rfl⟩ := trodAll_nil r2
  obtain rfl : args = #[v0, v1, v2] := by cases args; simp_all
  obtain ⟨g0, g1, g2, g3, g4, g5, rfl⟩ := len6 (trodVars_len hV)
  have k0 := h0
  have lt0 : ∀ x ∈ p0, x.block < W.heap.size := by obtain ⟨m, hm⟩ := k0; exact DataW.trod_lt m _ _ _ hm
  have k1 := h1
  have lt1 : ∀ x ∈ p1, x.block < W.heap.size := by obtain ⟨m, hm⟩ := k1; exact DataW.trod_lt m _ _ _ hm
  have k2 := h2
  have lt2 : ∀ x ∈ p2, x.block < W.heap.size := by obtain ⟨m, hm⟩ := k2; exact DataW.trod_lt m _ _ _ hm
  obtain ⟨c0, f0, rfl, wf0⟩ := open_roof (hval 0 28 v0 rfl rfl) h0
  obtain ⟨c1, f1, rfl, wf1⟩ := open_rain (hval 1 30 v1 rfl rfl) h1
  obtain ⟨c2, f2, rfl, wf2⟩ := open_drips (hval 2 47 v2 rfl rfl) h2
  clear hA0 hval0
  obtain ⟨a, hE⟩ := errs_of hL
  refine ((law_walk_FnExactComesTo a wf0 wf1 wf2 hE)).mono fun e W' ⟨he, bel⟩ => ?_
  subst he
  exact ⟨_, rfl, _, _, _, [], _, _, hW', trodAll_mk1 (shut_bool Tryd.underlying4 _), (trodAll_cons_mk (Below.trod laidOut (by kernel_rfl) (of_decide_eq_true (by kernel_rfl)) k0 bel lt0) (trodAll_cons_mk (Below.trod laidOut (by kernel_rfl) (of_decide_eq_true (by kernel_rfl)) k1 bel lt1) (trodAll_cons_mk (Below.trod laidOut (by kernel_rfl) (of_decide_eq_true (by kernel_rfl)) k2 bel lt2) trodAll_mk0))), Below.trodVars laidOut bel (by kernel_rfl) hV, bel.frame _, fun h => by cases h⟩

theorem over : Rows.FnExactComesToSaid :=
  OpenClaim.holds_of_wide 6 Tryd.f6 rfl rfl rfl rfl rfl rfl rfl ⟨rfl, rfl, rfl, rfl, rfl⟩ rfl rfl rfl rfl rfl (by kernel_rfl) Tryd.func6 (by kernel_rfl)
    (of_decide_eq_true (by kernel_rfl)) (by unfold Func.isWrapper; first | (rw [if_pos (by decide +kernel)]; kernel_rfl) | (rw [if_neg (by decide +kernel)]; exact ⟨rfl, rfl⟩))
    (fun os started H enc _ => lifted os started H enc)

theorem proved : Rows.FnExactComesToCardSaid :=
  Claim7.holds_tied_plain_at .later [] Rows.fnExactComesToCard.laidKinds true Rows.fnExactComesToCard.stood.harness Rows.fnExactComesToCard.stood.looks
    over (fun _ h => by cases h) (by kernel_rfl) (fun _ h => by cases h) fnExactComesTo_row_tie rfl ⟨rfl, rfl⟩ (by kernel_rfl) rfl
    (fun f fn hf hfn => by
      obtain rfl : f = 6 := Option.some.inj ((show Tryd.prog.funcNamed "loop.example/g01376/laws.FnExactComesTo" = some 6 by kernel_rfl).symm.trans hf) |>.symm
      obtain rfl : fn = Tryd.f6 := (Option.some.inj (Tryd.func6.symm.trans hfn)).symm
      exact ⟨by kernel_rfl, fun j t ht => by
        rw [Tryd.params6] at ht
        have hm : t ∈ [28, 30, 47] := by simpa using Array.mem_of_getElem? ht
        have hall : ([28, 30, 47].all fun u => !Tryd.prog.wantsStandIn u) = true := by kernel_rfl
        exact (show Tryd.prog.wantsStandIn t = false by simpa using List.all_eq_true.1 hall t hm)⟩)
    (by kernel_rfl)
end LFnExactComesTo

end Go.Proofs.YtcopdilmkfmpiaaDoor
