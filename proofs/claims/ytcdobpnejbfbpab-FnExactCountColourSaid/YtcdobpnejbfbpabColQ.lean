/- OffBy, CountColour: both sides. -/
import Derived.Test.YtcdobpnejbfbpabColP
import Derived.Test.YtcdobpnejbfbpabBox
namespace Go.Proofs.Ytcdobpnejbfbpab
open Go.RowKit

noncomputable def Rf.offV (r : Rf) (a b : Nat → Nat) : Int := if r.cok a = true ∧ r.cok b = true then popsTo (offs a b) 8 else 0
noncomputable def Rf.offC (r : Rf) (a b : Nat → Nat) : Int := if r.cok a = true ∧ r.cok b = true then 0 else 1
theorem Rf.offV_t {r : Rf} {a b : Nat → Nat} (ha : r.Cols a) (hb : r.Cols b) : r.offV a b = popsTo (offs a b) 8 := if_pos ⟨Rf.cok_t ha, Rf.cok_t hb⟩
theorem Rf.offC_t {r : Rf} {a b : Nat → Nat} (ha : r.Cols a) (hb : r.Cols b) : r.offC a b = 0 := if_pos ⟨Rf.cok_t ha, Rf.cok_t hb⟩
theorem Rf.offV_f {r : Rf} {a b : Nat → Nat} (h : ¬ (r.Cols a ∧ r.Cols b)) : r.offV a b = 0 := if_neg fun ⟨x, y⟩ => h ⟨Rf.Cols_of x, Rf.Cols_of y⟩
theorem Rf.offC_f {r : Rf} {a b : Nat → Nat} (h : ¬ (r.Cols a ∧ r.Cols b)) : r.offC a b = 1 := if_neg fun ⟨x, y⟩ => h ⟨Rf.Cols_of x, Rf.Cols_of y⟩

/-- Three boxed arguments: their rows. -/
theorem three_boxes (w : World) (c d e : Array Value) (t s u : TypeId) :
    rowAt (((w.alloc (.cells c t)).alloc (.cells d s)).alloc (.cells e u)) w.heap.size = some c ∧ rowAt (((w.alloc (.cells c t)).alloc (.cells d s)).alloc (.cells e u)) (w.heap.size + 1) = some d ∧ rowAt (((w.alloc (.cells c t)).alloc (.cells d s)).alloc (.cells e u)) (w.heap.size + 1 + 1) = some e ∧ Below w.heap.size w (((w.alloc (.cells c t)).alloc (.cells d s)).alloc (.cells e u)) := by
  have h := boxes3 w c d e t s u
  exact ⟨h.rows (w.heap.size, c) (by simp), h.rows (w.heap.size + 1, d) (by simp), h.rows (w.heap.size + 1 + 1, e) (by simp), h.bel⟩

set_option maxRecDepth 100000 in
set_option maxHeartbeats 1000000 in
theorem implOffBy_any (c d e : Array Value) (r : Rf) (a b : Nat → Nat) (w : World) (hR : IsRoof c r) (hA : IsCol d a) (hB : IsCol e b) :
    Calls Try.prog 14 #[.agg c, .agg d, .agg e] w fun x w' => x = .returned (.tuple #[.int .i64 (r.offV a b), .int .i64 (r.offC a b)]) ∧ Below w.heap.size w w' := by
  obtain ⟨p0, p1, p2, pB⟩ := three_boxes w c d e 28 30 30
  have hc := hR.size
  have hd := hA.size
  have he := hB.size
  by_cases h1 : r.Cols a
  · by_cases h2 : r.Cols b
    · rw [Rf.offV_t h1 h2, Rf.offC_t h1 h2]
      go_enter Try.func14, Try.ntmps14
      go_wp2_with fail
      refine (implValidCol_t c d r a _ hR hA h1).mono ?_
      rintro x w1 ⟨rfl, b1⟩
      have q0 := brow b1 p0
      have q1 := brow b1 p1
      have q2 := brow b1 p2
      have B1 := bnext pB b1 pB.size
      clear b1 p0 p1 p2 pB
      go_wp2_with fail
      refine (implValidCol_t c e r b _ hR hB h2).mono ?_
      rintro x w2 ⟨rfl, b2⟩
      have r1 := brow b2 q1
      have r2 := brow b2 q2
      have B2 := bnext B1 b2 B1.size
      clear b2 q0 q1 q2 B1
      go_wp2_with fail
      refine (offBy_any d e a b _ hA hB).mono ?_
      rintro x w3 ⟨rfl, b3⟩
      have B3 := bnext B2 b3 B2.size
      clear b3 r1 r2 B2
      go_wp2_with fail
      go_ret2
      exact ⟨rfl, B3⟩
    · rw [Rf.offV_f fun h => h2 h.2, Rf.offC_f fun h => h2 h.2]
      go_enter Try.func14, Try.ntmps14
      go_wp2_with fail
      refine (implValidCol_t c d r a _ hR hA h1).mono ?_
      rintro x w1 ⟨rfl, b1⟩
      have q0 := brow b1 p0
      have q2 := brow b1 p2
      have B1 := bnext pB b1 pB.size
      clear b1 p0 p1 p2 pB
      go_wp2_with fail
      refine (implValidCol_f c e r b _ hR hB h2).mono ?_
      rintro x w2 ⟨rfl, b2⟩
      have B2 := bnext B1 b2 B1.size
      clear b2 q0 q2 B1
      go_wp2_with fail
      go_ret2
      exact ⟨rfl, B2⟩
  · rw [Rf.offV_f fun h => h1 h.1, Rf.offC_f fun h => h1 h.1]
    go_enter Try.func14, Try.ntmps14
    go_wp2_with fail
    refine (implValidCol_f c d r a _ hR hA h1).mono ?_
    rintro x w1 ⟨rfl, b1⟩
    have B1 := bnext pB b1 pB.size
    clear b1 p0 p1 p2 pB
    go_wp2_with fail
    go_ret2
    exact ⟨rfl, B1⟩

set_option maxRecDepth 100000 in
set_option maxHeartbeats 1000000 in
theorem l07Off_any (m k : Nat) (d e : Array Value) (a b : Nat → Nat) (w : World) (hd : rowAt w m = some d) (hA : IsCol d a) (he : rowAt w k = some e) (hB : IsCol e b) :
    Calls Try.prog 24 #[.pointer (some ⟨m, 0, none⟩), .pointer (some ⟨k, 0, none⟩)] w fun x w' => x = .returned (.int .i64 (popsTo (offs a b) 8)) ∧ Below w.heap.size w w' := by
  have hm := rowAt_lt hd
  have hk := rowAt_lt he
  have hz : (#[.int .u8 0, .int .u8 0, .int .u8 0, .int .u8 0, .int .u8 0, .int .u8 0, .int .u8 0, .int .u8 0] : Array Value) = mkC (fun _ => 0) := by kernel_rfl
  have HZ := Lib.hid hz
  have hzo : Ones (#[.int .u8 0, .int .u8 0, .int .u8 0, .int .u8 0, .int .u8 0, .int .u8 0, .int .u8 0, .int .u8 0] : Array Value) := by rw [hz]; exact (isK_mkI _ _ _).ones
  clear hz
  go_enter Try.func24, Try.ntmps24
  go_wp2_with fail
  refine gen_world fun W hW => ?_
  have r0 : rowAt W m = some d := by rw [hW]; exact (rowAt_alloc_past _ _ _ hm).trans hd
  have r1 : rowAt W k = some e := by rw [hW]; exact (rowAt_alloc_past _ _ _ hk).trans he
  have r2 : rowAt W w.heap.size = some (mkC (fun _ => 0)) := by rw [hW, ← HZ.out]; go_simp
  have rB : Below w.heap.size w W := by rw [hW]; exact (Below.refl _ _).alloc (Nat.le_refl _) _
  clear hW hd he
  go_loopw [6] (fun i W' => ∃ (n : Nat) (f : Nat → Nat), n ≤ 8 ∧ i = .int .i64 n ∧ Hid (∀ j, f j = if j < n then offs a b j else 0) ∧ rowAt W' m = some d ∧ rowAt W' k = some e ∧ rowAt W' w.heap.size = some (mkC f) ∧ Below w.heap.size w W') (fun i _ => 8 - (intOf i).toNat)
  case atStart => exact ⟨0, _, by omega, rfl, Lib.hid (fun j => by simp), r0, r1, r2, rB⟩
  case round =>
    clear r0 r1 r2 rB
    obtain ⟨n, f, hn, rfl, hf, r0, r1, r2, rB⟩ := hrel
    by_cases hlt : n < 8
    · have c0 : wr.cell? ⟨m, n, none⟩ = some (.int .u8 (a n)) := (cell_of_rowAt r0 n).trans (hA.cell hlt)
      have c1 : wr.cell? ⟨k, n, none⟩ = some (.int .u8 (b n)) := (cell_of_rowAt r1 n).trans (hB.cell hlt)
      have c2 : wr.cell? ⟨w.heap.size, n, none⟩ = some (.int .u8 (f n)) := (cell_of_rowAt r2 n).trans ((isK_mkI .u8 8 (fun i => (f i : Int))).get hlt)
      have f2 := frozen_of_rowAt r2 n
      have hx := xor8_num (hA.hi n hlt) (hB.hi n hlt)
      have n0 : (0 : Int) ≤ n := by omega
      have n1 : (n : Int) < 8 := by omega
      have m1 : m ≠ w.heap.size := by omega
      have m2 : k ≠ w.heap.size := by omega
      have ls := rB.size
      go_wp2_with fail
      go_still_tail 13, (by kernel_rfl)
      change wpList _ _ _ _ _ wr.drew
      repeat go_step
      have s2 := rowAt_setCell_at wr.drew w.heap.size n (.int .u8 ((a n ^^^ b n : Nat) : Int)) (by rw [show rowAt wr.drew w.heap.size = _ from r2]; rfl)
      rw [show rowAt wr.drew w.heap.size = _ from r2, Option.getD_some, mkC_set] at s2
      have s0 := (rowAt_setCell_ne wr.drew w.heap.size m n (.int .u8 ((a n ^^^ b n : Nat) : Int)) m1).trans r0
      have s1 := (rowAt_setCell_ne wr.drew w.heap.size k n (.int .u8 ((a n ^^^ b n : Nat) : Int)) m2).trans r1
      have sB := rB.drew.setCell (p := ⟨w.heap.size, n, none⟩) (Nat.le_refl _) (.int .u8 ((a n ^^^ b n : Nat) : Int))
      clear r0 r1 r2 rB c0 c1 c2 f2 hx
      go_wp2_with fail
      refine ⟨⟨n + 1, _, by omega, by go_num, Lib.hid (fun j => ?_), s0, s1, s2, sB⟩, by simp [intOf]; omega⟩
      unfold updN
      by_cases hj : j = n
      · subst hj; simp [offs]
      · rw [if_neg hj, hf.out j]
        by_cases h2 : j < n
        · rw [if_pos h2, if_pos (by omega)]
        · rw [if_neg h2, if_neg (by omega)]
    · obtain rfl : n = 8 := by omega
      have hfo : ∀ i, i < 8 → f i = offs a b i := fun i hi => by rw [hf.out i, if_pos hi]
      have hFC : IsCol (mkC f) f := isCol_mkC fun i hi => by rw [hfo i hi]; exact offs_lt (hA.hi i hi) (hB.hi i hi)
      have hpo : popsTo f 8 = popsTo (offs a b) 8 := sumTo_congr fun i hi => by rw [hfo i hi]
      have CL := fun W H => l07Count_any w.heap.size (mkC f) f W H hFC
      rw [hpo] at CL
      clear hfo hFC hpo
      go_wp2_with fail
      refine (CL _ r2).mono ?_
      rintro x w1 ⟨rfl, rfl⟩
      clear CL
      go_wp2_with fail
      go_ret
      exact ⟨rfl, rB⟩

set_option maxRecDepth 100000 in
set_option maxHeartbeats 1000000 in
theorem specOffBy_any (c d e : Array Value) (r : Rf) (a b : Nat → Nat) (w : World) (hR : IsRoof c r) (hA : IsCol d a) (hB : IsCol e b) :
    Calls Try.prog 13 #[.agg c, .agg d, .agg e] w fun x w' => x = .returned (.tuple #[.int .i64 (r.offV a b), .int .i64 (r.offC a b)]) ∧ Below w.heap.size w w' := by
  obtain ⟨p0, p1, p2, pB⟩ := three_boxes w c d e 28 30 30
  by_cases h1 : r.Cols a
  · by_cases h2 : r.Cols b
    · rw [Rf.offV_t h1 h2, Rf.offC_t h1 h2]
      go_enter Try.func13, Try.ntmps13
      go_wp2_with fail
      refine (l07Colours_t _ _ c d r a _ p0 hR p1 hA h1).mono ?_
      rintro x w1 ⟨rfl, b1⟩
      have q0 := brow b1 p0
      have q1 := brow b1 p1
      have q2 := brow b1 p2
      have B1 := bnext pB b1 pB.size
      clear b1 p0 p1 p2 pB
      go_wp2_with fail
      refine (l07Colours_t _ _ c e r b _ q0 hR q2 hB h2).mono ?_
      rintro x w2 ⟨rfl, b2⟩
      have r1 := brow b2 q1
      have r2 := brow b2 q2
      have B2 := bnext B1 b2 B1.size
      clear b2 q0 q1 q2 B1
      go_wp2_with fail
      refine (l07Off_any _ _ d e a b _ r1 hA r2 hB).mono ?_
      rintro x w3 ⟨rfl, b3⟩
      have B3 := bnext B2 b3 B2.size
      clear b3 r1 r2 B2
      go_wp2_with fail
      go_ret2
      exact ⟨rfl, B3⟩
    · rw [Rf.offV_f fun h => h2 h.2, Rf.offC_f fun h => h2 h.2]
      go_enter Try.func13, Try.ntmps13
      go_wp2_with fail
      refine (l07Colours_t _ _ c d r a _ p0 hR p1 hA h1).mono ?_
      rintro x w1 ⟨rfl, b1⟩
      have q0 := brow b1 p0
      have q2 := brow b1 p2
      have B1 := bnext pB b1 pB.size
      clear b1 p0 p1 p2 pB
      go_wp2_with fail
      refine (l07Colours_f _ _ c e r b _ q0 hR q2 hB h2).mono ?_
      rintro x w2 ⟨rfl, b2⟩
      have B2 := bnext B1 b2 B1.size
      clear b2 q0 q2 B1
      go_wp2_with fail
      go_ret2
      exact ⟨rfl, B2⟩
  · rw [Rf.offV_f fun h => h1 h.1, Rf.offC_f fun h => h1 h.1]
    go_enter Try.func13, Try.ntmps13
    go_wp2_with fail
    refine (l07Colours_f _ _ c d r a _ p0 hR p1 hA h1).mono ?_
    rintro x w1 ⟨rfl, b1⟩
    have B1 := bnext pB b1 pB.size
    clear b1 p0 p1 p2 pB
    go_wp2_with fail
    go_ret2
    exact ⟨rfl, B1⟩

noncomputable def Rf.cntV (r : Rf) (g : Nat → Nat) : Int := if r.cok g = true then popsTo g 8 else 0
noncomputable def Rf.cntC (r : Rf) (g : Nat → Nat) : Int := if r.cok g = true then 0 else 1
theorem Rf.cols_zero {r : Rf} (ho : r.Ok) : r.Cols (fun _ => 0) := ⟨ho, fun _ _ j h => by rw [Nat.zero_testBit] at h; cases h⟩
theorem Rf.offV_zero (r : Rf) (g : Nat → Nat) : r.offV g (fun _ => 0) = r.cntV g ∧ r.offC g (fun _ => 0) = r.cntC g := by
  by_cases h : r.Cols g
  · have hz := Rf.cols_zero h.1
    have e : popsTo (offs g fun _ => 0) 8 = popsTo g 8 := sumTo_congr fun i _ => by rw [show offs g (fun _ => 0) i = g i from Nat.xor_zero _]
    rw [Rf.offV_t h hz, Rf.offC_t h hz, e, Rf.cntV, Rf.cntC, if_pos (Rf.cok_t h), if_pos (Rf.cok_t h)]
    exact ⟨rfl, rfl⟩
  · rw [Rf.offV_f fun x => h x.1, Rf.offC_f fun x => h x.1, Rf.cntV, Rf.cntC, if_neg (by rw [Rf.cok_f h]; decide), if_neg (by rw [Rf.cok_f h]; decide)]
    exact ⟨rfl, rfl⟩

set_option maxRecDepth 100000 in
set_option maxHeartbeats 1000000 in
theorem implCountColour_any (c d : Array Value) (r : Rf) (g : Nat → Nat) (w : World) (hR : IsRoof c r) (hC : IsCol d g) :
    Calls Try.prog 12 #[.agg c, .agg d] w fun x w' => x = .returned (.tuple #[.int .i64 (r.cntV g), .int .i64 (r.cntC g)]) ∧ Below w.heap.size w w' := by
  obtain ⟨p0, p1, pB⟩ := two_boxes w c d 28 30
  have hc := hR.size
  have hd := hC.size
  have hz : (#[.int .u8 0, .int .u8 0, .int .u8 0, .int .u8 0, .int .u8 0, .int .u8 0, .int .u8 0, .int .u8 0] : Array Value) = mkC (fun _ => 0) := by kernel_rfl
  have CO := fun W => implOffBy_any c d (mkC (fun _ => 0)) r g (fun _ => 0) W hR hC (isCol_mkC fun _ _ => by omega)
  rw [(r.offV_zero g).1, (r.offV_zero g).2, ← hz] at CO
  clear hz
  go_enter Try.func12, Try.ntmps12
  go_wp2_with fail
  refine (CO _).mono ?_
  rintro x w1 ⟨rfl, b1⟩
  have B1 := bnext pB b1 pB.size
  clear b1 p0 p1 pB CO
  go_wp2_with fail
  go_ret2
  exact ⟨rfl, B1⟩

set_option maxRecDepth 100000 in
set_option maxHeartbeats 1000000 in
theorem specCountColour_any (c d : Array Value) (r : Rf) (g : Nat → Nat) (w : World) (hR : IsRoof c r) (hC : IsCol d g) :
    Calls Try.prog 11 #[.agg c, .agg d] w fun x w' => x = .returned (.tuple #[.int .i64 (r.cntV g), .int .i64 (r.cntC g)]) ∧ Below w.heap.size w w' := by
  obtain ⟨p0, p1, pB⟩ := two_boxes w c d 28 30
  by_cases h : r.Cols g
  · rw [Rf.cntV, Rf.cntC, if_pos (Rf.cok_t h), if_pos (Rf.cok_t h)]
    go_enter Try.func11, Try.ntmps11
    go_wp2_with fail
    refine (l07Colours_t _ _ c d r g _ p0 hR p1 hC h).mono ?_
    rintro x w1 ⟨rfl, b1⟩
    have q1 := brow b1 p1
    have B1 := bnext pB b1 pB.size
    clear b1 p0 p1 pB
    go_wp2_with fail
    refine (l07Count_any _ d g _ q1 hC).mono ?_
    rintro x w2 ⟨rfl, rfl⟩
    clear q1
    go_wp2_with fail
    go_ret2
    exact ⟨rfl, B1⟩
  · rw [Rf.cntV, Rf.cntC, if_neg (by rw [Rf.cok_f h]; decide), if_neg (by rw [Rf.cok_f h]; decide)]
    go_enter Try.func11, Try.ntmps11
    go_wp2_with fail
    refine (l07Colours_f _ _ c d r g _ p0 hR p1 hC h).mono ?_
    rintro x w1 ⟨rfl, b1⟩
    have B1 := bnext pB b1 pB.size
    clear b1 p0 p1 pB
    go_wp2_with fail
    go_ret2
    exact ⟨rfl, B1⟩
end Go.Proofs.Ytcdobpnejbfbpab
