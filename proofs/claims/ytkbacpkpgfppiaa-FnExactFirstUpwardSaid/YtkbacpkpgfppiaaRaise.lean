/- What lifting tiles costs for one place: both sides. -/
import Derived.Test.YtkbacpkpgfppiaaConP
import Derived.Test.YtkbacpkpgfppiaaMeet
import Derived.Deep.RegionHeld3
namespace Go.Proofs.Ytkbacpkpgfppiaa
open Go.RowKit

theorem IsList.pre {w : World} {B n sz k cap : Nat} {a : Option Addr} {F : Nat → Value} (h : IsList w B (.slice a n cap) sz n F) (hk : k ≤ n) (cap' : Nat) : IsList w B (.slice a k cap') sz k F := by
  rcases h with ⟨h0, _⟩ | ⟨g, cap0, cur, e, hg, hr, hs, hf⟩
  · obtain rfl : k = 0 := by omega
    exact .inl ⟨rfl, a, cap', rfl⟩
  · cases e
    have hm : k * sz ≤ n * sz := Nat.mul_le_mul_right sz hk
    exact .inr ⟨g, cap', cur, rfl, hg, hr, by omega, fun i hi => hf i (by omega)⟩
theorem Rf.laps_mem {r : Rf} (ho : r.Ok) {a b k : Int} {q : Nat} (hq : q < (r.laps a b k).length) : ∃ u t : Nat, k = u ∧ u < 8 ∧ (r.laps a b k).getD q 0 = t ∧ t < 8 := by
  have h1 := ho.2.1
  have h2 := ho.2.2.2.1
  have hm : (r.laps a b k).getD q 0 ∈ r.laps a b k := by rw [List.getD_eq_getElem?_getD, List.getElem?_eq_getElem hq, Option.getD_some]; exact List.getElem_mem _
  generalize (r.laps a b k).getD q 0 = x at *
  unfold Rf.laps at hm
  split at hm
  · rename_i hk
    have t1 := tile_lt (r := r) (k := k) (cell := 2 * b + r.by a) h1
    have t2 := tile_lt (r := r) (k := k) (cell := 2 * b + r.by a + 1) h1
    rw [List.mem_filter] at hm
    obtain ⟨hm, hx⟩ := hm
    simp only [List.mem_cons, List.not_mem_nil, or_false, decide_eq_true_eq] at hm hx
    refine ⟨k.toNat, x.toNat, by omega, by omega, by omega, ?_⟩
    rcases hm with rfl | rfl <;> omega
  · simp at hm
theorem Rf.laps_le (r : Rf) (a b k : Int) : (r.laps a b k).length ≤ 2 := by
  unfold Rf.laps
  split
  · exact Nat.le_trans (List.length_filter_le _ _) (by simp)
  · simp

/-- What one tile above costs, with the first k places mended before. -/
def Rf.liftT (r : Rf) (f : Nat → Int) (k : Nat) (u t : Int) : Int := if hasP f k u t = true then 2 else if r.t (u.toNat * 8 + t.toNat) = 3 then 0 else 1
def Rf.liftQ (r : Rf) (f : Nat → Int) (k : Nat) (i j : Int) (q : Nat) : Int := r.liftT f k (i - 1) ((r.laps i j (i - 1)).getD q 0)
def Rf.lift (r : Rf) (f : Nat → Int) (k : Nat) (i j : Int) : Int := sumTo (r.liftQ f k i j) (r.laps i j (i - 1)).length
theorem Rf.liftT_bd (r : Rf) (f : Nat → Int) (k : Nat) (u t : Int) : 0 ≤ r.liftT f k u t ∧ r.liftT f k u t ≤ 2 := by unfold Rf.liftT; split <;> (try split) <;> omega
theorem Rf.liftS_bd (r : Rf) (f : Nat → Int) (k : Nat) (i j : Int) (m : Nat) : 0 ≤ sumTo (r.liftQ f k i j) m ∧ sumTo (r.liftQ f k i j) m ≤ m * 2 := sumTo_bd fun _ _ => r.liftT_bd _ _ _ _
theorem Rf.lift_bd (r : Rf) (f : Nat → Int) (k : Nat) (i j : Int) : 0 ≤ r.lift f k i j ∧ r.lift f k i j ≤ 4 := by
  have h := r.liftS_bd f k i j (r.laps i j (i - 1)).length
  have h2 := r.laps_le i j (i - 1)
  unfold Rf.lift
  omega
theorem Rf.liftT_2 {r : Rf} {f : Nat → Int} {k : Nat} {u t : Int} (h : hasP f k u t = true) : r.liftT f k u t = 2 := if_pos h
theorem Rf.liftT_0 {r : Rf} {f : Nat → Int} {k u t : Nat} (h : hasP f k u t = false) (h3 : r.t (u * 8 + t) = 3) : r.liftT f k u t = 0 := by
  unfold Rf.liftT; rw [h, if_neg (by simp), if_pos (by simpa using h3)]
theorem Rf.liftT_1 {r : Rf} {f : Nat → Int} {k u t : Nat} (h : hasP f k u t = false) (h3 : ¬ r.t (u * 8 + t) = 3) : r.liftT f k u t = 1 := by
  unfold Rf.liftT; rw [h, if_neg (by simp), if_neg (by simpa using h3)]
theorem plF_even (k : Int) (T : List Int) (q : Nat) : plF k T (q * 2) = k := by unfold plF; rw [if_pos (by omega)]
theorem plF_odd (k : Int) (T : List Int) (q : Nat) : plF k T (q * 2 + 1) = T.getD q 0 := by unfold plF; rw [if_neg (by omega), show (q * 2 + 1) / 2 = q by omega]

set_option maxRecDepth 100000 in
set_option maxHeartbeats 2000000 in
theorem l04Lift_any (n0 B k : Nat) (c : Array Value) (r : Rf) (i j : Nat) (a : Option Addr) (cap : Nat) (f : Nat → Int) (w : World) (hr : rowAt w n0 = some c) (hR : IsRoof c r) (ho : r.Ok) (hi : i < 8) (hj : j < 8) (hjw : (j : Int) < r.w)
    (hv : IsList w B (.slice a k cap) 2 k (fun i => .int .i8 (f i))) (hk : k ≤ 2000000) :
    Calls Try.prog 119 #[.pointer (some ⟨n0, 0, none⟩), .agg #[.int .i8 i, .int .i8 j], .slice a k cap] w fun e w' => e = .returned (.int .i64 (r.lift f k i j)) ∧ Below w.heap.size w w' := by
  have i0 : 0 ≤ (i : Int) := by omega
  have i1 : (i : Int) < 8 := by omega
  have CL := fun W h => l01Laps_any n0 c r i j (-1) W h hR ho hi hj hjw (Or.inl rfl)
  rw [show (i : Int) + -1 = i - 1 from rfl] at CL
  have hle := r.laps_le i j (i - 1)
  have hmem := fun q h => Rf.laps_mem (r := r) ho (a := (i : Int)) (b := (j : Int)) (k := (i : Int) - 1) (q := q) h
  have hS : Hid (∀ m, m < (r.laps i j (i - 1)).length → sumTo (r.liftQ f k i j) (m + 1) = sumTo (r.liftQ f k i j) m + r.liftT f k (i - 1) ((r.laps i j (i - 1)).getD m 0)) := Lib.hid fun m _ => rfl
  have hSb := fun m => r.liftS_bd f k i j m
  have hS0 : Hid (sumTo (r.liftQ f k i j) 0 = 0) := Lib.hid rfl
  unfold Rf.lift
  generalize sumTo (r.liftQ f k i j) = S at *
  generalize r.laps i j (i - 1) = L at *
  have HM := Lib.hid hmem
  have HSB := Lib.hid hSb
  clear hmem hSb
  go_enter Try.func119, Try.ntmps119
  go_wp2_with fail
  refine gen_callsC fun W0 hW => ?_
  have pB := Lib.hid (show Below w.heap.size w W0 by rw [hW]; exact (Below.refl _ _).alloc (Nat.le_refl _) _)
  clear hW
  have P0 := Lib.hid (brow pB.out hr)
  have HV := Lib.hid (hv.below pB.out (Nat.le_refl _))
  clear hr hv
  refine (CL _ P0.out).mono ?_
  rintro e w1 ⟨va, rfl, la, b1⟩
  obtain ⟨aa, ca, rfl⟩ := la.shape
  have LA := Lib.hid la
  have B1 := Lib.hid b1
  clear la b1 CL
  go_wp2_with fail
  go_loopw [7, 9] (fun s x W => ∃ q : Nat, q ≤ L.length ∧ x = .int .i64 q ∧ s = .int .i64 (S q) ∧ Below w1.heap.size w1 W) (fun _ x _ => L.length - (intOf x).toNat)
  case atStart => exact ⟨0, by omega, rfl, by rw [hS0.out], Below.refl _ _⟩
  case round =>
    obtain ⟨q, hq, rfl, rfl, hB⟩ := hrel
    by_cases hlt : q < L.length
    · obtain ⟨u, t, hu, u8, ht, t8⟩ := HM.out q hlt
      obtain ⟨gg, rfl, c0, c1⟩ := (LA.out.below hB (Nat.le_refl _)).pl hlt
      rw [plF_even, hu] at c0
      rw [plF_odd, ht] at c1
      have hq0 : 0 ≤ (q : Int) := by omega
      have hq1 : (q : Int) < L.length := by omega
      have u0 : 0 ≤ (u : Int) := by omega
      have u1 : (u : Int) < 8 := by omega
      have tt0 : 0 ≤ (t : Int) := by omega
      have tt1 : (t : Int) < 8 := by omega
      obtain ⟨s0, s1⟩ := HSB.out q
      have s2 : S q ≤ 4 := by omega
      have HS1 := Lib.hid (hS.out q hlt)
      rw [hu, ht] at HS1
      have HB := Lib.hid hB
      have CX := l01Has_any B k (.slice a k cap) f u t wr (HV.out.below (B1.out.trans (hB.mono B1.out.size)) (Nat.le_refl _)) hk
      clear hB hu ht s1
      cases hx : hasP f k u t with
      | true =>
        rw [hx] at CX
        have HX : Hid (S (q + 1) = S q + 2) := Lib.hid (by rw [HS1.out, Rf.liftT_2 hx])
        clear hx
        go_wp2_with fail
        refine CX.mono ?_
        rintro e w2 ⟨rfl, b2⟩
        have B2 := Lib.hid (bnext HB.out b2 HB.out.size)
        clear b2 CX c0 c1
        go_wp2_with fail
        refine ⟨⟨q + 1, by omega, by go_num, by rw [HX.out], B2.out⟩, by simp [intOf]; omega⟩
      | false =>
        rw [hx] at CX
        have CT := fun W h => l01At_any n0 c r u t W h hR u8 t8
        by_cases h3 : r.t (u * 8 + t) = 3
        · have e3 : (r.t (u * 8 + t) != 3) = false := by simp [h3]
          have HX : Hid (S (q + 1) = S q) := Lib.hid (by rw [HS1.out, Rf.liftT_0 hx h3, Int.add_zero])
          clear hx h3
          go_wp2_with fail
          refine CX.mono ?_
          rintro e w2 ⟨rfl, b2⟩
          have B2 := Lib.hid (bnext HB.out b2 HB.out.size)
          have r2 := brow B2.out (brow B1.out P0.out)
          have d0 := (b2.cell (p := ⟨gg, q * 2, none⟩) (lt_of_cellA c0)).trans c0
          have d1 := (b2.cell (p := ⟨gg, q * 2 + 1, none⟩) (lt_of_cellA c1)).trans c1
          clear b2 CX c0 c1
          go_wp2_with fail
          refine (CT _ r2).mono ?_
          rintro e w3 ⟨rfl, b3⟩
          have B3 := Lib.hid (bnext B2.out b3 B2.out.size)
          clear b3 d0 d1 r2 CT
          go_wp2_with fail
          refine ⟨⟨q + 1, by omega, by go_num, by rw [HX.out], B3.out⟩, by simp [intOf]; omega⟩
        · have e3 : (r.t (u * 8 + t) != 3) = true := by simp [h3]
          have HX : Hid (S (q + 1) = S q + 1) := Lib.hid (by rw [HS1.out, Rf.liftT_1 hx h3])
          clear hx h3
          go_wp2_with fail
          refine CX.mono ?_
          rintro e w2 ⟨rfl, b2⟩
          have B2 := Lib.hid (bnext HB.out b2 HB.out.size)
          have r2 := brow B2.out (brow B1.out P0.out)
          have d0 := (b2.cell (p := ⟨gg, q * 2, none⟩) (lt_of_cellA c0)).trans c0
          have d1 := (b2.cell (p := ⟨gg, q * 2 + 1, none⟩) (lt_of_cellA c1)).trans c1
          clear b2 CX c0 c1
          go_wp2_with fail
          refine (CT _ r2).mono ?_
          rintro e w3 ⟨rfl, b3⟩
          have B3 := Lib.hid (bnext B2.out b3 B2.out.size)
          clear b3 d0 d1 r2 CT
          go_wp2_with fail
          refine ⟨⟨q + 1, by omega, by go_num, by rw [HX.out], B3.out⟩, by simp [intOf]; omega⟩
    · obtain rfl : q = L.length := by omega
      have HB := Lib.hid hB
      clear hB
      go_wp2_with fail
      go_ret
      exact ⟨rfl, pB.out.trans ((B1.out.trans (HB.out.mono B1.out.size)).mono pB.out.size)⟩

set_option maxRecDepth 100000 in
set_option maxHeartbeats 2000000 in
theorem liftedAt_any (B k : Nat) (c : Array Value) (r : Rf) (i j : Nat) (a : Option Addr) (cap : Nat) (f : Nat → Int) (w : World) (hR : IsRoof c r) (ho : r.Ok) (hi : i < 8) (hj : j < 8) (hjw : (j : Int) < r.w)
    (hv : IsList w B (.slice a k cap) 2 k (fun i => .int .i8 (f i))) (hk : k ≤ 2000000) :
    Calls Try.prog 66 #[.agg c, .slice a k cap, .agg #[.int .i8 i, .int .i8 j]] w fun e w' => e = .returned (.int .i64 (r.lift f k i j)) ∧ Below w.heap.size w w' := by
  have hc := hR.size
  have i0 : 0 ≤ (i : Int) := by omega
  have i1 : (i : Int) < 8 := by omega
  have CL := fun W => above_any c r i j W hR ho hi hj hjw
  have hle := r.laps_le i j (i - 1)
  have hmem := fun q h => Rf.laps_mem (r := r) ho (a := (i : Int)) (b := (j : Int)) (k := (i : Int) - 1) (q := q) h
  have hS : Hid (∀ m, m < (r.laps i j (i - 1)).length → sumTo (r.liftQ f k i j) (m + 1) = sumTo (r.liftQ f k i j) m + r.liftT f k (i - 1) ((r.laps i j (i - 1)).getD m 0)) := Lib.hid fun m _ => rfl
  have hSb := fun m => r.liftS_bd f k i j m
  have hS0 : Hid (sumTo (r.liftQ f k i j) 0 = 0) := Lib.hid rfl
  unfold Rf.lift
  generalize sumTo (r.liftQ f k i j) = S at *
  generalize r.laps i j (i - 1) = L at *
  have HM := Lib.hid hmem
  have HSB := Lib.hid hSb
  clear hmem hSb
  go_enter Try.func66, Try.ntmps66
  obtain ⟨W0, hW⟩ : ∃ W0, W0 = (w.alloc (.cells c 31)).alloc (.cells #[.int .i8 i, .int .i8 j] 58) := ⟨_, rfl⟩
  have pB := Lib.hid (show Below w.heap.size w W0 by rw [hW]; exact ((Below.refl _ _).alloc (Nat.le_refl _) _).alloc (by simp) _)
  have P0 := Lib.hid (show rowAt W0 w.heap.size = some c by rw [hW]; exact (rowAt_alloc_past _ _ _ (by simp)).trans (rowAt_alloc_at _ _ _ _ rfl))
  have HV := Lib.hid (hv.below pB.out (Nat.le_refl _))
  have HW := Lib.hid hW
  clear hW hv
  go_wp2_with fail
  rw [← HW.out]
  clear HW
  refine (CL _).mono ?_
  rintro e w1 ⟨va, rfl, la, b1⟩
  obtain ⟨aa, ca, rfl⟩ := la.shape
  have LA := Lib.hid la
  have B1 := Lib.hid b1
  clear la b1 CL
  go_wp2_with fail
  go_loopw [7, 14] (fun s x W => ∃ q : Nat, q ≤ L.length ∧ x = .int .i64 q ∧ s = .int .i64 (S q) ∧ Below w1.heap.size w1 W) (fun _ x _ => L.length - (intOf x).toNat)
  case atStart => exact ⟨0, by omega, rfl, by rw [hS0.out], Below.refl _ _⟩
  case round =>
    obtain ⟨q, hq, rfl, rfl, hB⟩ := hrel
    by_cases hlt : q < L.length
    · obtain ⟨u, t, hu, u8, ht, t8⟩ := HM.out q hlt
      obtain ⟨gg, rfl, c0, c1⟩ := (LA.out.below hB (Nat.le_refl _)).pl hlt
      rw [plF_even, hu] at c0
      rw [plF_odd, ht] at c1
      have hq0 : 0 ≤ (q : Int) := by omega
      have hq1 : (q : Int) < L.length := by omega
      have u0 : 0 ≤ (u : Int) := by omega
      have u1 : (u : Int) < 8 := by omega
      have tt0 : 0 ≤ (t : Int) := by omega
      have tt1 : (t : Int) < 8 := by omega
      obtain ⟨s0, s1⟩ := HSB.out q
      have s2 : S q ≤ 4 := by omega
      have HS1 := Lib.hid (hS.out q hlt)
      rw [hu, ht] at HS1
      have HB := Lib.hid hB
      obtain ⟨Wx, hWx⟩ : ∃ Wx, Wx = wr.alloc (.cells #[.int .i8 u, .int .i8 t] 58) := ⟨_, rfl⟩
      have bx : Below wr.heap.size wr Wx := by rw [hWx]; exact (Below.refl _ _).alloc (Nat.le_refl _) _
      have BX := Lib.hid (bnext hB bx hB.size)
      have RX := Lib.hid (show rowAt Wx wr.heap.size = some #[.int .i8 u, .int .i8 t] by rw [hWx]; exact rowAt_alloc_at _ _ _ _ rfl)
      have HWX := Lib.hid hWx
      have CX := containsP_any B k (.slice a k cap) f u t Wx (HV.out.below (B1.out.trans (BX.out.mono B1.out.size)) (Nat.le_refl _)) hk
      clear hB hu ht s1 bx hWx
      cases hx : hasP f k u t with
      | true =>
        rw [hx] at CX
        have HX : Hid (S (q + 1) = S q + 2) := Lib.hid (by rw [HS1.out, Rf.liftT_2 hx])
        clear hx
        go_wp2_with fail
        rw [← HWX.out]
        refine CX.mono ?_
        rintro e w2 ⟨rfl, b2⟩
        have B2 := Lib.hid (bnext BX.out b2 BX.out.size)
        clear b2 CX c0 c1
        go_wp2_with fail
        refine ⟨⟨q + 1, by omega, by go_num, by rw [HX.out], B2.out⟩, by simp [intOf]; omega⟩
      | false =>
        rw [hx] at CX
        have CT := fun W => kind_any c r u t W hR u8 t8
        by_cases h3 : r.t (u * 8 + t) = 3
        · have e3 : (r.t (u * 8 + t) != 3) = false := by simp [h3]
          have HX : Hid (S (q + 1) = S q) := Lib.hid (by rw [HS1.out, Rf.liftT_0 hx h3, Int.add_zero])
          clear hx h3
          go_wp2_with fail
          rw [← HWX.out]
          refine CX.mono ?_
          rintro e w2 ⟨rfl, b2⟩
          have B2 := Lib.hid (bnext BX.out b2 BX.out.size)
          have r2 := brow B2.out (brow B1.out P0.out)
          have d0 := cell_of_rowAt (brow b2 RX.out) 0
          have d1 := cell_of_rowAt (brow b2 RX.out) 1
          clear b2 CX c0 c1
          go_wp2_with fail
          refine (CT _).mono ?_
          rintro e w3 ⟨rfl, b3⟩
          have B3 := Lib.hid (bnext B2.out b3 B2.out.size)
          clear b3 d0 d1 r2 CT
          go_wp2_with fail
          refine ⟨⟨q + 1, by omega, by go_num, by rw [HX.out], B3.out⟩, by simp [intOf]; omega⟩
        · have e3 : (r.t (u * 8 + t) != 3) = true := by simp [h3]
          have HX : Hid (S (q + 1) = S q + 1) := Lib.hid (by rw [HS1.out, Rf.liftT_1 hx h3])
          clear hx h3
          go_wp2_with fail
          rw [← HWX.out]
          refine CX.mono ?_
          rintro e w2 ⟨rfl, b2⟩
          have B2 := Lib.hid (bnext BX.out b2 BX.out.size)
          have r2 := brow B2.out (brow B1.out P0.out)
          have d0 := cell_of_rowAt (brow b2 RX.out) 0
          have d1 := cell_of_rowAt (brow b2 RX.out) 1
          clear b2 CX c0 c1
          go_wp2_with fail
          refine (CT _).mono ?_
          rintro e w3 ⟨rfl, b3⟩
          have B3 := Lib.hid (bnext B2.out b3 B2.out.size)
          clear b3 d0 d1 r2 CT
          go_wp2_with fail
          refine ⟨⟨q + 1, by omega, by go_num, by rw [HX.out], B3.out⟩, by simp [intOf]; omega⟩
    · obtain rfl : q = L.length := by omega
      have HB := Lib.hid hB
      clear hB
      go_wp2_with fail
      go_ret
      exact ⟨rfl, pB.out.trans ((B1.out.trans (HB.out.mono B1.out.size)).mono pB.out.size)⟩
end Go.Proofs.Ytkbacpkpgfppiaa
