/- ReachFrom: the program's side. -/
import Derived.Test.YtoibolmippfcgaaReachI
namespace Go.Proofs.Ytoibolmippfcgaa
open Go.RowKit

theorem IsList.num1 {w : World} {n base cap : Nat} {x : Int} (hr : rowAt w n = some #[.int .i64 x]) (hb : base ≤ n) : IsList w base (.slice (some ⟨n, 0, none⟩) 1 cap) 1 1 (fun _ => .int .i64 x) :=
  .inr ⟨n, cap, _, rfl, hb, hr, by simp, fun i hi => by
    obtain rfl : i = 0 := by omega
    simp⟩
theorem Rf.wcode_cell (r : Rf) (x y : Int) (f : Nat → Int) : r.wcode (fun _ => x) 1 f 0 (inB y 0 8) = r.rcode x y := by
  have e1 : r.ocB (fun _ => x) 1 = inB x 0 (2 * r.w) := by
    by_cases h : 0 ≤ x ∧ x ≤ 2 * r.w
    · rw [inB_true h]; exact Rf.ocB_t fun k _ => h
    · rw [inB_false h]; exact Rf.ocB_f fun g => h (g 0 (by omega))
  have e2 : r.okB f 0 = true := Rf.okB_t (r.okP_zero f)
  have e3 : (inB y 0 8 && r.ocB (fun _ => x) 1 && r.okB f 0) = (inB x 0 (2 * r.w) && inB y 0 8) := by rw [e1, e2, Bool.and_true, Bool.and_comm]
  unfold Rf.wcode
  rw [e3]
  unfold Rf.rcode
  split
  · rfl
  · rename_i h
    rw [if_neg (by omega)]
    omega
theorem Rf.canL_one (r : Rf) (y x : Int) : r.canL y (fun _ => x) 1 = fun i j => r.can y i j x := by
  funext i j
  unfold Rf.canL anyI firstI firstI
  cases h : r.can y i j x <;> simp

set_option maxRecDepth 100000 in
set_option maxHeartbeats 1000000 in
theorem implReachFrom_any (c : Array Value) (r : Rf) (x y : Int) (w : World) (hR : IsRoof c r) :
    Calls Try.prog 31 #[.agg c, .int .i64 x, .int .i64 y] w (GivesT w 2 .i8 (r.rL x y).length (plAt (r.rL x y)) [.int .i64 (r.rcode x y)]) := by
  have hc := hR.size
  have p0 : rowAt ((w.alloc (.cells c 29)).alloc (.cells #[.int .i64 x] 2)) w.heap.size = some c := (rowAt_alloc_past _ _ _ (by simp)).trans (rowAt_alloc_at w c _ _ rfl)
  have p1 : rowAt ((w.alloc (.cells c 29)).alloc (.cells #[.int .i64 x] 2)) (w.heap.size + 1) = some #[.int .i64 x] := rowAt_alloc_at _ _ _ _ (by simp)
  have pB : Below w.heap.size w ((w.alloc (.cells c 29)).alloc (.cells #[.int .i64 x] 2)) := ((Below.refl _ _).alloc (Nat.le_refl _) _).alloc (by simp) _
  have HL := Lib.hid (IsList.num1 (base := 0) (cap := 1) p1 (Nat.zero_le _)).nums
  have CL := fun W H1 => checkLadders_any 0 1 0 c r (fun _ => x) (fun _ => 0) (.slice (some ⟨w.heap.size + 1, 0, none⟩) 1 1) (.slice none 0 0) y W hR H1 (by omega) (IsList.none0 _ _ _ _ _ _) (by omega)
  rw [Rf.wcode_cell] at CL
  by_cases hk : r.rcode x y = 0
  · have hb : (r.rcode x y != 0) = false := by simp [hk]
    obtain ⟨ho, hxy⟩ := Rf.told_zero hk
    rw [Bool.and_eq_true] at hxy
    have hyb : 0 ≤ y ∧ y ≤ 8 := by simpa [inB] using hxy.2
    have e : r.rL x y = fltP (fun i j => r.can y i j x) r.all := if_pos hk
    rw [e]
    have HK := Lib.hid hk
    have CR := fun W H1 => reached_any 1 c r y (fun _ => x) (.slice (some ⟨w.heap.size + 1, 0, none⟩) 1 1) r.h.toNat r.w.toNat (by have := ho.2.2.1; omega) (by have := ho.1; omega) (by have := ho.2.2.2.1; omega) (by have := ho.2.1; omega) W hR H1 (by omega) hyb
    rw [Rf.canL_one] at CR
    replace CR : ∀ W (_ : NumsAt W (.slice (some ⟨w.heap.size + 1, 0, none⟩) 1 1) 1 (fun _ => x)), Calls Try.prog 63 #[.agg c, .slice (some ⟨w.heap.size + 1, 0, none⟩) 1 1, .int .i64 y] W (GivesP W (fltP (fun i j => r.can y i j x) r.all)) := CR
    clear hk e hxy hyb
    generalize fltP (fun i j => r.can y i j x) r.all = L at *
    have P0 := Lib.hid p0
    have PB := Lib.hid pB
    clear p0 p1 pB
    go_enter Try.func31, Try.ntmps31
    have p0 := P0.out
    go_wp2_with fail
    refine (CL _ HL.out).mono ?_
    rintro e w1 ⟨rfl, b1⟩
    have q0 := brow b1 P0.out
    have HL1 := Lib.hid (HL.out.below b1 (Nat.le_refl _))
    have B1 := Lib.hid (bnext PB.out b1 PB.out.size)
    clear b1 p0 P0 CL HL
    go_wp2_with fail
    refine (CR _ HL1.out).mono ?_
    rintro e w2 ⟨v, rfl, l2, b2⟩
    have B2 := Lib.hid (bnext B1.out b2 B1.out.size)
    have L2 := Lib.hid (l2.mono B1.out.size)
    clear b2 q0 l2
    go_wp2_with fail
    go_ret2
    exact ⟨_, by rw [HK.out]; rfl, L2.out, B2.out⟩
  · have hb : (r.rcode x y != 0) = true := by simp [hk]
    have e : r.rL x y = [] := if_neg hk
    rw [e]
    clear hk e
    go_enter Try.func31, Try.ntmps31
    go_wp2_with fail
    refine (CL _ HL.out).mono ?_
    rintro e w1 ⟨rfl, b1⟩
    have B1 := Lib.hid (bnext pB b1 pB.size)
    clear b1 p0 p1 pB CL
    go_wp2_with fail
    go_ret2
    exact ⟨_, rfl, .inl ⟨rfl, _, _, rfl⟩, B1.out⟩
end Go.Proofs.Ytoibolmippfcgaa
