/- A list of places of a roof: its mathematics, and the model's functions over it. -/
import Derived.Test.YtoibolmippfcgaaDoorInP
import Derived.Test.YtoibolmippfcgaaDoorSave
namespace Go.Proofs.YtoibolmippfcgaaDoor
open Go.RowKit

/-- The roof in which the first places of a list are whole. -/
def pix (f : Nat → Int) (k : Nat) : Nat := (f (k * 2)).toNat * 8 + (f (k * 2 + 1)).toNat
def Rf.mendL (r : Rf) (f : Nat → Int) : Nat → Rf
  | 0 => r
  | n + 1 => (r.mendL f n).set (pix f n) 0
def mendC (c : Array Value) (f : Nat → Int) : Nat → Array Value
  | 0 => c
  | n + 1 => (mendC c f n).setIfInBounds (3 + pix f n) (.int .u8 0)
theorem Rf.mendL_dims (r : Rf) (f : Nat → Int) : ∀ n, (r.mendL f n).w = r.w ∧ (r.mendL f n).h = r.h ∧ (r.mendL f n).s = r.s
  | 0 => ⟨rfl, rfl, rfl⟩
  | n + 1 => r.mendL_dims f n
theorem Rf.mendL_rains {r : Rf} {t : Nat → Int} (f : Nat → Int) (h : r.Rains t) : ∀ n, (r.mendL f n).Rains t
  | 0 => h
  | n + 1 => Rf.set_rains (Rf.mendL_rains f h n) _
theorem Rf.pix_lt {r : Rf} {f : Nat → Int} {k : Nat} (ho : r.Ok) (h : r.inP f k) : pix f k < 64 := by
  have h1 := ho.2.1
  have h2 := ho.2.2.2.1
  obtain ⟨a, b, c, d⟩ := h
  unfold pix
  omega
theorem mendC_is {c : Array Value} {r : Rf} {f : Nat → Int} (hR : IsRoof c r) (ho : r.Ok) : ∀ {n : Nat}, r.okP f n → IsRoof (mendC c f n) (r.mendL f n)
  | 0, _ => hR
  | n + 1, h => (mendC_is hR ho (Rf.okP_succ.1 h).1).set _ (Rf.pix_lt ho (Rf.okP_succ.1 h).2) 0 (by omega)
/-- How much drips behind repairs. -/
def Rf.aft (r : Rf) (t : Nat → Int) (f : Nat → Int) (n : Nat) : Int := sumTo ((r.mendL f n).drips t) 136
theorem Rf.aft_bd {r : Rf} {t : Nat → Int} (h : r.Rains t) (f : Nat → Int) (n : Nat) : 0 ≤ r.aft t f n ∧ r.aft t f n ≤ 136000 := Rf.sum_bd (Rf.mendL_rains f h n)
/-- The code of a roof, rain and places, and whether a number is as told. -/
noncomputable def Rf.pcode (r : Rf) (t f : Nat → Int) (n : Nat) (fine : Bool) : Int := if r.rok t = true then (if (fine && r.okB f n) = true then 0 else 2) else 1
theorem Rf.pcode_no {r : Rf} {t f : Nat → Int} {n : Nat} {fine : Bool} (h : ¬ r.Rains t) : r.pcode t f n fine = 1 := by unfold Rf.pcode; rw [Rf.rok_false h]; rfl
theorem Rf.pcode_out {r : Rf} {t f : Nat → Int} {n : Nat} {fine : Bool} (h : r.Rains t) (hf : (fine && r.okB f n) = false) : r.pcode t f n fine = 2 := by unfold Rf.pcode; rw [Rf.rok_true h, hf]; rfl
theorem Rf.pcode_in {r : Rf} {t f : Nat → Int} {n : Nat} (h : r.Rains t) (hf : r.okP f n) : r.pcode t f n true = 0 := by unfold Rf.pcode; rw [Rf.rok_true h, Rf.okB_t hf]; rfl

set_option maxRecDepth 100000 in
set_option maxHeartbeats 1000000 in
theorem l03Places_in (n0 n1 b n : Nat) (c d : Array Value) (r : Rf) (t f : Nat → Int) (v : Value) (fine : Bool) (w : World) (hr : rowAt w n0 = some c) (hR : IsRoof c r) (hd : rowAt w n1 = some d) (hT : IsRain d t) (ho : r.Rains t)
    (hv : IsList w b v 2 n (fun i => .int .i8 (f i))) (hn : n ≤ 2000000) (hf : ∀ i, i < n * 2 → -128 ≤ f i ∧ f i ≤ 127) :
    Calls Tryd.prog 26 #[.pointer (some ⟨n0, 0, none⟩), .pointer (some ⟨n1, 0, none⟩), v, .bool fine] w fun e w' => e = .returned (.int .i64 (r.pcode t f n fine)) ∧ Below w.heap.size w w' := by
  have HV := Lib.hid hv
  have HF := Lib.hid hf
  obtain ⟨av, cv, rfl⟩ := hv.shape
  clear hv hf
  go_enter Tryd.func26, Tryd.ntmps26
  go_wp2_with fail
  refine (l02Ok_t n0 n1 c d r t _ hr hR hd hT ho).mono ?_
  rintro e w1 ⟨rfl, b1⟩
  have HR := Lib.hid (brow b1 hr)
  have HV1 := Lib.hid (HV.out.below b1 (Nat.le_refl _))
  have B1 := Lib.hid b1
  clear b1 hr hd
  go_wp2_with fail
  go_loopw [3, 9] (fun p i W => ∃ (k : Nat) (q : Bool), k ≤ n ∧ i = .int .i64 k ∧ p = .bool q ∧ q = (fine && r.okB f k) ∧ Below w1.heap.size w1 W) (fun _ i _ => n - (intOf i).toNat)
  case atStart => exact ⟨0, fine, by omega, rfl, rfl, by rw [Rf.okB_t (r.okP_zero f), Bool.and_true], Below.refl _ _⟩
  case round =>
    obtain ⟨k, q, hk, rfl, rfl, hq, hB⟩ := hrel
    have HQ := Lib.hid hq
    clear hq
    by_cases hlt : k < n
    · cases q with
      | true =>
        obtain ⟨g, rfl, c0, c1⟩ := (HV1.out.below hB (Nat.le_refl _)).pl hlt
        have fb0 := HF.out (k * 2) (by omega)
        have fb1 := HF.out (k * 2 + 1) (by omega)
        have r0 := brow hB HR.out
        have hi0 : 0 ≤ (k : Int) := by omega
        have hi1 : (k : Int) < n := by omega
        have hfo : fine = true ∧ r.okP f k := by
          have := HQ.out.symm
          rw [Bool.and_eq_true] at this
          exact ⟨this.1, Rf.okB_of this.2⟩
        by_cases hin : r.inP f k
        · have hk1 : (fine && r.okB f (k + 1)) = true := by rw [hfo.1, Rf.okB_t (Rf.okP_succ.2 ⟨hfo.2, hin⟩)]; rfl
          have HK := Lib.hid hk1
          have HI := Lib.hid hin
          clear hk1 hfo hin
          go_wp2_with fail
          refine (l01Is_t n0 c r _ _ _ r0 hR fb0 fb1 HI.out).mono ?_
          rintro e w2 ⟨rfl, b2⟩
          have B2 := Lib.hid (bnext hB b2 hB.size)
          clear b2 hB c0 c1 r0
          go_wp2_with fail
          refine ⟨⟨k + 1, true, by omega, by go_num, rfl, HK.out.symm, B2.out⟩, by simp [intOf]; omega⟩
        · have hk1 : (fine && r.okB f (k + 1)) = false := by rw [Rf.okB_f (fun h => hin (Rf.okP_succ.1 h).2), Bool.and_false]
          have HK := Lib.hid hk1
          have HI := Lib.hid hin
          clear hk1 hfo hin
          go_wp2_with fail
          refine (l01Is_f n0 c r _ _ _ r0 hR fb0 fb1 HI.out).mono ?_
          rintro e w2 ⟨rfl, b2⟩
          have B2 := Lib.hid (bnext hB b2 hB.size)
          clear b2 hB c0 c1 r0
          go_wp2_with fail
          refine ⟨⟨k + 1, false, by omega, by go_num, rfl, HK.out.symm, B2.out⟩, by simp [intOf]; omega⟩
      | false =>
        have hk1 : (fine && r.okB f (k + 1)) = false := by
          cases fine with
          | false => rfl
          | true =>
            have := HQ.out
            rw [Bool.true_and] at this ⊢
            refine Rf.okB_f fun h => ?_
            rw [Rf.okB_t (Rf.okP_succ.1 h).1] at this
            cases this
        have HK := Lib.hid hk1
        have HB := Lib.hid hB
        have hi0 : 0 ≤ (k : Int) := by omega
        have hi1 : (k : Int) < n := by omega
        clear hk1 hB
        go_wp2_with fail
        refine ⟨⟨k + 1, false, by omega, by go_num, rfl, HK.out.symm, HB.out⟩, by simp [intOf]; omega⟩
    · obtain rfl : k = n := by omega
      have HB := Lib.hid hB
      clear hB
      cases q with
      | true =>
        have HC : Hid (r.pcode t f k fine = 0) := by
          refine Lib.hid ?_
          unfold Rf.pcode
          rw [Rf.rok_true ho, ← HQ.out]; rfl
        go_wp2_with fail
        go_ret
        exact ⟨by rw [HC.out]; rfl, B1.out.trans (HB.out.mono B1.out.size)⟩
      | false =>
        have HC : Hid (r.pcode t f k fine = 2) := Lib.hid (Rf.pcode_out ho HQ.out.symm)
        go_wp2_with fail
        go_ret
        exact ⟨by rw [HC.out]; rfl, B1.out.trans (HB.out.mono B1.out.size)⟩
theorem l03Places_any (n0 n1 b n : Nat) (c d : Array Value) (r : Rf) (t f : Nat → Int) (v : Value) (fine : Bool) (w : World) (hr : rowAt w n0 = some c) (hR : IsRoof c r) (hd : rowAt w n1 = some d) (hT : IsRain d t)
    (hv : IsList w b v 2 n (fun i => .int .i8 (f i))) (hn : n ≤ 2000000) (hf : ∀ i, i < n * 2 → -128 ≤ f i ∧ f i ≤ 127) :
    Calls Tryd.prog 26 #[.pointer (some ⟨n0, 0, none⟩), .pointer (some ⟨n1, 0, none⟩), v, .bool fine] w fun e w' => e = .returned (.int .i64 (r.pcode t f n fine)) ∧ Below w.heap.size w w' := by
  by_cases ho : r.Rains t
  · exact l03Places_in n0 n1 b n c d r t f v fine w hr hR hd hT ho hv hn hf
  · rw [Rf.pcode_no ho]
    obtain ⟨av, cv, rfl⟩ := hv.shape
    clear hv hf
    go_enter Tryd.func26, Tryd.ntmps26
    go_wp2_with fail
    refine (l02Ok_f n0 n1 c d r t _ hr hR hd hT ho).mono ?_
    rintro e w1 ⟨rfl, b1⟩
    clear hr hd
    go_wp2_with fail
    go_ret
    exact ⟨rfl, b1⟩

set_option maxRecDepth 100000 in
set_option maxHeartbeats 1000000 in
theorem l03After_any (n0 n1 b n : Nat) (c d : Array Value) (r : Rf) (t f : Nat → Int) (v : Value) (w : World) (hr : rowAt w n0 = some c) (hR : IsRoof c r) (hd : rowAt w n1 = some d) (hT : IsRain d t) (ho : r.Rains t)
    (hv : IsList w b v 2 n (fun i => .int .i8 (f i))) (hn : n ≤ 2000000) (hP : r.okP f n) :
    Calls Tryd.prog 27 #[.pointer (some ⟨n0, 0, none⟩), .pointer (some ⟨n1, 0, none⟩), v] w fun e w' => e = .returned (.int .i64 (r.aft t f n)) ∧ Below w.heap.size w w' := by
  have hc := hR.size
  have hco := hR.ones
  have HV := Lib.hid hv
  have HP := Lib.hid hP
  have lt0 := rowAt_lt hr
  obtain ⟨av, cv, rfl⟩ := hv.shape
  clear hv hP
  go_enter Tryd.func27, Tryd.ntmps27
  go_wp2_with fail
  refine gen_world fun W0 hW => ?_
  have p2 : rowAt W0 w.heap.size = some c := by rw [hW]; exact rowAt_alloc_at _ _ _ _ rfl
  have pB : Below w.heap.size w W0 := by rw [hW]; exact (Below.refl _ _).alloc (Nat.le_refl _) _
  have P2 := Lib.hid p2
  have PB := Lib.hid pB
  clear hW p2 pB
  go_loopw [8] (fun i W => ∃ k : Nat, k ≤ n ∧ i = .int .i64 k ∧ rowAt W w.heap.size = some (mendC c f k) ∧ Sole w.heap.size W0 W) (fun i _ => n - (intOf i).toNat)
  case atStart => exact ⟨0, by omega, rfl, P2.out, Sole.refl _ _⟩
  case round =>
    obtain ⟨k, hk, rfl, hrow, hS⟩ := hrel
    by_cases hlt : k < n
    · have hL : IsList wr b (.slice av n cv) 2 n (fun i => .int .i8 (f i)) := by
        rcases HV.out with h | ⟨g, cap, cur, e, hg, hr', hs, hf⟩
        · exact .inl h
        · have h1 := rowAt_lt hr'
          exact .inr ⟨g, cap, cur, e, hg, (hS.rows g (by have := rowAt_lt P2.out; omega) (by omega)).trans ((rowAt_below PB.out g h1).trans hr'), hs, hf⟩
      obtain ⟨g, rfl, c0, c1⟩ := hL.pl hlt
      have hin := HP.out k hlt
      obtain ⟨x, hx⟩ := Int.eq_ofNat_of_zero_le hin.1
      obtain ⟨y, hy⟩ := Int.eq_ofNat_of_zero_le hin.2.2.1
      have hx8 : x < 8 := by have := hin.2.1; have := ho.1.2.2.2.1; omega
      have hy8 : y < 8 := by have := hin.2.2.2; have := ho.1.2.1; omega
      have hpx : pix f k = x * 8 + y := by unfold pix; rw [hx, hy]; rfl
      have hms := (mendC_is hR ho.1 (Rf.okP_le HP.out (m := k) (by omega))).size
      rw [hx] at c0
      rw [hy] at c1
      have x0 : 0 ≤ (x : Int) := by omega
      have x1 : (x : Int) < 8 := by omega
      have y0 : 0 ≤ (y : Int) := by omega
      have y1 : (y : Int) < 8 := by omega
      have i0 : 0 ≤ (k : Int) := by omega
      have i1 : (k : Int) < n := by omega
      have gcell : ∃ u, wr.cell? ⟨w.heap.size, 3 + x * 8 + y, none⟩ = some u := ⟨_, by rw [cell_of_rowAt hrow, Array.getElem?_eq_getElem (by omega)]⟩
      obtain ⟨u, gcell⟩ := gcell
      have gfro := frozen_of_rowAt hrow
      have HX := Lib.hid hpx
      have HW := Lib.hid hrow
      have HS := Lib.hid hS
      clear hin hx hy hpx hrow hS hL
      go_wp2_with fail
      go_still_tail 13, (by kernel_rfl)
      change wpList _ _ _ _ _ wr.drew
      go_wp2_with fail
      refine ⟨⟨k + 1, by omega, by go_num, ?_, (HS.out.drew).setCell _ _⟩, by simp [intOf]; omega⟩
      have r1 := rowAt_setCell_at wr.drew w.heap.size (3 + x * 8 + y) (.int .u8 0) (by rw [rowAt_drew, HW.out]; rfl)
      rw [rowAt_drew, HW.out, Option.getD_some] at r1
      refine r1.trans (congrArg some ?_)
      show _ = (mendC c f k).setIfInBounds (3 + pix f k) (.int .u8 0)
      rw [HX.out, Nat.add_assoc]
    · obtain rfl : k = n := by omega
      have r1 : rowAt wr n1 = some d := (hS.rows n1 (by have h1 := rowAt_lt hd; have h2 := PB.out.size; omega) (by have := rowAt_lt hd; omega)).trans (brow PB.out hd)
      have hB : Below w.heap.size w wr := PB.out.trans hS.below
      clear hS
      go_wp2_with fail
      refine (l02Sum_any _ n1 _ d _ t _ hrow (mendC_is hR ho.1 HP.out) r1 hT (Rf.mendL_rains f ho k)).mono ?_
      rintro e w2 ⟨rfl, b2⟩
      have B2 := bnext hB b2 hB.size
      clear b2 hB r1 hrow
      go_wp2_with fail
      go_ret
      exact ⟨rfl, B2⟩
end Go.Proofs.YtoibolmippfcgaaDoor
