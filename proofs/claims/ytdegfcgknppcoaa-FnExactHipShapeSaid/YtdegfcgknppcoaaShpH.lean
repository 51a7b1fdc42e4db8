/- HipShape: contracts of both sides. -/
import Derived.Test.YtdegfcgknppcoaaShpM
import Derived.Test.YtdegfcgknppcoaaOuts
namespace Go.Proofs.Ytdegfcgknppcoaa
open Go.RowKit

/-- Where course k begins and ends, with no bound on it. -/
def hipL (a l : Int) (k : Nat) : Int := a - (k : Int) * l
def hipR (b r : Int) (k : Nat) : Int := b + (k : Int) * r
def hipF (a b l r : Int) (i : Nat) : Int := if i % 2 = 0 then hipL a l (i / 2) else hipR b r (i / 2)
/-- The same in 16 bits. -/
def hipW (a b l r : Int) (i : Nat) : Int := IntKind.i16.wrap (hipF a b l r i)
theorem hipF_even (a b l r : Int) (k : Nat) : hipF a b l r (k * 2) = hipL a l k := by unfold hipF; rw [if_pos (by omega), show k * 2 / 2 = k by omega]
theorem hipF_odd (a b l r : Int) (k : Nat) : hipF a b l r (k * 2 + 1) = hipR b r k := by unfold hipF; rw [if_neg (by omega), show (k * 2 + 1) / 2 = k by omega]
theorem hipL_next (a l : Int) (k : Nat) : hipL a l (k + 1) = hipL a l k - l := by unfold hipL; rw [show ((k + 1 : Nat) : Int) = k + 1 by omega, Int.add_mul]; omega
theorem hipR_next (b r : Int) (k : Nat) : hipR b r (k + 1) = hipR b r k + r := by unfold hipR; rw [show ((k + 1 : Nat) : Int) = k + 1 by omega, Int.add_mul]; omega
theorem wrap16 (n : Int) : IntKind.i16.wrap n = (n + 32768) % 65536 - 32768 := by
  have : IntKind.i16.wrap n = if 32768 ≤ n % 65536 then n % 65536 - 65536 else n % 65536 := by simp [IntKind.wrap, IntKind.bits, IntKind.signed]
  rw [this]; split <;> omega
theorem hipL_wrap (a l : Int) (k : Nat) : IntKind.i16.wrap (IntKind.i16.wrap (hipL a l k) - l) = IntKind.i16.wrap (hipL a l (k + 1)) := by
  rw [hipL_next]; simp only [wrap16]; omega
theorem hipR_wrap (b r : Int) (k : Nat) : IntKind.i16.wrap (IntKind.i16.wrap (hipR b r k) + r) = IntKind.i16.wrap (hipR b r (k + 1)) := by
  rw [hipR_next]; simp only [wrap16]; omega
theorem mul_small {k : Nat} {l : Int} (hk : k < 12) (hl : 0 ≤ l ∧ l ≤ 40) : 0 ≤ (k : Int) * l ∧ (k : Int) * l ≤ 440 := by
  refine ⟨Int.mul_nonneg (by omega) hl.1, ?_⟩
  have := Int.mul_le_mul (a := (k : Int)) (b := l) (c := 11) (d := 40) (by omega) hl.2 hl.1 (by omega)
  omega
theorem hip_bd {a b l r : Int} (ha : -32768 ≤ a ∧ a ≤ 32767) (hb : -32768 ≤ b ∧ b ≤ 32767) (hl : 0 ≤ l ∧ l ≤ 40) (hr : 0 ≤ r ∧ r ≤ 40) {k : Nat} (hk : k < 12) :
    -33208 ≤ hipL a l k ∧ hipL a l k ≤ a ∧ b ≤ hipR b r k ∧ hipR b r k ≤ 33207 := by
  have h1 := mul_small hk hl
  have h2 := mul_small hk hr
  unfold hipL hipR
  omega
/-- The shape is valid or not in 16 bits as it is without bounds. -/
theorem shBad_hip {a b l r : Int} (ha : -32768 ≤ a ∧ a ≤ 32767) (hb : -32768 ≤ b ∧ b ≤ 32767) (hl : 0 ≤ l ∧ l ≤ 40) (hr : 0 ≤ r ∧ r ≤ 40) {n : Nat} (hn : 1 ≤ n ∧ n ≤ 12) :
    shBad (hipW a b l r) n = shBad (hipF a b l r) n := by
  by_cases h0 : spOut a b = true
  · have e0 : hipF a b l r (0 * 2) = a := by rw [hipF_even]; simp [hipL]
    have e1 : hipF a b l r (0 * 2 + 1) = b := by rw [hipF_odd]; simp [hipR]
    have x0 : hipW a b l r (0 * 2) = a := by unfold hipW; rw [e0]; exact IntWalk.i16_in _ ha
    have x1 : hipW a b l r (0 * 2 + 1) = b := by unfold hipW; rw [e1]; exact IntWalk.i16_in _ hb
    rw [show shBad (hipW a b l r) n = true from anyI_t (k := 0) (by omega) (by rw [x0, x1]; exact h0), show shBad (hipF a b l r) n = true from anyI_t (k := 0) (by omega) (by rw [e0, e1]; exact h0)]
  · have h1 : 0 ≤ a ∧ a < b ∧ b ≤ 200 := by simp [spOut] at h0; omega
    unfold shBad anyI
    congr 2
    refine firstI_congr fun i hi => ?_
    have := hip_bd ha hb hl hr (k := i) (by omega)
    have h2 := mul_small (k := i) (by omega) hl
    have h3 := mul_small (k := i) (by omega) hr
    rw [show hipW a b l r (i * 2) = hipF a b l r (i * 2) from by unfold hipW; rw [hipF_even]; exact IntWalk.i16_in _ (by unfold hipL at *; omega), show hipW a b l r (i * 2 + 1) = hipF a b l r (i * 2 + 1) from by unfold hipW; rw [hipF_odd]; exact IntWalk.i16_in _ (by unfold hipR at *; omega)]

/-- The numbers are as told; the code. -/
def hipIn (l r c h : Int) : Bool := inB l 0 40 && (inB r 0 40 && (inB c 1 12 && inB h 0 1))
def hipC (a b l r c h : Int) : Int := if hipIn l r c h then (if shBad (hipF a b l r) c.toNat then 4 else 0) else 2
theorem hipIn_t {l r c h : Int} (hh : hipIn l r c h = true) : (0 ≤ l ∧ l ≤ 40) ∧ (0 ≤ r ∧ r ≤ 40) ∧ (1 ≤ c ∧ c ≤ 12) ∧ (0 ≤ h ∧ h ≤ 1) := by
  simpa [hipIn, inB] using hh

/-- Four numbers and their bounds. -/
def bnd12 (l r c h : Int) : Nat → Int := fun i => if i = 0 then l else if i = 2 then 40 else if i = 3 then r else if i = 5 then 40 else if i = 6 then c else if i = 7 then 1 else if i = 8 then 12 else if i = 9 then h else if i = 11 then 1 else 0
theorem IsList.lit12 {w : World} {n base cap : Nat} {l r c h : Int} (hr : rowAt w n = some #[.int .i64 l, .int .i64 0, .int .i64 40, .int .i64 r, .int .i64 0, .int .i64 40, .int .i64 c, .int .i64 1, .int .i64 12, .int .i64 h, .int .i64 0, .int .i64 1]) (hb : base ≤ n) : IsList w base (.slice (some ⟨n, 0, none⟩) 4 cap) 3 4 (fun i => .int .i64 (bnd12 l r c h i)) :=
  .inr ⟨n, cap, _, rfl, hb, hr, by simp, fun i hi => by
    have : i = 0 ∨ i = 1 ∨ i = 2 ∨ i = 3 ∨ i = 4 ∨ i = 5 ∨ i = 6 ∨ i = 7 ∨ i = 8 ∨ i = 9 ∨ i = 10 ∨ i = 11 := by omega
    rcases this with rfl | rfl | rfl | rfl | rfl | rfl | rfl | rfl | rfl | rfl | rfl | rfl <;> simp [bnd12]⟩
theorem outs_bnd12 (l r c h : Int) : anyI (outs (bnd12 l r c h)) 4 = !hipIn l r c h := by
  rw [anyI_succ, anyI_succ, anyI_succ, anyI_succ, anyI_zero, Bool.false_or]
  have e : ∀ x lo hi : Int, outB x lo hi = !inB x lo hi := fun x lo hi => by
    unfold outB inB
    by_cases h1 : lo ≤ x <;> by_cases h2 : x ≤ hi <;> simp [h1, h2] <;> omega
  simp only [outs, e, hipIn]
  simp [bnd12, Bool.not_and, Bool.or_assoc]

set_option maxRecDepth 100000 in
set_option maxHeartbeats 4000000 in
theorem specHipShape_any (a b l r c h : Int) (w : World) (ha : -32768 ≤ a ∧ a ≤ 32767) (hb : -32768 ≤ b ∧ b ≤ 32767) :
    Calls Try.prog 20 #[.agg #[.int .i16 a, .int .i16 b], .int .i64 l, .int .i64 r, .int .i64 c, .int .i64 h] w (GivesShT w (ifOk (hipC a b l r c h == 0) h) (lenOk (hipC a b l r c h == 0) c.toNat) (hipW a b l r) [.int .i64 (hipC a b l r c h)]) := by
  obtain ⟨i0, hi0, hz0, hz1, hz2⟩ := info_parts A_infoSp2
  have I1 := fun W => l00In_any l 0 40 W
  have I2 := fun W => l00In_any r 0 40 W
  have I3 := fun W => l00In_any c 1 12 W
  have I4 := fun W => l00In_any h 0 1 W
  by_cases hh : hipIn l r c h = true
  · obtain ⟨hl, hr, hc, h1⟩ := hipIn_t hh
    rw [inB_true hl] at I1
    rw [inB_true hr] at I2
    rw [inB_true hc] at I3
    rw [inB_true h1] at I4
    obtain ⟨n, rfl⟩ : ∃ n : Nat, c = n := ⟨c.toNat, by omega⟩
    have HC : Hid (hipC a b l r n h = if shBad (hipF a b l r) n then 4 else 0) := Lib.hid (by simp [hipC, hh])
    have hwh : IntKind.u8.wrap h = h := IntWalk.u8_in _ (by omega)
    clear hh
    go_enter Try.func20, Try.ntmps20
    go_wp2_with fail
    refine (I1 _).mono ?_
    rintro e w1 ⟨rfl, rfl⟩
    go_wp2_with fail
    refine (I2 _).mono ?_
    rintro e w1 ⟨rfl, rfl⟩
    go_wp2_with fail
    refine (I3 _).mono ?_
    rintro e w1 ⟨rfl, rfl⟩
    go_wp2_with fail
    refine (I4 _).mono ?_
    rintro e w1 ⟨rfl, rfl⟩
    clear I1 I2 I3 I4
    go_wp2_with fail
    go_loopw [13, 14, 15] (fun i _ _ W => ∃ (k : Nat) (v : Value), k ≤ n ∧ i = .int .i64 k ∧ W.ownsRow (w.heap.size + 1 + 1 + 1) 39 2 v k (cellsTo .i16 (hipW a b l r) (k * 2)) ∧ rowAt W w.heap.size = some #[.int .i16 a, .int .i16 b] ∧ rowAt W (w.heap.size + 1) = some #[.int .u8 0, .slice none 0 0] ∧ rowAt W (w.heap.size + 1 + 1) = some #[.int .u8 h, v] ∧ Below w.heap.size w W ∧ Hid (shBad (hipF a b l r) k = false)) (fun i _ _ _ => n - (intOf i).toNat)
    case atStart =>
      refine ⟨0, _, by omega, rfl, owns_nil _ _ _ _ _ _, ?_, ?_, rowAt_alloc_at _ _ _ _ (by simp), (((Below.refl _ _).alloc (Nat.le_refl _) _).alloc (by simp) _).alloc (by simp; omega) _, Lib.hid rfl⟩
      · exact (rowAt_alloc_past _ _ _ (by simp; omega)).trans ((rowAt_alloc_past _ _ _ (by simp)).trans (rowAt_alloc_at _ _ _ _ (by simp)))
      · exact (rowAt_alloc_past _ _ _ (by simp)).trans (rowAt_alloc_at _ _ _ _ (by simp))
    case round =>
      obtain ⟨k, v, hk, rfl, ho, r0, r1, r2, hB, hG⟩ := hrel
      have x0 := cell_of_rowAt r0
      have x1 := cell_of_rowAt r1
      have y1 := frozen_of_rowAt r1
      have x2 := cell_of_rowAt r2
      have y2 := frozen_of_rowAt r2
      have lt2 := rowAt_lt r2
      obtain ⟨av, cv, rfl⟩ := owns_shape ho
      by_cases hlt : k < n
      · have hk1 : (k : Int) < n := by omega
        have hbd := hip_bd ha hb hl hr (k := k) (by omega)
        have hm1 := mul_small (k := k) (by omega) hl
        have hm2 := mul_small (k := k) (by omega) hr
        have hw1 : IntKind.i64.wrap ((k : Int) * l) = (k : Int) * l := IntWalk.i64_in _ (by omega)
        have hw2 : IntKind.i64.wrap ((k : Int) * r) = (k : Int) * r := IntWalk.i64_in _ (by omega)
        have E0 := Lib.hid (hipF_even a b l r k)
        have E1 := Lib.hid (hipF_odd a b l r k)
        have hL : a - (k : Int) * l = hipL a l k := rfl
        have hR : b + (k : Int) * r = hipR b r k := rfl
        obtain ⟨L, hL2⟩ : ∃ L, hipL a l k = L := ⟨_, rfl⟩
        obtain ⟨R, hR2⟩ : ∃ R, hipR b r k = R := ⟨_, rfl⟩
        rw [hL2] at hL hbd E0
        rw [hR2] at hR hbd E1
        have hw3 : IntKind.i64.wrap L = L := IntWalk.i64_in _ (by omega)
        have hw4 : IntKind.i64.wrap R = R := IntWalk.i64_in _ (by omega)
        clear hL2 hR2 hm1 hm2
        have ne2 := Nat.ne_of_lt lt2
        have hsu : shBad (hipF a b l r) (k + 1) = spOut L R := by
          unfold shBad
          rw [anyI_succ, show anyI (fun i => spOut (hipF a b l r (i * 2)) (hipF a b l r (i * 2 + 1))) k = false from hG.out, Bool.false_or, E0.out, E1.out]
        by_cases hbad : L < 0 ∨ R ≤ L ∨ 200 < R
        · have HX : Hid (hipC a b l r n h = 4) := Lib.hid (by rw [HC.out, show shBad (hipF a b l r) n = true from anyI_t (k := k) hlt (by rw [E0.out, E1.out]; exact spOut_t (by omega))]; rfl)
          clear hsu HC
          have fin : ∀ w', Below w.heap.size w w' → GivesShT w (ifOk (hipC a b l r n h == 0) h) (lenOk (hipC a b l r n h == 0) (n : Int).toNat) (hipW a b l r) [.int .i64 (hipC a b l r n h)] (.returned (.tuple #[.agg #[.int .u8 0, .slice none 0 0], .int .i64 4])) w' := fun w' bw =>
            ⟨.slice none 0 0, by rw [HX.out]; rfl, .inl ⟨by rw [HX.out]; rfl, none, 0, rfl⟩, bw⟩
          by_cases h1 : L < 0
          · have hd1 : decide (L < 0) = true := by simp [h1]
            clear hbad h1
            go_wp2_with fail
            refine bodyPost_ret (v := .tuple #[.agg #[.int .u8 0, .slice none 0 0], .int .i64 4]) (by simp [results, Try.results20, go_sem, x1]) rfl (fin _ ?_)
            exact (hB.setCell (p := ⟨_, _, none⟩) (by simp) _).setCell (p := ⟨_, _, none⟩) (by simp) _
          · have hd1 : decide (L < 0) = false := by simp; omega
            by_cases h2 : 200 < R
            · have hd2 : decide (200 < R) = true := by simp [h2]
              clear hbad h1 h2
              go_wp2_with fail
              refine bodyPost_ret (v := .tuple #[.agg #[.int .u8 0, .slice none 0 0], .int .i64 4]) (by simp [results, Try.results20, go_sem, x1]) rfl (fin _ ?_)
              exact (hB.setCell (p := ⟨_, _, none⟩) (by simp) _).setCell (p := ⟨_, _, none⟩) (by simp) _
            · have hd2 : decide (200 < R) = false := by simp; omega
              have hd3 : decide (R ≤ L) = true := by simp; omega
              clear hbad h1 h2
              go_wp2_with fail
              refine bodyPost_ret (v := .tuple #[.agg #[.int .u8 0, .slice none 0 0], .int .i64 4]) (by simp [results, Try.results20, go_sem, x1]) rfl (fin _ ?_)
              exact (hB.setCell (p := ⟨_, _, none⟩) (by simp) _).setCell (p := ⟨_, _, none⟩) (by simp) _
        · have hd1 : decide (L < 0) = false := by simp; omega
          have hd2 : decide (200 < R) = false := by simp; omega
          have hd3 : decide (R ≤ L) = false := by simp; omega
          have HX := Lib.hid (hsu.trans (spOut_f (by omega)))
          clear hsu
          have E2 : Hid (hipW a b l r (k * 2) = L) := Lib.hid (by unfold hipW; rw [E0.out]; exact IntWalk.i16_in _ (by omega))
          have E3 : Hid (hipW a b l r (k * 2 + 1) = R) := Lib.hid (by unfold hipW; rw [E1.out]; exact IntWalk.i16_in _ (by omega))
          have hw5 : IntKind.i16.wrap L = L := IntWalk.i16_in _ (by omega)
          have hw6 : IntKind.i16.wrap R = R := IntWalk.i16_in _ (by omega)
          clear hbad
          go_wp2_with (at_builtin; refine wpList_append_own _ rfl _ _ 27 rfl (w.heap.size + 1 + 1 + 1) 39 i0 (.agg #[.int .i16 0, .int .i16 0]) 2 4 Try.underlying27 hi0 hz0 hz1 hz2 rfl (by decide) _ _ _ rfl (ho.alloc _) ⟨wr.heap.size, 0, none⟩ 1 1 [.int .i16 (L), .int .i16 (R)] rfl rfl (cells_new2 rfl _ _ _) (by simp [Value.oneCell']) (by unfold maxLen; omega) (by omega) (by simp; omega) ?_; intro v' w1 own1 grow1 _; obtain ⟨av', cv', rfl⟩ := owns_shape own1; have g0 := (grown_below grow1 (by simp; omega) (owns_base' ho) (by omega)).trans ((rowAt_alloc_past _ _ _ (by omega)).trans r0); have g1 := (grown_below grow1 (by simp; omega) (owns_base' ho) (by omega)).trans ((rowAt_alloc_past _ _ _ (by omega)).trans r1); have g2 := (grown_below grow1 (by simp; omega) (owns_base' ho) (by omega)).trans ((rowAt_alloc_past _ _ _ (by omega)).trans r2); have z2 := cell_of_rowAt g2; have z3 := frozen_of_rowAt g2)
          have hB1 := (hB.alloc hB.size (.cells #[.int .i16 L, .int .i16 R] 39)).grown grow1 (by have := hB.size; simp; omega) (fun x hx => by have := owns_base' ho x hx; omega)
          refine ⟨⟨k + 1, .slice av' (k + 1) cv', by omega, by go_num, ?_, ?_, ?_, ?_, hB1.setCell (p := ⟨_, _, none⟩) (by simp; omega) _, HX⟩, by simp [intOf]; omega⟩
          · rw [cellsTo_two _ _ _ E2.out E3.out]
            exact owns_setCell own1 (by omega) _ _
          · rw [rowAt_setCell_ne _ _ _ _ _ (by omega)]; exact g0
          · rw [rowAt_setCell_ne _ _ _ _ _ (by omega)]; exact g1
          · rw [rowAt_setCell_at _ _ _ _ (by simp [g2]), g2]; rfl
      · obtain rfl : k = n := by omega
        have HX : Hid (hipC a b l r k h = 0) := Lib.hid (by rw [HC.out, hG.out]; rfl)
        clear HC
        go_wp2_with fail
        refine bodyPost_ret (v := .tuple #[.agg #[.int .u8 h, .slice av k cv], .int .i64 0]) (by simp [results, Try.results20, go_sem, x1]) rfl ⟨.slice av k cv, by rw [HX.out]; rfl, ?_, ?_⟩
        · rw [HX.out, show lenOk ((0 : Int) == 0) (k : Int).toNat = k from by simp [lenOk]]
          rcases owns_list ho with h | ⟨g, cc, cur, e, hg, hr, hs, hf⟩
          · exact .inl h
          · refine .inr ⟨g, cc, cur, e, by omega, ?_, hs, hf⟩
            rw [rowAt_setCell_ne _ _ _ _ _ (by omega), rowAt_setCell_ne _ _ _ _ _ (by omega)]
            exact hr
        · exact (hB.setCell (p := ⟨_, _, none⟩) (by simp) _).setCell (p := ⟨_, _, none⟩) (by simp) _
  · have HX : Hid (hipC a b l r c h = 2) := Lib.hid (by simp [hipC, hh])
    have fin : ∀ w', Below w.heap.size w w' → GivesShT w (ifOk (hipC a b l r c h == 0) h) (lenOk (hipC a b l r c h == 0) c.toNat) (hipW a b l r) [.int .i64 (hipC a b l r c h)] (.returned (.tuple #[.agg #[.int .u8 0, .slice none 0 0], .int .i64 2])) w' := fun w' bw =>
      ⟨.slice none 0 0, by rw [HX.out]; rfl, .inl ⟨by rw [HX.out]; rfl, none, 0, rfl⟩, bw⟩
    have h5 : inB l 0 40 = false ∨ (inB l 0 40 = true ∧ inB r 0 40 = false) ∨ (inB l 0 40 = true ∧ inB r 0 40 = true ∧ inB c 1 12 = false) ∨ (inB l 0 40 = true ∧ inB r 0 40 = true ∧ inB c 1 12 = true ∧ inB h 0 1 = false) := by
      unfold hipIn at hh
      revert hh
      cases inB l 0 40 <;> cases inB r 0 40 <;> cases inB c 1 12 <;> cases inB h 0 1 <;> simp
    clear hh
    have bel : Below w.heap.size w ((w.alloc (.cells #[.int .i16 a, .int .i16 b] 39)).alloc (.cells #[.int .u8 0, .slice none 0 0] 29)) := ((Below.refl _ _).alloc (Nat.le_refl _) _).alloc (by simp) _
    rcases h5 with e1 | ⟨e1, e2⟩ | ⟨e1, e2, e3⟩ | ⟨e1, e2, e3, e4⟩
    · rw [e1] at I1
      clear e1
      go_enter Try.func20, Try.ntmps20
      go_wp2_with fail
      refine (I1 _).mono ?_
      rintro e w1 ⟨rfl, rfl⟩
      go_wp2_with fail
      refine bodyPost_ret (v := .tuple #[.agg #[.int .u8 0, .slice none 0 0], .int .i64 2]) (by simp [results, Try.results20, go_sem]) rfl (fin _ ?_)
      exact bel
    · rw [e1] at I1
      rw [e2] at I2
      clear e1 e2
      go_enter Try.func20, Try.ntmps20
      go_wp2_with fail
      refine (I1 _).mono ?_
      rintro e w1 ⟨rfl, rfl⟩
      go_wp2_with fail
      refine (I2 _).mono ?_
      rintro e w1 ⟨rfl, rfl⟩
      go_wp2_with fail
      refine bodyPost_ret (v := .tuple #[.agg #[.int .u8 0, .slice none 0 0], .int .i64 2]) (by simp [results, Try.results20, go_sem]) rfl (fin _ ?_)
      exact bel
    · rw [e1] at I1
      rw [e2] at I2
      rw [e3] at I3
      clear e1 e2 e3
      go_enter Try.func20, Try.ntmps20
      go_wp2_with fail
      refine (I1 _).mono ?_
      rintro e w1 ⟨rfl, rfl⟩
      go_wp2_with fail
      refine (I2 _).mono ?_
      rintro e w1 ⟨rfl, rfl⟩
      go_wp2_with fail
      refine (I3 _).mono ?_
      rintro e w1 ⟨rfl, rfl⟩
      go_wp2_with fail
      refine bodyPost_ret (v := .tuple #[.agg #[.int .u8 0, .slice none 0 0], .int .i64 2]) (by simp [results, Try.results20, go_sem]) rfl (fin _ ?_)
      exact bel
    · rw [e1] at I1
      rw [e2] at I2
      rw [e3] at I3
      rw [e4] at I4
      clear e1 e2 e3 e4
      go_enter Try.func20, Try.ntmps20
      go_wp2_with fail
      refine (I1 _).mono ?_
      rintro e w1 ⟨rfl, rfl⟩
      go_wp2_with fail
      refine (I2 _).mono ?_
      rintro e w1 ⟨rfl, rfl⟩
      go_wp2_with fail
      refine (I3 _).mono ?_
      rintro e w1 ⟨rfl, rfl⟩
      go_wp2_with fail
      refine (I4 _).mono ?_
      rintro e w1 ⟨rfl, rfl⟩
      go_wp2_with fail
      refine bodyPost_ret (v := .tuple #[.agg #[.int .u8 0, .slice none 0 0], .int .i64 2]) (by simp [results, Try.results20, go_sem]) rfl (fin _ ?_)
      exact bel

set_option maxRecDepth 100000 in
set_option maxHeartbeats 4000000 in
theorem implHipShape_any (a b l r c h : Int) (w : World) (ha : -32768 ≤ a ∧ a ≤ 32767) (hb : -32768 ≤ b ∧ b ≤ 32767) :
    Calls Try.prog 22 #[.agg #[.int .i16 a, .int .i16 b], .int .i64 l, .int .i64 r, .int .i64 c, .int .i64 h] w (GivesShT w (ifOk (hipC a b l r c h == 0) h) (lenOk (hipC a b l r c h == 0) c.toNat) (hipW a b l r) [.int .i64 (hipC a b l r c h)]) := by
  obtain ⟨i0, hi0, hz0, hz1, hz2⟩ := info_parts A_infoSp2
  have CO := fun W k H => hasOut_any 0 4 (.slice (some ⟨k, 0, none⟩) 4 4) (bnd12 l r c h) W H (by omega)
  rw [outs_bnd12] at CO
  have lt0 : w.heap.size < (w.alloc (.cells #[.int .i16 a, .int .i16 b] 39)).heap.size := by simp
  go_enter Try.func22, Try.ntmps22
  go_wp2_with fail
  refine gen_callsW fun W hW => ?_
  have B0 := Lib.hid (show Below w.heap.size w W from by rw [hW]; exact (((Below.refl _ _).alloc (Nat.le_refl _) _).alloc (by simp) _).alloc (by simp; omega) _)
  have p0 : rowAt W w.heap.size = some #[.int .i16 a, .int .i16 b] := by rw [hW]; exact (rowAt_alloc_past _ _ _ (by simp; omega)).trans ((rowAt_alloc_past _ _ _ (by simp)).trans (rowAt_alloc_at _ _ _ _ (by simp)))
  have p1 : rowAt W (w.heap.size + 1) = some #[.int .u8 0, .slice none 0 0] := by rw [hW]; exact (rowAt_alloc_past _ _ _ (by simp)).trans (rowAt_alloc_at _ _ _ _ (by simp))
  have p2 : rowAt W (w.heap.size + 1 + 1) = some #[.int .i64 l, .int .i64 0, .int .i64 40, .int .i64 r, .int .i64 0, .int .i64 40, .int .i64 c, .int .i64 1, .int .i64 12, .int .i64 h, .int .i64 0, .int .i64 1] := by rw [hW]; exact rowAt_alloc_at _ _ _ _ (by simp)
  clear hW lt0
  by_cases hh : hipIn l r c h = true
  · obtain ⟨hl, hr, hc, h1⟩ := hipIn_t hh
    rw [hh] at CO
    obtain ⟨n, rfl⟩ : ∃ n : Nat, c = n := ⟨c.toNat, by omega⟩
    have HC : Hid (hipC a b l r n h = if shBad (hipF a b l r) n then 4 else 0) := Lib.hid (by simp [hipC, hh])
    have hwh : IntKind.u8.wrap h = h := IntWalk.u8_in _ (by omega)
    have hwl : IntKind.i16.wrap l = l := IntWalk.i16_in _ (by omega)
    have hwr : IntKind.i16.wrap r = r := IntWalk.i16_in _ (by omega)
    clear hh
    refine (CO _ _ (IsList.lit12 p2 (Nat.zero_le _))).mono ?_
    rintro e w3 ⟨rfl, b3⟩
    have B3 := Lib.hid (bnext B0.out b3 B0.out.size)
    have q0 := brow b3 p0
    have q1 := brow b3 p1
    have lt1 := rowAt_lt q1
    clear b3 p0 p1 p2 CO
    go_wp2_with fail
    go_loopw [30] (fun i W => ∃ (k : Nat) (v : Value), k ≤ n ∧ i = .int .i64 k ∧ W.ownsRow (w3.heap.size + 1) 39 2 v k (cellsTo .i16 (hipW a b l r) (k * 2)) ∧ rowAt W w.heap.size = some #[.int .i16 (IntKind.i16.wrap (hipL a l k)), .int .i16 (IntKind.i16.wrap (hipR b r k))] ∧ rowAt W (w.heap.size + 1) = some #[.int .u8 0, .slice none 0 0] ∧ rowAt W w3.heap.size = some #[.int .u8 h, v] ∧ Below w.heap.size w W) (fun i _ => n - (intOf i).toNat)
    case atStart =>
      refine ⟨0, _, by omega, rfl, owns_nil _ _ _ _ _ _, ?_, (rowAt_alloc_past _ _ _ lt1).trans q1, rowAt_alloc_at _ _ _ _ (by simp), B3.out.alloc B3.out.size _⟩
      rw [show hipL a l 0 = a from by simp [hipL], show hipR b r 0 = b from by simp [hipR], IntWalk.i16_in _ ha, IntWalk.i16_in _ hb]
      exact (rowAt_alloc_past _ _ _ (by omega)).trans q0
    case round =>
      obtain ⟨k, v, hk, rfl, ho, r0, r1, r2, hB⟩ := hrel
      have x1 := cell_of_rowAt r1
      have y1 := frozen_of_rowAt r1
      have x2 := cell_of_rowAt r2
      have y2 := frozen_of_rowAt r2
      have lt2 := rowAt_lt r2
      have ne2 := Nat.ne_of_lt lt2
      obtain ⟨av, cv, rfl⟩ := owns_shape ho
      by_cases hlt : k < n
      · have hk1 : (k : Int) < n := by omega
        have E0 : Hid (hipW a b l r (k * 2) = IntKind.i16.wrap (hipL a l k)) := Lib.hid (by unfold hipW; rw [hipF_even])
        have E1 : Hid (hipW a b l r (k * 2 + 1) = IntKind.i16.wrap (hipR b r k)) := Lib.hid (by unfold hipW; rw [hipF_odd])
        have N0 := Lib.hid (hipL_wrap a l k)
        have N1 := Lib.hid (hipR_wrap b r k)
        generalize IntKind.i16.wrap (hipL a l k) = x at *
        generalize IntKind.i16.wrap (hipR b r k) = y at *
        have x0 := cell_of_rowAt r0
        have lt0 := rowAt_lt r0
        have ne0 := Nat.ne_of_lt lt0
        have n02 : w.heap.size ≠ w3.heap.size := by omega
        have n20 : w3.heap.size ≠ w.heap.size := by omega
        clear x1 y1
        go_wp2_with (at_builtin; refine wpList_append_own _ rfl _ _ 27 rfl (w3.heap.size + 1) 39 i0 (.agg #[.int .i16 0, .int .i16 0]) 2 4 Try.underlying27 hi0 hz0 hz1 hz2 rfl (by decide) _ _ _ rfl (ho.alloc _) ⟨wr.heap.size, 0, none⟩ 1 1 [.int .i16 x, .int .i16 y] rfl rfl (cells_new2 rfl _ _ _) (by simp [Value.oneCell']) (by unfold maxLen; omega) (by omega) (by simp; omega) ?_; intro v' w4 own1 grow1 _; obtain ⟨av', cv', rfl⟩ := owns_shape own1; have g0 := (grown_below grow1 (by simp; omega) (owns_base' ho) (by omega)).trans ((rowAt_alloc_past _ _ _ (by omega)).trans r0); have g1 := (grown_below grow1 (by simp; omega) (owns_base' ho) (by omega)).trans ((rowAt_alloc_past _ _ _ (by omega)).trans r1); have g2 := (grown_below grow1 (by simp; omega) (owns_base' ho) (by omega)).trans ((rowAt_alloc_past _ _ _ (by omega)).trans r2); have z2 := cell_of_rowAt g2; have z3 := frozen_of_rowAt g2; have z4 := cell_of_rowAt g0; have z5 := frozen_of_rowAt g0)
        have hB1 := (hB.alloc hB.size (.cells #[.int .i16 x, .int .i16 y] 39)).grown grow1 (by have := hB.size; simp; omega) (fun x hx => by have := owns_base' ho x hx; omega)
        have g3 : rowAt (w4.setCell ⟨w3.heap.size, 1, none⟩ (.slice av' (k + 1) cv')) w.heap.size = some #[.int .i16 x, .int .i16 y] := by rw [rowAt_setCell_ne _ _ _ _ _ n02]; exact g0
        have g4 : rowAt ((w4.setCell ⟨w3.heap.size, 1, none⟩ (.slice av' (k + 1) cv')).setCell ⟨w.heap.size, 0, none⟩ (.int .i16 (IntKind.i16.wrap (x - l)))) w.heap.size = some #[.int .i16 (IntKind.i16.wrap (x - l)), .int .i16 y] := by rw [rowAt_setCell_at _ _ _ _ (by simp [g3]), g3]; rfl
        refine ⟨⟨k + 1, .slice av' (k + 1) cv', by omega, by go_num, ?_, ?_, ?_, ?_, ((hB1.setCell (p := ⟨_, _, none⟩) (by simp; omega) _).setCell (p := ⟨_, _, none⟩) (by simp) _).setCell (p := ⟨_, _, none⟩) (by simp) _⟩, by simp [intOf]; omega⟩
        · rw [cellsTo_two _ _ _ E0.out E1.out]
          exact owns_setCell (owns_setCell (owns_setCell own1 (by omega) _ _) (by omega) _ _) (by omega) _ _
        · rw [rowAt_setCell_at _ _ _ _ (by simp [g4]), g4, ← N0.out, ← N1.out]; rfl
        · rw [rowAt_setCell_ne _ _ _ _ _ (by omega), rowAt_setCell_ne _ _ _ _ _ (by omega), rowAt_setCell_ne _ _ _ _ _ (by omega)]; exact g1
        · rw [rowAt_setCell_ne _ _ _ _ _ (by omega), rowAt_setCell_ne _ _ _ _ _ (by omega), rowAt_setCell_at _ _ _ _ (by simp [g2]), g2]; rfl
      · obtain rfl : k = n := by omega
        have hk12 : 1 ≤ k ∧ k ≤ 12 := by omega
        have hOk : shOk h k (hipW a b l r) = !shBad (hipF a b l r) k := by
          rw [← shBad_hip ha hb hl hr hk12]
          simp [shOk, show h ≤ 1 by omega, hk12.1, hk12.2]
        have CV := implValidShapeC_any h _ k cv (hipW a b l r) av _ (by omega) (owns_list ho) (by omega) (fun i _ => by unfold hipW; simp only [wrap16]; omega)
        rw [hOk] at CV
        clear hOk r0
        go_wp2_with fail
        refine CV.mono ?_
        rintro e w5 ⟨rfl, b5⟩
        have B5 := bnext hB b5 hB.size
        have HL := Lib.hid ((owns_list ho).below b5 (Nat.le_refl _))
        have r4 := brow b5 r1
        have r5 := brow b5 r2
        have z1 := cell_of_rowAt r4
        have z2 := frozen_of_rowAt r4
        have z3 := cell_of_rowAt r5
        clear CV b5 r1 r2 x1 y1 x2 y2 ho
        cases hz : shBad (hipF a b l r) k with
        | true =>
          have HX : Hid (hipC a b l r k h = 4) := Lib.hid (by rw [HC.out, hz]; rfl)
          clear hz HC
          go_wp2_with fail
          refine bodyPost_ret (v := .tuple #[.agg #[.int .u8 0, .slice none 0 0], .int .i64 4]) (by simp [results, Try.results22, go_sem, z1]) rfl ⟨.slice none 0 0, by rw [HX.out]; rfl, .inl ⟨by rw [HX.out]; rfl, none, 0, rfl⟩, ?_⟩
          exact (B5.setCell (p := ⟨_, _, none⟩) (by simp) _).setCell (p := ⟨_, _, none⟩) (by simp) _
        | false =>
          have HX : Hid (hipC a b l r k h = 0) := Lib.hid (by rw [HC.out, hz]; rfl)
          clear hz HC
          go_wp2_with fail
          refine bodyPost_ret (v := .tuple #[.agg #[.int .u8 h, .slice av k cv], .int .i64 0]) (by simp [results, Try.results22, go_sem, z1]) rfl ⟨.slice av k cv, by rw [HX.out]; rfl, ?_, ?_⟩
          · rw [HX.out, show lenOk ((0 : Int) == 0) (k : Int).toNat = k from by simp [lenOk]]
            rcases HL.out with h | ⟨g, cc, cur, e, hg, hr, hs, hf⟩
            · exact .inl h
            · refine .inr ⟨g, cc, cur, e, by omega, ?_, hs, hf⟩
              rw [rowAt_setCell_ne _ _ _ _ _ (by omega), rowAt_setCell_ne _ _ _ _ _ (by omega)]
              exact hr
          · exact (B5.setCell (p := ⟨_, _, none⟩) (by simp) _).setCell (p := ⟨_, _, none⟩) (by simp) _
  · have HX : Hid (hipC a b l r c h = 2) := Lib.hid (by simp [hipC, hh])
    have e0 : hipIn l r c h = false := by simpa using hh
    rw [e0] at CO
    clear hh e0
    have fin : ∀ w', Below w.heap.size w w' → GivesShT w (ifOk (hipC a b l r c h == 0) h) (lenOk (hipC a b l r c h == 0) c.toNat) (hipW a b l r) [.int .i64 (hipC a b l r c h)] (.returned (.tuple #[.agg #[.int .u8 0, .slice none 0 0], .int .i64 2])) w' := fun w' bw =>
      ⟨.slice none 0 0, by rw [HX.out]; rfl, .inl ⟨by rw [HX.out]; rfl, none, 0, rfl⟩, bw⟩
    refine (CO _ _ (IsList.lit12 p2 (Nat.zero_le _))).mono ?_
    rintro e w3 ⟨rfl, b3⟩
    have B3 := Lib.hid (bnext B0.out b3 B0.out.size)
    have q1 := brow b3 p1
    have x1 := cell_of_rowAt q1
    have y1 := frozen_of_rowAt q1
    clear b3 p0 p1 p2 CO
    go_wp2_with fail
    refine bodyPost_ret (v := .tuple #[.agg #[.int .u8 0, .slice none 0 0], .int .i64 2]) (by simp [results, Try.results22, go_sem, x1]) rfl (fin _ ?_)
    exact (B3.out.setCell (p := ⟨_, _, none⟩) (by simp) _).setCell (p := ⟨_, _, none⟩) (by simp) _
theorem hip_len (a b l r c h : Int) : lenOk (hipC a b l r c h == 0) c.toNat ≤ 2000000 := by
  unfold lenOk
  split
  · rename_i e
    by_cases hh : hipIn l r c h = true
    · have := (hipIn_t hh).2.2.1; omega
    · simp [hipC, hh] at e
  · omega
end Go.Proofs.Ytdegfcgknppcoaa
