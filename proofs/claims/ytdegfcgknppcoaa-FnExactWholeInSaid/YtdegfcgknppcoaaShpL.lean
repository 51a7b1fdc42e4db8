/- SlideShape: contracts of both sides. -/
import Derived.Test.YtdegfcgknppcoaaShpM
namespace Go.Proofs.Ytdegfcgknppcoaa
open Go.RowKit

/-- The cells of the courses, moved. -/
def sldF (f : Nat → Int) (y : Int) (i : Nat) : Int := f i + y
theorem sldF_even (f : Nat → Int) (y : Int) (k : Nat) : sldF f y (k * 2) = f (k * 2) + y := rfl
theorem sldF_odd (f : Nat → Int) (y : Int) (k : Nat) : sldF f y (k * 2 + 1) = f (k * 2 + 1) + y := rfl
/-- The code. -/
def slC (s : Int) (n : Nat) (f : Nat → Int) (y : Int) : Int := if shOk s n f then (if inB y (-200) 200 then (if shBad (sldF f y) n then 4 else 0) else 2) else 1
theorem shOk_sld {s : Int} {n : Nat} {f : Nat → Int} (h : shOk s n f = true) (y : Int) : shOk s n (sldF f y) = !shBad (sldF f y) n := by
  obtain ⟨h1, h2, _⟩ := shOk_in h
  simp [shOk, h1, h2.1, h2.2]
theorem shOk_bd {s : Int} {n : Nat} {f : Nat → Int} (h : shOk s n f = true) : ∀ i, i < n * 2 → 0 ≤ f i ∧ f i ≤ 200 := fun i hi => by
  have := shBad_f (shOk_in h).2.2 (i := i / 2) (by omega)
  rcases Nat.mod_two_eq_zero_or_one i with h | h
  · rw [show i / 2 * 2 = i by omega] at this; omega
  · rw [show i / 2 * 2 + 1 = i by omega] at this; omega

set_option maxRecDepth 100000 in
set_option maxHeartbeats 2000000 in
theorem slid_any (s : Int) (B n : Nat) (f : Nat → Int) (u : Option Addr) (w : World) (hv : IsList w B (.slice u n n) 2 n (fun i => .int .i16 (f i))) (hn : n ≤ 12) (hf : ∀ i, i < n * 2 → 0 ≤ f i ∧ f i ≤ 200) (y : Int) (hy : -200 ≤ y ∧ y ≤ 200) :
    Calls Try.prog 70 #[.agg #[.int .u8 s, .slice u n n], .int .i64 y] w (GivesShV w s n (sldF f y)) := by
  have HV := Lib.hid hv
  have HF := Lib.hid hf
  clear hv hf
  obtain ⟨i0, hi0, hz0, hz1, hz2⟩ := info_parts A_infoSp2
  go_enter Try.func70, Try.ntmps70
  go_wp2_with fail
  go_loopw [14] (fun i W => ∃ (k : Nat) (v : Value), k ≤ n ∧ i = .int .i64 k ∧ W.ownsRow (w.heap.size + 1 + 1 + 1) 39 2 v k (cellsTo .i16 (sldF f y) (k * 2)) ∧ rowAt W (w.heap.size + 1) = some #[.int .u8 0, .slice none 0 0] ∧ rowAt W (w.heap.size + 1 + 1) = some #[.int .u8 s, v] ∧ Below w.heap.size w W) (fun i _ => n - (intOf i).toNat)
  case atStart =>
    refine ⟨0, _, by omega, rfl, owns_nil _ _ _ _ _ _, ?_, rowAt_alloc_at _ _ _ _ (by simp), (((Below.refl _ _).alloc (Nat.le_refl _) _).alloc (by simp) _).alloc (by simp; omega) _⟩
    exact (rowAt_alloc_past _ _ _ (by simp)).trans (rowAt_alloc_at _ _ _ _ (by simp))
  case round =>
    obtain ⟨k, v, hk, rfl, ho, r1, r2, hB⟩ := hrel
    have x1 := cell_of_rowAt r1
    have x2 := cell_of_rowAt r2
    have y2 := frozen_of_rowAt r2
    have lt2 := rowAt_lt r2
    by_cases hlt : k < n
    · obtain ⟨gg, rfl, c0, c1⟩ := (HV.out.below hB (Nat.le_refl _)).sp hlt
      have hb0 := HF.out (k * 2) (by omega)
      have hb1 := HF.out (k * 2 + 1) (by omega)
      have E0 := Lib.hid (sldF_even f y k)
      have E1 := Lib.hid (sldF_odd f y k)
      generalize f (k * 2) = a at *
      generalize f (k * 2 + 1) = b at *
      have hk0 : 0 ≤ (k : Int) := by omega
      have hk1 : (k : Int) < n := by omega
      have hk12 : k ≤ 12 := by omega
      have hwy : IntKind.i16.wrap y = y := IntWalk.i16_in _ (by omega)
      have hw0 : IntKind.i16.wrap (a + y) = a + y := IntWalk.i16_in _ (by omega)
      have hw1 : IntKind.i16.wrap (b + y) = b + y := IntWalk.i16_in _ (by omega)
      have ne2 := Nat.ne_of_lt lt2
      obtain ⟨av, cv, rfl⟩ := owns_shape ho
      go_wp2_with (at_builtin; refine wpList_append_own _ rfl _ _ 27 rfl (w.heap.size + 1 + 1 + 1) 39 i0 (.agg #[.int .i16 0, .int .i16 0]) 2 4 Try.underlying27 hi0 hz0 hz1 hz2 rfl (by decide) _ _ _ rfl ((ho.alloc _).alloc _) ⟨wr.heap.size + 1, 0, none⟩ 1 1 [.int .i16 (a + y), .int .i16 (b + y)] rfl rfl (cells_new2 (by simp) _ _ _) (by simp [Value.oneCell']) (by unfold maxLen; omega) (by omega) (by have := hB.size; simp; omega) ?_; intro v' w1 own1 grow1 _; obtain ⟨av', cv', rfl⟩ := owns_shape own1; have g1 := (grown_below grow1 (by simp; omega) (owns_base' ho) (by omega)).trans ((rowAt_alloc_past _ _ _ (by simp; omega)).trans ((rowAt_alloc_past _ _ _ (by omega)).trans r1)); have g2 := (grown_below grow1 (by simp; omega) (owns_base' ho) (by omega)).trans ((rowAt_alloc_past _ _ _ (by simp; omega)).trans ((rowAt_alloc_past _ _ _ (by omega)).trans r2)); have z2 := cell_of_rowAt g2; have z3 := frozen_of_rowAt g2)
      have hB1 := ((hB.alloc hB.size (.cells #[.int .i16 a, .int .i16 b] 39)).alloc (by have := hB.size; simp; omega) (.cells #[.int .i16 (a + y), .int .i16 (b + y)] 39)).grown grow1 (by have := hB.size; simp; omega) (fun x hx => by have := owns_base' ho x hx; omega)
      refine ⟨⟨k + 1, .slice av' (k + 1) cv', by omega, by go_num, ?_, ?_, ?_, hB1.setCell (p := ⟨_, _, none⟩) (by simp; omega) _⟩, by simp [intOf]; omega⟩
      · rw [cellsTo_two _ _ _ E0.out E1.out]
        exact owns_setCell own1 (by omega) _ _
      · rw [rowAt_setCell_ne _ _ _ _ _ (by omega)]; exact g1
      · rw [rowAt_setCell_at _ _ _ _ (by simp [g2]), g2]; rfl
    · obtain rfl : k = n := by omega
      obtain ⟨av, cv, rfl⟩ := owns_shape ho
      have y1 := frozen_of_rowAt r1
      go_wp2_with fail
      refine bodyPost_ret (v := .agg #[.int .u8 s, .slice av k cv]) (by simp [results, Try.results70, go_sem, x1]) rfl ⟨_, rfl, ?_, ?_⟩
      · have hl := owns_list ho
        rcases hl with h | ⟨g, cc, cur, e, hg, hr, hs, hf⟩
        · exact .inl h
        · refine .inr ⟨g, cc, cur, e, by omega, ?_, hs, hf⟩
          rw [rowAt_setCell_ne _ _ _ _ _ (by omega), rowAt_setCell_ne _ _ _ _ _ (by omega)]
          exact hr
      · exact (hB.setCell (p := ⟨_, _, none⟩) (by simp) _).setCell (p := ⟨_, _, none⟩) (by simp) _

set_option maxRecDepth 100000 in
set_option maxHeartbeats 2000000 in
theorem implSlideShape_any (s : Int) (B n : Nat) (f : Nat → Int) (u : Option Addr) (y : Int) (w : World) (hs : 0 ≤ s ∧ s ≤ 255) (hv : IsList w B (.slice u n n) 2 n (fun i => .int .i16 (f i))) (hn : n ≤ 2000000) (hb : ∀ i, i < n * 2 → -32768 ≤ f i ∧ f i ≤ 32767) :
    Calls Try.prog 39 #[.agg #[.int .u8 s, .slice u n n], .int .i64 y] w (GivesShT w (ifOk (slC s n f y == 0) s) (lenOk (slC s n f y == 0) n) (sldF f y) [.int .i64 (slC s n f y)]) := by
  have HV := Lib.hid hv
  clear hv
  have CV := fun W H => implValidShape_any s B n f u W hs H hn hb
  go_enter Try.func39, Try.ntmps39
  go_wp2_with fail
  refine gen_callsW fun W hW => ?_
  have B0 := Lib.hid (show Below w.heap.size w W from by rw [hW]; exact ((Below.refl _ _).alloc (Nat.le_refl _) _).alloc (by simp) _)
  have p0 : rowAt W w.heap.size = some #[.int .u8 s, .slice u n n] := by rw [hW]; exact (rowAt_alloc_past _ _ _ (by simp)).trans (rowAt_alloc_at _ _ _ _ (by simp))
  have p1 : rowAt W (w.heap.size + 1) = some #[.int .u8 0, .slice none 0 0] := by rw [hW]; exact rowAt_alloc_at _ _ _ _ (by simp)
  clear hW
  have CM := fun W H h1 h2 h3 => slid_any s B n f u W H h1 h2 y h3
  cases hk : shOk s n f with
  | true =>
    rw [hk] at CV
    have hin := shOk_in hk
    have hbd := shOk_bd hk
    have hsld := shOk_sld hk y
    refine (CV _ (HV.out.below B0.out (Nat.le_refl _))).mono ?_
    rintro e w1 ⟨rfl, b1⟩
    have B1 := Lib.hid (bnext B0.out b1 B0.out.size)
    have q0 := brow b1 p0
    have q1 := brow b1 p1
    have x0 := cell_of_rowAt q0
    clear b1 p0 p1 CV
    by_cases hy : -200 ≤ y ∧ y ≤ 200
    · have hd1 : decide (y < -200) = false := by simp; omega
      have hd2 : decide (200 < y) = false := by simp; omega
      have HC : Hid (slC s n f y = if shBad (sldF f y) n then 4 else 0) := Lib.hid (by simp [slC, hk, inB, hy])
      clear hk
      go_wp2_with fail
      refine (CM _ (HV.out.below B1.out (Nat.le_refl _)) hin.2.1.2 hbd hy).mono ?_
      rintro e w2 ⟨v, rfl, l2, b2⟩
      have B2 := Lib.hid (bnext B1.out b2 B1.out.size)
      have r1 := brow b2 q1
      have z1 := cell_of_rowAt r1
      have z2 := frozen_of_rowAt r1
      have lt0 := rowAt_lt q1
      have lt1 := rowAt_lt r1
      have ne1 := Nat.ne_of_lt lt1
      have HL := Lib.hid l2
      obtain ⟨av, cv, rfl⟩ := l2.shape
      have sz2 := b2.size
      clear b2 q0 x0 q1 l2
      go_wp2_with fail
      refine gen_callsW fun W3 hV => ?_
      have b3 : Below w2.heap.size w2 W3 := by rw [hV]; exact (Below.refl _ _).alloc (Nat.le_refl _) _
      have p6 : rowAt W3 w2.heap.size = some #[.int .u8 s, .slice av n cv] := by rw [hV]; exact rowAt_alloc_at _ _ _ _ (by simp)
      clear hV
      have B3 := Lib.hid (bnext B2.out b3 B2.out.size)
      have HL3 := Lib.hid (HL.out.below b3 (Nat.le_refl _))
      have r3 := brow b3 r1
      clear z1 z2 HL r1 b3
      refine (implValidShapeC_any s _ n cv (sldF f y) av _ hs HL3.out hn (fun i hi => by have := hbd i hi; simp only [sldF]; omega)).mono ?_
      rw [hsld]
      rintro e w4 ⟨rfl, b4⟩
      have B4 := Lib.hid (bnext B3.out b4 B3.out.size)
      have HL4 := Lib.hid (HL3.out.below b4 (Nat.le_refl _))
      have r4 := brow b4 r3
      have q6 := brow b4 p6
      have z1 := cell_of_rowAt r4
      have z2 := frozen_of_rowAt r4
      have z3 := cell_of_rowAt q6
      clear b4 HL3 r3 p6
      cases hz : shBad (sldF f y) n with
      | true =>
        rw [hz] at HC
        have HC4 : Hid (slC s n f y = 4) := Lib.hid HC.out
        clear hz HC hsld
        go_wp2_with fail
        refine bodyPost_ret (v := .tuple #[.agg #[.int .u8 0, .slice none 0 0], .int .i64 4]) (by simp [results, Try.results39, go_sem, z1]) rfl ⟨.slice none 0 0, by rw [HC4.out]; rfl, .inl ⟨by rw [HC4.out]; rfl, none, 0, rfl⟩, ?_⟩
        exact (B4.out.setCell (p := ⟨_, _, none⟩) (by simp) _).setCell (p := ⟨_, _, none⟩) (by simp) _
      | false =>
        rw [hz] at HC
        have HC4 : Hid (slC s n f y = 0) := Lib.hid HC.out
        clear hz HC hsld
        go_wp2_with fail
        refine bodyPost_ret (v := .tuple #[.agg #[.int .u8 s, .slice av n cv], .int .i64 0]) (by simp [results, Try.results39, go_sem, z1]) rfl ⟨.slice av n cv, by rw [HC4.out]; rfl, ?_, ?_⟩
        · rw [HC4.out, show lenOk ((0 : Int) == 0) n = n from rfl]
          rcases HL4.out with h | ⟨g, cc, cur, e, hg, hr, hs, hf⟩
          · exact .inl h
          · refine .inr ⟨g, cc, cur, e, by have := B1.out.size; omega, ?_, hs, hf⟩
            rw [rowAt_setCell_ne _ _ _ _ _ (by omega), rowAt_setCell_ne _ _ _ _ _ (by omega)]
            exact hr
        · exact (B4.out.setCell (p := ⟨_, _, none⟩) (by simp) _).setCell (p := ⟨_, _, none⟩) (by simp) _
    · have HC4 : Hid (slC s n f y = 2) := Lib.hid (by simp [slC, hk, inB]; omega)
      clear hk hsld
      have z1 := cell_of_rowAt q1
      have z2 := frozen_of_rowAt q1
      by_cases h1 : y < -200
      · have hd1 : decide (y < -200) = true := by simp [h1]
        clear hy h1
        go_wp2_with fail
        refine bodyPost_ret (v := .tuple #[.agg #[.int .u8 0, .slice none 0 0], .int .i64 2]) (by simp [results, Try.results39, go_sem, z1]) rfl ⟨.slice none 0 0, by rw [HC4.out]; rfl, .inl ⟨by rw [HC4.out]; rfl, none, 0, rfl⟩, ?_⟩
        exact (B1.out.setCell (p := ⟨_, _, none⟩) (by simp) _).setCell (p := ⟨_, _, none⟩) (by simp) _
      · have hd1 : decide (y < -200) = false := by simp; omega
        have hd2 : decide (200 < y) = true := by simp; omega
        clear hy h1
        go_wp2_with fail
        refine bodyPost_ret (v := .tuple #[.agg #[.int .u8 0, .slice none 0 0], .int .i64 2]) (by simp [results, Try.results39, go_sem, z1]) rfl ⟨.slice none 0 0, by rw [HC4.out]; rfl, .inl ⟨by rw [HC4.out]; rfl, none, 0, rfl⟩, ?_⟩
        exact (B1.out.setCell (p := ⟨_, _, none⟩) (by simp) _).setCell (p := ⟨_, _, none⟩) (by simp) _
  | false =>
    rw [hk] at CV
    have HC4 : Hid (slC s n f y = 1) := Lib.hid (by simp [slC, hk])
    clear hk
    refine (CV _ (HV.out.below B0.out (Nat.le_refl _))).mono ?_
    rintro e w1 ⟨rfl, b1⟩
    have B1 := Lib.hid (bnext B0.out b1 B0.out.size)
    have q1 := brow b1 p1
    have z1 := cell_of_rowAt q1
    have z2 := frozen_of_rowAt q1
    clear b1 p0 p1 CV
    go_wp2_with fail
    refine bodyPost_ret (v := .tuple #[.agg #[.int .u8 0, .slice none 0 0], .int .i64 1]) (by simp [results, Try.results39, go_sem, z1]) rfl ⟨.slice none 0 0, by rw [HC4.out]; rfl, .inl ⟨by rw [HC4.out]; rfl, none, 0, rfl⟩, ?_⟩
    exact (B1.out.setCell (p := ⟨_, _, none⟩) (by simp) _).setCell (p := ⟨_, _, none⟩) (by simp) _

set_option maxRecDepth 100000 in
set_option maxHeartbeats 4000000 in
theorem l05Slide_any (kb : Nat) (s : Int) (B n cp : Nat) (f : Nat → Int) (u : Option Addr) (y : Int) (w : World) (hr : rowAt w kb = some #[.int .u8 s, .slice u n cp]) (hv : IsList w B (.slice u n cp) 2 n (fun i => .int .i16 (f i))) (hn : n ≤ 12) (hb : ∀ i, i < n * 2 → 0 ≤ f i ∧ f i ≤ 200) (hlr : ∀ i, i < n → f (i * 2) < f (i * 2 + 1)) (hy : -200 ≤ y ∧ y ≤ 200) :
    Calls Try.prog 69 #[.pointer (some ⟨kb, 0, none⟩), .int .i64 y] w (GivesShT w (ifOk (!shBad (sldF f y) n) s) (lenOk (!shBad (sldF f y) n) n) (sldF f y) [.bool (!shBad (sldF f y) n)]) := by
  have HV := Lib.hid hv
  have HF := Lib.hid hb
  have HL := Lib.hid hlr
  have R0 := Lib.hid hr
  have x0 := cell_of_rowAt hr
  have lt0 := rowAt_lt hr
  have ne0 := Nat.ne_of_lt lt0
  clear hv hb hr hlr
  obtain ⟨i0, hi0, hz0, hz1, hz2⟩ := info_parts A_infoSp2
  go_enter Try.func69, Try.ntmps69
  go_wp2_with fail
  clear x0
  go_loopw [7, 8, 9] (fun i _ _ W => ∃ (k : Nat) (v : Value), k ≤ n ∧ i = .int .i64 k ∧ W.ownsRow (w.heap.size + 1 + 1) 39 2 v k (cellsTo .i16 (sldF f y) (k * 2)) ∧ rowAt W w.heap.size = some #[.int .u8 0, .slice none 0 0] ∧ rowAt W (w.heap.size + 1) = some #[.int .u8 s, v] ∧ Below w.heap.size w W ∧ Hid (shBad (sldF f y) k = false)) (fun i _ _ _ => n - (intOf i).toNat)
  case atStart =>
    refine ⟨0, _, by omega, rfl, owns_nil _ _ _ _ _ _, ?_, rowAt_alloc_at _ _ _ _ (by simp), ((Below.refl _ _).alloc (Nat.le_refl _) _).alloc (by simp) _, Lib.hid rfl⟩
    exact (rowAt_alloc_past _ _ _ (by simp)).trans (rowAt_alloc_at _ _ _ _ (by simp))
  case round =>
    obtain ⟨k, v, hk, rfl, ho, r1, r2, hB, hG⟩ := hrel
    have x0 := cell_of_rowAt (brow hB R0.out)
    have x1 := cell_of_rowAt r1
    have y1 := frozen_of_rowAt r1
    have x2 := cell_of_rowAt r2
    have y2 := frozen_of_rowAt r2
    have lt2 := rowAt_lt r2
    by_cases hlt : k < n
    · obtain ⟨gg, rfl, c0, c1⟩ := (HV.out.below hB (Nat.le_refl _)).sp hlt
      have hb0 := HF.out (k * 2) (by omega)
      have hb1 := HF.out (k * 2 + 1) (by omega)
      have hb2 := HL.out k hlt
      have E0 := Lib.hid (sldF_even f y k)
      have E1 := Lib.hid (sldF_odd f y k)
      generalize f (k * 2) = a at *
      generalize f (k * 2 + 1) = b at *
      have hk0 : 0 ≤ (k : Int) := by omega
      have hk1 : (k : Int) < n := by omega
      have hw0 : IntKind.i16.wrap (a + y) = a + y := IntWalk.i16_in _ (by omega)
      have hw1 : IntKind.i16.wrap (b + y) = b + y := IntWalk.i16_in _ (by omega)
      have hw2 : IntKind.i64.wrap (a + y) = a + y := IntWalk.i64_in _ (by omega)
      have hw3 : IntKind.i64.wrap (b + y) = b + y := IntWalk.i64_in _ (by omega)
      have ne2 := Nat.ne_of_lt lt2
      obtain ⟨av, cv, rfl⟩ := owns_shape ho
      have hsu : shBad (sldF f y) (k + 1) = spOut (a + y) (b + y) := by
        unfold shBad
        rw [anyI_succ, show anyI (fun i => spOut (sldF f y (i * 2)) (sldF f y (i * 2 + 1))) k = false from hG.out, Bool.false_or, E0.out, E1.out]
      by_cases hbad : a + y < 0 ∨ 200 < b + y
      · have HX : Hid (shBad (sldF f y) n = true) := Lib.hid (anyI_t (k := k) hlt (by rw [E0.out, E1.out]; exact spOut_t (by omega)))
        clear hsu
        have fin : ∀ w', Below w.heap.size w w' → GivesShT w (ifOk (!shBad (sldF f y) n) s) (lenOk (!shBad (sldF f y) n) n) (sldF f y) [.bool (!shBad (sldF f y) n)] (.returned (.tuple #[.agg #[.int .u8 0, .slice none 0 0], .bool false])) w' := fun w' bw =>
          ⟨.slice none 0 0, by rw [HX.out]; rfl, .inl ⟨by rw [HX.out]; rfl, none, 0, rfl⟩, bw⟩
        by_cases h1 : a + y < 0
        · have hd1 : decide (a + y < 0) = true := by simp [h1]
          clear hbad h1
          go_wp2_with fail
          refine bodyPost_ret (v := .tuple #[.agg #[.int .u8 0, .slice none 0 0], .bool false]) (by simp [results, Try.results69, go_sem, x1]) rfl (fin _ ?_)
          exact (hB.setCell (p := ⟨_, _, none⟩) (by simp) _).setCell (p := ⟨_, _, none⟩) (by simp) _
        · have hd1 : decide (a + y < 0) = false := by simp; omega
          have hd2 : decide (200 < b + y) = true := by simp; omega
          clear hbad h1
          go_wp2_with fail
          refine bodyPost_ret (v := .tuple #[.agg #[.int .u8 0, .slice none 0 0], .bool false]) (by simp [results, Try.results69, go_sem, x1]) rfl (fin _ ?_)
          exact (hB.setCell (p := ⟨_, _, none⟩) (by simp) _).setCell (p := ⟨_, _, none⟩) (by simp) _
      · have hd1 : decide (a + y < 0) = false := by simp; omega
        have hd2 : decide (200 < b + y) = false := by simp; omega
        have HX := Lib.hid (hsu.trans (spOut_f (by omega)))
        clear hsu hbad
        go_wp2_with (at_builtin; refine wpList_append_own _ rfl _ _ 27 rfl (w.heap.size + 1 + 1) 39 i0 (.agg #[.int .i16 0, .int .i16 0]) 2 4 Try.underlying27 hi0 hz0 hz1 hz2 rfl (by decide) _ _ _ rfl (ho.alloc _) ⟨wr.heap.size, 0, none⟩ 1 1 [.int .i16 (a + y), .int .i16 (b + y)] rfl rfl (cells_new2 rfl _ _ _) (by simp [Value.oneCell']) (by unfold maxLen; omega) (by omega) (by simp; omega) ?_; intro v' w1 own1 grow1 _; obtain ⟨av', cv', rfl⟩ := owns_shape own1; have g1 := (grown_below grow1 (by simp; omega) (owns_base' ho) (by omega)).trans ((rowAt_alloc_past _ _ _ (by omega)).trans r1); have g2 := (grown_below grow1 (by simp; omega) (owns_base' ho) (by omega)).trans ((rowAt_alloc_past _ _ _ (by omega)).trans r2); have z2 := cell_of_rowAt g2; have z3 := frozen_of_rowAt g2)
        have hB1 := (hB.alloc hB.size (.cells #[.int .i16 (a + y), .int .i16 (b + y)] 39)).grown grow1 (by have := hB.size; simp; omega) (fun x hx => by have := owns_base' ho x hx; omega)
        refine ⟨⟨k + 1, .slice av' (k + 1) cv', by omega, by go_num, ?_, ?_, ?_, hB1.setCell (p := ⟨_, _, none⟩) (by simp) _, HX⟩, by simp [intOf]; omega⟩
        · rw [cellsTo_two _ _ _ E0.out E1.out]
          exact owns_setCell own1 (by omega) _ _
        · rw [rowAt_setCell_ne _ _ _ _ _ (by omega)]; exact g1
        · rw [rowAt_setCell_at _ _ _ _ (by simp [g2]), g2]; rfl
    · obtain rfl : k = n := by omega
      obtain ⟨av, cv, rfl⟩ := owns_shape ho
      go_wp2_with fail
      refine bodyPost_ret (v := .tuple #[.agg #[.int .u8 s, .slice av k cv], .bool true]) (by simp [results, Try.results69, go_sem, x1]) rfl ⟨.slice av k cv, by rw [hG.out]; rfl, ?_, ?_⟩
      · rw [hG.out, show lenOk (!false) k = k from rfl]
        rcases owns_list ho with h | ⟨g, cc, cur, e, hg, hr, hs, hf⟩
        · exact .inl h
        · refine .inr ⟨g, cc, cur, e, by omega, ?_, hs, hf⟩
          rw [rowAt_setCell_ne _ _ _ _ _ (by omega), rowAt_setCell_ne _ _ _ _ _ (by omega)]
          exact hr
      · exact (hB.setCell (p := ⟨_, _, none⟩) (by simp) _).setCell (p := ⟨_, _, none⟩) (by simp) _

set_option maxRecDepth 100000 in
set_option maxHeartbeats 4000000 in
theorem specSlideShape_any (s : Int) (B n : Nat) (f : Nat → Int) (u : Option Addr) (y : Int) (w : World) (_hs : 0 ≤ s ∧ s ≤ 255) (hv : IsList w B (.slice u n n) 2 n (fun i => .int .i16 (f i))) (hn : n ≤ 2000000) (_hb : ∀ i, i < n * 2 → -32768 ≤ f i ∧ f i ≤ 32767) :
    Calls Try.prog 38 #[.agg #[.int .u8 s, .slice u n n], .int .i64 y] w (GivesShT w (ifOk (slC s n f y == 0) s) (lenOk (slC s n f y == 0) n) (sldF f y) [.int .i64 (slC s n f y)]) := by
  have HV := Lib.hid hv
  clear hv
  have CV := fun W H h => l05Ok_any w.heap.size s B n f u W H h hn
  have IN := fun W => l00In_any y (-200) 200 W
  go_enter Try.func38, Try.ntmps38
  go_wp2_with fail
  refine gen_callsW fun W hW => ?_
  have B0 := Lib.hid (show Below w.heap.size w W from by rw [hW]; exact ((Below.refl _ _).alloc (Nat.le_refl _) _).alloc (by simp) _)
  have p0 : rowAt W w.heap.size = some #[.int .u8 s, .slice u n n] := by rw [hW]; exact (rowAt_alloc_past _ _ _ (by simp)).trans (rowAt_alloc_at _ _ _ _ (by simp))
  have p1 : rowAt W (w.heap.size + 1) = some #[.int .u8 0, .slice none 0 0] := by rw [hW]; exact rowAt_alloc_at _ _ _ _ (by simp)
  clear hW
  cases hk : shOk s n f with
  | true =>
    rw [hk] at CV
    have hin := shOk_in hk
    have hbd := shOk_bd hk
    have hlr : ∀ i, i < n → f (i * 2) < f (i * 2 + 1) := fun i hi => (shBad_f hin.2.2 hi).2.1
    refine (CV _ p0 (HV.out.below B0.out (Nat.le_refl _))).mono ?_
    rintro e w1 ⟨rfl, b1⟩
    have B1 := Lib.hid (bnext B0.out b1 B0.out.size)
    have q0 := brow b1 p0
    have q1 := brow b1 p1
    have z1 := cell_of_rowAt q1
    have z2 := frozen_of_rowAt q1
    clear b1 p0 p1 CV
    by_cases hy : -200 ≤ y ∧ y ≤ 200
    · have HC : Hid (slC s n f y = if shBad (sldF f y) n then 4 else 0) := Lib.hid (by simp [slC, hk, inB, hy])
      rw [inB_true hy] at IN
      have CS := fun W H h => l05Slide_any w.heap.size s B n n f u y W H h hin.2.1.2 hbd hlr hy
      clear hk
      go_wp2_with fail
      refine (IN _).mono ?_
      rintro e w1 ⟨rfl, rfl⟩
      clear IN
      go_wp2_with fail
      refine (CS _ q0 (HV.out.below B1.out (Nat.le_refl _))).mono ?_
      rintro e w2 ⟨v, rfl, l2, b2⟩
      have B2 := Lib.hid (bnext B1.out b2 B1.out.size)
      have r1 := brow b2 q1
      have y1 := cell_of_rowAt r1
      have y2 := frozen_of_rowAt r1
      have lt0 := rowAt_lt q1
      have lt1 := rowAt_lt r1
      have ne1 := Nat.ne_of_lt lt1
      obtain ⟨av, cv, rfl⟩ := l2.shape
      clear b2 q0 q1 z1 z2 CS
      cases hz : shBad (sldF f y) n with
      | true =>
        rw [hz] at HC
        have HC4 : Hid (slC s n f y = 4) := Lib.hid HC.out
        clear hz HC l2
        go_wp2_with fail
        refine bodyPost_ret (v := .tuple #[.agg #[.int .u8 0, .slice none 0 0], .int .i64 4]) (by simp [results, Try.results38, go_sem, y1, lt1]) rfl ⟨.slice none 0 0, by rw [HC4.out]; rfl, .inl ⟨by rw [HC4.out]; rfl, none, 0, rfl⟩, ?_⟩
        exact ((B2.out.setCell (p := ⟨_, _, none⟩) (by simp) _).setCell (p := ⟨_, _, none⟩) (by simp) _).alloc (by have := B2.out.size; simpa using this) _
      | false =>
        rw [hz] at HC l2
        have HC4 : Hid (slC s n f y = 0) := Lib.hid HC.out
        clear hz HC
        rw [show ifOk (!false) s = s from rfl, show lenOk (!false) n = n from rfl] at *
        go_wp2_with fail
        refine bodyPost_ret (v := .tuple #[.agg #[.int .u8 s, .slice av n cv], .int .i64 0]) (by simp [results, Try.results38, go_sem, y1, lt1]) rfl ⟨.slice av n cv, by rw [HC4.out]; rfl, ?_, ?_⟩
        · rw [HC4.out, show lenOk ((0 : Int) == 0) n = n from rfl]
          rcases l2 with h | ⟨g, cc, cur, e, hg, hr, hs, hf⟩
          · exact .inl h
          · refine .inr ⟨g, cc, cur, e, by have := B1.out.size; omega, ?_, hs, hf⟩
            have hlt := rowAt_lt hr
            rw [rowAt_alloc_past _ _ _ (by simpa using hlt), rowAt_setCell_ne _ _ _ _ _ (by omega), rowAt_setCell_ne _ _ _ _ _ (by omega)]
            exact hr
        · exact ((B2.out.setCell (p := ⟨_, _, none⟩) (by simp) _).setCell (p := ⟨_, _, none⟩) (by simp) _).alloc (by have := B2.out.size; simpa using this) _
    · have HC4 : Hid (slC s n f y = 2) := Lib.hid (by simp [slC, hk, inB]; omega)
      rw [inB_false hy] at IN
      clear hk
      go_wp2_with fail
      refine (IN _).mono ?_
      rintro e w1 ⟨rfl, rfl⟩
      clear IN
      go_wp2_with fail
      refine bodyPost_ret (v := .tuple #[.agg #[.int .u8 0, .slice none 0 0], .int .i64 2]) (by simp [results, Try.results38, go_sem, z1]) rfl ⟨.slice none 0 0, by rw [HC4.out]; rfl, .inl ⟨by rw [HC4.out]; rfl, none, 0, rfl⟩, ?_⟩
      exact (B1.out.setCell (p := ⟨_, _, none⟩) (by simp) _).setCell (p := ⟨_, _, none⟩) (by simp) _
  | false =>
    rw [hk] at CV
    have HC4 : Hid (slC s n f y = 1) := Lib.hid (by simp [slC, hk])
    clear hk
    refine (CV _ p0 (HV.out.below B0.out (Nat.le_refl _))).mono ?_
    rintro e w1 ⟨rfl, b1⟩
    have B1 := Lib.hid (bnext B0.out b1 B0.out.size)
    have q1 := brow b1 p1
    have z1 := cell_of_rowAt q1
    have z2 := frozen_of_rowAt q1
    clear b1 p0 p1 CV
    go_wp2_with fail
    refine bodyPost_ret (v := .tuple #[.agg #[.int .u8 0, .slice none 0 0], .int .i64 1]) (by simp [results, Try.results38, go_sem, z1]) rfl ⟨.slice none 0 0, by rw [HC4.out]; rfl, .inl ⟨by rw [HC4.out]; rfl, none, 0, rfl⟩, ?_⟩
    exact (B1.out.setCell (p := ⟨_, _, none⟩) (by simp) _).setCell (p := ⟨_, _, none⟩) (by simp) _
end Go.Proofs.Ytdegfcgknppcoaa
