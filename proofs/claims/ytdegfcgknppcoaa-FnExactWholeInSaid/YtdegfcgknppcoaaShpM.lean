/- MirrorShape: contracts of both sides. -/
import Derived.Test.YtdegfcgknppcoaaShpV
import Derived.Test.YtdegfcgknppcoaaShpG
import Derived.Test.YtdegfcgknppcoaaGrow
import Derived.Test.YtdegfcgknppcoaaNums
import Derived.Deep.QuietTactic
import Derived.BigQuiet
import Derived.Maps.AppendAt
namespace Go.Proofs.Ytdegfcgknppcoaa
open Go.RowKit

/-- A shape as an answer. -/
def GivesShV (w : World) (s : Int) (n : Nat) (f : Nat → Int) (e : Ending) (w' : World) : Prop :=
  ∃ v, e = .returned (.agg #[.int .u8 s, v]) ∧ IsList w' w.heap.size v 2 n (fun i => .int .i16 (f i)) ∧ Below w.heap.size w w'

/-- The cells of the mirrored courses. -/
def mirF (f : Nat → Int) (i : Nat) : Int := if i % 2 = 0 then 200 - f (i + 1) else 200 - f (i - 1)
theorem mirF_even (f : Nat → Int) (k : Nat) : mirF f (k * 2) = 200 - f (k * 2 + 1) := by unfold mirF; rw [if_pos (by omega)]
theorem mirF_odd (f : Nat → Int) (k : Nat) : mirF f (k * 2 + 1) = 200 - f (k * 2) := by unfold mirF; rw [if_neg (by omega)]; rfl

theorem A_infoSp2 : (Try.prog.info? 39).map (fun i => (i.zero, i.size, i.bytes)) = some (some (.agg #[.int .i16 0, .int .i16 0]), 2, 4) := by kernel_rfl

set_option maxRecDepth 100000 in
set_option maxHeartbeats 2000000 in
theorem mirrored_any (s : Int) (B n : Nat) (f : Nat → Int) (u : Option Addr) (w : World) (hv : IsList w B (.slice u n n) 2 n (fun i => .int .i16 (f i))) (hn : n ≤ 12) (hf : ∀ i, i < n * 2 → 0 ≤ f i ∧ f i ≤ 200) :
    Calls Try.prog 68 #[.agg #[.int .u8 s, .slice u n n]] w (GivesShV w s n (mirF f)) := by
  have HV := Lib.hid hv
  have HF := Lib.hid hf
  clear hv hf
  obtain ⟨i0, hi0, hz0, hz1, hz2⟩ := info_parts A_infoSp2
  go_enter Try.func68, Try.ntmps68
  go_wp2_with fail
  go_loopw [12] (fun i W => ∃ (k : Nat) (v : Value), k ≤ n ∧ i = .int .i64 k ∧ W.ownsRow (w.heap.size + 1 + 1 + 1) 39 2 v k (cellsTo .i16 (mirF f) (k * 2)) ∧ rowAt W (w.heap.size + 1) = some #[.int .u8 0, .slice none 0 0] ∧ rowAt W (w.heap.size + 1 + 1) = some #[.int .u8 s, v] ∧ Below w.heap.size w W) (fun i _ => n - (intOf i).toNat)
  case atStart =>
    refine ⟨0, _, by omega, rfl, owns_nil _ _ _ _ _ _, ?_, rowAt_alloc_at _ _ _ _ (by simp), (((Below.refl _ _).alloc (Nat.le_refl _) _).alloc (by simp) _).alloc (by simp; omega) _⟩
    exact (rowAt_alloc_past _ _ _ (by simp)).trans (rowAt_alloc_at _ _ _ _ (by simp))
  case round =>
    obtain ⟨k, v, hk, rfl, ho, r1, r2, hB⟩ := hrel
    have x1 := cell_of_rowAt r1
    have x2 := cell_of_rowAt r2
    have y2 := frozen_of_rowAt r2
    have lt2 := rowAt_lt r2
    by_cases hlt : k < n
    · obtain ⟨gg, rfl, c0, c1⟩ := (HV.out.below hB (Nat.le_refl _)).sp hlt
      have hb0 := HF.out (k * 2) (by omega)
      have hb1 := HF.out (k * 2 + 1) (by omega)
      have E0 := Lib.hid (mirF_even f k)
      have E1 := Lib.hid (mirF_odd f k)
      generalize f (k * 2) = a at *
      generalize f (k * 2 + 1) = b at *
      have hk0 : 0 ≤ (k : Int) := by omega
      have hk1 : (k : Int) < n := by omega
      have hk12 : k ≤ 12 := by omega
      have ne2 := Nat.ne_of_lt lt2
      obtain ⟨av, cv, rfl⟩ := owns_shape ho
      go_wp2_with (at_builtin; refine wpList_append_own _ rfl _ _ 27 rfl (w.heap.size + 1 + 1 + 1) 39 i0 (.agg #[.int .i16 0, .int .i16 0]) 2 4 Try.underlying27 hi0 hz0 hz1 hz2 rfl (by decide) _ _ _ rfl ((ho.alloc _).alloc _) ⟨wr.heap.size + 1, 0, none⟩ 1 1 [.int .i16 (200 - b), .int .i16 (200 - a)] rfl rfl (cells_new2 (by simp) _ _ _) (by simp [Value.oneCell']) (by unfold maxLen; omega) (by omega) (by have := hB.size; simp; omega) ?_; intro v' w1 own1 grow1 _; obtain ⟨av', cv', rfl⟩ := owns_shape own1; have g1 := (grown_below grow1 (by simp; omega) (owns_base' ho) (by omega)).trans ((rowAt_alloc_past _ _ _ (by simp; omega)).trans ((rowAt_alloc_past _ _ _ (by omega)).trans r1)); have g2 := (grown_below grow1 (by simp; omega) (owns_base' ho) (by omega)).trans ((rowAt_alloc_past _ _ _ (by simp; omega)).trans ((rowAt_alloc_past _ _ _ (by omega)).trans r2)); have z2 := cell_of_rowAt g2; have z3 := frozen_of_rowAt g2)
      have hB1 := ((hB.alloc hB.size (.cells #[.int .i16 a, .int .i16 b] 39)).alloc (by have := hB.size; simp; omega) (.cells #[.int .i16 (200 - b), .int .i16 (200 - a)] 39)).grown grow1 (by have := hB.size; simp; omega) (fun x hx => by have := owns_base' ho x hx; omega)
      refine ⟨⟨k + 1, .slice av' (k + 1) cv', by omega, by go_num, ?_, ?_, ?_, hB1.setCell (p := ⟨_, _, none⟩) (by simp; omega) _⟩, by simp [intOf]; omega⟩
      · rw [cellsTo_two _ _ _ E0.out E1.out]
        exact owns_setCell own1 (by omega) _ _
      · rw [rowAt_setCell_ne _ _ _ _ _ (by omega)]; exact g1
      · rw [rowAt_setCell_at _ _ _ _ (by simp [g2]), g2]; rfl
    · obtain rfl : k = n := by omega
      obtain ⟨av, cv, rfl⟩ := owns_shape ho
      have y1 := frozen_of_rowAt r1
      go_wp2_with fail
      refine bodyPost_ret (v := .agg #[.int .u8 s, .slice av k cv]) (by simp [results, Try.results68, go_sem, x1]) rfl ⟨_, rfl, ?_, ?_⟩
      · have hl := owns_list ho
        rcases hl with h | ⟨g, cc, cur, e, hg, hr, hs, hf⟩
        · exact .inl h
        · refine .inr ⟨g, cc, cur, e, by omega, ?_, hs, hf⟩
          rw [rowAt_setCell_ne _ _ _ _ _ (by omega), rowAt_setCell_ne _ _ _ _ _ (by omega)]
          exact hr
      · exact (hB.setCell (p := ⟨_, _, none⟩) (by simp) _).setCell (p := ⟨_, _, none⟩) (by simp) _
/-- Numbers that are told only of a valid argument. -/
def ifOk (b : Bool) (x : Int) : Int := if b then x else 0
def lenOk (b : Bool) (n : Nat) : Nat := if b then n else 0
def codeOk (b : Bool) : Int := if b then 0 else 1

set_option maxRecDepth 100000 in
set_option maxHeartbeats 2000000 in
theorem implMirrorShape_any (s : Int) (B n : Nat) (f : Nat → Int) (u : Option Addr) (w : World) (hs : 0 ≤ s ∧ s ≤ 255) (hv : IsList w B (.slice u n n) 2 n (fun i => .int .i16 (f i))) (hn : n ≤ 2000000) (hb : ∀ i, i < n * 2 → -32768 ≤ f i ∧ f i ≤ 32767) :
    Calls Try.prog 37 #[.agg #[.int .u8 s, .slice u n n]] w (GivesShT w (ifOk (shOk s n f) s) (lenOk (shOk s n f) n) (mirF f) [.int .i64 (codeOk (shOk s n f))]) := by
  have HV := Lib.hid hv
  clear hv
  have CV := fun W H => implValidShape_any s B n f u W hs H hn hb
  go_enter Try.func37, Try.ntmps37
  go_wp2_with fail
  refine gen_callsW fun W hW => ?_
  have B0 := Lib.hid (show Below w.heap.size w W from by rw [hW]; exact ((Below.refl _ _).alloc (Nat.le_refl _) _).alloc (by simp) _)
  have p0 : rowAt W w.heap.size = some #[.int .u8 s, .slice u n n] := by rw [hW]; exact (rowAt_alloc_past _ _ _ (by simp)).trans (rowAt_alloc_at _ _ _ _ (by simp))
  have p1 : rowAt W (w.heap.size + 1) = some #[.int .u8 0, .slice none 0 0] := by rw [hW]; exact rowAt_alloc_at _ _ _ _ (by simp)
  clear hW
  have CM := fun W H h1 h2 => mirrored_any s B n f u W H h1 h2
  cases hk : shOk s n f with
  | true =>
    rw [hk] at CV
    have hin := shOk_in hk
    have HK := Lib.hid hk
    clear hk
    refine (CV _ (HV.out.below B0.out (Nat.le_refl _))).mono ?_
    rintro e w1 ⟨rfl, b1⟩
    have B1 := Lib.hid (bnext B0.out b1 B0.out.size)
    have q0 := brow b1 p0
    have q1 := brow b1 p1
    have x0 := cell_of_rowAt q0
    clear b1 p0 p1 CV
    go_wp2_with fail
    refine (CM _ (HV.out.below B1.out (Nat.le_refl _)) hin.2.1.2 (fun i hi => ?_)).mono ?_
    · have := shBad_f hin.2.2 (i := i / 2) (by omega)
      rcases Nat.mod_two_eq_zero_or_one i with h | h
      · rw [show i / 2 * 2 = i by omega] at this; omega
      · rw [show i / 2 * 2 + 1 = i by omega] at this; omega
    rintro e w2 ⟨v, rfl, l2, b2⟩
    have B2 := Lib.hid (bnext B1.out b2 B1.out.size)
    have r1 := brow b2 q1
    have z1 := cell_of_rowAt r1
    have z2 := frozen_of_rowAt r1
    have lt1 := rowAt_lt q1
    obtain ⟨av, cv, rfl⟩ := l2.shape
    clear b2 q0 x0 q1
    go_wp2_with fail
    refine bodyPost_ret (v := .tuple #[.agg #[.int .u8 s, .slice av n cv], .int .i64 0]) (by simp [results, Try.results37, go_sem, z1]) rfl ⟨.slice av n cv, by rw [HK.out]; rfl, ?_, ?_⟩
    · rw [HK.out, show lenOk true n = n from rfl]
      rcases l2 with h | ⟨g, cc, cur, e, hg, hr, hs, hf⟩
      · exact .inl h
      · refine .inr ⟨g, cc, cur, e, by have := B1.out.size; omega, ?_, hs, hf⟩
        rw [rowAt_setCell_ne _ _ _ _ _ (by omega), rowAt_setCell_ne _ _ _ _ _ (by omega)]
        exact hr
    · exact (B2.out.setCell (p := ⟨_, _, none⟩) (by simp) _).setCell (p := ⟨_, _, none⟩) (by simp) _
  | false =>
    rw [hk] at CV
    have HK := Lib.hid hk
    clear hk
    refine (CV _ (HV.out.below B0.out (Nat.le_refl _))).mono ?_
    rintro e w1 ⟨rfl, b1⟩
    have B1 := Lib.hid (bnext B0.out b1 B0.out.size)
    have q1 := brow b1 p1
    have z1 := cell_of_rowAt q1
    have z2 := frozen_of_rowAt q1
    clear b1 p0 p1 CV
    go_wp2_with fail
    refine bodyPost_ret (v := .tuple #[.agg #[.int .u8 0, .slice none 0 0], .int .i64 1]) (by simp [results, Try.results37, go_sem, z1]) rfl ⟨.slice none 0 0, by rw [HK.out]; rfl, .inl ⟨by rw [HK.out]; rfl, none, 0, rfl⟩, ?_⟩
    exact (B1.out.setCell (p := ⟨_, _, none⟩) (by simp) _).setCell (p := ⟨_, _, none⟩) (by simp) _

set_option maxRecDepth 100000 in
set_option maxHeartbeats 4000000 in
theorem specMirrorShape_any (s : Int) (B n : Nat) (f : Nat → Int) (u : Option Addr) (w : World) (_hs : 0 ≤ s ∧ s ≤ 255) (hv : IsList w B (.slice u n n) 2 n (fun i => .int .i16 (f i))) (hn : n ≤ 2000000) (_hb : ∀ i, i < n * 2 → -32768 ≤ f i ∧ f i ≤ 32767) :
    Calls Try.prog 36 #[.agg #[.int .u8 s, .slice u n n]] w (GivesShT w (ifOk (shOk s n f) s) (lenOk (shOk s n f) n) (mirF f) [.int .i64 (codeOk (shOk s n f))]) := by
  have HV := Lib.hid hv
  clear hv
  obtain ⟨i0, hi0, hz0, hz1, hz2⟩ := info_parts A_infoSp2
  have CV := fun W H h => l05Ok_any w.heap.size s B n f u W H h hn
  go_enter Try.func36, Try.ntmps36
  go_wp2_with fail
  refine gen_callsW fun W hW => ?_
  have B0 := Lib.hid (show Below w.heap.size w W from by rw [hW]; exact ((Below.refl _ _).alloc (Nat.le_refl _) _).alloc (by simp) _)
  have p0 : rowAt W w.heap.size = some #[.int .u8 s, .slice u n n] := by rw [hW]; exact (rowAt_alloc_past _ _ _ (by simp)).trans (rowAt_alloc_at _ _ _ _ (by simp))
  have p1 : rowAt W (w.heap.size + 1) = some #[.int .u8 0, .slice none 0 0] := by rw [hW]; exact rowAt_alloc_at _ _ _ _ (by simp)
  clear hW
  cases hk : shOk s n f with
  | true =>
    rw [hk] at CV
    have hin := shOk_in hk
    have HF : Hid (∀ i, i < n * 2 → 0 ≤ f i ∧ f i ≤ 200) := Lib.hid fun i hi => by
      have := shBad_f hin.2.2 (i := i / 2) (by omega)
      rcases Nat.mod_two_eq_zero_or_one i with h | h
      · rw [show i / 2 * 2 = i by omega] at this; omega
      · rw [show i / 2 * 2 + 1 = i by omega] at this; omega
    have hn12 := hin.2.1.2
    have HK := Lib.hid hk
    clear hk hin
    refine (CV _ p0 (HV.out.below B0.out (Nat.le_refl _))).mono ?_
    rintro e w1 ⟨rfl, b1⟩
    have B1 := Lib.hid (bnext B0.out b1 B0.out.size)
    have q0 := brow b1 p0
    have q1 := brow b1 p1
    have x0 := cell_of_rowAt q0
    have lt1 := rowAt_lt q1
    have Q0 := Lib.hid q0
    have Q1 := Lib.hid q1
    clear b1 p0 p1 CV q0 q1
    go_wp2_with fail
    clear x0
    go_loopw [5] (fun i W => ∃ (k : Nat) (v : Value), k ≤ n ∧ i = .int .i64 k ∧ W.ownsRow (w1.heap.size + 1) 39 2 v k (cellsTo .i16 (mirF f) (k * 2)) ∧ rowAt W w1.heap.size = some #[.int .u8 s, v] ∧ Below w1.heap.size w1 W) (fun i _ => n - (intOf i).toNat)
    case atStart =>
      exact ⟨0, _, by omega, rfl, owns_nil _ _ _ _ _ _, rowAt_alloc_at _ _ _ _ (by simp), (Below.refl _ _).alloc (Nat.le_refl _) _⟩
    case round =>
      obtain ⟨k, v, hk, rfl, ho, r2, hB⟩ := hrel
      have x1 := cell_of_rowAt (brow hB Q1.out)
      have x0 := cell_of_rowAt (brow hB Q0.out)
      have y1 := frozen_of_rowAt (brow hB Q1.out)
      have x2 := cell_of_rowAt r2
      have lt2 := rowAt_lt r2
      by_cases hlt : k < n
      · obtain ⟨gg, rfl, c0, c1⟩ := (HV.out.below (bnext B1.out hB B1.out.size) (Nat.le_refl _)).sp hlt
        have hb0 := HF.out (k * 2) (by omega)
        have hb1 := HF.out (k * 2 + 1) (by omega)
        have E0 := Lib.hid (mirF_even f k)
        have E1 := Lib.hid (mirF_odd f k)
        obtain ⟨a, ha⟩ : ∃ a, f (k * 2) = a := ⟨_, rfl⟩
        obtain ⟨b, hb⟩ : ∃ b, f (k * 2 + 1) = b := ⟨_, rfl⟩
        rw [ha] at hb0 c0 E1
        rw [hb] at hb1 c1 E0
        have hw0 : IntKind.i16.wrap (200 - b) = 200 - b := IntWalk.i16_in _ (by omega)
        have hw1 : IntKind.i16.wrap (200 - a) = 200 - a := IntWalk.i16_in _ (by omega)
        have XA := Lib.hid ha
        have XB := Lib.hid hb
        clear ha hb
        have hk0 : 0 ≤ (k : Int) := by omega
        have hk1 : (k : Int) < n := by omega
        have hk12 : k ≤ 12 := by omega
        obtain ⟨av, cv, rfl⟩ := owns_shape ho
        clear x1 y1
        go_wp2_with fail
        refine wp_region_held_drew (S := fun w' => Below w1.heap.size w1 w') (by kernel_rfl) hB.drew (fun hH => ?_)
        refine wpAnyH_take (i := 0) (v := .pointer (some ⟨w1.heap.size, 1, none⟩)) rfl (by kernel_rfl) (by kernel_rfl) (by kernel_rfl) (fun _ _ _ h => h) (Or.inl ⟨by rfl, ?_⟩) hH ?_
        · intro w3 hS; (try dsimp only at hS); go_simp
        (try simp only [List.getElem_toArray]); (try simp only [List.getElem_cons_succ]); (try simp only [List.getElem_cons_zero]); (try simp only [Act.put]); (try simp only [List.setIfInBounds_toArray]); (try simp only [List.set_cons_succ]); (try simp only [List.set_cons_zero])
        refine wpAnyH_take (i := 2) (v := .pointer (some ⟨w.heap.size, 1, none⟩)) rfl (by kernel_rfl) (by kernel_rfl) (by kernel_rfl) (fun _ _ _ h => h) (Or.inl ⟨by rfl, ?_⟩) hH ?_
        · intro w3 hS; (try dsimp only at hS); go_simp
        (try simp only [List.getElem_toArray]); (try simp only [List.getElem_cons_succ]); (try simp only [List.getElem_cons_zero]); (try simp only [Act.put]); (try simp only [List.setIfInBounds_toArray]); (try simp only [List.set_cons_succ]); (try simp only [List.set_cons_zero])
        refine wpAnyH_take (i := 3) (v := .slice (some ⟨gg, 0, none⟩) n n) rfl (by kernel_rfl) (by kernel_rfl) (by kernel_rfl) (fun _ _ _ h => h) (Or.inl ⟨by rfl, ?_⟩) hH ?_
        · intro w3 hS; (try dsimp only at hS); have s0 := cell_of_rowAt (brow hS Q0.out); go_simp
        (try simp only [List.getElem_toArray]); (try simp only [List.getElem_cons_succ]); (try simp only [List.getElem_cons_zero]); (try simp only [Act.put]); (try simp only [List.setIfInBounds_toArray]); (try simp only [List.set_cons_succ]); (try simp only [List.set_cons_zero])
        refine wpAnyH_take (i := 4) (v := .int .i64 k) rfl (by kernel_rfl) (by kernel_rfl) (by kernel_rfl) (fun _ _ _ h => h) (Or.inl ⟨by rfl, ?_⟩) hH ?_
        · intro w3 hS; (try dsimp only at hS); go_simp
        (try simp only [List.getElem_toArray]); (try simp only [List.getElem_cons_succ]); (try simp only [List.getElem_cons_zero]); (try simp only [Act.put]); (try simp only [List.setIfInBounds_toArray]); (try simp only [List.set_cons_succ]); (try simp only [List.set_cons_zero])
        refine wpAnyH_take (i := 5) (v := .pointer (some ⟨gg, k * 2, none⟩)) rfl (by kernel_rfl) (by kernel_rfl) (by kernel_rfl) (fun _ _ _ h => h) (Or.inl ⟨by rfl, ?_⟩) hH ?_
        · intro w3 hS; (try dsimp only at hS); go_simp
        (try simp only [List.getElem_toArray]); (try simp only [List.getElem_cons_succ]); (try simp only [List.getElem_cons_zero]); (try simp only [Act.put]); (try simp only [List.setIfInBounds_toArray]); (try simp only [List.set_cons_succ]); (try simp only [List.set_cons_zero])
        refine wpAnyH_take (i := 6) (v := .pointer (some ⟨gg, k * 2 + 1, none⟩)) rfl (by kernel_rfl) (by kernel_rfl) (by kernel_rfl) (fun _ _ _ h => h) (Or.inl ⟨by rfl, ?_⟩) hH ?_
        · intro w3 hS; (try dsimp only at hS); go_simp
        (try simp only [List.getElem_toArray]); (try simp only [List.getElem_cons_succ]); (try simp only [List.getElem_cons_zero]); (try simp only [Act.put]); (try simp only [List.setIfInBounds_toArray]); (try simp only [List.set_cons_succ]); (try simp only [List.set_cons_zero])
        refine wpAnyH_take (i := 7) (v := .int .i16 b) rfl (by kernel_rfl) (by kernel_rfl) (by kernel_rfl) (fun _ _ _ h => h) (Or.inl ⟨by rfl, ?_⟩) hH ?_
        · intro w3 hS; (try dsimp only at hS); obtain ⟨g9, e9, s0, s1⟩ := (HV.out.below (bnext B1.out hS B1.out.size) (Nat.le_refl _)).sp hlt; cases e9; rw [XA.out] at s0; rw [XB.out] at s1; go_simp
        (try simp only [List.getElem_toArray]); (try simp only [List.getElem_cons_succ]); (try simp only [List.getElem_cons_zero]); (try simp only [Act.put]); (try simp only [List.setIfInBounds_toArray]); (try simp only [List.set_cons_succ]); (try simp only [List.set_cons_zero])
        refine wpAnyH_take (i := 8) (v := .int .i16 (200 - b)) rfl (by kernel_rfl) (by kernel_rfl) (by kernel_rfl) (fun _ _ _ h => h) (Or.inl ⟨by rfl, ?_⟩) hH ?_
        · intro w3 hS; (try dsimp only at hS); go_simp
        (try simp only [List.getElem_toArray]); (try simp only [List.getElem_cons_succ]); (try simp only [List.getElem_cons_zero]); (try simp only [Act.put]); (try simp only [List.setIfInBounds_toArray]); (try simp only [List.set_cons_succ]); (try simp only [List.set_cons_zero])
        refine wpAnyH_take (i := 9) (v := .pointer (some ⟨w.heap.size, 1, none⟩)) rfl (by kernel_rfl) (by kernel_rfl) (by kernel_rfl) (fun _ _ _ h => h) (Or.inl ⟨by rfl, ?_⟩) hH ?_
        · intro w3 hS; (try dsimp only at hS); go_simp
        (try simp only [List.getElem_toArray]); (try simp only [List.getElem_cons_succ]); (try simp only [List.getElem_cons_zero]); (try simp only [Act.put]); (try simp only [List.setIfInBounds_toArray]); (try simp only [List.set_cons_succ]); (try simp only [List.set_cons_zero])
        refine wpAnyH_take (i := 10) (v := .slice (some ⟨gg, 0, none⟩) n n) rfl (by kernel_rfl) (by kernel_rfl) (by kernel_rfl) (fun _ _ _ h => h) (Or.inl ⟨by rfl, ?_⟩) hH ?_
        · intro w3 hS; (try dsimp only at hS); have s0 := cell_of_rowAt (brow hS Q0.out); go_simp
        (try simp only [List.getElem_toArray]); (try simp only [List.getElem_cons_succ]); (try simp only [List.getElem_cons_zero]); (try simp only [Act.put]); (try simp only [List.setIfInBounds_toArray]); (try simp only [List.set_cons_succ]); (try simp only [List.set_cons_zero])
        refine wpAnyH_take (i := 11) (v := .int .i64 k) rfl (by kernel_rfl) (by kernel_rfl) (by kernel_rfl) (fun _ _ _ h => h) (Or.inl ⟨by rfl, ?_⟩) hH ?_
        · intro w3 hS; (try dsimp only at hS); go_simp
        (try simp only [List.getElem_toArray]); (try simp only [List.getElem_cons_succ]); (try simp only [List.getElem_cons_zero]); (try simp only [Act.put]); (try simp only [List.setIfInBounds_toArray]); (try simp only [List.set_cons_succ]); (try simp only [List.set_cons_zero])
        refine wpAnyH_take (i := 12) (v := .pointer (some ⟨gg, k * 2, none⟩)) rfl (by kernel_rfl) (by kernel_rfl) (by kernel_rfl) (fun _ _ _ h => h) (Or.inl ⟨by rfl, ?_⟩) hH ?_
        · intro w3 hS; (try dsimp only at hS); go_simp
        (try simp only [List.getElem_toArray]); (try simp only [List.getElem_cons_succ]); (try simp only [List.getElem_cons_zero]); (try simp only [Act.put]); (try simp only [List.setIfInBounds_toArray]); (try simp only [List.set_cons_succ]); (try simp only [List.set_cons_zero])
        refine wpAnyH_take (i := 13) (v := .pointer (some ⟨gg, k * 2, none⟩)) rfl (by kernel_rfl) (by kernel_rfl) (by kernel_rfl) (fun _ _ _ h => h) (Or.inl ⟨by rfl, ?_⟩) hH ?_
        · intro w3 hS; (try dsimp only at hS); go_simp
        (try simp only [List.getElem_toArray]); (try simp only [List.getElem_cons_succ]); (try simp only [List.getElem_cons_zero]); (try simp only [Act.put]); (try simp only [List.setIfInBounds_toArray]); (try simp only [List.set_cons_succ]); (try simp only [List.set_cons_zero])
        refine wpAnyH_take (i := 14) (v := .int .i16 a) rfl (by kernel_rfl) (by kernel_rfl) (by kernel_rfl) (fun _ _ _ h => h) (Or.inl ⟨by rfl, ?_⟩) hH ?_
        · intro w3 hS; (try dsimp only at hS); obtain ⟨g9, e9, s0, s1⟩ := (HV.out.below (bnext B1.out hS B1.out.size) (Nat.le_refl _)).sp hlt; cases e9; rw [XA.out] at s0; rw [XB.out] at s1; go_simp
        (try simp only [List.getElem_toArray]); (try simp only [List.getElem_cons_succ]); (try simp only [List.getElem_cons_zero]); (try simp only [Act.put]); (try simp only [List.setIfInBounds_toArray]); (try simp only [List.set_cons_succ]); (try simp only [List.set_cons_zero])
        refine wpAnyH_take (i := 15) (v := .int .i16 (200 - a)) rfl (by kernel_rfl) (by kernel_rfl) (by kernel_rfl) (fun _ _ _ h => h) (Or.inl ⟨by rfl, ?_⟩) hH ?_
        · intro w3 hS; (try dsimp only at hS); go_simp
        (try simp only [List.getElem_toArray]); (try simp only [List.getElem_cons_succ]); (try simp only [List.getElem_cons_zero]); (try simp only [Act.put]); (try simp only [List.setIfInBounds_toArray]); (try simp only [List.set_cons_succ]); (try simp only [List.set_cons_zero])
        refine wpAnyH_take (i := 16) (v := .agg #[.int .i16 (200 - b), .int .i16 (200 - a)]) rfl (by kernel_rfl) (by kernel_rfl) (by kernel_rfl) (fun _ _ _ h => h) (Or.inl ⟨by rfl, ?_⟩) hH ?_
        · intro w3 hS; (try dsimp only at hS); go_simp
        (try simp only [List.getElem_toArray]); (try simp only [List.getElem_cons_succ]); (try simp only [List.getElem_cons_zero]); (try simp only [Act.put]); (try simp only [List.setIfInBounds_toArray]); (try simp only [List.set_cons_succ]); (try simp only [List.set_cons_zero])
        generalize hV : wr.drew = V at *
        have ho' : V.ownsRow (w1.heap.size + 1) 39 2 (.slice av k cv) k (cellsTo .i16 (mirF f) (k * 2)) := by rw [← hV]; exact ho
        have r2' : rowAt V w1.heap.size = some #[.int .u8 s, .slice av k cv] := by rw [← hV]; exact r2
        have lt2' := rowAt_lt r2'
        have ne2 := Nat.ne_of_lt lt2'
        have x2' := cell_of_rowAt r2'
        clear hV ho r2 hB x0 x2 lt2 c0 c1
        refine wpAnyH_ready (rs := [1, 17]) (by kernel_rfl) (by simp) (AllReadyH.cons rfl (fun K hK => ?_) (AllReadyH.cons rfl (fun K hK => ?_) AllReadyH.nil))
        · go_simp
          refine hK.out _ _ (hH) (fun hG => ?_)
          clear hK K hH
          replace hH := hG
          clear hG
          (try simp only [List.getElem_toArray]); (try simp only [List.getElem_cons_succ]); (try simp only [List.getElem_cons_zero]); (try simp only [Act.put]); (try simp only [List.setIfInBounds_toArray]); (try simp only [List.set_cons_succ]); (try simp only [List.set_cons_zero])
          refine wpAnyH_ready (rs := [17]) (by kernel_rfl) (by simp) (AllReadyH.cons rfl (fun K hK => ?_) AllReadyH.nil)
          go_simp
          refine hK.out _ _ (hH.alloc (by omega) _) (fun hG => ?_)
          clear hK K hH
          replace hH := hG
          clear hG
          (try simp only [List.getElem_toArray]); (try simp only [List.getElem_cons_succ]); (try simp only [List.getElem_cons_zero]); (try simp only [Act.put]); (try simp only [List.setIfInBounds_toArray]); (try simp only [List.set_cons_succ]); (try simp only [List.set_cons_zero])
          refine wpAnyH_ready (rs := [18]) (by kernel_rfl) (by simp) (AllReadyH.cons rfl (fun K hK => ?_) AllReadyH.nil)
          refine step_append_own rfl (.tmp 20) (.tmp 36) 27 rfl (w1.heap.size + 1) 39 i0 (.agg #[.int .i16 0, .int .i16 0]) 2 4 Try.underlying27 hi0 hz0 hz1 hz2 rfl (by decide) (.slice av k cv) k _ rfl (ho'.alloc _) ⟨V.heap.size, 0, none⟩ 1 1 [.int .i16 (200 - b), .int .i16 (200 - a)] rfl rfl (cells_new2 rfl _ _ _) (by simp [Value.oneCell']) (by unfold maxLen; omega) (by omega) (by simp; omega) ?_
          intro v' w2 own1 grow1
          obtain ⟨av', cv', rfl⟩ := owns_shape own1
          have g2 := (grown_below grow1 (by simp; omega) (owns_base' ho') (by omega)).trans ((rowAt_alloc_past _ _ _ (by omega)).trans r2')
          have z2 := cell_of_rowAt g2
          have z3 := frozen_of_rowAt g2
          refine hK.out _ _ (hH.grown grow1 (by simp; omega) (fun x hx => by have := owns_base' ho' x hx; omega)) (fun hG => ?_)
          clear hK K hH
          replace hH := hG
          clear hG
          (try simp only [List.getElem_toArray]); (try simp only [List.getElem_cons_succ]); (try simp only [List.getElem_cons_zero]); (try simp only [Act.put]); (try simp only [List.setIfInBounds_toArray]); (try simp only [List.set_cons_succ]); (try simp only [List.set_cons_zero])
          refine wpAnyH_ready (rs := [19]) (by kernel_rfl) (by simp) (AllReadyH.cons rfl (fun K hK => ?_) AllReadyH.nil)
          go_simp
          refine hK.out _ _ (hH) (fun hG => ?_)
          clear hK K hH
          replace hH := hG
          clear hG
          (try simp only [List.getElem_toArray]); (try simp only [List.getElem_cons_succ]); (try simp only [List.getElem_cons_zero]); (try simp only [Act.put]); (try simp only [List.setIfInBounds_toArray]); (try simp only [List.set_cons_succ]); (try simp only [List.set_cons_zero])
          refine wpAnyH_ready (rs := [20]) (by kernel_rfl) (by simp) (AllReadyH.cons rfl (fun K hK => ?_) AllReadyH.nil)
          go_simp
          refine hK.out _ _ (hH.setCell (p := ⟨_, _, none⟩) (by simp) _) (fun hG => ?_)
          clear hK K hH
          replace hH := hG
          clear hG
          (try simp only [List.getElem_toArray]); (try simp only [List.getElem_cons_succ]); (try simp only [List.getElem_cons_zero]); (try simp only [Act.put]); (try simp only [List.setIfInBounds_toArray]); (try simp only [List.set_cons_succ]); (try simp only [List.set_cons_zero])
          refine wpAnyH_done (by kernel_rfl) ?_ _
          go_wp2_with fail
          refine ⟨⟨k + 1, .slice av' (k + 1) cv', by omega, by go_num, ?_, ?_, hH⟩, by simp [intOf]; omega⟩
          · rw [cellsTo_two _ _ _ E0.out E1.out]
            exact owns_setCell own1 (by omega) _ _
          · rw [rowAt_setCell_at _ _ _ _ (by simp [g2]), g2]; rfl
        · go_simp
          refine hK.out _ _ (hH.alloc (by omega) _) (fun hG => ?_)
          clear hK K hH
          replace hH := hG
          clear hG
          (try simp only [List.getElem_toArray]); (try simp only [List.getElem_cons_succ]); (try simp only [List.getElem_cons_zero]); (try simp only [Act.put]); (try simp only [List.setIfInBounds_toArray]); (try simp only [List.set_cons_succ]); (try simp only [List.set_cons_zero])
          refine wpAnyH_ready (rs := [1]) (by kernel_rfl) (by simp) (AllReadyH.cons rfl (fun K hK => ?_) AllReadyH.nil)
          go_simp
          refine hK.out _ _ (hH) (fun hG => ?_)
          clear hK K hH
          replace hH := hG
          clear hG
          (try simp only [List.getElem_toArray]); (try simp only [List.getElem_cons_succ]); (try simp only [List.getElem_cons_zero]); (try simp only [Act.put]); (try simp only [List.setIfInBounds_toArray]); (try simp only [List.set_cons_succ]); (try simp only [List.set_cons_zero])
          refine wpAnyH_ready (rs := [18]) (by kernel_rfl) (by simp) (AllReadyH.cons rfl (fun K hK => ?_) AllReadyH.nil)
          refine step_append_own rfl (.tmp 20) (.tmp 36) 27 rfl (w1.heap.size + 1) 39 i0 (.agg #[.int .i16 0, .int .i16 0]) 2 4 Try.underlying27 hi0 hz0 hz1 hz2 rfl (by decide) (.slice av k cv) k _ rfl (ho'.alloc _) ⟨V.heap.size, 0, none⟩ 1 1 [.int .i16 (200 - b), .int .i16 (200 - a)] rfl rfl (cells_new2 rfl _ _ _) (by simp [Value.oneCell']) (by unfold maxLen; omega) (by omega) (by simp; omega) ?_
          intro v' w2 own1 grow1
          obtain ⟨av', cv', rfl⟩ := owns_shape own1
          have g2 := (grown_below grow1 (by simp; omega) (owns_base' ho') (by omega)).trans ((rowAt_alloc_past _ _ _ (by omega)).trans r2')
          have z2 := cell_of_rowAt g2
          have z3 := frozen_of_rowAt g2
          refine hK.out _ _ (hH.grown grow1 (by simp; omega) (fun x hx => by have := owns_base' ho' x hx; omega)) (fun hG => ?_)
          clear hK K hH
          replace hH := hG
          clear hG
          (try simp only [List.getElem_toArray]); (try simp only [List.getElem_cons_succ]); (try simp only [List.getElem_cons_zero]); (try simp only [Act.put]); (try simp only [List.setIfInBounds_toArray]); (try simp only [List.set_cons_succ]); (try simp only [List.set_cons_zero])
          refine wpAnyH_ready (rs := [19]) (by kernel_rfl) (by simp) (AllReadyH.cons rfl (fun K hK => ?_) AllReadyH.nil)
          go_simp
          refine hK.out _ _ (hH) (fun hG => ?_)
          clear hK K hH
          replace hH := hG
          clear hG
          (try simp only [List.getElem_toArray]); (try simp only [List.getElem_cons_succ]); (try simp only [List.getElem_cons_zero]); (try simp only [Act.put]); (try simp only [List.setIfInBounds_toArray]); (try simp only [List.set_cons_succ]); (try simp only [List.set_cons_zero])
          refine wpAnyH_ready (rs := [20]) (by kernel_rfl) (by simp) (AllReadyH.cons rfl (fun K hK => ?_) AllReadyH.nil)
          go_simp
          refine hK.out _ _ (hH.setCell (p := ⟨_, _, none⟩) (by simp) _) (fun hG => ?_)
          clear hK K hH
          replace hH := hG
          clear hG
          (try simp only [List.getElem_toArray]); (try simp only [List.getElem_cons_succ]); (try simp only [List.getElem_cons_zero]); (try simp only [Act.put]); (try simp only [List.setIfInBounds_toArray]); (try simp only [List.set_cons_succ]); (try simp only [List.set_cons_zero])
          refine wpAnyH_done (by kernel_rfl) ?_ _
          go_wp2_with fail
          refine ⟨⟨k + 1, .slice av' (k + 1) cv', by omega, by go_num, ?_, ?_, hH⟩, by simp [intOf]; omega⟩
          · rw [cellsTo_two _ _ _ E0.out E1.out]
            exact owns_setCell own1 (by omega) _ _
          · rw [rowAt_setCell_at _ _ _ _ (by simp [g2]), g2]; rfl
      · obtain rfl : k = n := by omega
        obtain ⟨av, cv, rfl⟩ := owns_shape ho
        go_wp2_with fail
        refine bodyPost_ret (v := .tuple #[.agg #[.int .u8 s, .slice av k cv], .int .i64 0]) (by simp [results, Try.results36, go_sem, x1]) rfl ⟨.slice av k cv, by rw [HK.out]; rfl, ?_, ?_⟩
        · rw [HK.out, show lenOk true k = k from rfl]
          rcases owns_list ho with h | ⟨g, cc, cur, e, hg, hr, hs, hf⟩
          · exact .inl h
          · refine .inr ⟨g, cc, cur, e, by have := B1.out.size; omega, ?_, hs, hf⟩
            rw [rowAt_setCell_ne _ _ _ _ _ (by omega), rowAt_setCell_ne _ _ _ _ _ (by omega)]
            exact hr
        · exact ((bnext B1.out hB B1.out.size).setCell (p := ⟨_, _, none⟩) (by simp) _).setCell (p := ⟨_, _, none⟩) (by simp) _
  | false =>
    rw [hk] at CV
    have HK := Lib.hid hk
    clear hk
    refine (CV _ p0 (HV.out.below B0.out (Nat.le_refl _))).mono ?_
    rintro e w1 ⟨rfl, b1⟩
    have B1 := Lib.hid (bnext B0.out b1 B0.out.size)
    have q1 := brow b1 p1
    have z1 := cell_of_rowAt q1
    have z2 := frozen_of_rowAt q1
    clear b1 p0 p1 CV
    go_wp2_with fail
    refine bodyPost_ret (v := .tuple #[.agg #[.int .u8 0, .slice none 0 0], .int .i64 1]) (by simp [results, Try.results36, go_sem, z1]) rfl ⟨.slice none 0 0, by rw [HK.out]; rfl, .inl ⟨by rw [HK.out]; rfl, none, 0, rfl⟩, ?_⟩
    exact (B1.out.setCell (p := ⟨_, _, none⟩) (by simp) _).setCell (p := ⟨_, _, none⟩) (by simp) _
end Go.Proofs.Ytdegfcgknppcoaa
