/- LeastRain: the program's search. -/
import Derived.Test.YtcopdilmkfmpiaaLrM
import Derived.Deep.RegionHeld3
import Derived.IntWalk
namespace Go.Proofs.Ytcopdilmkfmpiaa
open Go.RowKit

set_option maxRecDepth 100000 in
set_option maxHeartbeats 1000000 in
theorem lrBody_any (c : Array Value) (r : Rf) (b : Int) (m B0 B1 : Nat) (w : World) (hR : IsRoof c r) (ho : r.Ok) (hm : m ≤ 1000) (h0 : rowAt w B0 = some c) (h1 : rowAt w B1 = some #[.int .i64 b]) :
    Calls Try.prog 48 #[.int .i64 m, .pointer (some ⟨B0, 0, none⟩), .pointer (some ⟨B1, 0, none⟩)] w fun e w' => e = .returned (.bool (decide (b < r.evS m))) ∧ Below w.heap.size w w' := by
  have hc := hR.size
  have hT : IsRain (mkI .i16 17 (evT (2 * r.w + 1).toNat m)) (evT (2 * r.w + 1).toNat m) := ⟨isK_mkI _ _ _, fun i _ => by unfold evT; split <;> omega, fun i _ => by unfold evT; split <;> omega⟩
  have CE := fun w => evenRain_any c r m w hR ho (by omega) (by omega)
  have CD := fun w => dripSum_any c _ r _ w hR hT (evT_rains ho (by omega) (by omega))
  change ∀ w, Calls _ _ _ w fun e w' => e = .returned (.int .i64 (r.evS m)) ∧ _ at CD
  generalize r.evS m = s at *
  generalize mkI .i16 17 (evT (2 * r.w + 1).toNat m) = X at *
  clear hT
  go_enter Try.func48, Try.ntmps48
  go_wp2_with fail
  refine wp_region_held_drew (S := (fun w' => rowAt w' B0 = some c ∧ rowAt w' B1 = some #[.int .i64 b] ∧ Below w.heap.size w w' ∧ w.heap.size ≤ w'.heap.size)) (by kernel_rfl) (⟨h0, h1, (Below.refl _ _).drew, Nat.le_refl _⟩) (fun hH => ?_)
  refine wpAnyH_take (i := 0) (v := .agg c) rfl (by kernel_rfl) (by kernel_rfl) (by kernel_rfl) (fun _ _ _ h => h) (Or.inl ⟨by rfl, ?_⟩) hH ?_
  · intro w1 hS; (try dsimp only at hS); obtain ⟨s0, s1, _, _⟩ := hS; have k1 := cell_of_rowAt s1 0; simp at k1; go_simp
  (try simp only [List.getElem_toArray]); (try simp only [List.getElem_cons_succ]); (try simp only [List.getElem_cons_zero]); (try simp only [Act.put]); (try simp only [List.setIfInBounds_toArray]); (try simp only [List.set_cons_succ]); (try simp only [List.set_cons_zero])
  refine wpAnyH_take (i := 1) (v := .agg c) rfl (by kernel_rfl) (by kernel_rfl) (by kernel_rfl) (fun _ _ _ h => h) (Or.inl ⟨by rfl, ?_⟩) hH ?_
  · intro w1 hS; (try dsimp only at hS); obtain ⟨s0, s1, _, _⟩ := hS; have k1 := cell_of_rowAt s1 0; simp at k1; go_simp
  (try simp only [List.getElem_toArray]); (try simp only [List.getElem_cons_succ]); (try simp only [List.getElem_cons_zero]); (try simp only [Act.put]); (try simp only [List.setIfInBounds_toArray]); (try simp only [List.set_cons_succ]); (try simp only [List.set_cons_zero])
  refine wpAnyH_take (i := 2) (v := .int .i64 m) rfl (by kernel_rfl) (by kernel_rfl) (by kernel_rfl) (fun _ _ _ h => h) (Or.inl ⟨by rfl, ?_⟩) hH ?_
  · intro w1 hS; (try dsimp only at hS); obtain ⟨s0, s1, _, _⟩ := hS; have k1 := cell_of_rowAt s1 0; simp at k1; go_simp
  (try simp only [List.getElem_toArray]); (try simp only [List.getElem_cons_succ]); (try simp only [List.getElem_cons_zero]); (try simp only [Act.put]); (try simp only [List.setIfInBounds_toArray]); (try simp only [List.set_cons_succ]); (try simp only [List.set_cons_zero])
  refine wpAnyH_take (i := 5) (v := .int .i64 b) rfl (by kernel_rfl) (by kernel_rfl) (by kernel_rfl) (fun _ _ _ h => h) (Or.inl ⟨by rfl, ?_⟩) hH ?_
  · intro w1 hS; (try dsimp only at hS); obtain ⟨s0, s1, _, _⟩ := hS; have k1 := cell_of_rowAt s1 0; simp at k1; go_simp
  (try simp only [List.getElem_toArray]); (try simp only [List.getElem_cons_succ]); (try simp only [List.getElem_cons_zero]); (try simp only [Act.put]); (try simp only [List.setIfInBounds_toArray]); (try simp only [List.set_cons_succ]); (try simp only [List.set_cons_zero])
  refine wpAnyH_ready (rs := [3]) (by kernel_rfl) (by simp) (AllReadyH.cons rfl (fun K hK => ?_) AllReadyH.nil)
  go_simp
  refine (CE _).mono ?_
  rintro x wx ⟨rfl, bx⟩
  go_simp
  refine hK.out _ _ (keep2 bx hH) (fun hG => ?_)
  clear hK K hH bx
  replace hH := hG
  clear hG
  (try simp only [List.getElem_toArray]); (try simp only [List.getElem_cons_succ]); (try simp only [List.getElem_cons_zero]); (try simp only [Act.put]); (try simp only [List.setIfInBounds_toArray]); (try simp only [List.set_cons_succ]); (try simp only [List.set_cons_zero])
  refine wpAnyH_ready (rs := [4]) (by kernel_rfl) (by simp) (AllReadyH.cons rfl (fun K hK => ?_) AllReadyH.nil)
  go_simp
  refine (CD _).mono ?_
  rintro x wx ⟨rfl, bx⟩
  go_simp
  refine hK.out _ _ (keep2 bx hH) (fun hG => ?_)
  clear hK K hH bx
  replace hH := hG
  clear hG
  (try simp only [List.getElem_toArray]); (try simp only [List.getElem_cons_succ]); (try simp only [List.getElem_cons_zero]); (try simp only [Act.put]); (try simp only [List.setIfInBounds_toArray]); (try simp only [List.set_cons_succ]); (try simp only [List.set_cons_zero])
  refine wpAnyH_take (i := 6) (v := .bool (decide (b < s))) rfl (by kernel_rfl) (by kernel_rfl) (by kernel_rfl) (fun _ _ _ h => h) (Or.inl ⟨by rfl, ?_⟩) hH ?_
  · intro w1 hS; (try dsimp only at hS); go_simp
  (try simp only [List.getElem_toArray]); (try simp only [List.getElem_cons_succ]); (try simp only [List.getElem_cons_zero]); (try simp only [Act.put]); (try simp only [List.setIfInBounds_toArray]); (try simp only [List.set_cons_succ]); (try simp only [List.set_cons_zero])
  refine wpAnyH_take (i := 7) (v := .bool (decide (b < s))) rfl (by kernel_rfl) (by kernel_rfl) (by kernel_rfl) (fun _ _ _ h => h) (Or.inl ⟨by rfl, ?_⟩) hH ?_
  · intro w1 hS; (try dsimp only at hS); go_simp
  (try simp only [List.getElem_toArray]); (try simp only [List.getElem_cons_succ]); (try simp only [List.getElem_cons_zero]); (try simp only [Act.put]); (try simp only [List.setIfInBounds_toArray]); (try simp only [List.set_cons_succ]); (try simp only [List.set_cons_zero])
  refine wpAnyH_done (by kernel_rfl) ?_ _
  go_wp2_with fail
  go_ret
  exact ⟨rfl, hH.2.2.1⟩
theorem lrBody_t (c : Array Value) (r : Rf) (b : Int) (m B0 B1 : Nat) (w : World) (hR : IsRoof c r) (ho : r.Ok) (hm : m ≤ 1000) (h0 : rowAt w B0 = some c) (h1 : rowAt w B1 = some #[.int .i64 b]) (h : b < r.evS m) :
    Calls Try.prog 48 #[.int .i64 m, .pointer (some ⟨B0, 0, none⟩), .pointer (some ⟨B1, 0, none⟩)] w fun e w' => e = .returned (.bool true) ∧ Below w.heap.size w w' := by
  have := lrBody_any c r b m B0 B1 w hR ho hm h0 h1
  rwa [show decide (b < r.evS m) = true from decide_eq_true h] at this
theorem lrBody_f (c : Array Value) (r : Rf) (b : Int) (m B0 B1 : Nat) (w : World) (hR : IsRoof c r) (ho : r.Ok) (hm : m ≤ 1000) (h0 : rowAt w B0 = some c) (h1 : rowAt w B1 = some #[.int .i64 b]) (h : ¬ b < r.evS m) :
    Calls Try.prog 48 #[.int .i64 m, .pointer (some ⟨B0, 0, none⟩), .pointer (some ⟨B1, 0, none⟩)] w fun e w' => e = .returned (.bool false) ∧ Below w.heap.size w w' := by
  have := lrBody_any c r b m B0 B1 w hR ho hm h0 h1
  rwa [show decide (b < r.evS m) = false from decide_eq_false h] at this

set_option maxRecDepth 100000 in
set_option maxHeartbeats 1000000 in
theorem search_any (c : Array Value) (r : Rf) (b : Int) (B0 B1 : Nat) (w : World) (hR : IsRoof c r) (ho : r.Ok) (h0 : rowAt w B0 = some c) (h1 : rowAt w B1 = some #[.int .i64 b]) :
    Calls Try.prog 47 #[.int .i64 1001, .func (.func 48) #[] #[.pointer (some ⟨B0, 0, none⟩), .pointer (some ⟨B1, 0, none⟩)]] w fun e w' => e = .returned (.int .i64 (r.lr b)) ∧ Below w.heap.size w w' := by
  have hB0 := rowAt_lt h0
  have hB1 := rowAt_lt h1
  have hl := r.lr_le b
  go_enter Try.func47, Try.ntmps47
  go_wp2_with fail
  go_loopw [5, 6] (fun i j W => ∃ x y : Nat, x ≤ r.lr b ∧ r.lr b ≤ y ∧ y ≤ 1001 ∧ i = .int .i64 x ∧ j = .int .i64 y ∧ Below w.heap.size w W) (fun i j _ => (intOf j).toNat - (intOf i).toNat)
  case atStart => exact ⟨0, 1001, by omega, hl, by omega, rfl, rfl, Below.refl _ _⟩
  case round =>
    obtain ⟨x, y, hx, hy, hy1, rfl, rfl, hB⟩ := hrel
    have r0 := brow' hB hB0 h0
    have r1 := brow' hB hB1 h1
    by_cases hlt : x < y
    · have hbx : 0 ≤ (x : Int) := by omega
      have hby : (y : Int) ≤ 1001 := by omega
      have hbx1 : (x : Int) ≤ 1001 := by omega
      have hby0 : 0 ≤ (y : Int) := by omega
      obtain ⟨m, hm⟩ : ∃ m : Nat, m = (x + y) / 2 := ⟨_, rfl⟩
      by_cases hb : b < r.evS m
      · have hc1 := lrBody_t c r b m B0 B1 wr hR ho (by omega) r0 r1 hb
        have hlo := Rf.lr_over (by omega) hb
        rw [show (m : Int) = ((x : Int) + y) / 2 from by omega] at hc1
        go_wp2_with fail
        refine hc1.mono ?_
        rintro e w1 ⟨rfl, b1⟩
        have B2 := Lib.hid (bnext hB b1 hB.size)
        clear b1 hc1 hb r0 r1
        go_wp2_with fail
        refine ⟨⟨x, m, hx, hlo, by omega, rfl, by rw [show (m : Int) = ((x : Int) + y) / 2 from by omega], B2.out⟩, by simp [intOf]; omega⟩
      · have hc1 := lrBody_f c r b m B0 B1 wr hR ho (by omega) r0 r1 hb
        have hlo := Rf.lr_under (by omega) hb
        rw [show (m : Int) = ((x : Int) + y) / 2 from by omega] at hc1
        go_wp2_with fail
        refine hc1.mono ?_
        rintro e w1 ⟨rfl, b1⟩
        have B2 := Lib.hid (bnext hB b1 hB.size)
        clear b1 hc1 hb r0 r1
        go_wp2_with fail
        refine ⟨⟨m + 1, y, hlo, hy, hy1, by rw [show ((m + 1 : Nat) : Int) = ((x : Int) + y) / 2 + 1 from by omega], rfl, B2.out⟩, by simp [intOf]; omega⟩
    · obtain rfl : x = y := by omega
      go_wp2_with fail
      go_ret
      exact ⟨by rw [show r.lr b = x from by omega]; rfl, hB⟩

theorem lrC_no {r : Rf} {b : Int} (ho : ¬ r.Ok) : r.lrC b = 1 := by unfold Rf.lrC; rw [Rf.told_no ho]; rfl
theorem lrC_neg {r : Rf} {b : Int} (ho : r.Ok) (hb : b < 0) : r.lrC b = 2 := by
  unfold Rf.lrC; rw [show decide (0 ≤ b) = false from decide_eq_false (by omega), Rf.told_out ho]; rfl
theorem lrC_in {r : Rf} {b : Int} (ho : r.Ok) (hb : 0 ≤ b) : r.lrC b = if r.lr b < 1001 then 0 else 6 := by
  unfold Rf.lrC; rw [show decide (0 ≤ b) = true from decide_eq_true hb, Rf.told_in ho]; rfl
theorem gen_callsL {P : Program} {f : FuncId} {args : Array Value} {Q : Ending → World → Prop} {w : World} (h : ∀ W, W = w → Calls P f args W Q) : Calls P f args w Q := h w rfl

set_option maxRecDepth 100000 in
set_option maxHeartbeats 1000000 in
theorem implLeastRain_any (c : Array Value) (r : Rf) (b : Int) (w : World) (hR : IsRoof c r) :
    Calls Try.prog 9 #[.agg c, .int .i64 b] w fun e w' => e = .returned (.tuple #[.int .i64 (r.lrV b), .int .i64 (r.lrC b)]) ∧ Below w.heap.size w w' := by
  have hc := hR.size
  obtain ⟨q0, q1, qB⟩ := two_boxes w c #[.int .i64 b] 29 2
  by_cases ho : r.Ok
  · by_cases hb : b < 0
    · unfold Rf.lrV
      rw [lrC_neg ho hb, if_neg (by decide)]
      go_enter Try.func9, Try.ntmps9
      go_wp2_with fail
      refine (implValid_t c r _ hR ho).mono ?_
      rintro e w1 ⟨rfl, b1⟩
      have s1 := brow b1 q1
      have k1 : w1.cell? ⟨w.heap.size + 1, 0, none⟩ = some (.int .i64 b) := by rw [cell_of_rowAt s1]; rfl
      have B1 := bnext qB b1 qB.size
      clear b1 q0 q1 qB s1
      go_wp2_with fail
      go_ret2
      exact ⟨rfl, B1⟩
    · have hl := r.lr_le b
      have hlC := lrC_in ho (b := b) (by omega)
      unfold Rf.lrV
      by_cases hn : r.lr b < 1001
      · rw [hlC, if_pos hn, if_pos rfl]
        have hn' : ¬ (1000 : Int) < r.lr b := by omega
        have hl0 : (0 : Int) ≤ r.lr b := by omega
        clear hlC hl
        go_enter Try.func9, Try.ntmps9
        go_wp2_with fail
        refine (implValid_t c r _ hR ho).mono ?_
        rintro e w1 ⟨rfl, b1⟩
        have s0 := brow b1 q0
        have s1 := brow b1 q1
        have k1 : w1.cell? ⟨w.heap.size + 1, 0, none⟩ = some (.int .i64 b) := by rw [cell_of_rowAt s1]; rfl
        have B1 := bnext qB b1 qB.size
        clear b1 q0 q1 qB
        go_wp2_with fail
        refine (search_any c r b _ _ _ hR ho s0 s1).mono ?_
        rintro e w2 ⟨rfl, b2⟩
        have B2 := bnext B1 b2 B1.size
        clear b2 s0 s1 B1 k1
        go_wp2_with fail
        go_ret2
        exact ⟨rfl, B2⟩
      · rw [hlC, if_neg hn, if_neg (by decide)]
        have hn' : (1000 : Int) < r.lr b := by omega
        clear hlC hl
        go_enter Try.func9, Try.ntmps9
        go_wp2_with fail
        refine (implValid_t c r _ hR ho).mono ?_
        rintro e w1 ⟨rfl, b1⟩
        have s0 := brow b1 q0
        have s1 := brow b1 q1
        have k1 : w1.cell? ⟨w.heap.size + 1, 0, none⟩ = some (.int .i64 b) := by rw [cell_of_rowAt s1]; rfl
        have B1 := bnext qB b1 qB.size
        clear b1 q0 q1 qB
        go_wp2_with fail
        refine (search_any c r b _ _ _ hR ho s0 s1).mono ?_
        rintro e w2 ⟨rfl, b2⟩
        have B2 := bnext B1 b2 B1.size
        clear b2 s0 s1 B1 k1
        go_wp2_with fail
        go_ret2
        exact ⟨rfl, B2⟩
  · unfold Rf.lrV
    rw [lrC_no ho, if_neg (by decide)]
    go_enter Try.func9, Try.ntmps9
    go_wp2_with fail
    refine (implValid_f c r _ hR ho).mono ?_
    rintro e w1 ⟨rfl, b1⟩
    have B1 := bnext qB b1 qB.size
    clear b1 q0 q1 qB
    go_wp2_with fail
    go_ret2
    exact ⟨rfl, B1⟩

set_option maxRecDepth 100000 in
set_option maxHeartbeats 1000000 in
theorem specLeast_in (c : Array Value) (r : Rf) (b : Int) (w : World) (hR : IsRoof c r) (ho : r.Ok) (hb : 0 ≤ b) :
    Calls Try.prog 7 #[.agg c, .int .i64 b] w fun e w' => e = .returned (.tuple #[.int .i64 (r.lrV b), .int .i64 (r.lrC b)]) ∧ Below w.heap.size w w' := by
  have hc := hR.size
  have p0 := rowAt_alloc_at w c 29 w.heap.size rfl
  have pB : Below w.heap.size w (w.alloc (.cells c 29)) := (Below.refl _ _).alloc (Nat.le_refl _) _
  have hl := r.lr_le b
  have hlC := lrC_in ho hb
  have HC := Lib.hid hlC
  clear hlC
  go_enter Try.func7, Try.ntmps7
  go_wp2_with fail
  refine (l01Told_any w.heap.size c r _ _ p0 hR).mono ?_
  rw [Rf.told_in ho]
  rintro e w1 ⟨rfl, b1⟩
  have s0 := brow b1 p0
  have B1 := bnext pB b1 pB.size
  have S0 := Lib.hid s0
  have HB1 := Lib.hid B1
  clear b1 p0 pB s0 B1
  go_wp2_with fail
  go_loopw [7] (fun i W => ∃ x : Nat, x ≤ 1001 ∧ x ≤ r.lr b ∧ i = .int .i64 x ∧ Below w1.heap.size w1 W) (fun i _ => 1001 - (intOf i).toNat)
  case atStart => exact ⟨0, by omega, by omega, rfl, Below.refl _ _⟩
  case round =>
    obtain ⟨x, hx, hxl, rfl, hB⟩ := hrel
    have r0 := brow hB S0.out
    by_cases hlt : x < 1001
    · have hx0 : (0 : Int) ≤ x := by omega
      have hx1 : (x : Int) ≤ 1000 := by omega
      have hT : IsRain (mkI .i16 17 (evT (2 * r.w + 1).toNat x)) (evT (2 * r.w + 1).toNat x) := ⟨isK_mkI _ _ _, fun i _ => by unfold evT; split <;> omega, fun i _ => by unfold evT; split <;> omega⟩
      have hRs := evT_rains ho hx0 hx1
      have CE := fun W hr => l02Even_any w.heap.size c r x W hr hR ho hx0 hx1
      have hXs := hT.size
      have hXo := hT.ones
      have CD : ∀ n m w, rowAt w n = some c → rowAt w m = some (mkI .i16 17 (evT (2 * r.w + 1).toNat x)) → Calls Try.prog 44 #[.pointer (some ⟨n, 0, none⟩), .pointer (some ⟨m, 0, none⟩)] w fun e w' => e = .returned (.int .i64 (r.evS x)) ∧ Below w.heap.size w w' :=
        fun n m w h1 h2 => l02Sum_any n m c _ r _ w h1 hR h2 hT hRs
      clear hT
      generalize mkI .i16 17 (evT (2 * r.w + 1).toNat x) = X at *
      by_cases hov : b < r.evS x
      · have hlx : r.lr b = x := by have := Rf.lr_over (by omega) hov; omega
        generalize r.evS x = s at *
        have HL := Lib.hid hlx
        clear hlx hRs
        go_wp2_with fail
        refine (CE _ r0).mono ?_
        rintro e w2 ⟨rfl, b2⟩
        have s2 := brow b2 r0
        have B2 := bnext hB b2 hB.size
        have lt2 := rowAt_lt s2
        clear b2 r0 hB
        go_wp2_with fail
        refine gen_callsL fun W hW => ?_
        have p0 : rowAt W w.heap.size = some c := by rw [hW]; exact (rowAt_alloc_past _ _ _ lt2).trans s2
        have p1 : rowAt W w2.heap.size = some X := by rw [hW]; exact rowAt_alloc_at _ _ _ _ rfl
        have pB : Below w1.heap.size w1 W := by rw [hW]; exact B2.alloc B2.size _
        clear hW s2 B2
        refine (CD _ _ _ p0 p1).mono ?_
        rintro e w3 ⟨rfl, b3⟩
        have B3 := Lib.hid (bnext pB b3 pB.size)
        clear b3 p0 p1 pB
        go_wp2_with fail
        go_ret2
        have e1 : r.lrC b = 0 := by rw [HC.out, HL.out, if_pos (by omega)]
        have e2 : r.lrV b = x := by unfold Rf.lrV; rw [if_pos e1, HL.out]
        exact ⟨by rw [e1, e2]; rfl, HB1.out.trans (B3.out.mono HB1.out.size)⟩
      · have hlx : x + 1 ≤ r.lr b := Rf.lr_under (by omega) hov
        generalize r.evS x = s at *
        clear hRs
        go_wp2_with fail
        refine (CE _ r0).mono ?_
        rintro e w2 ⟨rfl, b2⟩
        have s2 := brow b2 r0
        have B2 := bnext hB b2 hB.size
        have lt2 := rowAt_lt s2
        clear b2 r0 hB
        go_wp2_with fail
        refine gen_callsL fun W hW => ?_
        have p0 : rowAt W w.heap.size = some c := by rw [hW]; exact (rowAt_alloc_past _ _ _ lt2).trans s2
        have p1 : rowAt W w2.heap.size = some X := by rw [hW]; exact rowAt_alloc_at _ _ _ _ rfl
        have pB : Below w1.heap.size w1 W := by rw [hW]; exact B2.alloc B2.size _
        clear hW s2 B2
        refine (CD _ _ _ p0 p1).mono ?_
        rintro e w3 ⟨rfl, b3⟩
        have B3 := Lib.hid (bnext pB b3 pB.size)
        clear b3 p0 p1 pB
        go_wp2_with fail
        refine ⟨⟨x + 1, by omega, hlx, by go_num, B3.out⟩, by simp [intOf]; omega⟩
    · obtain rfl : x = 1001 := by omega
      go_wp2_with fail
      go_ret2
      have e1 : r.lrC b = 6 := by rw [HC.out, if_neg (by omega)]
      have e2 : r.lrV b = 0 := by unfold Rf.lrV; rw [e1, if_neg (by decide)]
      exact ⟨by rw [e1, e2]; rfl, HB1.out.trans (hB.mono HB1.out.size)⟩
theorem specLeastRain_any (c : Array Value) (r : Rf) (b : Int) (w : World) (hR : IsRoof c r) :
    Calls Try.prog 7 #[.agg c, .int .i64 b] w fun e w' => e = .returned (.tuple #[.int .i64 (r.lrV b), .int .i64 (r.lrC b)]) ∧ Below w.heap.size w w' := by
  have hc := hR.size
  have p0 := rowAt_alloc_at w c 29 w.heap.size rfl
  have pB : Below w.heap.size w (w.alloc (.cells c 29)) := (Below.refl _ _).alloc (Nat.le_refl _) _
  by_cases ho : r.Ok
  · by_cases hb : 0 ≤ b
    · exact specLeast_in c r b w hR ho hb
    · unfold Rf.lrV
      rw [lrC_neg ho (by omega), if_neg (by decide)]
      go_enter Try.func7, Try.ntmps7
      go_wp2_with fail
      refine (l01Told_any w.heap.size c r _ _ p0 hR).mono ?_
      rw [Rf.told_out ho]
      rintro e w1 ⟨rfl, b1⟩
      have B1 := bnext pB b1 pB.size
      clear b1 p0 pB
      go_wp2_with fail
      go_ret2
      exact ⟨rfl, B1⟩
  · unfold Rf.lrV
    rw [lrC_no ho, if_neg (by decide)]
    go_enter Try.func7, Try.ntmps7
    go_wp2_with fail
    refine (l01Told_any w.heap.size c r _ _ p0 hR).mono ?_
    rw [Rf.told_no ho]
    rintro e w1 ⟨rfl, b1⟩
    have B1 := bnext pB b1 pB.size
    clear b1 p0 pB
    go_wp2_with fail
    go_ret2
    exact ⟨rfl, B1⟩
end Go.Proofs.Ytcopdilmkfmpiaa
