import Derived.Test.YtppohghejhcilaaKLaps

/- The walk of laws.FnLaps: a tile laps over those that it is above of; tiles cover their cells; a tile that is replaced has the new kind. -/
namespace Go.Proofs.Ytppohghejhcilaa
open Go.RowKit

theorem Rf.eqB_self (r : Rf) : r.eqB r = true := by
  unfold Rf.eqB Rf.tilesEq Rf.rowEq
  simp
set_option maxRecDepth 100000 in
set_option maxHeartbeats 40000000 in
theorem law_walk_FnLaps {w : World} {v1 v2 : Value} {n1 n2 : Nat} {f1 f2 : Nat → Int} (h1 : BytsAt w v1 n1 f1) (h2 : BytsAt w v2 n2 f2) (hn1 : n1 ≤ maxLen) (hn2 : n2 ≤ maxLen) (hf1 : ∀ i, i < n1 → 0 ≤ f1 i ∧ f1 i ≤ 255) (hf2 : ∀ i, i < n2 → 0 ≤ f2 i ∧ f2 i ≤ 255) :
    Calls Try.prog 3 #[v1, v2] w fun e w' => e = .returned (.bool true) ∧ Below w.heap.size w w' := by
  have CL := fun W h1 h2 => a2Long_any n1 n2 v1 v2 f1 f2 W h1 h2 hn1 hn2
  by_cases hl : 3000 < n1 ∨ 3000 < n2
  · rw [decide_eq_true hl] at CL
    go_enter Try.func3, Try.ntmps3
    go_wp2_with fail
    refine (CL _ h1 h2).mono ?_
    rintro e w1 ⟨rfl, rfl⟩
    go_wp2_with fail
    go_ret
    exact ⟨rfl, Below.refl _ _⟩
  rw [decide_eq_false hl] at CL
  have CR := fun W h => A2Roof_any n1 v1 f1 W h (by omega) hf1
  have hz := zroof_size
  obtain ⟨a1, cap1, rfl⟩ := h1.shape
  obtain ⟨a2, cap2, rfl⟩ := h2.shape
  have H1 := Lib.hid h1
  have H2 := Lib.hid h2
  have HF2 := Lib.hid hf2
  have hn2' : n2 ≤ 3000 := by omega
  clear h1 h2 hf1 hf2 hl hn1 hn2
  go_enter Try.func3, Try.ntmps3
  go_wp2_with fail
  refine (CL _ H1.out H2.out).mono ?_
  rintro e w1 ⟨rfl, hw1⟩
  subst hw1
  clear CL
  go_wp2_with fail
  refine (CR _ H1.out).mono ?_
  rintro e w2 ⟨c, r, rfl, hR, ho, hs, b2⟩
  clear CR
  obtain ⟨o1, o2, o3, o4, _⟩ := id ho
  obtain ⟨hh, hhe⟩ := Int.eq_ofNat_of_zero_le (show 0 ≤ r.h by omega)
  obtain ⟨ww, hwe⟩ := Int.eq_ofNat_of_zero_le (show 0 ≤ r.w by omega)
  have CA := fun W => A2Places_any c r hh ww hhe hwe (by omega) (by omega) W hR
  have hc := hR.size
  have hco := hR.ones
  have HR := Lib.hid hR
  have HO := Lib.hid ho
  have HH := Lib.hid (And.intro hhe hwe)
  have HB2 := Lib.hid b2
  have h8 : 1 ≤ hh ∧ hh ≤ 5 := by omega
  have w8 : 1 ≤ ww ∧ ww ≤ 5 := by omega
  clear hR ho hhe hwe b2 o1 o2 o3 o4 hs
  go_wp2_with fail
  refine gen_callsW fun W2 hW => ?_
  have R2 : rowAt W2 w2.heap.size = some c := by rw [hW]; exact rowAt_alloc_at _ _ _ _ rfl
  have B2 : Below w1.heap.size w1 W2 := by rw [hW]; exact HB2.out.alloc HB2.out.size _
  clear hW HB2
  refine (CA _).mono ?_
  rintro e w3 ⟨v, rfl, l3, b3⟩
  have R3 := brow b3 R2
  have B3 := bnext B2 b3 B2.size
  clear b3 R2 B2 CA
  have hsz : hh * ww ≤ 25 := Nat.mul_le_mul h8.2 w8.2
  have hpos : 1 ≤ hh * ww := Nat.mul_le_mul h8.1 w8.1
  have hle : (plUpto hh ww (hh * ww)).length = hh * ww := plUpto_size (Nat.le_refl _)
  rw [hle] at l3
  obtain ⟨N, hN⟩ : ∃ N, N = hh * ww := ⟨_, rfl⟩
  rw [← hN] at l3 hsz hpos
  have HN := Lib.hid hN
  clear hN hle
  rcases l3 with ⟨h0, _⟩ | ⟨g, cap, cur, rfl, hg, G3, hs2, hcl⟩
  · omega
  have HCL := Lib.hid hcl
  clear hcl hg
  have HB3 := Lib.hid B3
  clear B3
  generalize w2.heap.size = RB at *
  have hRB := rowAt_lt R3
  go_wp2_with fail
  go_loopw [7, 8] (fun cv iv W => ∃ k : Nat, k ≤ N ∧ iv = .int .i64 k ∧ cv = .int .i64 (2 * (k : Int)) ∧ Hid (Below w3.heap.size w3 W)) (fun _ i _ => N - (intOf i).toNat)
  case atStart => exact ⟨0, by omega, rfl, rfl, Lib.hid (Below.refl _ _)⟩
  case round =>
    obtain ⟨k, hk, rfl, rfl, hB⟩ := hrel
    have rW := brow hB.out R3
    have gW := brow hB.out G3
    by_cases hlt : k < N
    · have i0 : (k : Int) < N := by omega
      have i1 : 0 ≤ (k : Int) := by omega
      have c0 : cur[k * 2]? = some (.int .i8 (plAt (plUpto hh ww N) (k * 2))) := HCL.out (k * 2) (by omega)
      have c1 : cur[k * 2 + 1]? = some (.int .i8 (plAt (plUpto hh ww N) (k * 2 + 1))) := HCL.out (k * 2 + 1) (by omega)
      rw [plAt_even (Nat.le_of_eq HN.out) hlt] at c0
      rw [plAt_odd (Nat.le_of_eq HN.out) hlt] at c1
      obtain ⟨pi, pj⟩ := pl_in (h := hh) (w := ww) (i := k) (by have := HN.out; omega)
      generalize k / ww = A at *
      generalize k % ww = B at *
      obtain ⟨NA, NB, FA, FB, CF, bA, bB, X0, rh, P⟩ := lapP c r A B HR.out HO.out (by have := HH.out; omega) (by have := HH.out; omega)
      have hBw := hB
      clear hB
      have CA1 := P.up1
      have CA2 := P.up2
      have CB1 := P.dn1
      have CB2 := P.dn2
      have CC1 := P.ce1
      have CC2 := P.ce2
      have HPk := Lib.hid P
      clear P
      go_wp2_with fail
      as_aux_lemma =>
        refine wp_region_held_drew (S := fun w' => Below wr.heap.size wr w') (by kernel_rfl) ((Below.refl _ _).drew) (fun hH => ?_)
        refine wpAnyH_take (i := 0) (oi := { dst := some 60, op := Op.load 28 (Operand.tmp 5), type := 28, pos := "laws.go:137", after := #[], guard := none }) (v := .agg c) rfl (by kernel_rfl) (by kernel_rfl) (by kernel_rfl) (fun _ _ _ h => h) (Or.inl ⟨by rfl, ?_⟩) hH ?_
        · intro w1 hS; (try dsimp only at hS); have s0 := brow hS rW; go_simp
        try simp only [Act.put, List.setIfInBounds_toArray, List.set_cons_zero, List.set_cons_succ]
        refine wpAnyH_take (i := 1) (oi := { dst := some 61, op := Op.move (Operand.tmp 6), type := 30, pos := "laws.go:137", after := #[], guard := none }) (v := .slice (some ⟨g, 0, none⟩) N cap) rfl (by kernel_rfl) (by kernel_rfl) (by kernel_rfl) (fun _ _ _ h => h) (Or.inl ⟨by rfl, ?_⟩) hH ?_
        · intro w1 hS; (try dsimp only at hS); go_simp
        try simp only [Act.put, List.setIfInBounds_toArray, List.set_cons_zero, List.set_cons_succ]
        refine wpAnyH_take (i := 2) (oi := { dst := some 62, op := Op.move (Operand.tmp 8), type := 3, pos := "laws.go:137", after := #[], guard := none }) (v := .int .i64 k) rfl (by kernel_rfl) (by kernel_rfl) (by kernel_rfl) (fun _ _ _ h => h) (Or.inl ⟨by rfl, ?_⟩) hH ?_
        · intro w1 hS; (try dsimp only at hS); go_simp
        try simp only [Act.put, List.setIfInBounds_toArray, List.set_cons_zero, List.set_cons_succ]
        refine wpAnyH_take (i := 3) (oi := { dst := some 63, op := Op.indexAddr 30 (Operand.tmp 61) (Operand.tmp 62), type := 0, pos := "laws.go:137", after := #[{ on := 1, ground := Ground.data }, { on := 2, ground := Ground.data }], guard := none }) (v := .pointer (some ⟨g, k * 2, none⟩)) rfl (by kernel_rfl) (by kernel_rfl) (by kernel_rfl) (fun _ _ _ h => h) (Or.inl ⟨by rfl, ?_⟩) hH ?_
        · intro w1 hS; (try dsimp only at hS); go_simp
        try simp only [Act.put, List.setIfInBounds_toArray, List.set_cons_zero, List.set_cons_succ]
        refine wpAnyH_take (i := 4) (oi := { dst := some 64, op := Op.load 35 (Operand.tmp 63), type := 35, pos := "laws.go:137", after := #[{ on := 3, ground := Ground.data }], guard := none }) (v := .agg #[.int .i8 A, .int .i8 B]) rfl (by kernel_rfl) (by kernel_rfl) (by kernel_rfl) (fun _ _ _ h => h) (Or.inl ⟨by rfl, ?_⟩) hH ?_
        · intro w1 hS; (try dsimp only at hS); have s0 : w1.cell? ⟨g, k * 2, none⟩ = some (.int .i8 A) := (by rw [cell_of_rowAt (brow hS gW)]; exact c0); have s1 : w1.cell? ⟨g, k * 2 + 1, none⟩ = some (.int .i8 B) := (by rw [cell_of_rowAt (brow hS gW)]; exact c1); go_simp
        try simp only [Act.put, List.setIfInBounds_toArray, List.set_cons_zero, List.set_cons_succ]
        refine wpAnyH_ready (rs := [5]) (by kernel_rfl) (by simp) (AllReadyH.cons (o := { dst := some 65, op := Op.call { callee := Callee.value (Operand.func 7), args := #[Operand.tmp 60, Operand.tmp 64], argTypes := #[28, 35] }, type := 32, pos := "laws.go:137", after := #[{ on := 0, ground := Ground.data }, { on := 4, ground := Ground.data }], guard := none }) rfl (fun K hK => ?_) AllReadyH.nil)
        go_simp
        refine (CA1 _).mono ?_
        rintro x wA1 ⟨vA1, rfl, lA1, bx⟩
        go_simp
        refine hK.out _ _ (bnext hH bx hH.size) (fun hG => ?_)
        clear hK K
        refine wpAnyH_now hG ?_
        clear hG hH
        replace bx := ((Below.refl wr.heap.size wr).drew).trans bx
        obtain ⟨aA1, cA1, rfl⟩ := lA1.shape
        replace rW := brow bx rW
        replace gW := brow bx gW
        replace hBw := Lib.hid (bnext hBw.out bx hBw.out.size)
        clear bx
        have hH := Below.refl wA1.heap.size wA1
        try simp only [Act.put, List.setIfInBounds_toArray, List.set_cons_zero, List.set_cons_succ]
        refine wpAnyH_take (i := 6) (oi := { dst := some 59, op := Op.move (Operand.tmp 65), type := 32, pos := "laws.go:137", after := #[{ on := 5, ground := Ground.data }], guard := none }) (v := .tuple #[.slice aA1 NA cA1, .int .i64 0]) rfl (by kernel_rfl) (by kernel_rfl) (by kernel_rfl) (fun _ _ _ h => h) (Or.inl ⟨by rfl, ?_⟩) hH ?_
        · intro w1 hS; (try dsimp only at hS); go_simp
        try simp only [Act.put, List.setIfInBounds_toArray, List.set_cons_zero, List.set_cons_succ]
        refine wpAnyH_take (i := 7) (oi := { dst := some 66, op := Op.extract (Operand.tmp 59) 0, type := 30, pos := "laws.go:137", after := #[{ on := 6, ground := Ground.data }], guard := none }) (v := .slice aA1 NA cA1) rfl (by kernel_rfl) (by kernel_rfl) (by kernel_rfl) (fun _ _ _ h => h) (Or.inl ⟨by rfl, ?_⟩) hH ?_
        · intro w1 hS; (try dsimp only at hS); go_simp
        try simp only [Act.put, List.setIfInBounds_toArray, List.set_cons_zero, List.set_cons_succ]
        refine wpAnyH_take (i := 8) (oi := { dst := some 67, op := Op.extract (Operand.tmp 59) 1, type := 2, pos := "laws.go:137", after := #[{ on := 6, ground := Ground.data }, { on := 9, ground := Ground.gcOnly Departure.lateStores }], guard := none }) (v := .int .i64 0) rfl (by kernel_rfl) (by kernel_rfl) (by kernel_rfl) (fun _ _ _ h => h) (Or.inl ⟨by rfl, ?_⟩) hH ?_
        · intro w1 hS; (try dsimp only at hS); go_simp
        try simp only [Act.put, List.setIfInBounds_toArray, List.set_cons_zero, List.set_cons_succ]
        refine wpAnyH_take (i := 9) (oi := { dst := some 9, op := Op.assign (Operand.tmp 66), type := 30, pos := "laws.go:137", after := #[{ on := 7, ground := Ground.data }, { on := 5, ground := Ground.chain }, { on := 0, ground := Ground.phase }, { on := 1, ground := Ground.phase }, { on := 2, ground := Ground.phase }, { on := 3, ground := Ground.phase }, { on := 4, ground := Ground.phase }, { on := 5, ground := Ground.phase }, { on := 6, ground := Ground.phase }, { on := 7, ground := Ground.phase }, { on := 8, ground := Ground.textOnly Departure.lateStores }], guard := none }) (v := .slice aA1 NA cA1) rfl (by kernel_rfl) (by kernel_rfl) (by kernel_rfl) (fun _ _ _ h => h) (Or.inl ⟨by rfl, ?_⟩) hH ?_
        · intro w1 hS; (try dsimp only at hS); go_simp
        try simp only [Act.put, List.setIfInBounds_toArray, List.set_cons_zero, List.set_cons_succ]
        refine wpAnyH_take (i := 10) (oi := { dst := some 10, op := Op.assign (Operand.tmp 67), type := 2, pos := "laws.go:137", after := #[{ on := 8, ground := Ground.data }, { on := 9, ground := Ground.chain }, { on := 0, ground := Ground.phase }, { on := 1, ground := Ground.phase }, { on := 2, ground := Ground.phase }, { on := 3, ground := Ground.phase }, { on := 4, ground := Ground.phase }, { on := 5, ground := Ground.phase }, { on := 6, ground := Ground.phase }, { on := 7, ground := Ground.phase }, { on := 8, ground := Ground.phase }, { on := 9, ground := Ground.phase }], guard := none }) (v := .int .i64 0) rfl (by kernel_rfl) (by kernel_rfl) (by kernel_rfl) (fun _ _ _ h => h) (Or.inl ⟨by rfl, ?_⟩) hH ?_
        · intro w1 hS; (try dsimp only at hS); go_simp
        try simp only [Act.put, List.setIfInBounds_toArray, List.set_cons_zero, List.set_cons_succ]
        refine wpAnyH_done (by kernel_rfl) ?_ _
        go_wp2_with fail
        as_aux_lemma =>
          refine wp_region_held_drew (S := fun w' => Below wA1.heap.size wA1 w') (by kernel_rfl) ((Below.refl _ _).drew) (fun hH => ?_)
          refine wpAnyH_take (i := 0) (oi := { dst := some 69, op := Op.load 28 (Operand.tmp 5), type := 28, pos := "laws.go:138", after := #[], guard := none }) (v := .agg c) rfl (by kernel_rfl) (by kernel_rfl) (by kernel_rfl) (fun _ _ _ h => h) (Or.inl ⟨by rfl, ?_⟩) hH ?_
          · intro w1 hS; (try dsimp only at hS); have s0 := brow hS rW; go_simp
          try simp only [Act.put, List.setIfInBounds_toArray, List.set_cons_zero, List.set_cons_succ]
          refine wpAnyH_take (i := 1) (oi := { dst := some 70, op := Op.move (Operand.tmp 6), type := 30, pos := "laws.go:138", after := #[], guard := none }) (v := .slice (some ⟨g, 0, none⟩) N cap) rfl (by kernel_rfl) (by kernel_rfl) (by kernel_rfl) (fun _ _ _ h => h) (Or.inl ⟨by rfl, ?_⟩) hH ?_
          · intro w1 hS; (try dsimp only at hS); go_simp
          try simp only [Act.put, List.setIfInBounds_toArray, List.set_cons_zero, List.set_cons_succ]
          refine wpAnyH_take (i := 2) (oi := { dst := some 71, op := Op.move (Operand.tmp 8), type := 3, pos := "laws.go:138", after := #[], guard := none }) (v := .int .i64 k) rfl (by kernel_rfl) (by kernel_rfl) (by kernel_rfl) (fun _ _ _ h => h) (Or.inl ⟨by rfl, ?_⟩) hH ?_
          · intro w1 hS; (try dsimp only at hS); go_simp
          try simp only [Act.put, List.setIfInBounds_toArray, List.set_cons_zero, List.set_cons_succ]
          refine wpAnyH_take (i := 3) (oi := { dst := some 72, op := Op.indexAddr 30 (Operand.tmp 70) (Operand.tmp 71), type := 0, pos := "laws.go:138", after := #[{ on := 1, ground := Ground.data }, { on := 2, ground := Ground.data }], guard := none }) (v := .pointer (some ⟨g, k * 2, none⟩)) rfl (by kernel_rfl) (by kernel_rfl) (by kernel_rfl) (fun _ _ _ h => h) (Or.inl ⟨by rfl, ?_⟩) hH ?_
          · intro w1 hS; (try dsimp only at hS); go_simp
          try simp only [Act.put, List.setIfInBounds_toArray, List.set_cons_zero, List.set_cons_succ]
          refine wpAnyH_take (i := 4) (oi := { dst := some 73, op := Op.load 35 (Operand.tmp 72), type := 35, pos := "laws.go:138", after := #[{ on := 3, ground := Ground.data }], guard := none }) (v := .agg #[.int .i8 A, .int .i8 B]) rfl (by kernel_rfl) (by kernel_rfl) (by kernel_rfl) (fun _ _ _ h => h) (Or.inl ⟨by rfl, ?_⟩) hH ?_
          · intro w1 hS; (try dsimp only at hS); have s0 : w1.cell? ⟨g, k * 2, none⟩ = some (.int .i8 A) := (by rw [cell_of_rowAt (brow hS gW)]; exact c0); have s1 : w1.cell? ⟨g, k * 2 + 1, none⟩ = some (.int .i8 B) := (by rw [cell_of_rowAt (brow hS gW)]; exact c1); go_simp
          try simp only [Act.put, List.setIfInBounds_toArray, List.set_cons_zero, List.set_cons_succ]
          refine wpAnyH_ready (rs := [5]) (by kernel_rfl) (by simp) (AllReadyH.cons (o := { dst := some 74, op := Op.call { callee := Callee.value (Operand.func 8), args := #[Operand.tmp 69, Operand.tmp 73], argTypes := #[28, 35] }, type := 32, pos := "laws.go:138", after := #[{ on := 0, ground := Ground.data }, { on := 4, ground := Ground.data }], guard := none }) rfl (fun K hK => ?_) AllReadyH.nil)
          go_simp
          refine (CA2 _).mono ?_
          rintro x wA2 ⟨vA2, rfl, lA2, bx⟩
          go_simp
          refine hK.out _ _ (bnext hH bx hH.size) (fun hG => ?_)
          clear hK K
          refine wpAnyH_now hG ?_
          clear hG hH
          replace bx := ((Below.refl wA1.heap.size wA1).drew).trans bx
          obtain ⟨aA2, cA2, rfl⟩ := lA2.shape
          replace rW := brow bx rW
          replace gW := brow bx gW
          replace hBw := Lib.hid (bnext hBw.out bx hBw.out.size)
          replace lA1 := lA1.below bx (Nat.le_refl _)
          clear bx
          have hH := Below.refl wA2.heap.size wA2
          try simp only [Act.put, List.setIfInBounds_toArray, List.set_cons_zero, List.set_cons_succ]
          refine wpAnyH_take (i := 6) (oi := { dst := some 68, op := Op.move (Operand.tmp 74), type := 32, pos := "laws.go:138", after := #[{ on := 5, ground := Ground.data }], guard := none }) (v := .tuple #[.slice aA2 NA cA2, .int .i64 0]) rfl (by kernel_rfl) (by kernel_rfl) (by kernel_rfl) (fun _ _ _ h => h) (Or.inl ⟨by rfl, ?_⟩) hH ?_
          · intro w1 hS; (try dsimp only at hS); go_simp
          try simp only [Act.put, List.setIfInBounds_toArray, List.set_cons_zero, List.set_cons_succ]
          refine wpAnyH_take (i := 7) (oi := { dst := some 75, op := Op.extract (Operand.tmp 68) 0, type := 30, pos := "laws.go:138", after := #[{ on := 6, ground := Ground.data }], guard := none }) (v := .slice aA2 NA cA2) rfl (by kernel_rfl) (by kernel_rfl) (by kernel_rfl) (fun _ _ _ h => h) (Or.inl ⟨by rfl, ?_⟩) hH ?_
          · intro w1 hS; (try dsimp only at hS); go_simp
          try simp only [Act.put, List.setIfInBounds_toArray, List.set_cons_zero, List.set_cons_succ]
          refine wpAnyH_take (i := 8) (oi := { dst := some 76, op := Op.extract (Operand.tmp 68) 1, type := 2, pos := "laws.go:138", after := #[{ on := 6, ground := Ground.data }, { on := 9, ground := Ground.gcOnly Departure.lateStores }], guard := none }) (v := .int .i64 0) rfl (by kernel_rfl) (by kernel_rfl) (by kernel_rfl) (fun _ _ _ h => h) (Or.inl ⟨by rfl, ?_⟩) hH ?_
          · intro w1 hS; (try dsimp only at hS); go_simp
          try simp only [Act.put, List.setIfInBounds_toArray, List.set_cons_zero, List.set_cons_succ]
          refine wpAnyH_take (i := 9) (oi := { dst := some 11, op := Op.assign (Operand.tmp 75), type := 30, pos := "laws.go:138", after := #[{ on := 7, ground := Ground.data }, { on := 5, ground := Ground.chain }, { on := 0, ground := Ground.phase }, { on := 1, ground := Ground.phase }, { on := 2, ground := Ground.phase }, { on := 3, ground := Ground.phase }, { on := 4, ground := Ground.phase }, { on := 5, ground := Ground.phase }, { on := 6, ground := Ground.phase }, { on := 7, ground := Ground.phase }, { on := 8, ground := Ground.textOnly Departure.lateStores }], guard := none }) (v := .slice aA2 NA cA2) rfl (by kernel_rfl) (by kernel_rfl) (by kernel_rfl) (fun _ _ _ h => h) (Or.inl ⟨by rfl, ?_⟩) hH ?_
          · intro w1 hS; (try dsimp only at hS); go_simp
          try simp only [Act.put, List.setIfInBounds_toArray, List.set_cons_zero, List.set_cons_succ]
          refine wpAnyH_take (i := 10) (oi := { dst := some 12, op := Op.assign (Operand.tmp 76), type := 2, pos := "laws.go:138", after := #[{ on := 8, ground := Ground.data }, { on := 9, ground := Ground.chain }, { on := 0, ground := Ground.phase }, { on := 1, ground := Ground.phase }, { on := 2, ground := Ground.phase }, { on := 3, ground := Ground.phase }, { on := 4, ground := Ground.phase }, { on := 5, ground := Ground.phase }, { on := 6, ground := Ground.phase }, { on := 7, ground := Ground.phase }, { on := 8, ground := Ground.phase }, { on := 9, ground := Ground.phase }], guard := none }) (v := .int .i64 0) rfl (by kernel_rfl) (by kernel_rfl) (by kernel_rfl) (fun _ _ _ h => h) (Or.inl ⟨by rfl, ?_⟩) hH ?_
          · intro w1 hS; (try dsimp only at hS); go_simp
          try simp only [Act.put, List.setIfInBounds_toArray, List.set_cons_zero, List.set_cons_succ]
          refine wpAnyH_done (by kernel_rfl) ?_ _
          go_wp2_with fail
          as_aux_lemma =>
            refine wp_region_held_drew (S := fun w' => Below wA2.heap.size wA2 w') (by kernel_rfl) ((Below.refl _ _).drew) (fun hH => ?_)
            refine wpAnyH_take (i := 0) (oi := { dst := some 78, op := Op.load 28 (Operand.tmp 5), type := 28, pos := "laws.go:139", after := #[], guard := none }) (v := .agg c) rfl (by kernel_rfl) (by kernel_rfl) (by kernel_rfl) (fun _ _ _ h => h) (Or.inl ⟨by rfl, ?_⟩) hH ?_
            · intro w1 hS; (try dsimp only at hS); have s0 := brow hS rW; go_simp
            try simp only [Act.put, List.setIfInBounds_toArray, List.set_cons_zero, List.set_cons_succ]
            refine wpAnyH_take (i := 1) (oi := { dst := some 79, op := Op.move (Operand.tmp 6), type := 30, pos := "laws.go:139", after := #[], guard := none }) (v := .slice (some ⟨g, 0, none⟩) N cap) rfl (by kernel_rfl) (by kernel_rfl) (by kernel_rfl) (fun _ _ _ h => h) (Or.inl ⟨by rfl, ?_⟩) hH ?_
            · intro w1 hS; (try dsimp only at hS); go_simp
            try simp only [Act.put, List.setIfInBounds_toArray, List.set_cons_zero, List.set_cons_succ]
            refine wpAnyH_take (i := 2) (oi := { dst := some 80, op := Op.move (Operand.tmp 8), type := 3, pos := "laws.go:139", after := #[], guard := none }) (v := .int .i64 k) rfl (by kernel_rfl) (by kernel_rfl) (by kernel_rfl) (fun _ _ _ h => h) (Or.inl ⟨by rfl, ?_⟩) hH ?_
            · intro w1 hS; (try dsimp only at hS); go_simp
            try simp only [Act.put, List.setIfInBounds_toArray, List.set_cons_zero, List.set_cons_succ]
            refine wpAnyH_take (i := 3) (oi := { dst := some 81, op := Op.indexAddr 30 (Operand.tmp 79) (Operand.tmp 80), type := 0, pos := "laws.go:139", after := #[{ on := 1, ground := Ground.data }, { on := 2, ground := Ground.data }], guard := none }) (v := .pointer (some ⟨g, k * 2, none⟩)) rfl (by kernel_rfl) (by kernel_rfl) (by kernel_rfl) (fun _ _ _ h => h) (Or.inl ⟨by rfl, ?_⟩) hH ?_
            · intro w1 hS; (try dsimp only at hS); go_simp
            try simp only [Act.put, List.setIfInBounds_toArray, List.set_cons_zero, List.set_cons_succ]
            refine wpAnyH_take (i := 4) (oi := { dst := some 82, op := Op.load 35 (Operand.tmp 81), type := 35, pos := "laws.go:139", after := #[{ on := 3, ground := Ground.data }], guard := none }) (v := .agg #[.int .i8 A, .int .i8 B]) rfl (by kernel_rfl) (by kernel_rfl) (by kernel_rfl) (fun _ _ _ h => h) (Or.inl ⟨by rfl, ?_⟩) hH ?_
            · intro w1 hS; (try dsimp only at hS); have s0 : w1.cell? ⟨g, k * 2, none⟩ = some (.int .i8 A) := (by rw [cell_of_rowAt (brow hS gW)]; exact c0); have s1 : w1.cell? ⟨g, k * 2 + 1, none⟩ = some (.int .i8 B) := (by rw [cell_of_rowAt (brow hS gW)]; exact c1); go_simp
            try simp only [Act.put, List.setIfInBounds_toArray, List.set_cons_zero, List.set_cons_succ]
            refine wpAnyH_ready (rs := [5]) (by kernel_rfl) (by simp) (AllReadyH.cons (o := { dst := some 83, op := Op.call { callee := Callee.value (Operand.func 9), args := #[Operand.tmp 78, Operand.tmp 82], argTypes := #[28, 35] }, type := 32, pos := "laws.go:139", after := #[{ on := 0, ground := Ground.data }, { on := 4, ground := Ground.data }], guard := none }) rfl (fun K hK => ?_) AllReadyH.nil)
            go_simp
            refine (CB1 _).mono ?_
            rintro x wB1 ⟨vB1, rfl, lB1, bx⟩
            go_simp
            refine hK.out _ _ (bnext hH bx hH.size) (fun hG => ?_)
            clear hK K
            refine wpAnyH_now hG ?_
            clear hG hH
            replace bx := ((Below.refl wA2.heap.size wA2).drew).trans bx
            obtain ⟨aB1, cB1, rfl⟩ := lB1.shape
            replace rW := brow bx rW
            replace gW := brow bx gW
            replace hBw := Lib.hid (bnext hBw.out bx hBw.out.size)
            replace lA1 := lA1.below bx (Nat.le_refl _)
            replace lA2 := lA2.below bx (Nat.le_refl _)
            clear bx
            have hH := Below.refl wB1.heap.size wB1
            try simp only [Act.put, List.setIfInBounds_toArray, List.set_cons_zero, List.set_cons_succ]
            refine wpAnyH_take (i := 6) (oi := { dst := some 77, op := Op.move (Operand.tmp 83), type := 32, pos := "laws.go:139", after := #[{ on := 5, ground := Ground.data }], guard := none }) (v := .tuple #[.slice aB1 NB cB1, .int .i64 0]) rfl (by kernel_rfl) (by kernel_rfl) (by kernel_rfl) (fun _ _ _ h => h) (Or.inl ⟨by rfl, ?_⟩) hH ?_
            · intro w1 hS; (try dsimp only at hS); go_simp
            try simp only [Act.put, List.setIfInBounds_toArray, List.set_cons_zero, List.set_cons_succ]
            refine wpAnyH_take (i := 7) (oi := { dst := some 84, op := Op.extract (Operand.tmp 77) 0, type := 30, pos := "laws.go:139", after := #[{ on := 6, ground := Ground.data }], guard := none }) (v := .slice aB1 NB cB1) rfl (by kernel_rfl) (by kernel_rfl) (by kernel_rfl) (fun _ _ _ h => h) (Or.inl ⟨by rfl, ?_⟩) hH ?_
            · intro w1 hS; (try dsimp only at hS); go_simp
            try simp only [Act.put, List.setIfInBounds_toArray, List.set_cons_zero, List.set_cons_succ]
            refine wpAnyH_take (i := 8) (oi := { dst := some 85, op := Op.extract (Operand.tmp 77) 1, type := 2, pos := "laws.go:139", after := #[{ on := 6, ground := Ground.data }, { on := 9, ground := Ground.gcOnly Departure.lateStores }], guard := none }) (v := .int .i64 0) rfl (by kernel_rfl) (by kernel_rfl) (by kernel_rfl) (fun _ _ _ h => h) (Or.inl ⟨by rfl, ?_⟩) hH ?_
            · intro w1 hS; (try dsimp only at hS); go_simp
            try simp only [Act.put, List.setIfInBounds_toArray, List.set_cons_zero, List.set_cons_succ]
            refine wpAnyH_take (i := 9) (oi := { dst := some 13, op := Op.assign (Operand.tmp 84), type := 30, pos := "laws.go:139", after := #[{ on := 7, ground := Ground.data }, { on := 5, ground := Ground.chain }, { on := 0, ground := Ground.phase }, { on := 1, ground := Ground.phase }, { on := 2, ground := Ground.phase }, { on := 3, ground := Ground.phase }, { on := 4, ground := Ground.phase }, { on := 5, ground := Ground.phase }, { on := 6, ground := Ground.phase }, { on := 7, ground := Ground.phase }, { on := 8, ground := Ground.textOnly Departure.lateStores }], guard := none }) (v := .slice aB1 NB cB1) rfl (by kernel_rfl) (by kernel_rfl) (by kernel_rfl) (fun _ _ _ h => h) (Or.inl ⟨by rfl, ?_⟩) hH ?_
            · intro w1 hS; (try dsimp only at hS); go_simp
            try simp only [Act.put, List.setIfInBounds_toArray, List.set_cons_zero, List.set_cons_succ]
            refine wpAnyH_take (i := 10) (oi := { dst := some 14, op := Op.assign (Operand.tmp 85), type := 2, pos := "laws.go:139", after := #[{ on := 8, ground := Ground.data }, { on := 9, ground := Ground.chain }, { on := 0, ground := Ground.phase }, { on := 1, ground := Ground.phase }, { on := 2, ground := Ground.phase }, { on := 3, ground := Ground.phase }, { on := 4, ground := Ground.phase }, { on := 5, ground := Ground.phase }, { on := 6, ground := Ground.phase }, { on := 7, ground := Ground.phase }, { on := 8, ground := Ground.phase }, { on := 9, ground := Ground.phase }], guard := none }) (v := .int .i64 0) rfl (by kernel_rfl) (by kernel_rfl) (by kernel_rfl) (fun _ _ _ h => h) (Or.inl ⟨by rfl, ?_⟩) hH ?_
            · intro w1 hS; (try dsimp only at hS); go_simp
            try simp only [Act.put, List.setIfInBounds_toArray, List.set_cons_zero, List.set_cons_succ]
            refine wpAnyH_done (by kernel_rfl) ?_ _
            go_wp2_with fail
            as_aux_lemma =>
              refine wp_region_held_drew (S := fun w' => Below wB1.heap.size wB1 w') (by kernel_rfl) ((Below.refl _ _).drew) (fun hH => ?_)
              refine wpAnyH_take (i := 0) (oi := { dst := some 87, op := Op.load 28 (Operand.tmp 5), type := 28, pos := "laws.go:140", after := #[], guard := none }) (v := .agg c) rfl (by kernel_rfl) (by kernel_rfl) (by kernel_rfl) (fun _ _ _ h => h) (Or.inl ⟨by rfl, ?_⟩) hH ?_
              · intro w1 hS; (try dsimp only at hS); have s0 := brow hS rW; go_simp
              try simp only [Act.put, List.setIfInBounds_toArray, List.set_cons_zero, List.set_cons_succ]
              refine wpAnyH_take (i := 1) (oi := { dst := some 88, op := Op.move (Operand.tmp 6), type := 30, pos := "laws.go:140", after := #[], guard := none }) (v := .slice (some ⟨g, 0, none⟩) N cap) rfl (by kernel_rfl) (by kernel_rfl) (by kernel_rfl) (fun _ _ _ h => h) (Or.inl ⟨by rfl, ?_⟩) hH ?_
              · intro w1 hS; (try dsimp only at hS); go_simp
              try simp only [Act.put, List.setIfInBounds_toArray, List.set_cons_zero, List.set_cons_succ]
              refine wpAnyH_take (i := 2) (oi := { dst := some 89, op := Op.move (Operand.tmp 8), type := 3, pos := "laws.go:140", after := #[], guard := none }) (v := .int .i64 k) rfl (by kernel_rfl) (by kernel_rfl) (by kernel_rfl) (fun _ _ _ h => h) (Or.inl ⟨by rfl, ?_⟩) hH ?_
              · intro w1 hS; (try dsimp only at hS); go_simp
              try simp only [Act.put, List.setIfInBounds_toArray, List.set_cons_zero, List.set_cons_succ]
              refine wpAnyH_take (i := 3) (oi := { dst := some 90, op := Op.indexAddr 30 (Operand.tmp 88) (Operand.tmp 89), type := 0, pos := "laws.go:140", after := #[{ on := 1, ground := Ground.data }, { on := 2, ground := Ground.data }], guard := none }) (v := .pointer (some ⟨g, k * 2, none⟩)) rfl (by kernel_rfl) (by kernel_rfl) (by kernel_rfl) (fun _ _ _ h => h) (Or.inl ⟨by rfl, ?_⟩) hH ?_
              · intro w1 hS; (try dsimp only at hS); go_simp
              try simp only [Act.put, List.setIfInBounds_toArray, List.set_cons_zero, List.set_cons_succ]
              refine wpAnyH_take (i := 4) (oi := { dst := some 91, op := Op.load 35 (Operand.tmp 90), type := 35, pos := "laws.go:140", after := #[{ on := 3, ground := Ground.data }], guard := none }) (v := .agg #[.int .i8 A, .int .i8 B]) rfl (by kernel_rfl) (by kernel_rfl) (by kernel_rfl) (fun _ _ _ h => h) (Or.inl ⟨by rfl, ?_⟩) hH ?_
              · intro w1 hS; (try dsimp only at hS); have s0 : w1.cell? ⟨g, k * 2, none⟩ = some (.int .i8 A) := (by rw [cell_of_rowAt (brow hS gW)]; exact c0); have s1 : w1.cell? ⟨g, k * 2 + 1, none⟩ = some (.int .i8 B) := (by rw [cell_of_rowAt (brow hS gW)]; exact c1); go_simp
              try simp only [Act.put, List.setIfInBounds_toArray, List.set_cons_zero, List.set_cons_succ]
              refine wpAnyH_ready (rs := [5]) (by kernel_rfl) (by simp) (AllReadyH.cons (o := { dst := some 92, op := Op.call { callee := Callee.value (Operand.func 10), args := #[Operand.tmp 87, Operand.tmp 91], argTypes := #[28, 35] }, type := 32, pos := "laws.go:140", after := #[{ on := 0, ground := Ground.data }, { on := 4, ground := Ground.data }], guard := none }) rfl (fun K hK => ?_) AllReadyH.nil)
              go_simp
              refine (CB2 _).mono ?_
              rintro x wB2 ⟨vB2, rfl, lB2, bx⟩
              go_simp
              refine hK.out _ _ (bnext hH bx hH.size) (fun hG => ?_)
              clear hK K
              refine wpAnyH_now hG ?_
              clear hG hH
              replace bx := ((Below.refl wB1.heap.size wB1).drew).trans bx
              obtain ⟨aB2, cB2, rfl⟩ := lB2.shape
              replace rW := brow bx rW
              replace gW := brow bx gW
              replace hBw := Lib.hid (bnext hBw.out bx hBw.out.size)
              replace lA1 := lA1.below bx (Nat.le_refl _)
              replace lA2 := lA2.below bx (Nat.le_refl _)
              replace lB1 := lB1.below bx (Nat.le_refl _)
              clear bx
              have hH := Below.refl wB2.heap.size wB2
              try simp only [Act.put, List.setIfInBounds_toArray, List.set_cons_zero, List.set_cons_succ]
              refine wpAnyH_take (i := 6) (oi := { dst := some 86, op := Op.move (Operand.tmp 92), type := 32, pos := "laws.go:140", after := #[{ on := 5, ground := Ground.data }], guard := none }) (v := .tuple #[.slice aB2 NB cB2, .int .i64 0]) rfl (by kernel_rfl) (by kernel_rfl) (by kernel_rfl) (fun _ _ _ h => h) (Or.inl ⟨by rfl, ?_⟩) hH ?_
              · intro w1 hS; (try dsimp only at hS); go_simp
              try simp only [Act.put, List.setIfInBounds_toArray, List.set_cons_zero, List.set_cons_succ]
              refine wpAnyH_take (i := 7) (oi := { dst := some 93, op := Op.extract (Operand.tmp 86) 0, type := 30, pos := "laws.go:140", after := #[{ on := 6, ground := Ground.data }], guard := none }) (v := .slice aB2 NB cB2) rfl (by kernel_rfl) (by kernel_rfl) (by kernel_rfl) (fun _ _ _ h => h) (Or.inl ⟨by rfl, ?_⟩) hH ?_
              · intro w1 hS; (try dsimp only at hS); go_simp
              try simp only [Act.put, List.setIfInBounds_toArray, List.set_cons_zero, List.set_cons_succ]
              refine wpAnyH_take (i := 8) (oi := { dst := some 94, op := Op.extract (Operand.tmp 86) 1, type := 2, pos := "laws.go:140", after := #[{ on := 6, ground := Ground.data }, { on := 9, ground := Ground.gcOnly Departure.lateStores }], guard := none }) (v := .int .i64 0) rfl (by kernel_rfl) (by kernel_rfl) (by kernel_rfl) (fun _ _ _ h => h) (Or.inl ⟨by rfl, ?_⟩) hH ?_
              · intro w1 hS; (try dsimp only at hS); go_simp
              try simp only [Act.put, List.setIfInBounds_toArray, List.set_cons_zero, List.set_cons_succ]
              refine wpAnyH_take (i := 9) (oi := { dst := some 15, op := Op.assign (Operand.tmp 93), type := 30, pos := "laws.go:140", after := #[{ on := 7, ground := Ground.data }, { on := 5, ground := Ground.chain }, { on := 0, ground := Ground.phase }, { on := 1, ground := Ground.phase }, { on := 2, ground := Ground.phase }, { on := 3, ground := Ground.phase }, { on := 4, ground := Ground.phase }, { on := 5, ground := Ground.phase }, { on := 6, ground := Ground.phase }, { on := 7, ground := Ground.phase }, { on := 8, ground := Ground.textOnly Departure.lateStores }], guard := none }) (v := .slice aB2 NB cB2) rfl (by kernel_rfl) (by kernel_rfl) (by kernel_rfl) (fun _ _ _ h => h) (Or.inl ⟨by rfl, ?_⟩) hH ?_
              · intro w1 hS; (try dsimp only at hS); go_simp
              try simp only [Act.put, List.setIfInBounds_toArray, List.set_cons_zero, List.set_cons_succ]
              refine wpAnyH_take (i := 10) (oi := { dst := some 16, op := Op.assign (Operand.tmp 94), type := 2, pos := "laws.go:140", after := #[{ on := 8, ground := Ground.data }, { on := 9, ground := Ground.chain }, { on := 0, ground := Ground.phase }, { on := 1, ground := Ground.phase }, { on := 2, ground := Ground.phase }, { on := 3, ground := Ground.phase }, { on := 4, ground := Ground.phase }, { on := 5, ground := Ground.phase }, { on := 6, ground := Ground.phase }, { on := 7, ground := Ground.phase }, { on := 8, ground := Ground.phase }, { on := 9, ground := Ground.phase }], guard := none }) (v := .int .i64 0) rfl (by kernel_rfl) (by kernel_rfl) (by kernel_rfl) (fun _ _ _ h => h) (Or.inl ⟨by rfl, ?_⟩) hH ?_
              · intro w1 hS; (try dsimp only at hS); go_simp
              try simp only [Act.put, List.setIfInBounds_toArray, List.set_cons_zero, List.set_cons_succ]
              refine wpAnyH_done (by kernel_rfl) ?_ _
              go_wp2_with fail
              as_aux_lemma =>
                refine wp_region_held_drew (S := fun w' => Below wB2.heap.size wB2 w') (by kernel_rfl) ((Below.refl _ _).drew) (fun hH => ?_)
                refine wpAnyH_take (i := 0) (oi := { dst := some 96, op := Op.load 28 (Operand.tmp 5), type := 28, pos := "laws.go:141", after := #[], guard := none }) (v := .agg c) rfl (by kernel_rfl) (by kernel_rfl) (by kernel_rfl) (fun _ _ _ h => h) (Or.inl ⟨by rfl, ?_⟩) hH ?_
                · intro w1 hS; (try dsimp only at hS); have s0 := brow hS rW; go_simp
                try simp only [Act.put, List.setIfInBounds_toArray, List.set_cons_zero, List.set_cons_succ]
                refine wpAnyH_take (i := 1) (oi := { dst := some 97, op := Op.move (Operand.tmp 6), type := 30, pos := "laws.go:141", after := #[], guard := none }) (v := .slice (some ⟨g, 0, none⟩) N cap) rfl (by kernel_rfl) (by kernel_rfl) (by kernel_rfl) (fun _ _ _ h => h) (Or.inl ⟨by rfl, ?_⟩) hH ?_
                · intro w1 hS; (try dsimp only at hS); go_simp
                try simp only [Act.put, List.setIfInBounds_toArray, List.set_cons_zero, List.set_cons_succ]
                refine wpAnyH_take (i := 2) (oi := { dst := some 98, op := Op.move (Operand.tmp 8), type := 3, pos := "laws.go:141", after := #[], guard := none }) (v := .int .i64 k) rfl (by kernel_rfl) (by kernel_rfl) (by kernel_rfl) (fun _ _ _ h => h) (Or.inl ⟨by rfl, ?_⟩) hH ?_
                · intro w1 hS; (try dsimp only at hS); go_simp
                try simp only [Act.put, List.setIfInBounds_toArray, List.set_cons_zero, List.set_cons_succ]
                refine wpAnyH_take (i := 3) (oi := { dst := some 99, op := Op.indexAddr 30 (Operand.tmp 97) (Operand.tmp 98), type := 0, pos := "laws.go:141", after := #[{ on := 1, ground := Ground.data }, { on := 2, ground := Ground.data }], guard := none }) (v := .pointer (some ⟨g, k * 2, none⟩)) rfl (by kernel_rfl) (by kernel_rfl) (by kernel_rfl) (fun _ _ _ h => h) (Or.inl ⟨by rfl, ?_⟩) hH ?_
                · intro w1 hS; (try dsimp only at hS); go_simp
                try simp only [Act.put, List.setIfInBounds_toArray, List.set_cons_zero, List.set_cons_succ]
                refine wpAnyH_take (i := 4) (oi := { dst := some 100, op := Op.load 35 (Operand.tmp 99), type := 35, pos := "laws.go:141", after := #[{ on := 3, ground := Ground.data }], guard := none }) (v := .agg #[.int .i8 A, .int .i8 B]) rfl (by kernel_rfl) (by kernel_rfl) (by kernel_rfl) (fun _ _ _ h => h) (Or.inl ⟨by rfl, ?_⟩) hH ?_
                · intro w1 hS; (try dsimp only at hS); have s0 : w1.cell? ⟨g, k * 2, none⟩ = some (.int .i8 A) := (by rw [cell_of_rowAt (brow hS gW)]; exact c0); have s1 : w1.cell? ⟨g, k * 2 + 1, none⟩ = some (.int .i8 B) := (by rw [cell_of_rowAt (brow hS gW)]; exact c1); go_simp
                try simp only [Act.put, List.setIfInBounds_toArray, List.set_cons_zero, List.set_cons_succ]
                refine wpAnyH_ready (rs := [5]) (by kernel_rfl) (by simp) (AllReadyH.cons (o := { dst := some 101, op := Op.call { callee := Callee.value (Operand.func 11), args := #[Operand.tmp 96, Operand.tmp 100], argTypes := #[28, 35] }, type := 37, pos := "laws.go:141", after := #[{ on := 0, ground := Ground.data }, { on := 4, ground := Ground.data }], guard := none }) rfl (fun K hK => ?_) AllReadyH.nil)
                go_simp
                refine (CC1 _).mono ?_
                rintro x wC1 ⟨vC1, rfl, lC1, bx⟩
                go_simp
                refine hK.out _ _ (bnext hH bx hH.size) (fun hG => ?_)
                clear hK K
                refine wpAnyH_now hG ?_
                clear hG hH
                replace bx := ((Below.refl wB2.heap.size wB2).drew).trans bx
                obtain ⟨aC1, cC1, rfl⟩ := lC1.shape
                replace rW := brow bx rW
                replace gW := brow bx gW
                replace hBw := Lib.hid (bnext hBw.out bx hBw.out.size)
                replace lA1 := lA1.below bx (Nat.le_refl _)
                replace lA2 := lA2.below bx (Nat.le_refl _)
                replace lB1 := lB1.below bx (Nat.le_refl _)
                replace lB2 := lB2.below bx (Nat.le_refl _)
                clear bx
                have hH := Below.refl wC1.heap.size wC1
                try simp only [Act.put, List.setIfInBounds_toArray, List.set_cons_zero, List.set_cons_succ]
                refine wpAnyH_take (i := 6) (oi := { dst := some 95, op := Op.move (Operand.tmp 101), type := 37, pos := "laws.go:141", after := #[{ on := 5, ground := Ground.data }], guard := none }) (v := .tuple #[.slice aC1 2 cC1, .int .i64 0]) rfl (by kernel_rfl) (by kernel_rfl) (by kernel_rfl) (fun _ _ _ h => h) (Or.inl ⟨by rfl, ?_⟩) hH ?_
                · intro w1 hS; (try dsimp only at hS); go_simp
                try simp only [Act.put, List.setIfInBounds_toArray, List.set_cons_zero, List.set_cons_succ]
                refine wpAnyH_take (i := 7) (oi := { dst := some 102, op := Op.extract (Operand.tmp 95) 0, type := 36, pos := "laws.go:141", after := #[{ on := 6, ground := Ground.data }], guard := none }) (v := .slice aC1 2 cC1) rfl (by kernel_rfl) (by kernel_rfl) (by kernel_rfl) (fun _ _ _ h => h) (Or.inl ⟨by rfl, ?_⟩) hH ?_
                · intro w1 hS; (try dsimp only at hS); go_simp
                try simp only [Act.put, List.setIfInBounds_toArray, List.set_cons_zero, List.set_cons_succ]
                refine wpAnyH_take (i := 8) (oi := { dst := some 103, op := Op.extract (Operand.tmp 95) 1, type := 2, pos := "laws.go:141", after := #[{ on := 6, ground := Ground.data }, { on := 9, ground := Ground.gcOnly Departure.lateStores }], guard := none }) (v := .int .i64 0) rfl (by kernel_rfl) (by kernel_rfl) (by kernel_rfl) (fun _ _ _ h => h) (Or.inl ⟨by rfl, ?_⟩) hH ?_
                · intro w1 hS; (try dsimp only at hS); go_simp
                try simp only [Act.put, List.setIfInBounds_toArray, List.set_cons_zero, List.set_cons_succ]
                refine wpAnyH_take (i := 9) (oi := { dst := some 17, op := Op.assign (Operand.tmp 102), type := 36, pos := "laws.go:141", after := #[{ on := 7, ground := Ground.data }, { on := 5, ground := Ground.chain }, { on := 0, ground := Ground.phase }, { on := 1, ground := Ground.phase }, { on := 2, ground := Ground.phase }, { on := 3, ground := Ground.phase }, { on := 4, ground := Ground.phase }, { on := 5, ground := Ground.phase }, { on := 6, ground := Ground.phase }, { on := 7, ground := Ground.phase }, { on := 8, ground := Ground.textOnly Departure.lateStores }], guard := none }) (v := .slice aC1 2 cC1) rfl (by kernel_rfl) (by kernel_rfl) (by kernel_rfl) (fun _ _ _ h => h) (Or.inl ⟨by rfl, ?_⟩) hH ?_
                · intro w1 hS; (try dsimp only at hS); go_simp
                try simp only [Act.put, List.setIfInBounds_toArray, List.set_cons_zero, List.set_cons_succ]
                refine wpAnyH_take (i := 10) (oi := { dst := some 18, op := Op.assign (Operand.tmp 103), type := 2, pos := "laws.go:141", after := #[{ on := 8, ground := Ground.data }, { on := 9, ground := Ground.chain }, { on := 0, ground := Ground.phase }, { on := 1, ground := Ground.phase }, { on := 2, ground := Ground.phase }, { on := 3, ground := Ground.phase }, { on := 4, ground := Ground.phase }, { on := 5, ground := Ground.phase }, { on := 6, ground := Ground.phase }, { on := 7, ground := Ground.phase }, { on := 8, ground := Ground.phase }, { on := 9, ground := Ground.phase }], guard := none }) (v := .int .i64 0) rfl (by kernel_rfl) (by kernel_rfl) (by kernel_rfl) (fun _ _ _ h => h) (Or.inl ⟨by rfl, ?_⟩) hH ?_
                · intro w1 hS; (try dsimp only at hS); go_simp
                try simp only [Act.put, List.setIfInBounds_toArray, List.set_cons_zero, List.set_cons_succ]
                refine wpAnyH_done (by kernel_rfl) ?_ _
                go_wp2_with fail
                as_aux_lemma =>
                  refine wp_region_held_drew (S := fun w' => Below wC1.heap.size wC1 w') (by kernel_rfl) ((Below.refl _ _).drew) (fun hH => ?_)
                  refine wpAnyH_take (i := 0) (oi := { dst := some 105, op := Op.load 28 (Operand.tmp 5), type := 28, pos := "laws.go:142", after := #[], guard := none }) (v := .agg c) rfl (by kernel_rfl) (by kernel_rfl) (by kernel_rfl) (fun _ _ _ h => h) (Or.inl ⟨by rfl, ?_⟩) hH ?_
                  · intro w1 hS; (try dsimp only at hS); have s0 := brow hS rW; go_simp
                  try simp only [Act.put, List.setIfInBounds_toArray, List.set_cons_zero, List.set_cons_succ]
                  refine wpAnyH_take (i := 1) (oi := { dst := some 106, op := Op.move (Operand.tmp 6), type := 30, pos := "laws.go:142", after := #[], guard := none }) (v := .slice (some ⟨g, 0, none⟩) N cap) rfl (by kernel_rfl) (by kernel_rfl) (by kernel_rfl) (fun _ _ _ h => h) (Or.inl ⟨by rfl, ?_⟩) hH ?_
                  · intro w1 hS; (try dsimp only at hS); go_simp
                  try simp only [Act.put, List.setIfInBounds_toArray, List.set_cons_zero, List.set_cons_succ]
                  refine wpAnyH_take (i := 2) (oi := { dst := some 107, op := Op.move (Operand.tmp 8), type := 3, pos := "laws.go:142", after := #[], guard := none }) (v := .int .i64 k) rfl (by kernel_rfl) (by kernel_rfl) (by kernel_rfl) (fun _ _ _ h => h) (Or.inl ⟨by rfl, ?_⟩) hH ?_
                  · intro w1 hS; (try dsimp only at hS); go_simp
                  try simp only [Act.put, List.setIfInBounds_toArray, List.set_cons_zero, List.set_cons_succ]
                  refine wpAnyH_take (i := 3) (oi := { dst := some 108, op := Op.indexAddr 30 (Operand.tmp 106) (Operand.tmp 107), type := 0, pos := "laws.go:142", after := #[{ on := 1, ground := Ground.data }, { on := 2, ground := Ground.data }], guard := none }) (v := .pointer (some ⟨g, k * 2, none⟩)) rfl (by kernel_rfl) (by kernel_rfl) (by kernel_rfl) (fun _ _ _ h => h) (Or.inl ⟨by rfl, ?_⟩) hH ?_
                  · intro w1 hS; (try dsimp only at hS); go_simp
                  try simp only [Act.put, List.setIfInBounds_toArray, List.set_cons_zero, List.set_cons_succ]
                  refine wpAnyH_take (i := 4) (oi := { dst := some 109, op := Op.load 35 (Operand.tmp 108), type := 35, pos := "laws.go:142", after := #[{ on := 3, ground := Ground.data }], guard := none }) (v := .agg #[.int .i8 A, .int .i8 B]) rfl (by kernel_rfl) (by kernel_rfl) (by kernel_rfl) (fun _ _ _ h => h) (Or.inl ⟨by rfl, ?_⟩) hH ?_
                  · intro w1 hS; (try dsimp only at hS); have s0 : w1.cell? ⟨g, k * 2, none⟩ = some (.int .i8 A) := (by rw [cell_of_rowAt (brow hS gW)]; exact c0); have s1 : w1.cell? ⟨g, k * 2 + 1, none⟩ = some (.int .i8 B) := (by rw [cell_of_rowAt (brow hS gW)]; exact c1); go_simp
                  try simp only [Act.put, List.setIfInBounds_toArray, List.set_cons_zero, List.set_cons_succ]
                  refine wpAnyH_ready (rs := [5]) (by kernel_rfl) (by simp) (AllReadyH.cons (o := { dst := some 110, op := Op.call { callee := Callee.value (Operand.func 12), args := #[Operand.tmp 105, Operand.tmp 109], argTypes := #[28, 35] }, type := 37, pos := "laws.go:142", after := #[{ on := 0, ground := Ground.data }, { on := 4, ground := Ground.data }], guard := none }) rfl (fun K hK => ?_) AllReadyH.nil)
                  go_simp
                  refine (CC2 _).mono ?_
                  rintro x wC2 ⟨vC2, rfl, lC2, bx⟩
                  go_simp
                  refine hK.out _ _ (bnext hH bx hH.size) (fun hG => ?_)
                  clear hK K
                  refine wpAnyH_now hG ?_
                  clear hG hH
                  replace bx := ((Below.refl wC1.heap.size wC1).drew).trans bx
                  rcases lC2 with ⟨h0, _⟩ | ⟨gc, cC2, curc, rfl, hgc, rC, hsc, hfc⟩
                  · omega
                  replace hgc := Nat.zero_le gc
                  replace rW := brow bx rW
                  replace gW := brow bx gW
                  replace hBw := Lib.hid (bnext hBw.out bx hBw.out.size)
                  replace lA1 := lA1.below bx (Nat.le_refl _)
                  replace lA2 := lA2.below bx (Nat.le_refl _)
                  replace lB1 := lB1.below bx (Nat.le_refl _)
                  replace lB2 := lB2.below bx (Nat.le_refl _)
                  replace lC1 := lC1.below bx (Nat.le_refl _)
                  clear bx
                  have hH := Below.refl wC2.heap.size wC2
                  try simp only [Act.put, List.setIfInBounds_toArray, List.set_cons_zero, List.set_cons_succ]
                  refine wpAnyH_take (i := 6) (oi := { dst := some 104, op := Op.move (Operand.tmp 110), type := 37, pos := "laws.go:142", after := #[{ on := 5, ground := Ground.data }], guard := none }) (v := .tuple #[.slice (some ⟨gc, 0, none⟩) 2 cC2, .int .i64 0]) rfl (by kernel_rfl) (by kernel_rfl) (by kernel_rfl) (fun _ _ _ h => h) (Or.inl ⟨by rfl, ?_⟩) hH ?_
                  · intro w1 hS; (try dsimp only at hS); go_simp
                  try simp only [Act.put, List.setIfInBounds_toArray, List.set_cons_zero, List.set_cons_succ]
                  refine wpAnyH_take (i := 7) (oi := { dst := some 111, op := Op.extract (Operand.tmp 104) 0, type := 36, pos := "laws.go:142", after := #[{ on := 6, ground := Ground.data }], guard := none }) (v := .slice (some ⟨gc, 0, none⟩) 2 cC2) rfl (by kernel_rfl) (by kernel_rfl) (by kernel_rfl) (fun _ _ _ h => h) (Or.inl ⟨by rfl, ?_⟩) hH ?_
                  · intro w1 hS; (try dsimp only at hS); go_simp
                  try simp only [Act.put, List.setIfInBounds_toArray, List.set_cons_zero, List.set_cons_succ]
                  refine wpAnyH_take (i := 8) (oi := { dst := some 112, op := Op.extract (Operand.tmp 104) 1, type := 2, pos := "laws.go:142", after := #[{ on := 6, ground := Ground.data }, { on := 9, ground := Ground.gcOnly Departure.lateStores }], guard := none }) (v := .int .i64 0) rfl (by kernel_rfl) (by kernel_rfl) (by kernel_rfl) (fun _ _ _ h => h) (Or.inl ⟨by rfl, ?_⟩) hH ?_
                  · intro w1 hS; (try dsimp only at hS); go_simp
                  try simp only [Act.put, List.setIfInBounds_toArray, List.set_cons_zero, List.set_cons_succ]
                  refine wpAnyH_take (i := 9) (oi := { dst := some 19, op := Op.assign (Operand.tmp 111), type := 36, pos := "laws.go:142", after := #[{ on := 7, ground := Ground.data }, { on := 5, ground := Ground.chain }, { on := 0, ground := Ground.phase }, { on := 1, ground := Ground.phase }, { on := 2, ground := Ground.phase }, { on := 3, ground := Ground.phase }, { on := 4, ground := Ground.phase }, { on := 5, ground := Ground.phase }, { on := 6, ground := Ground.phase }, { on := 7, ground := Ground.phase }, { on := 8, ground := Ground.textOnly Departure.lateStores }], guard := none }) (v := .slice (some ⟨gc, 0, none⟩) 2 cC2) rfl (by kernel_rfl) (by kernel_rfl) (by kernel_rfl) (fun _ _ _ h => h) (Or.inl ⟨by rfl, ?_⟩) hH ?_
                  · intro w1 hS; (try dsimp only at hS); go_simp
                  try simp only [Act.put, List.setIfInBounds_toArray, List.set_cons_zero, List.set_cons_succ]
                  refine wpAnyH_take (i := 10) (oi := { dst := some 20, op := Op.assign (Operand.tmp 112), type := 2, pos := "laws.go:142", after := #[{ on := 8, ground := Ground.data }, { on := 9, ground := Ground.chain }, { on := 0, ground := Ground.phase }, { on := 1, ground := Ground.phase }, { on := 2, ground := Ground.phase }, { on := 3, ground := Ground.phase }, { on := 4, ground := Ground.phase }, { on := 5, ground := Ground.phase }, { on := 6, ground := Ground.phase }, { on := 7, ground := Ground.phase }, { on := 8, ground := Ground.phase }, { on := 9, ground := Ground.phase }], guard := none }) (v := .int .i64 0) rfl (by kernel_rfl) (by kernel_rfl) (by kernel_rfl) (fun _ _ _ h => h) (Or.inl ⟨by rfl, ?_⟩) hH ?_
                  · intro w1 hS; (try dsimp only at hS); go_simp
                  try simp only [Act.put, List.setIfInBounds_toArray, List.set_cons_zero, List.set_cons_succ]
                  refine wpAnyH_done (by kernel_rfl) ?_ _
                  go_wp2_with fail
                  clear CA1 CA2 CB1 CB2 CC1 CC2
                  have fC0 : curc[0]? = some (.int .i64 X0) := by rw [← HPk.out.c0]; exact hfc 0 (by omega)
                  have fC1 : curc[1]? = some (.int .i64 (X0 + 1)) := by rw [← HPk.out.c1]; exact hfc 1 (by omega)
                  have nA3 := HPk.out.na
                  have nB3 := HPk.out.nb
                  have k1 := HPk.out.k1
                  have hX1 : IntKind.i64.wrap (X0 + 1) = X0 + 1 := by have := HPk.out.x0; rw [IntKind.wrap_i64]; omega
                  have rh1 : IntKind.i8.wrap (rh - 1) = rh - 1 := IntWalk.i8_in _ (by have := HPk.out.rhe; omega)
                  have hbA0 := HPk.out.a0
                  have hbA1 := HPk.out.a1
                  have hbA2 : ((NA : Int) == 0) = bA := by rw [← hbA0, Bool.eq_iff_iff]; simp
                  have hbA3 : ((A : Int) == 0) = bA := by rw [← hbA1, Bool.eq_iff_iff]; simp
                  have hbA4 : (NA == 0) = bA := by rw [← hbA0]; rfl
                  have hbA5 : (A == 0) = bA := by rw [← hbA1]; rfl
                  have hbB0 := HPk.out.b0
                  have hbB1 := HPk.out.b1
                  have hbB2 : ((NB : Int) == 0) = bB := by rw [← hbB0, Bool.eq_iff_iff]; simp
                  have hbB3 : ((A : Int) == rh - 1) = bB := by rw [← hbB1]; rfl
                  have hbB4 : (NB == 0) = bB := by rw [← hbB0]; rfl
                  have nA4 : decide ((2 : Int) < NA) = false := by simp; omega
                  have nB4 : decide ((2 : Int) < NB) = false := by simp; omega
                  as_aux_lemma =>
                    refine wp_region_held_drew (S := fun w' => Below wC2.heap.size wC2 w') (by kernel_rfl) ((Below.refl _ _).drew) (fun hH => ?_)
                    refine wpAnyH_take (i := 0) (oi := { dst := some 113, op := Op.move (Operand.tmp 10), type := 2, pos := "laws.go:143", after := #[], guard := none }) (v := .int .i64 0) rfl (by kernel_rfl) (by kernel_rfl) (by kernel_rfl) (fun _ _ _ h => h) (Or.inl ⟨by rfl, ?_⟩) hH ?_
                    · intro w1 hS; (try dsimp only at hS); go_simp
                    try simp only [Act.put, List.setIfInBounds_toArray, List.set_cons_zero, List.set_cons_succ]
                    refine wpAnyH_take (i := 1) (oi := { dst := some 114, op := Op.move (Operand.tmp 12), type := 2, pos := "laws.go:143", after := #[], guard := none }) (v := .int .i64 0) rfl (by kernel_rfl) (by kernel_rfl) (by kernel_rfl) (fun _ _ _ h => h) (Or.inl ⟨by rfl, ?_⟩) hH ?_
                    · intro w1 hS; (try dsimp only at hS); go_simp
                    try simp only [Act.put, List.setIfInBounds_toArray, List.set_cons_zero, List.set_cons_succ]
                    refine wpAnyH_take (i := 2) (oi := { dst := some 115, op := Op.binOp BinOp.neq 2 (Operand.tmp 113) (Operand.tmp 114) 2, type := 4, pos := "laws.go:143", after := #[{ on := 0, ground := Ground.data }, { on := 1, ground := Ground.data }], guard := none }) (v := .bool false) rfl (by kernel_rfl) (by kernel_rfl) (by kernel_rfl) (fun _ _ _ h => h) (Or.inl ⟨by rfl, ?_⟩) hH ?_
                    · intro w1 hS; (try dsimp only at hS); go_simp
                    try simp only [Act.put, List.setIfInBounds_toArray, List.set_cons_zero, List.set_cons_succ]
                    refine wpAnyH_take (i := 3) (oi := { dst := some 116, op := Op.move (Operand.tmp 115), type := 4, pos := "laws.go:143", after := #[{ on := 2, ground := Ground.data }], guard := none }) (v := .bool false) rfl (by kernel_rfl) (by kernel_rfl) (by kernel_rfl) (fun _ _ _ h => h) (Or.inl ⟨by rfl, ?_⟩) hH ?_
                    · intro w1 hS; (try dsimp only at hS); go_simp
                    try simp only [Act.put, List.setIfInBounds_toArray, List.set_cons_zero, List.set_cons_succ]
                    refine wpAnyH_take (i := 4) (oi := { dst := some 117, op := Op.move (Operand.tmp 10), type := 2, pos := "laws.go:143", after := #[{ on := 3, ground := Ground.guard }], guard := some (3, false) }) (v := .int .i64 0) rfl (by kernel_rfl) (by kernel_rfl) (by kernel_rfl) (fun _ _ _ h => h) (Or.inl ⟨by rfl, ?_⟩) hH ?_
                    · intro w1 hS; (try dsimp only at hS); go_simp
                    try simp only [Act.put, List.setIfInBounds_toArray, List.set_cons_zero, List.set_cons_succ]
                    refine wpAnyH_take (i := 5) (oi := { dst := some 118, op := Op.binOp BinOp.neq 2 (Operand.tmp 117) (Operand.const (Value.int IntKind.i64 0)) 2, type := 4, pos := "laws.go:143", after := #[{ on := 4, ground := Ground.data }, { on := 3, ground := Ground.guard }], guard := some (3, false) }) (v := .bool false) rfl (by kernel_rfl) (by kernel_rfl) (by kernel_rfl) (fun _ _ _ h => h) (Or.inl ⟨by rfl, ?_⟩) hH ?_
                    · intro w1 hS; (try dsimp only at hS); go_simp
                    try simp only [Act.put, List.setIfInBounds_toArray, List.set_cons_zero, List.set_cons_succ]
                    refine wpAnyH_take (i := 6) (oi := { dst := some 119, op := Op.pick (Operand.tmp 116) (Operand.const (Value.bool true)) (Operand.tmp 118), type := 4, pos := "laws.go:143", after := #[{ on := 3, ground := Ground.data }, { on := 5, ground := Ground.data }], guard := none }) (v := .bool false) rfl (by kernel_rfl) (by kernel_rfl) (by kernel_rfl) (fun _ _ _ h => h) (Or.inl ⟨by rfl, ?_⟩) hH ?_
                    · intro w1 hS; (try dsimp only at hS); go_simp
                    try simp only [Act.put, List.setIfInBounds_toArray, List.set_cons_zero, List.set_cons_succ]
                    refine wpAnyH_take (i := 7) (oi := { dst := some 120, op := Op.move (Operand.tmp 119), type := 4, pos := "laws.go:143", after := #[{ on := 6, ground := Ground.data }, { on := 3, ground := Ground.chain }], guard := none }) (v := .bool false) rfl (by kernel_rfl) (by kernel_rfl) (by kernel_rfl) (fun _ _ _ h => h) (Or.inl ⟨by rfl, ?_⟩) hH ?_
                    · intro w1 hS; (try dsimp only at hS); go_simp
                    try simp only [Act.put, List.setIfInBounds_toArray, List.set_cons_zero, List.set_cons_succ]
                    refine wpAnyH_take (i := 8) (oi := { dst := some 121, op := Op.move (Operand.tmp 9), type := 30, pos := "laws.go:143", after := #[{ on := 7, ground := Ground.guard }], guard := some (7, false) }) (v := .slice aA1 NA cA1) rfl (by kernel_rfl) (by kernel_rfl) (by kernel_rfl) (fun _ _ _ h => h) (Or.inl ⟨by rfl, ?_⟩) hH ?_
                    · intro w1 hS; (try dsimp only at hS); go_simp
                    try simp only [Act.put, List.setIfInBounds_toArray, List.set_cons_zero, List.set_cons_succ]
                    refine wpAnyH_take (i := 9) (oi := { dst := some 122, op := Op.move (Operand.tmp 11), type := 30, pos := "laws.go:143", after := #[{ on := 7, ground := Ground.guard }], guard := some (7, false) }) (v := .slice aA2 NA cA2) rfl (by kernel_rfl) (by kernel_rfl) (by kernel_rfl) (fun _ _ _ h => h) (Or.inl ⟨by rfl, ?_⟩) hH ?_
                    · intro w1 hS; (try dsimp only at hS); go_simp
                    try simp only [Act.put, List.setIfInBounds_toArray, List.set_cons_zero, List.set_cons_succ]
                    refine wpAnyH_ready (rs := [10]) (by kernel_rfl) (by simp) (AllReadyH.cons (o := { dst := some 123, op := Op.call { callee := Callee.value (Operand.func 13), args := #[Operand.tmp 121, Operand.tmp 122], argTypes := #[30, 30] }, type := 4, pos := "laws.go:143", after := #[{ on := 8, ground := Ground.data }, { on := 9, ground := Ground.data }, { on := 7, ground := Ground.chain }, { on := 7, ground := Ground.guard }], guard := some (7, false) }) rfl (fun K hK => ?_) AllReadyH.nil)
                    go_simp
                    refine (samePlaces_any NA FA _ _ _ _ wC2.drew lA1 lA2 (by omega)).mono ?_
                    rintro x wS1 ⟨rfl, bx⟩
                    go_simp
                    refine hK.out _ _ (bnext hH bx hH.size) (fun hG => ?_)
                    clear hK K
                    refine wpAnyH_now hG ?_
                    clear hG hH
                    replace bx := ((Below.refl wC2.heap.size wC2).drew).trans bx
                    replace rW := brow bx rW
                    replace gW := brow bx gW
                    replace hBw := Lib.hid (bnext hBw.out bx hBw.out.size)
                    replace lB1 := lB1.below bx (Nat.le_refl _)
                    replace lB2 := lB2.below bx (Nat.le_refl _)
                    replace lC1 := lC1.below bx (Nat.le_refl _)
                    replace rC := brow bx rC
                    clear bx
                    have hH := Below.refl wS1.heap.size wS1
                    try simp only [Act.put, List.setIfInBounds_toArray, List.set_cons_zero, List.set_cons_succ]
                    refine wpAnyH_take (i := 11) (oi := { dst := some 124, op := Op.unOp UnOp.not 4 (Operand.tmp 123), type := 4, pos := "laws.go:143", after := #[{ on := 10, ground := Ground.data }, { on := 7, ground := Ground.guard }], guard := some (7, false) }) (v := .bool false) rfl (by kernel_rfl) (by kernel_rfl) (by kernel_rfl) (fun _ _ _ h => h) (Or.inl ⟨by rfl, ?_⟩) hH ?_
                    · intro w1 hS; (try dsimp only at hS); go_simp
                    try simp only [Act.put, List.setIfInBounds_toArray, List.set_cons_zero, List.set_cons_succ]
                    refine wpAnyH_take (i := 12) (oi := { dst := some 125, op := Op.pick (Operand.tmp 120) (Operand.const (Value.bool true)) (Operand.tmp 124), type := 4, pos := "laws.go:143", after := #[{ on := 7, ground := Ground.data }, { on := 11, ground := Ground.data }], guard := none }) (v := .bool false) rfl (by kernel_rfl) (by kernel_rfl) (by kernel_rfl) (fun _ _ _ h => h) (Or.inl ⟨by rfl, ?_⟩) hH ?_
                    · intro w1 hS; (try dsimp only at hS); go_simp
                    try simp only [Act.put, List.setIfInBounds_toArray, List.set_cons_zero, List.set_cons_succ]
                    as_aux_lemma =>
                      refine wpAnyH_take (i := 13) (oi := { dst := some 126, op := Op.move (Operand.tmp 125), type := 4, pos := "laws.go:143", after := #[{ on := 12, ground := Ground.data }, { on := 10, ground := Ground.chain }], guard := none }) (v := .bool false) rfl (by kernel_rfl) (by kernel_rfl) (by kernel_rfl) (fun _ _ _ h => h) (Or.inl ⟨by rfl, ?_⟩) hH ?_
                      · intro w1 hS; (try dsimp only at hS); go_simp
                      try simp only [Act.put, List.setIfInBounds_toArray, List.set_cons_zero, List.set_cons_succ]
                      refine wpAnyH_take (i := 14) (oi := { dst := some 127, op := Op.move (Operand.tmp 14), type := 2, pos := "laws.go:143", after := #[{ on := 13, ground := Ground.guard }], guard := some (13, false) }) (v := .int .i64 0) rfl (by kernel_rfl) (by kernel_rfl) (by kernel_rfl) (fun _ _ _ h => h) (Or.inl ⟨by rfl, ?_⟩) hH ?_
                      · intro w1 hS; (try dsimp only at hS); go_simp
                      try simp only [Act.put, List.setIfInBounds_toArray, List.set_cons_zero, List.set_cons_succ]
                      refine wpAnyH_take (i := 15) (oi := { dst := some 128, op := Op.move (Operand.tmp 16), type := 2, pos := "laws.go:143", after := #[{ on := 13, ground := Ground.guard }], guard := some (13, false) }) (v := .int .i64 0) rfl (by kernel_rfl) (by kernel_rfl) (by kernel_rfl) (fun _ _ _ h => h) (Or.inl ⟨by rfl, ?_⟩) hH ?_
                      · intro w1 hS; (try dsimp only at hS); go_simp
                      try simp only [Act.put, List.setIfInBounds_toArray, List.set_cons_zero, List.set_cons_succ]
                      refine wpAnyH_take (i := 16) (oi := { dst := some 129, op := Op.binOp BinOp.neq 2 (Operand.tmp 127) (Operand.tmp 128) 2, type := 4, pos := "laws.go:143", after := #[{ on := 14, ground := Ground.data }, { on := 15, ground := Ground.data }, { on := 13, ground := Ground.guard }], guard := some (13, false) }) (v := .bool false) rfl (by kernel_rfl) (by kernel_rfl) (by kernel_rfl) (fun _ _ _ h => h) (Or.inl ⟨by rfl, ?_⟩) hH ?_
                      · intro w1 hS; (try dsimp only at hS); go_simp
                      try simp only [Act.put, List.setIfInBounds_toArray, List.set_cons_zero, List.set_cons_succ]
                      refine wpAnyH_take (i := 17) (oi := { dst := some 130, op := Op.pick (Operand.tmp 126) (Operand.const (Value.bool true)) (Operand.tmp 129), type := 4, pos := "laws.go:143", after := #[{ on := 13, ground := Ground.data }, { on := 16, ground := Ground.data }], guard := none }) (v := .bool false) rfl (by kernel_rfl) (by kernel_rfl) (by kernel_rfl) (fun _ _ _ h => h) (Or.inl ⟨by rfl, ?_⟩) hH ?_
                      · intro w1 hS; (try dsimp only at hS); go_simp
                      try simp only [Act.put, List.setIfInBounds_toArray, List.set_cons_zero, List.set_cons_succ]
                      refine wpAnyH_take (i := 18) (oi := { dst := some 131, op := Op.move (Operand.tmp 130), type := 4, pos := "laws.go:143", after := #[{ on := 17, ground := Ground.data }, { on := 13, ground := Ground.chain }], guard := none }) (v := .bool false) rfl (by kernel_rfl) (by kernel_rfl) (by kernel_rfl) (fun _ _ _ h => h) (Or.inl ⟨by rfl, ?_⟩) hH ?_
                      · intro w1 hS; (try dsimp only at hS); go_simp
                      try simp only [Act.put, List.setIfInBounds_toArray, List.set_cons_zero, List.set_cons_succ]
                      refine wpAnyH_take (i := 19) (oi := { dst := some 132, op := Op.move (Operand.tmp 14), type := 2, pos := "laws.go:143", after := #[{ on := 18, ground := Ground.guard }], guard := some (18, false) }) (v := .int .i64 0) rfl (by kernel_rfl) (by kernel_rfl) (by kernel_rfl) (fun _ _ _ h => h) (Or.inl ⟨by rfl, ?_⟩) hH ?_
                      · intro w1 hS; (try dsimp only at hS); go_simp
                      try simp only [Act.put, List.setIfInBounds_toArray, List.set_cons_zero, List.set_cons_succ]
                      refine wpAnyH_take (i := 20) (oi := { dst := some 133, op := Op.binOp BinOp.neq 2 (Operand.tmp 132) (Operand.const (Value.int IntKind.i64 0)) 2, type := 4, pos := "laws.go:143", after := #[{ on := 19, ground := Ground.data }, { on := 18, ground := Ground.guard }], guard := some (18, false) }) (v := .bool false) rfl (by kernel_rfl) (by kernel_rfl) (by kernel_rfl) (fun _ _ _ h => h) (Or.inl ⟨by rfl, ?_⟩) hH ?_
                      · intro w1 hS; (try dsimp only at hS); go_simp
                      try simp only [Act.put, List.setIfInBounds_toArray, List.set_cons_zero, List.set_cons_succ]
                      refine wpAnyH_take (i := 21) (oi := { dst := some 134, op := Op.pick (Operand.tmp 131) (Operand.const (Value.bool true)) (Operand.tmp 133), type := 4, pos := "laws.go:143", after := #[{ on := 18, ground := Ground.data }, { on := 20, ground := Ground.data }], guard := none }) (v := .bool false) rfl (by kernel_rfl) (by kernel_rfl) (by kernel_rfl) (fun _ _ _ h => h) (Or.inl ⟨by rfl, ?_⟩) hH ?_
                      · intro w1 hS; (try dsimp only at hS); go_simp
                      try simp only [Act.put, List.setIfInBounds_toArray, List.set_cons_zero, List.set_cons_succ]
                      refine wpAnyH_take (i := 22) (oi := { dst := some 135, op := Op.move (Operand.tmp 134), type := 4, pos := "laws.go:143", after := #[{ on := 21, ground := Ground.data }, { on := 18, ground := Ground.chain }], guard := none }) (v := .bool false) rfl (by kernel_rfl) (by kernel_rfl) (by kernel_rfl) (fun _ _ _ h => h) (Or.inl ⟨by rfl, ?_⟩) hH ?_
                      · intro w1 hS; (try dsimp only at hS); go_simp
                      try simp only [Act.put, List.setIfInBounds_toArray, List.set_cons_zero, List.set_cons_succ]
                      refine wpAnyH_take (i := 23) (oi := { dst := some 136, op := Op.move (Operand.tmp 13), type := 30, pos := "laws.go:143", after := #[{ on := 22, ground := Ground.guard }], guard := some (22, false) }) (v := .slice aB1 NB cB1) rfl (by kernel_rfl) (by kernel_rfl) (by kernel_rfl) (fun _ _ _ h => h) (Or.inl ⟨by rfl, ?_⟩) hH ?_
                      · intro w1 hS; (try dsimp only at hS); go_simp
                      try simp only [Act.put, List.setIfInBounds_toArray, List.set_cons_zero, List.set_cons_succ]
                      refine wpAnyH_take (i := 24) (oi := { dst := some 137, op := Op.move (Operand.tmp 15), type := 30, pos := "laws.go:143", after := #[{ on := 22, ground := Ground.guard }], guard := some (22, false) }) (v := .slice aB2 NB cB2) rfl (by kernel_rfl) (by kernel_rfl) (by kernel_rfl) (fun _ _ _ h => h) (Or.inl ⟨by rfl, ?_⟩) hH ?_
                      · intro w1 hS; (try dsimp only at hS); go_simp
                      try simp only [Act.put, List.setIfInBounds_toArray, List.set_cons_zero, List.set_cons_succ]
                      refine wpAnyH_ready (rs := [25]) (by kernel_rfl) (by simp) (AllReadyH.cons (o := { dst := some 138, op := Op.call { callee := Callee.value (Operand.func 13), args := #[Operand.tmp 136, Operand.tmp 137], argTypes := #[30, 30] }, type := 4, pos := "laws.go:143", after := #[{ on := 23, ground := Ground.data }, { on := 24, ground := Ground.data }, { on := 22, ground := Ground.chain }, { on := 22, ground := Ground.guard }], guard := some (22, false) }) rfl (fun K hK => ?_) AllReadyH.nil)
                      go_simp
                      refine (samePlaces_any NB FB _ _ _ _ _ lB1 lB2 (by omega)).mono ?_
                      rintro x wS2 ⟨rfl, bx⟩
                      go_simp
                      refine hK.out _ _ (bnext hH bx hH.size) (fun hG => ?_)
                      clear hK K
                      refine wpAnyH_now hG ?_
                      clear hG hH
                      replace rW := brow bx rW
                      replace gW := brow bx gW
                      replace hBw := Lib.hid (bnext hBw.out bx hBw.out.size)
                      replace lB2 := lB2.below bx (Nat.le_refl _)
                      replace lC1 := lC1.below bx (Nat.le_refl _)
                      replace rC := brow bx rC
                      clear bx
                      have hH := Below.refl wS2.heap.size wS2
                      try simp only [Act.put, List.setIfInBounds_toArray, List.set_cons_zero, List.set_cons_succ]
                      refine wpAnyH_take (i := 26) (oi := { dst := some 139, op := Op.unOp UnOp.not 4 (Operand.tmp 138), type := 4, pos := "laws.go:143", after := #[{ on := 25, ground := Ground.data }, { on := 22, ground := Ground.guard }], guard := some (22, false) }) (v := .bool false) rfl (by kernel_rfl) (by kernel_rfl) (by kernel_rfl) (fun _ _ _ h => h) (Or.inl ⟨by rfl, ?_⟩) hH ?_
                      · intro w1 hS; (try dsimp only at hS); go_simp
                      try simp only [Act.put, List.setIfInBounds_toArray, List.set_cons_zero, List.set_cons_succ]
                      as_aux_lemma =>
                        refine wpAnyH_take (i := 27) (oi := { dst := some 140, op := Op.pick (Operand.tmp 135) (Operand.const (Value.bool true)) (Operand.tmp 139), type := 4, pos := "laws.go:143", after := #[{ on := 22, ground := Ground.data }, { on := 26, ground := Ground.data }], guard := none }) (v := .bool false) rfl (by kernel_rfl) (by kernel_rfl) (by kernel_rfl) (fun _ _ _ h => h) (Or.inl ⟨by rfl, ?_⟩) hH ?_
                        · intro w1 hS; (try dsimp only at hS); go_simp
                        try simp only [Act.put, List.setIfInBounds_toArray, List.set_cons_zero, List.set_cons_succ]
                        refine wpAnyH_take (i := 28) (oi := { dst := some 141, op := Op.move (Operand.tmp 140), type := 4, pos := "laws.go:143", after := #[{ on := 27, ground := Ground.data }, { on := 25, ground := Ground.chain }], guard := none }) (v := .bool false) rfl (by kernel_rfl) (by kernel_rfl) (by kernel_rfl) (fun _ _ _ h => h) (Or.inl ⟨by rfl, ?_⟩) hH ?_
                        · intro w1 hS; (try dsimp only at hS); go_simp
                        try simp only [Act.put, List.setIfInBounds_toArray, List.set_cons_zero, List.set_cons_succ]
                        refine wpAnyH_take (i := 29) (oi := { dst := some 142, op := Op.move (Operand.tmp 18), type := 2, pos := "laws.go:143", after := #[{ on := 28, ground := Ground.guard }], guard := some (28, false) }) (v := .int .i64 0) rfl (by kernel_rfl) (by kernel_rfl) (by kernel_rfl) (fun _ _ _ h => h) (Or.inl ⟨by rfl, ?_⟩) hH ?_
                        · intro w1 hS; (try dsimp only at hS); go_simp
                        try simp only [Act.put, List.setIfInBounds_toArray, List.set_cons_zero, List.set_cons_succ]
                        refine wpAnyH_take (i := 30) (oi := { dst := some 143, op := Op.move (Operand.tmp 20), type := 2, pos := "laws.go:143", after := #[{ on := 28, ground := Ground.guard }], guard := some (28, false) }) (v := .int .i64 0) rfl (by kernel_rfl) (by kernel_rfl) (by kernel_rfl) (fun _ _ _ h => h) (Or.inl ⟨by rfl, ?_⟩) hH ?_
                        · intro w1 hS; (try dsimp only at hS); go_simp
                        try simp only [Act.put, List.setIfInBounds_toArray, List.set_cons_zero, List.set_cons_succ]
                        refine wpAnyH_take (i := 31) (oi := { dst := some 144, op := Op.binOp BinOp.neq 2 (Operand.tmp 142) (Operand.tmp 143) 2, type := 4, pos := "laws.go:143", after := #[{ on := 29, ground := Ground.data }, { on := 30, ground := Ground.data }, { on := 28, ground := Ground.guard }], guard := some (28, false) }) (v := .bool false) rfl (by kernel_rfl) (by kernel_rfl) (by kernel_rfl) (fun _ _ _ h => h) (Or.inl ⟨by rfl, ?_⟩) hH ?_
                        · intro w1 hS; (try dsimp only at hS); go_simp
                        try simp only [Act.put, List.setIfInBounds_toArray, List.set_cons_zero, List.set_cons_succ]
                        refine wpAnyH_take (i := 32) (oi := { dst := some 145, op := Op.pick (Operand.tmp 141) (Operand.const (Value.bool true)) (Operand.tmp 144), type := 4, pos := "laws.go:143", after := #[{ on := 28, ground := Ground.data }, { on := 31, ground := Ground.data }], guard := none }) (v := .bool false) rfl (by kernel_rfl) (by kernel_rfl) (by kernel_rfl) (fun _ _ _ h => h) (Or.inl ⟨by rfl, ?_⟩) hH ?_
                        · intro w1 hS; (try dsimp only at hS); go_simp
                        try simp only [Act.put, List.setIfInBounds_toArray, List.set_cons_zero, List.set_cons_succ]
                        refine wpAnyH_take (i := 33) (oi := { dst := some 146, op := Op.move (Operand.tmp 145), type := 4, pos := "laws.go:143", after := #[{ on := 32, ground := Ground.data }, { on := 28, ground := Ground.chain }], guard := none }) (v := .bool false) rfl (by kernel_rfl) (by kernel_rfl) (by kernel_rfl) (fun _ _ _ h => h) (Or.inl ⟨by rfl, ?_⟩) hH ?_
                        · intro w1 hS; (try dsimp only at hS); go_simp
                        try simp only [Act.put, List.setIfInBounds_toArray, List.set_cons_zero, List.set_cons_succ]
                        refine wpAnyH_take (i := 34) (oi := { dst := some 147, op := Op.move (Operand.tmp 18), type := 2, pos := "laws.go:143", after := #[{ on := 33, ground := Ground.guard }], guard := some (33, false) }) (v := .int .i64 0) rfl (by kernel_rfl) (by kernel_rfl) (by kernel_rfl) (fun _ _ _ h => h) (Or.inl ⟨by rfl, ?_⟩) hH ?_
                        · intro w1 hS; (try dsimp only at hS); go_simp
                        try simp only [Act.put, List.setIfInBounds_toArray, List.set_cons_zero, List.set_cons_succ]
                        refine wpAnyH_take (i := 35) (oi := { dst := some 148, op := Op.binOp BinOp.neq 2 (Operand.tmp 147) (Operand.const (Value.int IntKind.i64 0)) 2, type := 4, pos := "laws.go:143", after := #[{ on := 34, ground := Ground.data }, { on := 33, ground := Ground.guard }], guard := some (33, false) }) (v := .bool false) rfl (by kernel_rfl) (by kernel_rfl) (by kernel_rfl) (fun _ _ _ h => h) (Or.inl ⟨by rfl, ?_⟩) hH ?_
                        · intro w1 hS; (try dsimp only at hS); go_simp
                        try simp only [Act.put, List.setIfInBounds_toArray, List.set_cons_zero, List.set_cons_succ]
                        refine wpAnyH_take (i := 36) (oi := { dst := some 149, op := Op.pick (Operand.tmp 146) (Operand.const (Value.bool true)) (Operand.tmp 148), type := 4, pos := "laws.go:143", after := #[{ on := 33, ground := Ground.data }, { on := 35, ground := Ground.data }], guard := none }) (v := .bool false) rfl (by kernel_rfl) (by kernel_rfl) (by kernel_rfl) (fun _ _ _ h => h) (Or.inl ⟨by rfl, ?_⟩) hH ?_
                        · intro w1 hS; (try dsimp only at hS); go_simp
                        try simp only [Act.put, List.setIfInBounds_toArray, List.set_cons_zero, List.set_cons_succ]
                        refine wpAnyH_take (i := 37) (oi := { dst := some 150, op := Op.move (Operand.tmp 149), type := 4, pos := "laws.go:143", after := #[{ on := 36, ground := Ground.data }, { on := 33, ground := Ground.chain }], guard := none }) (v := .bool false) rfl (by kernel_rfl) (by kernel_rfl) (by kernel_rfl) (fun _ _ _ h => h) (Or.inl ⟨by rfl, ?_⟩) hH ?_
                        · intro w1 hS; (try dsimp only at hS); go_simp
                        try simp only [Act.put, List.setIfInBounds_toArray, List.set_cons_zero, List.set_cons_succ]
                        refine wpAnyH_take (i := 38) (oi := { dst := some 151, op := Op.move (Operand.tmp 17), type := 36, pos := "laws.go:143", after := #[{ on := 37, ground := Ground.guard }], guard := some (37, false) }) (v := .slice aC1 2 cC1) rfl (by kernel_rfl) (by kernel_rfl) (by kernel_rfl) (fun _ _ _ h => h) (Or.inl ⟨by rfl, ?_⟩) hH ?_
                        · intro w1 hS; (try dsimp only at hS); go_simp
                        try simp only [Act.put, List.setIfInBounds_toArray, List.set_cons_zero, List.set_cons_succ]
                        refine wpAnyH_take (i := 39) (oi := { dst := some 152, op := Op.move (Operand.tmp 19), type := 36, pos := "laws.go:143", after := #[{ on := 37, ground := Ground.guard }], guard := some (37, false) }) (v := .slice (some ⟨gc, 0, none⟩) 2 cC2) rfl (by kernel_rfl) (by kernel_rfl) (by kernel_rfl) (fun _ _ _ h => h) (Or.inl ⟨by rfl, ?_⟩) hH ?_
                        · intro w1 hS; (try dsimp only at hS); go_simp
                        try simp only [Act.put, List.setIfInBounds_toArray, List.set_cons_zero, List.set_cons_succ]
                        refine wpAnyH_ready (rs := [40]) (by kernel_rfl) (by simp) (AllReadyH.cons (o := { dst := some 153, op := Op.call { callee := Callee.value (Operand.func 14), args := #[Operand.tmp 151, Operand.tmp 152], argTypes := #[36, 36] }, type := 4, pos := "laws.go:143", after := #[{ on := 38, ground := Ground.data }, { on := 39, ground := Ground.data }, { on := 37, ground := Ground.chain }, { on := 37, ground := Ground.guard }], guard := some (37, false) }) rfl (fun K hK => ?_) AllReadyH.nil)
                        go_simp
                        refine (A2Same_any 2 CF _ _ _ _ _ lC1 (.inr ⟨gc, cC2, curc, rfl, hgc, rC, hsc, hfc⟩) (by omega)).mono ?_
                        rintro x wS ⟨rfl, bx⟩
                        go_simp
                        refine hK.out _ _ (bnext hH bx hH.size) (fun hG => ?_)
                        clear hK K
                        refine wpAnyH_now hG ?_
                        clear hG hH
                        replace rW := brow bx rW
                        replace gW := brow bx gW
                        replace hBw := Lib.hid (bnext hBw.out bx hBw.out.size)
                        replace lB2 := lB2.below bx (Nat.le_refl _)
                        replace rC := brow bx rC
                        clear bx
                        have hH := Below.refl wS.heap.size wS
                        try simp only [Act.put, List.setIfInBounds_toArray, List.set_cons_zero, List.set_cons_succ]
                        as_aux_lemma =>
                          refine wpAnyH_take (i := 41) (oi := { dst := some 154, op := Op.unOp UnOp.not 4 (Operand.tmp 153), type := 4, pos := "laws.go:143", after := #[{ on := 40, ground := Ground.data }, { on := 37, ground := Ground.guard }], guard := some (37, false) }) (v := .bool false) rfl (by kernel_rfl) (by kernel_rfl) (by kernel_rfl) (fun _ _ _ h => h) (Or.inl ⟨by rfl, ?_⟩) hH ?_
                          · intro w1 hS; (try dsimp only at hS); go_simp
                          try simp only [Act.put, List.setIfInBounds_toArray, List.set_cons_zero, List.set_cons_succ]
                          refine wpAnyH_take (i := 42) (oi := { dst := some 155, op := Op.pick (Operand.tmp 150) (Operand.const (Value.bool true)) (Operand.tmp 154), type := 4, pos := "laws.go:143", after := #[{ on := 37, ground := Ground.data }, { on := 41, ground := Ground.data }], guard := none }) (v := .bool false) rfl (by kernel_rfl) (by kernel_rfl) (by kernel_rfl) (fun _ _ _ h => h) (Or.inl ⟨by rfl, ?_⟩) hH ?_
                          · intro w1 hS; (try dsimp only at hS); go_simp
                          try simp only [Act.put, List.setIfInBounds_toArray, List.set_cons_zero, List.set_cons_succ]
                          refine wpAnyH_take (i := 43) (oi := { dst := some 156, op := Op.move (Operand.tmp 155), type := 4, pos := "laws.go:143", after := #[{ on := 42, ground := Ground.data }, { on := 40, ground := Ground.chain }], guard := none }) (v := .bool false) rfl (by kernel_rfl) (by kernel_rfl) (by kernel_rfl) (fun _ _ _ h => h) (Or.inl ⟨by rfl, ?_⟩) hH ?_
                          · intro w1 hS; (try dsimp only at hS); go_simp
                          try simp only [Act.put, List.setIfInBounds_toArray, List.set_cons_zero, List.set_cons_succ]
                          refine wpAnyH_take (i := 44) (oi := { dst := some 157, op := Op.move (Operand.tmp 19), type := 36, pos := "laws.go:143", after := #[{ on := 43, ground := Ground.guard }], guard := some (43, false) }) (v := .slice (some ⟨gc, 0, none⟩) 2 cC2) rfl (by kernel_rfl) (by kernel_rfl) (by kernel_rfl) (fun _ _ _ h => h) (Or.inl ⟨by rfl, ?_⟩) hH ?_
                          · intro w1 hS; (try dsimp only at hS); go_simp
                          try simp only [Act.put, List.setIfInBounds_toArray, List.set_cons_zero, List.set_cons_succ]
                          refine wpAnyH_take (i := 45) (oi := { dst := some 158, op := Op.call { callee := Callee.builtin Builtin.len, args := #[Operand.tmp 157], argTypes := #[36] }, type := 3, pos := "laws.go:143", after := #[{ on := 44, ground := Ground.data }, { on := 43, ground := Ground.guard }], guard := some (43, false) }) (v := .int .i64 2) rfl (by kernel_rfl) (by kernel_rfl) (by kernel_rfl) (fun _ _ _ h => h) (Or.inl ⟨by rfl, ?_⟩) hH ?_
                          · intro w1 hS; (try dsimp only at hS); go_simp
                          try simp only [Act.put, List.setIfInBounds_toArray, List.set_cons_zero, List.set_cons_succ]
                          refine wpAnyH_take (i := 46) (oi := { dst := some 159, op := Op.binOp BinOp.neq 3 (Operand.tmp 158) (Operand.const (Value.int IntKind.i64 2)) 3, type := 4, pos := "laws.go:143", after := #[{ on := 45, ground := Ground.data }, { on := 43, ground := Ground.guard }], guard := some (43, false) }) (v := .bool false) rfl (by kernel_rfl) (by kernel_rfl) (by kernel_rfl) (fun _ _ _ h => h) (Or.inl ⟨by rfl, ?_⟩) hH ?_
                          · intro w1 hS; (try dsimp only at hS); go_simp
                          try simp only [Act.put, List.setIfInBounds_toArray, List.set_cons_zero, List.set_cons_succ]
                          refine wpAnyH_take (i := 47) (oi := { dst := some 160, op := Op.pick (Operand.tmp 156) (Operand.const (Value.bool true)) (Operand.tmp 159), type := 4, pos := "laws.go:143", after := #[{ on := 43, ground := Ground.data }, { on := 46, ground := Ground.data }], guard := none }) (v := .bool false) rfl (by kernel_rfl) (by kernel_rfl) (by kernel_rfl) (fun _ _ _ h => h) (Or.inl ⟨by rfl, ?_⟩) hH ?_
                          · intro w1 hS; (try dsimp only at hS); go_simp
                          try simp only [Act.put, List.setIfInBounds_toArray, List.set_cons_zero, List.set_cons_succ]
                          refine wpAnyH_take (i := 48) (oi := { dst := some 161, op := Op.move (Operand.tmp 160), type := 4, pos := "laws.go:143", after := #[{ on := 47, ground := Ground.data }, { on := 43, ground := Ground.chain }], guard := none }) (v := .bool false) rfl (by kernel_rfl) (by kernel_rfl) (by kernel_rfl) (fun _ _ _ h => h) (Or.inl ⟨by rfl, ?_⟩) hH ?_
                          · intro w1 hS; (try dsimp only at hS); go_simp
                          try simp only [Act.put, List.setIfInBounds_toArray, List.set_cons_zero, List.set_cons_succ]
                          refine wpAnyH_take (i := 49) (oi := { dst := some 162, op := Op.move (Operand.tmp 19), type := 36, pos := "laws.go:143", after := #[{ on := 48, ground := Ground.guard }], guard := some (48, false) }) (v := .slice (some ⟨gc, 0, none⟩) 2 cC2) rfl (by kernel_rfl) (by kernel_rfl) (by kernel_rfl) (fun _ _ _ h => h) (Or.inl ⟨by rfl, ?_⟩) hH ?_
                          · intro w1 hS; (try dsimp only at hS); go_simp
                          try simp only [Act.put, List.setIfInBounds_toArray, List.set_cons_zero, List.set_cons_succ]
                          refine wpAnyH_take (i := 50) (oi := { dst := some 163, op := Op.indexAddr 36 (Operand.tmp 162) (Operand.const (Value.int IntKind.i64 1)), type := 0, pos := "laws.go:143", after := #[{ on := 49, ground := Ground.data }, { on := 48, ground := Ground.guard }], guard := some (48, false) }) (v := .pointer (some ⟨gc, 1, none⟩)) rfl (by kernel_rfl) (by kernel_rfl) (by kernel_rfl) (fun _ _ _ h => h) (Or.inl ⟨by rfl, ?_⟩) hH ?_
                          · intro w1 hS; (try dsimp only at hS); go_simp
                          try simp only [Act.put, List.setIfInBounds_toArray, List.set_cons_zero, List.set_cons_succ]
                          refine wpAnyH_take (i := 51) (oi := { dst := some 164, op := Op.load 2 (Operand.tmp 163), type := 2, pos := "laws.go:143", after := #[{ on := 50, ground := Ground.data }, { on := 48, ground := Ground.guard }], guard := some (48, false) }) (v := .int .i64 (X0 + 1)) rfl (by kernel_rfl) (by kernel_rfl) (by kernel_rfl) (fun _ _ _ h => h) (Or.inl ⟨by rfl, ?_⟩) hH ?_
                          · intro w1 hS; (try dsimp only at hS); have s0 : w1.cell? ⟨gc, 1, none⟩ = some (.int .i64 (X0 + 1)) := (by rw [cell_of_rowAt (brow hS rC)]; exact fC1); go_simp
                          try simp only [Act.put, List.setIfInBounds_toArray, List.set_cons_zero, List.set_cons_succ]
                          refine wpAnyH_take (i := 52) (oi := { dst := some 165, op := Op.move (Operand.tmp 19), type := 36, pos := "laws.go:143", after := #[{ on := 48, ground := Ground.guard }], guard := some (48, false) }) (v := .slice (some ⟨gc, 0, none⟩) 2 cC2) rfl (by kernel_rfl) (by kernel_rfl) (by kernel_rfl) (fun _ _ _ h => h) (Or.inl ⟨by rfl, ?_⟩) hH ?_
                          · intro w1 hS; (try dsimp only at hS); go_simp
                          try simp only [Act.put, List.setIfInBounds_toArray, List.set_cons_zero, List.set_cons_succ]
                          refine wpAnyH_take (i := 53) (oi := { dst := some 166, op := Op.indexAddr 36 (Operand.tmp 165) (Operand.const (Value.int IntKind.i64 0)), type := 0, pos := "laws.go:143", after := #[{ on := 52, ground := Ground.data }, { on := 48, ground := Ground.guard }], guard := some (48, false) }) (v := .pointer (some ⟨gc, 0, none⟩)) rfl (by kernel_rfl) (by kernel_rfl) (by kernel_rfl) (fun _ _ _ h => h) (Or.inl ⟨by rfl, ?_⟩) hH ?_
                          · intro w1 hS; (try dsimp only at hS); go_simp
                          try simp only [Act.put, List.setIfInBounds_toArray, List.set_cons_zero, List.set_cons_succ]
                          refine wpAnyH_take (i := 54) (oi := { dst := some 167, op := Op.load 2 (Operand.tmp 166), type := 2, pos := "laws.go:143", after := #[{ on := 53, ground := Ground.data }, { on := 48, ground := Ground.guard }], guard := some (48, false) }) (v := .int .i64 X0) rfl (by kernel_rfl) (by kernel_rfl) (by kernel_rfl) (fun _ _ _ h => h) (Or.inl ⟨by rfl, ?_⟩) hH ?_
                          · intro w1 hS; (try dsimp only at hS); have s0 : w1.cell? ⟨gc, 0, none⟩ = some (.int .i64 X0) := (by rw [cell_of_rowAt (brow hS rC)]; exact fC0); go_simp
                          try simp only [Act.put, List.setIfInBounds_toArray, List.set_cons_zero, List.set_cons_succ]
                          as_aux_lemma =>
                            refine wpAnyH_take (i := 55) (oi := { dst := some 168, op := Op.binOp BinOp.add 2 (Operand.tmp 167) (Operand.const (Value.int IntKind.i64 1)) 2, type := 2, pos := "laws.go:143", after := #[{ on := 54, ground := Ground.data }, { on := 48, ground := Ground.guard }], guard := some (48, false) }) (v := .int .i64 (X0 + 1)) rfl (by kernel_rfl) (by kernel_rfl) (by kernel_rfl) (fun _ _ _ h => h) (Or.inl ⟨by rfl, ?_⟩) hH ?_
                            · intro w1 hS; (try dsimp only at hS); go_simp
                            try simp only [Act.put, List.setIfInBounds_toArray, List.set_cons_zero, List.set_cons_succ]
                            refine wpAnyH_take (i := 56) (oi := { dst := some 169, op := Op.binOp BinOp.neq 2 (Operand.tmp 164) (Operand.tmp 168) 2, type := 4, pos := "laws.go:143", after := #[{ on := 51, ground := Ground.data }, { on := 55, ground := Ground.data }, { on := 48, ground := Ground.guard }], guard := some (48, false) }) (v := .bool false) rfl (by kernel_rfl) (by kernel_rfl) (by kernel_rfl) (fun _ _ _ h => h) (Or.inl ⟨by rfl, ?_⟩) hH ?_
                            · intro w1 hS; (try dsimp only at hS); go_simp
                            try simp only [Act.put, List.setIfInBounds_toArray, List.set_cons_zero, List.set_cons_succ]
                            refine wpAnyH_take (i := 57) (oi := { dst := some 170, op := Op.pick (Operand.tmp 161) (Operand.const (Value.bool true)) (Operand.tmp 169), type := 4, pos := "laws.go:143", after := #[{ on := 48, ground := Ground.data }, { on := 56, ground := Ground.data }], guard := none }) (v := .bool false) rfl (by kernel_rfl) (by kernel_rfl) (by kernel_rfl) (fun _ _ _ h => h) (Or.inl ⟨by rfl, ?_⟩) hH ?_
                            · intro w1 hS; (try dsimp only at hS); go_simp
                            try simp only [Act.put, List.setIfInBounds_toArray, List.set_cons_zero, List.set_cons_succ]
                            refine wpAnyH_take (i := 58) (oi := { dst := some 171, op := Op.move (Operand.tmp 170), type := 4, pos := "laws.go:143", after := #[{ on := 57, ground := Ground.data }, { on := 48, ground := Ground.chain }], guard := none }) (v := .bool false) rfl (by kernel_rfl) (by kernel_rfl) (by kernel_rfl) (fun _ _ _ h => h) (Or.inl ⟨by rfl, ?_⟩) hH ?_
                            · intro w1 hS; (try dsimp only at hS); go_simp
                            try simp only [Act.put, List.setIfInBounds_toArray, List.set_cons_zero, List.set_cons_succ]
                            refine wpAnyH_take (i := 59) (oi := { dst := some 172, op := Op.move (Operand.tmp 11), type := 30, pos := "laws.go:143", after := #[{ on := 58, ground := Ground.guard }], guard := some (58, false) }) (v := .slice aA2 NA cA2) rfl (by kernel_rfl) (by kernel_rfl) (by kernel_rfl) (fun _ _ _ h => h) (Or.inl ⟨by rfl, ?_⟩) hH ?_
                            · intro w1 hS; (try dsimp only at hS); go_simp
                            try simp only [Act.put, List.setIfInBounds_toArray, List.set_cons_zero, List.set_cons_succ]
                            refine wpAnyH_take (i := 60) (oi := { dst := some 173, op := Op.call { callee := Callee.builtin Builtin.len, args := #[Operand.tmp 172], argTypes := #[30] }, type := 3, pos := "laws.go:143", after := #[{ on := 59, ground := Ground.data }, { on := 58, ground := Ground.guard }], guard := some (58, false) }) (v := .int .i64 NA) rfl (by kernel_rfl) (by kernel_rfl) (by kernel_rfl) (fun _ _ _ h => h) (Or.inl ⟨by rfl, ?_⟩) hH ?_
                            · intro w1 hS; (try dsimp only at hS); go_simp
                            try simp only [Act.put, List.setIfInBounds_toArray, List.set_cons_zero, List.set_cons_succ]
                            refine wpAnyH_take (i := 61) (oi := { dst := some 174, op := Op.binOp BinOp.eql 3 (Operand.tmp 173) (Operand.const (Value.int IntKind.i64 0)) 3, type := 4, pos := "laws.go:143", after := #[{ on := 60, ground := Ground.data }, { on := 58, ground := Ground.guard }], guard := some (58, false) }) (v := .bool bA) rfl (by kernel_rfl) (by kernel_rfl) (by kernel_rfl) (fun _ _ _ h => h) (Or.inl ⟨by rfl, ?_⟩) hH ?_
                            · intro w1 hS; (try dsimp only at hS); go_simp
                            try simp only [Act.put, List.setIfInBounds_toArray, List.set_cons_zero, List.set_cons_succ]
                            refine wpAnyH_take (i := 62) (oi := { dst := some 175, op := Op.move (Operand.tmp 6), type := 30, pos := "laws.go:143", after := #[{ on := 58, ground := Ground.guard }], guard := some (58, false) }) (v := .slice (some ⟨g, 0, none⟩) N cap) rfl (by kernel_rfl) (by kernel_rfl) (by kernel_rfl) (fun _ _ _ h => h) (Or.inl ⟨by rfl, ?_⟩) hH ?_
                            · intro w1 hS; (try dsimp only at hS); go_simp
                            try simp only [Act.put, List.setIfInBounds_toArray, List.set_cons_zero, List.set_cons_succ]
                            refine wpAnyH_take (i := 63) (oi := { dst := some 176, op := Op.move (Operand.tmp 8), type := 3, pos := "laws.go:143", after := #[{ on := 58, ground := Ground.guard }], guard := some (58, false) }) (v := .int .i64 k) rfl (by kernel_rfl) (by kernel_rfl) (by kernel_rfl) (fun _ _ _ h => h) (Or.inl ⟨by rfl, ?_⟩) hH ?_
                            · intro w1 hS; (try dsimp only at hS); go_simp
                            try simp only [Act.put, List.setIfInBounds_toArray, List.set_cons_zero, List.set_cons_succ]
                            refine wpAnyH_take (i := 64) (oi := { dst := some 177, op := Op.indexAddr 30 (Operand.tmp 175) (Operand.tmp 176), type := 0, pos := "laws.go:143", after := #[{ on := 62, ground := Ground.data }, { on := 63, ground := Ground.data }, { on := 58, ground := Ground.guard }], guard := some (58, false) }) (v := .pointer (some ⟨g, k * 2, none⟩)) rfl (by kernel_rfl) (by kernel_rfl) (by kernel_rfl) (fun _ _ _ h => h) (Or.inl ⟨by rfl, ?_⟩) hH ?_
                            · intro w1 hS; (try dsimp only at hS); go_simp
                            try simp only [Act.put, List.setIfInBounds_toArray, List.set_cons_zero, List.set_cons_succ]
                            refine wpAnyH_take (i := 65) (oi := { dst := some 178, op := Op.fieldAddr 35 (Operand.tmp 177) 0, type := 0, pos := "laws.go:143", after := #[{ on := 64, ground := Ground.data }, { on := 58, ground := Ground.guard }], guard := some (58, false) }) (v := .pointer (some ⟨g, k * 2, none⟩)) rfl (by kernel_rfl) (by kernel_rfl) (by kernel_rfl) (fun _ _ _ h => h) (Or.inl ⟨by rfl, ?_⟩) hH ?_
                            · intro w1 hS; (try dsimp only at hS); go_simp
                            try simp only [Act.put, List.setIfInBounds_toArray, List.set_cons_zero, List.set_cons_succ]
                            refine wpAnyH_take (i := 66) (oi := { dst := some 179, op := Op.load 24 (Operand.tmp 178), type := 24, pos := "laws.go:143", after := #[{ on := 65, ground := Ground.data }, { on := 58, ground := Ground.guard }], guard := some (58, false) }) (v := .int .i8 A) rfl (by kernel_rfl) (by kernel_rfl) (by kernel_rfl) (fun _ _ _ h => h) (Or.inl ⟨by rfl, ?_⟩) hH ?_
                            · intro w1 hS; (try dsimp only at hS); have s0 : w1.cell? ⟨g, k * 2, none⟩ = some (.int .i8 A) := (by rw [cell_of_rowAt (brow hS gW)]; exact c0); have s1 : w1.cell? ⟨g, k * 2 + 1, none⟩ = some (.int .i8 B) := (by rw [cell_of_rowAt (brow hS gW)]; exact c1); go_simp
                            try simp only [Act.put, List.setIfInBounds_toArray, List.set_cons_zero, List.set_cons_succ]
                            refine wpAnyH_take (i := 67) (oi := { dst := some 180, op := Op.binOp BinOp.eql 24 (Operand.tmp 179) (Operand.const (Value.int IntKind.i8 0)) 24, type := 4, pos := "laws.go:143", after := #[{ on := 66, ground := Ground.data }, { on := 58, ground := Ground.guard }], guard := some (58, false) }) (v := .bool bA) rfl (by kernel_rfl) (by kernel_rfl) (by kernel_rfl) (fun _ _ _ h => h) (Or.inl ⟨by rfl, ?_⟩) hH ?_
                            · intro w1 hS; (try dsimp only at hS); go_simp
                            try simp only [Act.put, List.setIfInBounds_toArray, List.set_cons_zero, List.set_cons_succ]
                            refine wpAnyH_take (i := 68) (oi := { dst := some 181, op := Op.binOp BinOp.neq 4 (Operand.tmp 174) (Operand.tmp 180) 4, type := 4, pos := "laws.go:143", after := #[{ on := 61, ground := Ground.data }, { on := 67, ground := Ground.data }, { on := 58, ground := Ground.guard }], guard := some (58, false) }) (v := .bool false) rfl (by kernel_rfl) (by kernel_rfl) (by kernel_rfl) (fun _ _ _ h => h) (Or.inl ⟨by rfl, ?_⟩) hH ?_
                            · intro w1 hS; (try dsimp only at hS); go_simp
                            try simp only [Act.put, List.setIfInBounds_toArray, List.set_cons_zero, List.set_cons_succ]
                            as_aux_lemma =>
                              refine wpAnyH_take (i := 69) (oi := { dst := some 182, op := Op.pick (Operand.tmp 171) (Operand.const (Value.bool true)) (Operand.tmp 181), type := 4, pos := "laws.go:143", after := #[{ on := 58, ground := Ground.data }, { on := 68, ground := Ground.data }], guard := none }) (v := .bool false) rfl (by kernel_rfl) (by kernel_rfl) (by kernel_rfl) (fun _ _ _ h => h) (Or.inl ⟨by rfl, ?_⟩) hH ?_
                              · intro w1 hS; (try dsimp only at hS); go_simp
                              try simp only [Act.put, List.setIfInBounds_toArray, List.set_cons_zero, List.set_cons_succ]
                              refine wpAnyH_take (i := 70) (oi := { dst := some 183, op := Op.move (Operand.tmp 182), type := 4, pos := "laws.go:143", after := #[{ on := 69, ground := Ground.data }, { on := 58, ground := Ground.chain }], guard := none }) (v := .bool false) rfl (by kernel_rfl) (by kernel_rfl) (by kernel_rfl) (fun _ _ _ h => h) (Or.inl ⟨by rfl, ?_⟩) hH ?_
                              · intro w1 hS; (try dsimp only at hS); go_simp
                              try simp only [Act.put, List.setIfInBounds_toArray, List.set_cons_zero, List.set_cons_succ]
                              refine wpAnyH_take (i := 71) (oi := { dst := some 184, op := Op.move (Operand.tmp 15), type := 30, pos := "laws.go:143", after := #[{ on := 70, ground := Ground.guard }], guard := some (70, false) }) (v := .slice aB2 NB cB2) rfl (by kernel_rfl) (by kernel_rfl) (by kernel_rfl) (fun _ _ _ h => h) (Or.inl ⟨by rfl, ?_⟩) hH ?_
                              · intro w1 hS; (try dsimp only at hS); go_simp
                              try simp only [Act.put, List.setIfInBounds_toArray, List.set_cons_zero, List.set_cons_succ]
                              refine wpAnyH_take (i := 72) (oi := { dst := some 185, op := Op.call { callee := Callee.builtin Builtin.len, args := #[Operand.tmp 184], argTypes := #[30] }, type := 3, pos := "laws.go:143", after := #[{ on := 71, ground := Ground.data }, { on := 70, ground := Ground.guard }], guard := some (70, false) }) (v := .int .i64 NB) rfl (by kernel_rfl) (by kernel_rfl) (by kernel_rfl) (fun _ _ _ h => h) (Or.inl ⟨by rfl, ?_⟩) hH ?_
                              · intro w1 hS; (try dsimp only at hS); go_simp
                              try simp only [Act.put, List.setIfInBounds_toArray, List.set_cons_zero, List.set_cons_succ]
                              refine wpAnyH_take (i := 73) (oi := { dst := some 186, op := Op.binOp BinOp.eql 3 (Operand.tmp 185) (Operand.const (Value.int IntKind.i64 0)) 3, type := 4, pos := "laws.go:143", after := #[{ on := 72, ground := Ground.data }, { on := 70, ground := Ground.guard }], guard := some (70, false) }) (v := .bool bB) rfl (by kernel_rfl) (by kernel_rfl) (by kernel_rfl) (fun _ _ _ h => h) (Or.inl ⟨by rfl, ?_⟩) hH ?_
                              · intro w1 hS; (try dsimp only at hS); go_simp
                              try simp only [Act.put, List.setIfInBounds_toArray, List.set_cons_zero, List.set_cons_succ]
                              refine wpAnyH_take (i := 74) (oi := { dst := some 187, op := Op.move (Operand.tmp 6), type := 30, pos := "laws.go:143", after := #[{ on := 70, ground := Ground.guard }], guard := some (70, false) }) (v := .slice (some ⟨g, 0, none⟩) N cap) rfl (by kernel_rfl) (by kernel_rfl) (by kernel_rfl) (fun _ _ _ h => h) (Or.inl ⟨by rfl, ?_⟩) hH ?_
                              · intro w1 hS; (try dsimp only at hS); go_simp
                              try simp only [Act.put, List.setIfInBounds_toArray, List.set_cons_zero, List.set_cons_succ]
                              refine wpAnyH_take (i := 75) (oi := { dst := some 188, op := Op.move (Operand.tmp 8), type := 3, pos := "laws.go:143", after := #[{ on := 70, ground := Ground.guard }], guard := some (70, false) }) (v := .int .i64 k) rfl (by kernel_rfl) (by kernel_rfl) (by kernel_rfl) (fun _ _ _ h => h) (Or.inl ⟨by rfl, ?_⟩) hH ?_
                              · intro w1 hS; (try dsimp only at hS); go_simp
                              try simp only [Act.put, List.setIfInBounds_toArray, List.set_cons_zero, List.set_cons_succ]
                              refine wpAnyH_take (i := 76) (oi := { dst := some 189, op := Op.indexAddr 30 (Operand.tmp 187) (Operand.tmp 188), type := 0, pos := "laws.go:143", after := #[{ on := 74, ground := Ground.data }, { on := 75, ground := Ground.data }, { on := 70, ground := Ground.guard }], guard := some (70, false) }) (v := .pointer (some ⟨g, k * 2, none⟩)) rfl (by kernel_rfl) (by kernel_rfl) (by kernel_rfl) (fun _ _ _ h => h) (Or.inl ⟨by rfl, ?_⟩) hH ?_
                              · intro w1 hS; (try dsimp only at hS); go_simp
                              try simp only [Act.put, List.setIfInBounds_toArray, List.set_cons_zero, List.set_cons_succ]
                              refine wpAnyH_take (i := 77) (oi := { dst := some 190, op := Op.fieldAddr 35 (Operand.tmp 189) 0, type := 0, pos := "laws.go:143", after := #[{ on := 76, ground := Ground.data }, { on := 70, ground := Ground.guard }], guard := some (70, false) }) (v := .pointer (some ⟨g, k * 2, none⟩)) rfl (by kernel_rfl) (by kernel_rfl) (by kernel_rfl) (fun _ _ _ h => h) (Or.inl ⟨by rfl, ?_⟩) hH ?_
                              · intro w1 hS; (try dsimp only at hS); go_simp
                              try simp only [Act.put, List.setIfInBounds_toArray, List.set_cons_zero, List.set_cons_succ]
                              refine wpAnyH_take (i := 78) (oi := { dst := some 191, op := Op.load 24 (Operand.tmp 190), type := 24, pos := "laws.go:143", after := #[{ on := 77, ground := Ground.data }, { on := 70, ground := Ground.guard }], guard := some (70, false) }) (v := .int .i8 A) rfl (by kernel_rfl) (by kernel_rfl) (by kernel_rfl) (fun _ _ _ h => h) (Or.inl ⟨by rfl, ?_⟩) hH ?_
                              · intro w1 hS; (try dsimp only at hS); have s0 : w1.cell? ⟨g, k * 2, none⟩ = some (.int .i8 A) := (by rw [cell_of_rowAt (brow hS gW)]; exact c0); have s1 : w1.cell? ⟨g, k * 2 + 1, none⟩ = some (.int .i8 B) := (by rw [cell_of_rowAt (brow hS gW)]; exact c1); go_simp
                              try simp only [Act.put, List.setIfInBounds_toArray, List.set_cons_zero, List.set_cons_succ]
                              refine wpAnyH_take (i := 79) (oi := { dst := some 192, op := Op.fieldAddr 28 (Operand.tmp 5) 1, type := 0, pos := "laws.go:143", after := #[{ on := 70, ground := Ground.guard }], guard := some (70, false) }) (v := .pointer (some ⟨RB, 1, none⟩)) rfl (by kernel_rfl) (by kernel_rfl) (by kernel_rfl) (fun _ _ _ h => h) (Or.inl ⟨by rfl, ?_⟩) hH ?_
                              · intro w1 hS; (try dsimp only at hS); go_simp
                              try simp only [Act.put, List.setIfInBounds_toArray, List.set_cons_zero, List.set_cons_succ]
                              refine wpAnyH_take (i := 80) (oi := { dst := some 193, op := Op.load 24 (Operand.tmp 192), type := 24, pos := "laws.go:143", after := #[{ on := 79, ground := Ground.data }, { on := 70, ground := Ground.guard }], guard := some (70, false) }) (v := .int .i8 rh) rfl (by kernel_rfl) (by kernel_rfl) (by kernel_rfl) (fun _ _ _ h => h) (Or.inl ⟨by rfl, ?_⟩) hH ?_
                              · intro w1 hS; (try dsimp only at hS); have s0 : w1.cell? ⟨RB, 1, none⟩ = some (.int .i8 rh) := (by rw [cell_of_rowAt (brow hS rW)]; exact k1); go_simp
                              try simp only [Act.put, List.setIfInBounds_toArray, List.set_cons_zero, List.set_cons_succ]
                              refine wpAnyH_take (i := 81) (oi := { dst := some 194, op := Op.binOp BinOp.sub 24 (Operand.tmp 193) (Operand.const (Value.int IntKind.i8 1)) 24, type := 24, pos := "laws.go:143", after := #[{ on := 80, ground := Ground.data }, { on := 70, ground := Ground.guard }], guard := some (70, false) }) (v := .int .i8 (rh - 1)) rfl (by kernel_rfl) (by kernel_rfl) (by kernel_rfl) (fun _ _ _ h => h) (Or.inl ⟨by rfl, ?_⟩) hH ?_
                              · intro w1 hS; (try dsimp only at hS); go_simp
                              try simp only [Act.put, List.setIfInBounds_toArray, List.set_cons_zero, List.set_cons_succ]
                              refine wpAnyH_take (i := 82) (oi := { dst := some 195, op := Op.binOp BinOp.eql 24 (Operand.tmp 191) (Operand.tmp 194) 24, type := 4, pos := "laws.go:143", after := #[{ on := 78, ground := Ground.data }, { on := 81, ground := Ground.data }, { on := 70, ground := Ground.guard }], guard := some (70, false) }) (v := .bool bB) rfl (by kernel_rfl) (by kernel_rfl) (by kernel_rfl) (fun _ _ _ h => h) (Or.inl ⟨by rfl, ?_⟩) hH ?_
                              · intro w1 hS; (try dsimp only at hS); go_simp
                              try simp only [Act.put, List.setIfInBounds_toArray, List.set_cons_zero, List.set_cons_succ]
                              as_aux_lemma =>
                                refine wpAnyH_take (i := 83) (oi := { dst := some 196, op := Op.binOp BinOp.neq 4 (Operand.tmp 186) (Operand.tmp 195) 4, type := 4, pos := "laws.go:143", after := #[{ on := 73, ground := Ground.data }, { on := 82, ground := Ground.data }, { on := 70, ground := Ground.guard }], guard := some (70, false) }) (v := .bool false) rfl (by kernel_rfl) (by kernel_rfl) (by kernel_rfl) (fun _ _ _ h => h) (Or.inl ⟨by rfl, ?_⟩) hH ?_
                                · intro w1 hS; (try dsimp only at hS); go_simp
                                try simp only [Act.put, List.setIfInBounds_toArray, List.set_cons_zero, List.set_cons_succ]
                                refine wpAnyH_take (i := 84) (oi := { dst := some 197, op := Op.pick (Operand.tmp 183) (Operand.const (Value.bool true)) (Operand.tmp 196), type := 4, pos := "laws.go:143", after := #[{ on := 70, ground := Ground.data }, { on := 83, ground := Ground.data }], guard := none }) (v := .bool false) rfl (by kernel_rfl) (by kernel_rfl) (by kernel_rfl) (fun _ _ _ h => h) (Or.inl ⟨by rfl, ?_⟩) hH ?_
                                · intro w1 hS; (try dsimp only at hS); go_simp
                                try simp only [Act.put, List.setIfInBounds_toArray, List.set_cons_zero, List.set_cons_succ]
                                refine wpAnyH_take (i := 85) (oi := { dst := some 198, op := Op.move (Operand.tmp 197), type := 4, pos := "laws.go:143", after := #[{ on := 84, ground := Ground.data }, { on := 70, ground := Ground.chain }], guard := none }) (v := .bool false) rfl (by kernel_rfl) (by kernel_rfl) (by kernel_rfl) (fun _ _ _ h => h) (Or.inl ⟨by rfl, ?_⟩) hH ?_
                                · intro w1 hS; (try dsimp only at hS); go_simp
                                try simp only [Act.put, List.setIfInBounds_toArray, List.set_cons_zero, List.set_cons_succ]
                                refine wpAnyH_take (i := 86) (oi := { dst := some 199, op := Op.move (Operand.tmp 11), type := 30, pos := "laws.go:143", after := #[{ on := 85, ground := Ground.guard }], guard := some (85, false) }) (v := .slice aA2 NA cA2) rfl (by kernel_rfl) (by kernel_rfl) (by kernel_rfl) (fun _ _ _ h => h) (Or.inl ⟨by rfl, ?_⟩) hH ?_
                                · intro w1 hS; (try dsimp only at hS); go_simp
                                try simp only [Act.put, List.setIfInBounds_toArray, List.set_cons_zero, List.set_cons_succ]
                                refine wpAnyH_take (i := 87) (oi := { dst := some 200, op := Op.call { callee := Callee.builtin Builtin.len, args := #[Operand.tmp 199], argTypes := #[30] }, type := 3, pos := "laws.go:143", after := #[{ on := 86, ground := Ground.data }, { on := 85, ground := Ground.guard }], guard := some (85, false) }) (v := .int .i64 NA) rfl (by kernel_rfl) (by kernel_rfl) (by kernel_rfl) (fun _ _ _ h => h) (Or.inl ⟨by rfl, ?_⟩) hH ?_
                                · intro w1 hS; (try dsimp only at hS); go_simp
                                try simp only [Act.put, List.setIfInBounds_toArray, List.set_cons_zero, List.set_cons_succ]
                                refine wpAnyH_take (i := 88) (oi := { dst := some 201, op := Op.binOp BinOp.gtr 3 (Operand.tmp 200) (Operand.const (Value.int IntKind.i64 2)) 3, type := 4, pos := "laws.go:143", after := #[{ on := 87, ground := Ground.data }, { on := 85, ground := Ground.guard }], guard := some (85, false) }) (v := .bool false) rfl (by kernel_rfl) (by kernel_rfl) (by kernel_rfl) (fun _ _ _ h => h) (Or.inl ⟨by rfl, ?_⟩) hH ?_
                                · intro w1 hS; (try dsimp only at hS); go_simp
                                try simp only [Act.put, List.setIfInBounds_toArray, List.set_cons_zero, List.set_cons_succ]
                                refine wpAnyH_take (i := 89) (oi := { dst := some 202, op := Op.pick (Operand.tmp 198) (Operand.const (Value.bool true)) (Operand.tmp 201), type := 4, pos := "laws.go:143", after := #[{ on := 85, ground := Ground.data }, { on := 88, ground := Ground.data }], guard := none }) (v := .bool false) rfl (by kernel_rfl) (by kernel_rfl) (by kernel_rfl) (fun _ _ _ h => h) (Or.inl ⟨by rfl, ?_⟩) hH ?_
                                · intro w1 hS; (try dsimp only at hS); go_simp
                                try simp only [Act.put, List.setIfInBounds_toArray, List.set_cons_zero, List.set_cons_succ]
                                refine wpAnyH_take (i := 90) (oi := { dst := some 203, op := Op.move (Operand.tmp 202), type := 4, pos := "laws.go:143", after := #[{ on := 89, ground := Ground.data }, { on := 85, ground := Ground.chain }], guard := none }) (v := .bool false) rfl (by kernel_rfl) (by kernel_rfl) (by kernel_rfl) (fun _ _ _ h => h) (Or.inl ⟨by rfl, ?_⟩) hH ?_
                                · intro w1 hS; (try dsimp only at hS); go_simp
                                try simp only [Act.put, List.setIfInBounds_toArray, List.set_cons_zero, List.set_cons_succ]
                                refine wpAnyH_take (i := 91) (oi := { dst := some 204, op := Op.move (Operand.tmp 15), type := 30, pos := "laws.go:143", after := #[{ on := 90, ground := Ground.guard }], guard := some (90, false) }) (v := .slice aB2 NB cB2) rfl (by kernel_rfl) (by kernel_rfl) (by kernel_rfl) (fun _ _ _ h => h) (Or.inl ⟨by rfl, ?_⟩) hH ?_
                                · intro w1 hS; (try dsimp only at hS); go_simp
                                try simp only [Act.put, List.setIfInBounds_toArray, List.set_cons_zero, List.set_cons_succ]
                                refine wpAnyH_take (i := 92) (oi := { dst := some 205, op := Op.call { callee := Callee.builtin Builtin.len, args := #[Operand.tmp 204], argTypes := #[30] }, type := 3, pos := "laws.go:143", after := #[{ on := 91, ground := Ground.data }, { on := 90, ground := Ground.guard }], guard := some (90, false) }) (v := .int .i64 NB) rfl (by kernel_rfl) (by kernel_rfl) (by kernel_rfl) (fun _ _ _ h => h) (Or.inl ⟨by rfl, ?_⟩) hH ?_
                                · intro w1 hS; (try dsimp only at hS); go_simp
                                try simp only [Act.put, List.setIfInBounds_toArray, List.set_cons_zero, List.set_cons_succ]
                                refine wpAnyH_take (i := 93) (oi := { dst := some 206, op := Op.binOp BinOp.gtr 3 (Operand.tmp 205) (Operand.const (Value.int IntKind.i64 2)) 3, type := 4, pos := "laws.go:143", after := #[{ on := 92, ground := Ground.data }, { on := 90, ground := Ground.guard }], guard := some (90, false) }) (v := .bool false) rfl (by kernel_rfl) (by kernel_rfl) (by kernel_rfl) (fun _ _ _ h => h) (Or.inl ⟨by rfl, ?_⟩) hH ?_
                                · intro w1 hS; (try dsimp only at hS); go_simp
                                try simp only [Act.put, List.setIfInBounds_toArray, List.set_cons_zero, List.set_cons_succ]
                                refine wpAnyH_take (i := 94) (oi := { dst := some 207, op := Op.pick (Operand.tmp 203) (Operand.const (Value.bool true)) (Operand.tmp 206), type := 4, pos := "laws.go:143", after := #[{ on := 90, ground := Ground.data }, { on := 93, ground := Ground.data }], guard := none }) (v := .bool false) rfl (by kernel_rfl) (by kernel_rfl) (by kernel_rfl) (fun _ _ _ h => h) (Or.inl ⟨by rfl, ?_⟩) hH ?_
                                · intro w1 hS; (try dsimp only at hS); go_simp
                                try simp only [Act.put, List.setIfInBounds_toArray, List.set_cons_zero, List.set_cons_succ]
                                refine wpAnyH_done (by kernel_rfl) ?_ _
                                clear lA1 lA2 lB1 lC1
                                go_wp2_with fail
                                as_aux_lemma =>
                                  have rS := rW
                                  have gS := gW
                                  have CTQ := HPk.out.ct
                                  have HFC := Lib.hid hfc
                                  clear hfc fC0 fC1 rW gW k1 rh1 hbA0 hbA1 hbA2 hbA3 hbA4 hbA5 hbB0 hbB1 hbB2 hbB3 hbB4 nA4 nB4 hX1
                                  have wA : IntKind.i64.wrap (A : Int) = A := by rw [IntKind.wrap_i64]; omega
                                  have wB : IntKind.i64.wrap (B : Int) = B := by rw [IntKind.wrap_i64]; omega
                                  go_loopw [7, 21] (fun cv kv W => ∃ q : Nat, q ≤ 2 ∧ kv = .int .i64 q ∧ cv = .int .i64 (2 * (k : Int) + q) ∧ Hid (Below wS.heap.size wS W)) (fun _ kv _ => 2 - (intOf kv).toNat)
                                  case atStart => exact ⟨0, by omega, rfl, by simp, Lib.hid (Below.refl _ _)⟩
                                  case round =>
                                    obtain ⟨q, hq, rfl, rfl, hB2⟩ := hrel
                                    have rW := brow hB2.out rS
                                    have gW := brow hB2.out gS
                                    have rC2 := brow hB2.out rC
                                    by_cases hq2 : q < 2
                                    · have CT2 := CTQ q hq2
                                      have fq : curc[q]? = some (.int .i64 (CF q)) := HFC.out q (by omega)
                                      have j0 : 0 ≤ (q : Int) := by omega
                                      have j1 : (q : Int) < 2 := by omega
                                      generalize CF q = XQ at *
                                      as_aux_lemma =>
                                        go_wp2_with fail
                                        refine wp_region_held_drew (S := fun w' => Below wr.heap.size wr w') (by kernel_rfl) ((Below.refl _ _).drew) (fun hH => ?_)
                                        refine wpAnyH_take (i := 0) (oi := { dst := some 213, op := Op.load 28 (Operand.tmp 5), type := 28, pos := "laws.go:147", after := #[], guard := none }) (v := .agg c) rfl (by kernel_rfl) (by kernel_rfl) (by kernel_rfl) (fun _ _ _ h => h) (Or.inl ⟨by rfl, ?_⟩) hH ?_
                                        · intro w1 hS; (try dsimp only at hS); have s0 := brow hS rW; go_simp
                                        try simp only [Act.put, List.setIfInBounds_toArray, List.set_cons_zero, List.set_cons_succ]
                                        refine wpAnyH_take (i := 1) (oi := { dst := some 214, op := Op.move (Operand.tmp 6), type := 30, pos := "laws.go:147", after := #[], guard := none }) (v := .slice (some ⟨g, 0, none⟩) N cap) rfl (by kernel_rfl) (by kernel_rfl) (by kernel_rfl) (fun _ _ _ h => h) (Or.inl ⟨by rfl, ?_⟩) hH ?_
                                        · intro w1 hS; (try dsimp only at hS); go_simp
                                        try simp only [Act.put, List.setIfInBounds_toArray, List.set_cons_zero, List.set_cons_succ]
                                        refine wpAnyH_take (i := 2) (oi := { dst := some 215, op := Op.move (Operand.tmp 8), type := 3, pos := "laws.go:147", after := #[], guard := none }) (v := .int .i64 k) rfl (by kernel_rfl) (by kernel_rfl) (by kernel_rfl) (fun _ _ _ h => h) (Or.inl ⟨by rfl, ?_⟩) hH ?_
                                        · intro w1 hS; (try dsimp only at hS); go_simp
                                        try simp only [Act.put, List.setIfInBounds_toArray, List.set_cons_zero, List.set_cons_succ]
                                        refine wpAnyH_take (i := 3) (oi := { dst := some 216, op := Op.indexAddr 30 (Operand.tmp 214) (Operand.tmp 215), type := 0, pos := "laws.go:147", after := #[{ on := 1, ground := Ground.data }, { on := 2, ground := Ground.data }], guard := none }) (v := .pointer (some ⟨g, k * 2, none⟩)) rfl (by kernel_rfl) (by kernel_rfl) (by kernel_rfl) (fun _ _ _ h => h) (Or.inl ⟨by rfl, ?_⟩) hH ?_
                                        · intro w1 hS; (try dsimp only at hS); go_simp
                                        try simp only [Act.put, List.setIfInBounds_toArray, List.set_cons_zero, List.set_cons_succ]
                                        refine wpAnyH_take (i := 4) (oi := { dst := some 217, op := Op.fieldAddr 35 (Operand.tmp 216) 0, type := 0, pos := "laws.go:147", after := #[{ on := 3, ground := Ground.data }], guard := none }) (v := .pointer (some ⟨g, k * 2, none⟩)) rfl (by kernel_rfl) (by kernel_rfl) (by kernel_rfl) (fun _ _ _ h => h) (Or.inl ⟨by rfl, ?_⟩) hH ?_
                                        · intro w1 hS; (try dsimp only at hS); go_simp
                                        try simp only [Act.put, List.setIfInBounds_toArray, List.set_cons_zero, List.set_cons_succ]
                                        refine wpAnyH_take (i := 5) (oi := { dst := some 218, op := Op.load 24 (Operand.tmp 217), type := 24, pos := "laws.go:147", after := #[{ on := 4, ground := Ground.data }], guard := none }) (v := .int .i8 A) rfl (by kernel_rfl) (by kernel_rfl) (by kernel_rfl) (fun _ _ _ h => h) (Or.inl ⟨by rfl, ?_⟩) hH ?_
                                        · intro w1 hS; (try dsimp only at hS); have s0 : w1.cell? ⟨g, k * 2, none⟩ = some (.int .i8 A) := (by rw [cell_of_rowAt (brow hS gW)]; exact c0); have s1 : w1.cell? ⟨g, k * 2 + 1, none⟩ = some (.int .i8 B) := (by rw [cell_of_rowAt (brow hS gW)]; exact c1); go_simp
                                        try simp only [Act.put, List.setIfInBounds_toArray, List.set_cons_zero, List.set_cons_succ]
                                        refine wpAnyH_take (i := 6) (oi := { dst := some 219, op := Op.convert 24 2 (Operand.tmp 218), type := 2, pos := "laws.go:147", after := #[{ on := 5, ground := Ground.data }], guard := none }) (v := .int .i64 A) rfl (by kernel_rfl) (by kernel_rfl) (by kernel_rfl) (fun _ _ _ h => h) (Or.inl ⟨by rfl, ?_⟩) hH ?_
                                        · intro w1 hS; (try dsimp only at hS); go_simp
                                        try simp only [Act.put, List.setIfInBounds_toArray, List.set_cons_zero, List.set_cons_succ]
                                        refine wpAnyH_take (i := 7) (oi := { dst := some 220, op := Op.move (Operand.tmp 19), type := 36, pos := "laws.go:147", after := #[], guard := none }) (v := .slice (some ⟨gc, 0, none⟩) 2 cC2) rfl (by kernel_rfl) (by kernel_rfl) (by kernel_rfl) (fun _ _ _ h => h) (Or.inl ⟨by rfl, ?_⟩) hH ?_
                                        · intro w1 hS; (try dsimp only at hS); go_simp
                                        try simp only [Act.put, List.setIfInBounds_toArray, List.set_cons_zero, List.set_cons_succ]
                                        refine wpAnyH_take (i := 8) (oi := { dst := some 221, op := Op.move (Operand.tmp 21), type := 3, pos := "laws.go:147", after := #[], guard := none }) (v := .int .i64 q) rfl (by kernel_rfl) (by kernel_rfl) (by kernel_rfl) (fun _ _ _ h => h) (Or.inl ⟨by rfl, ?_⟩) hH ?_
                                        · intro w1 hS; (try dsimp only at hS); go_simp
                                        try simp only [Act.put, List.setIfInBounds_toArray, List.set_cons_zero, List.set_cons_succ]
                                        refine wpAnyH_take (i := 9) (oi := { dst := some 222, op := Op.indexAddr 36 (Operand.tmp 220) (Operand.tmp 221), type := 0, pos := "laws.go:147", after := #[{ on := 7, ground := Ground.data }, { on := 8, ground := Ground.data }], guard := none }) (v := .pointer (some ⟨gc, q, none⟩)) rfl (by kernel_rfl) (by kernel_rfl) (by kernel_rfl) (fun _ _ _ h => h) (Or.inl ⟨by rfl, ?_⟩) hH ?_
                                        · intro w1 hS; (try dsimp only at hS); go_simp
                                        try simp only [Act.put, List.setIfInBounds_toArray, List.set_cons_zero, List.set_cons_succ]
                                        refine wpAnyH_take (i := 10) (oi := { dst := some 223, op := Op.load 2 (Operand.tmp 222), type := 2, pos := "laws.go:147", after := #[{ on := 9, ground := Ground.data }], guard := none }) (v := .int .i64 XQ) rfl (by kernel_rfl) (by kernel_rfl) (by kernel_rfl) (fun _ _ _ h => h) (Or.inl ⟨by rfl, ?_⟩) hH ?_
                                        · intro w1 hS; (try dsimp only at hS); have s0 : w1.cell? ⟨gc, q, none⟩ = some (.int .i64 XQ) := (by rw [cell_of_rowAt (brow hS rC2)]; exact fq); go_simp
                                        try simp only [Act.put, List.setIfInBounds_toArray, List.set_cons_zero, List.set_cons_succ]
                                        refine wpAnyH_ready (rs := [11]) (by kernel_rfl) (by simp) (AllReadyH.cons (o := { dst := some 224, op := Op.call { callee := Callee.value (Operand.func 15), args := #[Operand.tmp 213, Operand.tmp 219, Operand.tmp 223], argTypes := #[28, 2, 2] }, type := 41, pos := "laws.go:147", after := #[{ on := 0, ground := Ground.data }, { on := 6, ground := Ground.data }, { on := 10, ground := Ground.data }], guard := none }) rfl (fun K hK => ?_) AllReadyH.nil)
                                        go_simp
                                        refine (CT2 _).mono ?_
                                        rintro x wT ⟨rfl, bx⟩
                                        go_simp
                                        refine hK.out _ _ (bnext hH bx hH.size) (fun hG => ?_)
                                        clear hK K
                                        refine wpAnyH_now hG ?_
                                        clear hG hH
                                        replace bx := ((Below.refl wr.heap.size wr).drew).trans bx
                                        have gT := brow bx gW
                                        have hBT := Lib.hid (bnext hB2.out bx hB2.out.size)
                                        clear bx
                                        have hH := Below.refl wT.heap.size wT
                                        try simp only [Act.put, List.setIfInBounds_toArray, List.set_cons_zero, List.set_cons_succ]
                                        refine wpAnyH_take (i := 12) (oi := { dst := some 212, op := Op.move (Operand.tmp 224), type := 41, pos := "laws.go:147", after := #[{ on := 11, ground := Ground.data }], guard := none }) (v := .tuple #[.int .i64 B, .int .i64 0]) rfl (by kernel_rfl) (by kernel_rfl) (by kernel_rfl) (fun _ _ _ h => h) (Or.inl ⟨by rfl, ?_⟩) hH ?_
                                        · intro w1 hS; (try dsimp only at hS); go_simp
                                        try simp only [Act.put, List.setIfInBounds_toArray, List.set_cons_zero, List.set_cons_succ]
                                        refine wpAnyH_take (i := 13) (oi := { dst := some 225, op := Op.extract (Operand.tmp 212) 0, type := 2, pos := "laws.go:147", after := #[{ on := 12, ground := Ground.data }], guard := none }) (v := .int .i64 B) rfl (by kernel_rfl) (by kernel_rfl) (by kernel_rfl) (fun _ _ _ h => h) (Or.inl ⟨by rfl, ?_⟩) hH ?_
                                        · intro w1 hS; (try dsimp only at hS); go_simp
                                        try simp only [Act.put, List.setIfInBounds_toArray, List.set_cons_zero, List.set_cons_succ]
                                        refine wpAnyH_take (i := 14) (oi := { dst := some 226, op := Op.extract (Operand.tmp 212) 1, type := 2, pos := "laws.go:147", after := #[{ on := 12, ground := Ground.data }, { on := 15, ground := Ground.gcOnly Departure.lateStores }], guard := none }) (v := .int .i64 0) rfl (by kernel_rfl) (by kernel_rfl) (by kernel_rfl) (fun _ _ _ h => h) (Or.inl ⟨by rfl, ?_⟩) hH ?_
                                        · intro w1 hS; (try dsimp only at hS); go_simp
                                        try simp only [Act.put, List.setIfInBounds_toArray, List.set_cons_zero, List.set_cons_succ]
                                        refine wpAnyH_take (i := 15) (oi := { dst := some 22, op := Op.assign (Operand.tmp 225), type := 2, pos := "laws.go:147", after := #[{ on := 13, ground := Ground.data }, { on := 11, ground := Ground.chain }, { on := 0, ground := Ground.phase }, { on := 1, ground := Ground.phase }, { on := 2, ground := Ground.phase }, { on := 3, ground := Ground.phase }, { on := 4, ground := Ground.phase }, { on := 5, ground := Ground.phase }, { on := 6, ground := Ground.phase }, { on := 7, ground := Ground.phase }, { on := 8, ground := Ground.phase }, { on := 9, ground := Ground.phase }, { on := 10, ground := Ground.phase }, { on := 11, ground := Ground.phase }, { on := 12, ground := Ground.phase }, { on := 13, ground := Ground.phase }, { on := 14, ground := Ground.textOnly Departure.lateStores }], guard := none }) (v := .int .i64 B) rfl (by kernel_rfl) (by kernel_rfl) (by kernel_rfl) (fun _ _ _ h => h) (Or.inl ⟨by rfl, ?_⟩) hH ?_
                                        · intro w1 hS; (try dsimp only at hS); go_simp
                                        try simp only [Act.put, List.setIfInBounds_toArray, List.set_cons_zero, List.set_cons_succ]
                                        refine wpAnyH_take (i := 16) (oi := { dst := some 23, op := Op.assign (Operand.tmp 226), type := 2, pos := "laws.go:147", after := #[{ on := 14, ground := Ground.data }, { on := 15, ground := Ground.chain }, { on := 0, ground := Ground.phase }, { on := 1, ground := Ground.phase }, { on := 2, ground := Ground.phase }, { on := 3, ground := Ground.phase }, { on := 4, ground := Ground.phase }, { on := 5, ground := Ground.phase }, { on := 6, ground := Ground.phase }, { on := 7, ground := Ground.phase }, { on := 8, ground := Ground.phase }, { on := 9, ground := Ground.phase }, { on := 10, ground := Ground.phase }, { on := 11, ground := Ground.phase }, { on := 12, ground := Ground.phase }, { on := 13, ground := Ground.phase }, { on := 14, ground := Ground.phase }, { on := 15, ground := Ground.phase }], guard := none }) (v := .int .i64 0) rfl (by kernel_rfl) (by kernel_rfl) (by kernel_rfl) (fun _ _ _ h => h) (Or.inl ⟨by rfl, ?_⟩) hH ?_
                                        · intro w1 hS; (try dsimp only at hS); go_simp
                                        try simp only [Act.put, List.setIfInBounds_toArray, List.set_cons_zero, List.set_cons_succ]
                                        refine wpAnyH_done (by kernel_rfl) ?_ _
                                        have d1 : wT.cell? ⟨g, k * 2 + 1, none⟩ = some (.int .i8 B) := by rw [cell_of_rowAt gT]; exact c1
                                        have z1 : IntKind.i64.wrap (2 * (k : Int) + q + 1) = 2 * (k : Int) + (q + 1 : Nat) := by rw [IntKind.wrap_i64]; omega
                                        clear gT gW rW rC2
                                        go_wp2_with fail
                                        refine ⟨⟨q + 1, by omega, by go_num, by go_num, hBT⟩, by simp [intOf]; omega⟩
                                    · obtain rfl : q = 2 := by omega
                                      clear rW gW rC2 CTQ
                                      as_aux_lemma =>
                                        rw [show ((2 : Nat) : Int) = 2 from rfl]
                                        go_wp2_with fail
                                        go_loopw [24] (fun iv W => ∃ q : Nat, q ≤ NB ∧ iv = .int .i64 q ∧ Hid (Below wS.heap.size wS W)) (fun iv _ => NB - (intOf iv).toNat)
                                        case atStart => exact ⟨0, by omega, rfl, hB2⟩
                                        case round =>
                                          obtain ⟨q, hq, rfl, hB3⟩ := hrel
                                          clear hB2
                                          have rW := brow hB3.out rS
                                          have gW := brow hB3.out gS
                                          have l3 := lB2.below hB3.out (Nat.le_refl _)
                                          by_cases hq2 : q < NB
                                          · obtain ⟨ov1, NQ, FQ, ov2, ov3, ov4⟩ := HPk.out.ov q hq2
                                            rcases l3 with ⟨h0, _⟩ | ⟨gb, cpb, curb, hvb, hgb, rB3, hsb, hfb⟩
                                            · omega
                                            have HAB := Lib.hid (show aB2 = some ⟨gb, 0, none⟩ by cases hvb; rfl)
                                            have b0 : curb[q * 2]? = some (.int .i8 (FB (q * 2))) := hfb _ (by omega)
                                            have b1 : curb[q * 2 + 1]? = some (.int .i8 (FB (q * 2 + 1))) := hfb _ (by omega)
                                            rw [ov1] at b0
                                            have j0 : 0 ≤ (q : Int) := by omega
                                            have j1 : (q : Int) < NB := by omega
                                            have wA1 : IntKind.i8.wrap ((A : Int) + 1) = (A : Int) + 1 := IntWalk.i8_in _ (by omega)
                                            clear hvb hgb hsb hfb ov1
                                            generalize FB (q * 2 + 1) = TQ at *
                                            as_aux_lemma =>
                                              go_wp2_with fail
                                              refine wp_region_held_drew (S := fun w' => Below wr.heap.size wr w') (by kernel_rfl) ((Below.refl _ _).drew) (fun hH => ?_)
                                              refine wpAnyH_take (i := 0) (oi := { dst := some 248, op := Op.load 28 (Operand.tmp 5), type := 28, pos := "laws.go:154", after := #[], guard := none }) (v := .agg c) rfl (by kernel_rfl) (by kernel_rfl) (by kernel_rfl) (fun _ _ _ h => h) (Or.inl ⟨by rfl, ?_⟩) hH ?_
                                              · intro w1 hS; (try dsimp only at hS); have s0 := brow hS rW; go_simp
                                              try simp only [Act.put, List.setIfInBounds_toArray, List.set_cons_zero, List.set_cons_succ]
                                              refine wpAnyH_take (i := 1) (oi := { dst := some 249, op := Op.move (Operand.tmp 15), type := 30, pos := "laws.go:154", after := #[], guard := none }) (v := .slice aB2 NB cB2) rfl (by kernel_rfl) (by kernel_rfl) (by kernel_rfl) (fun _ _ _ h => h) (Or.inl ⟨by rfl, ?_⟩) hH ?_
                                              · intro w1 hS; (try dsimp only at hS); go_simp
                                              try simp only [Act.put, List.setIfInBounds_toArray, List.set_cons_zero, List.set_cons_succ]
                                              refine wpAnyH_take (i := 2) (oi := { dst := some 250, op := Op.move (Operand.tmp 24), type := 3, pos := "laws.go:154", after := #[], guard := none }) (v := .int .i64 q) rfl (by kernel_rfl) (by kernel_rfl) (by kernel_rfl) (fun _ _ _ h => h) (Or.inl ⟨by rfl, ?_⟩) hH ?_
                                              · intro w1 hS; (try dsimp only at hS); go_simp
                                              try simp only [Act.put, List.setIfInBounds_toArray, List.set_cons_zero, List.set_cons_succ]
                                              refine wpAnyH_take (i := 3) (oi := { dst := some 251, op := Op.indexAddr 30 (Operand.tmp 249) (Operand.tmp 250), type := 0, pos := "laws.go:154", after := #[{ on := 1, ground := Ground.data }, { on := 2, ground := Ground.data }], guard := none }) (v := .pointer (some ⟨gb, q * 2, none⟩)) rfl (by kernel_rfl) (by kernel_rfl) (by kernel_rfl) (fun _ _ _ h => h) (Or.inl ⟨by rfl, ?_⟩) hH ?_
                                              · intro w1 hS; (try dsimp only at hS); have hab := HAB.out; go_simp
                                              try simp only [Act.put, List.setIfInBounds_toArray, List.set_cons_zero, List.set_cons_succ]
                                              refine wpAnyH_take (i := 4) (oi := { dst := some 252, op := Op.load 35 (Operand.tmp 251), type := 35, pos := "laws.go:154", after := #[{ on := 3, ground := Ground.data }], guard := none }) (v := .agg #[.int .i8 ((A : Int) + 1), .int .i8 TQ]) rfl (by kernel_rfl) (by kernel_rfl) (by kernel_rfl) (fun _ _ _ h => h) (Or.inl ⟨by rfl, ?_⟩) hH ?_
                                              · intro w1 hS; (try dsimp only at hS); have s0 : w1.cell? ⟨gb, q * 2, none⟩ = some (.int .i8 ((A : Int) + 1)) := (by rw [cell_of_rowAt (brow hS rB3)]; exact b0); have s1 : w1.cell? ⟨gb, q * 2 + 1, none⟩ = some (.int .i8 TQ) := (by rw [cell_of_rowAt (brow hS rB3)]; exact b1); go_simp
                                              try simp only [Act.put, List.setIfInBounds_toArray, List.set_cons_zero, List.set_cons_succ]
                                              refine wpAnyH_ready (rs := [5]) (by kernel_rfl) (by simp) (AllReadyH.cons (o := { dst := some 253, op := Op.call { callee := Callee.value (Operand.func 8), args := #[Operand.tmp 248, Operand.tmp 252], argTypes := #[28, 35] }, type := 32, pos := "laws.go:154", after := #[{ on := 0, ground := Ground.data }, { on := 4, ground := Ground.data }], guard := none }) rfl (fun K hK => ?_) AllReadyH.nil)
                                              go_simp
                                              refine (ov2 _).mono ?_
                                              rintro x wQ ⟨vQ, rfl, lQ, bx⟩
                                              go_simp
                                              refine hK.out _ _ (bnext hH bx hH.size) (fun hG => ?_)
                                              clear hK K
                                              refine wpAnyH_now hG ?_
                                              clear hG hH
                                              replace bx := ((Below.refl wr.heap.size wr).drew).trans bx
                                              obtain ⟨aQ, cQ, rfl⟩ := lQ.shape
                                              replace rB3 := brow bx rB3
                                              replace gW := brow bx gW
                                              have hBQ := Lib.hid (bnext hB3.out bx hB3.out.size)
                                              clear bx
                                              have hH := Below.refl wQ.heap.size wQ
                                              try simp only [Act.put, List.setIfInBounds_toArray, List.set_cons_zero, List.set_cons_succ]
                                              refine wpAnyH_take (i := 6) (oi := { dst := some 247, op := Op.move (Operand.tmp 253), type := 32, pos := "laws.go:154", after := #[{ on := 5, ground := Ground.data }], guard := none }) (v := .tuple #[.slice aQ NQ cQ, .int .i64 0]) rfl (by kernel_rfl) (by kernel_rfl) (by kernel_rfl) (fun _ _ _ h => h) (Or.inl ⟨by rfl, ?_⟩) hH ?_
                                              · intro w1 hS; (try dsimp only at hS); go_simp
                                              try simp only [Act.put, List.setIfInBounds_toArray, List.set_cons_zero, List.set_cons_succ]
                                              refine wpAnyH_take (i := 7) (oi := { dst := some 254, op := Op.extract (Operand.tmp 247) 0, type := 30, pos := "laws.go:154", after := #[{ on := 6, ground := Ground.data }], guard := none }) (v := .slice aQ NQ cQ) rfl (by kernel_rfl) (by kernel_rfl) (by kernel_rfl) (fun _ _ _ h => h) (Or.inl ⟨by rfl, ?_⟩) hH ?_
                                              · intro w1 hS; (try dsimp only at hS); go_simp
                                              try simp only [Act.put, List.setIfInBounds_toArray, List.set_cons_zero, List.set_cons_succ]
                                              refine wpAnyH_take (i := 8) (oi := { dst := some 255, op := Op.extract (Operand.tmp 247) 1, type := 2, pos := "laws.go:154", after := #[{ on := 6, ground := Ground.data }, { on := 9, ground := Ground.gcOnly Departure.lateStores }], guard := none }) (v := .int .i64 0) rfl (by kernel_rfl) (by kernel_rfl) (by kernel_rfl) (fun _ _ _ h => h) (Or.inl ⟨by rfl, ?_⟩) hH ?_
                                              · intro w1 hS; (try dsimp only at hS); go_simp
                                              try simp only [Act.put, List.setIfInBounds_toArray, List.set_cons_zero, List.set_cons_succ]
                                              refine wpAnyH_take (i := 9) (oi := { dst := some 25, op := Op.assign (Operand.tmp 254), type := 30, pos := "laws.go:154", after := #[{ on := 7, ground := Ground.data }, { on := 5, ground := Ground.chain }, { on := 0, ground := Ground.phase }, { on := 1, ground := Ground.phase }, { on := 2, ground := Ground.phase }, { on := 3, ground := Ground.phase }, { on := 4, ground := Ground.phase }, { on := 5, ground := Ground.phase }, { on := 6, ground := Ground.phase }, { on := 7, ground := Ground.phase }, { on := 8, ground := Ground.textOnly Departure.lateStores }], guard := none }) (v := .slice aQ NQ cQ) rfl (by kernel_rfl) (by kernel_rfl) (by kernel_rfl) (fun _ _ _ h => h) (Or.inl ⟨by rfl, ?_⟩) hH ?_
                                              · intro w1 hS; (try dsimp only at hS); go_simp
                                              try simp only [Act.put, List.setIfInBounds_toArray, List.set_cons_zero, List.set_cons_succ]
                                              refine wpAnyH_take (i := 10) (oi := { dst := some 26, op := Op.assign (Operand.tmp 255), type := 2, pos := "laws.go:154", after := #[{ on := 8, ground := Ground.data }, { on := 9, ground := Ground.chain }, { on := 0, ground := Ground.phase }, { on := 1, ground := Ground.phase }, { on := 2, ground := Ground.phase }, { on := 3, ground := Ground.phase }, { on := 4, ground := Ground.phase }, { on := 5, ground := Ground.phase }, { on := 6, ground := Ground.phase }, { on := 7, ground := Ground.phase }, { on := 8, ground := Ground.phase }, { on := 9, ground := Ground.phase }], guard := none }) (v := .int .i64 0) rfl (by kernel_rfl) (by kernel_rfl) (by kernel_rfl) (fun _ _ _ h => h) (Or.inl ⟨by rfl, ?_⟩) hH ?_
                                              · intro w1 hS; (try dsimp only at hS); go_simp
                                              try simp only [Act.put, List.setIfInBounds_toArray, List.set_cons_zero, List.set_cons_succ]
                                              refine wpAnyH_done (by kernel_rfl) ?_ _
                                              clear rW
                                              go_wp2_with fail
                                              as_aux_lemma =>
                                                have CHP := fun W h => A2HasPlace_any wr.drew.heap.size NQ (.slice aQ NQ cQ) FQ A B W h (by omega)
                                                rw [ov3] at CHP
                                                refine wp_region_held_drew (S := fun w' => Below wQ.heap.size wQ w') (by kernel_rfl) ((Below.refl _ _).drew) (fun hH => ?_)
                                                refine wpAnyH_take (i := 0) (oi := { dst := some 256, op := Op.move (Operand.tmp 26), type := 2, pos := "laws.go:155", after := #[], guard := none }) (v := .int .i64 0) rfl (by kernel_rfl) (by kernel_rfl) (by kernel_rfl) (fun _ _ _ h => h) (Or.inl ⟨by rfl, ?_⟩) hH ?_
                                                · intro w1 hS; (try dsimp only at hS); go_simp
                                                try simp only [Act.put, List.setIfInBounds_toArray, List.set_cons_zero, List.set_cons_succ]
                                                refine wpAnyH_take (i := 1) (oi := { dst := some 257, op := Op.binOp BinOp.neq 2 (Operand.tmp 256) (Operand.const (Value.int IntKind.i64 0)) 2, type := 4, pos := "laws.go:155", after := #[{ on := 0, ground := Ground.data }], guard := none }) (v := .bool false) rfl (by kernel_rfl) (by kernel_rfl) (by kernel_rfl) (fun _ _ _ h => h) (Or.inl ⟨by rfl, ?_⟩) hH ?_
                                                · intro w1 hS; (try dsimp only at hS); go_simp
                                                try simp only [Act.put, List.setIfInBounds_toArray, List.set_cons_zero, List.set_cons_succ]
                                                refine wpAnyH_take (i := 2) (oi := { dst := some 258, op := Op.move (Operand.tmp 257), type := 4, pos := "laws.go:155", after := #[{ on := 1, ground := Ground.data }], guard := none }) (v := .bool false) rfl (by kernel_rfl) (by kernel_rfl) (by kernel_rfl) (fun _ _ _ h => h) (Or.inl ⟨by rfl, ?_⟩) hH ?_
                                                · intro w1 hS; (try dsimp only at hS); go_simp
                                                try simp only [Act.put, List.setIfInBounds_toArray, List.set_cons_zero, List.set_cons_succ]
                                                refine wpAnyH_take (i := 3) (oi := { dst := some 259, op := Op.move (Operand.tmp 25), type := 30, pos := "laws.go:155", after := #[{ on := 2, ground := Ground.guard }], guard := some (2, false) }) (v := .slice aQ NQ cQ) rfl (by kernel_rfl) (by kernel_rfl) (by kernel_rfl) (fun _ _ _ h => h) (Or.inl ⟨by rfl, ?_⟩) hH ?_
                                                · intro w1 hS; (try dsimp only at hS); go_simp
                                                try simp only [Act.put, List.setIfInBounds_toArray, List.set_cons_zero, List.set_cons_succ]
                                                refine wpAnyH_take (i := 4) (oi := { dst := some 260, op := Op.move (Operand.tmp 6), type := 30, pos := "laws.go:155", after := #[{ on := 2, ground := Ground.guard }], guard := some (2, false) }) (v := .slice (some ⟨g, 0, none⟩) N cap) rfl (by kernel_rfl) (by kernel_rfl) (by kernel_rfl) (fun _ _ _ h => h) (Or.inl ⟨by rfl, ?_⟩) hH ?_
                                                · intro w1 hS; (try dsimp only at hS); go_simp
                                                try simp only [Act.put, List.setIfInBounds_toArray, List.set_cons_zero, List.set_cons_succ]
                                                refine wpAnyH_take (i := 5) (oi := { dst := some 261, op := Op.move (Operand.tmp 8), type := 3, pos := "laws.go:155", after := #[{ on := 2, ground := Ground.guard }], guard := some (2, false) }) (v := .int .i64 k) rfl (by kernel_rfl) (by kernel_rfl) (by kernel_rfl) (fun _ _ _ h => h) (Or.inl ⟨by rfl, ?_⟩) hH ?_
                                                · intro w1 hS; (try dsimp only at hS); go_simp
                                                try simp only [Act.put, List.setIfInBounds_toArray, List.set_cons_zero, List.set_cons_succ]
                                                refine wpAnyH_take (i := 6) (oi := { dst := some 262, op := Op.indexAddr 30 (Operand.tmp 260) (Operand.tmp 261), type := 0, pos := "laws.go:155", after := #[{ on := 4, ground := Ground.data }, { on := 5, ground := Ground.data }, { on := 2, ground := Ground.guard }], guard := some (2, false) }) (v := .pointer (some ⟨g, k * 2, none⟩)) rfl (by kernel_rfl) (by kernel_rfl) (by kernel_rfl) (fun _ _ _ h => h) (Or.inl ⟨by rfl, ?_⟩) hH ?_
                                                · intro w1 hS; (try dsimp only at hS); go_simp
                                                try simp only [Act.put, List.setIfInBounds_toArray, List.set_cons_zero, List.set_cons_succ]
                                                refine wpAnyH_take (i := 7) (oi := { dst := some 263, op := Op.load 35 (Operand.tmp 262), type := 35, pos := "laws.go:155", after := #[{ on := 6, ground := Ground.data }, { on := 2, ground := Ground.guard }], guard := some (2, false) }) (v := .agg #[.int .i8 A, .int .i8 B]) rfl (by kernel_rfl) (by kernel_rfl) (by kernel_rfl) (fun _ _ _ h => h) (Or.inl ⟨by rfl, ?_⟩) hH ?_
                                                · intro w1 hS; (try dsimp only at hS); have s0 : w1.cell? ⟨g, k * 2, none⟩ = some (.int .i8 A) := (by rw [cell_of_rowAt (brow hS gW)]; exact c0); have s1 : w1.cell? ⟨g, k * 2 + 1, none⟩ = some (.int .i8 B) := (by rw [cell_of_rowAt (brow hS gW)]; exact c1); go_simp
                                                try simp only [Act.put, List.setIfInBounds_toArray, List.set_cons_zero, List.set_cons_succ]
                                                refine wpAnyH_ready (rs := [8]) (by kernel_rfl) (by simp) (AllReadyH.cons (o := { dst := some 264, op := Op.call { callee := Callee.value (Operand.func 16), args := #[Operand.tmp 259, Operand.tmp 263], argTypes := #[30, 35] }, type := 4, pos := "laws.go:155", after := #[{ on := 3, ground := Ground.data }, { on := 7, ground := Ground.data }, { on := 2, ground := Ground.chain }, { on := 2, ground := Ground.guard }], guard := some (2, false) }) rfl (fun K hK => ?_) AllReadyH.nil)
                                                go_simp
                                                refine (CHP wQ.drew lQ).mono ?_
                                                rintro x wH ⟨rfl, bx⟩
                                                go_simp
                                                refine hK.out _ _ (bnext hH bx hH.size) (fun hG => ?_)
                                                clear hK K
                                                refine wpAnyH_now hG ?_
                                                clear hG hH
                                                replace bx := ((Below.refl wQ.heap.size wQ).drew).trans bx
                                                replace rB3 := brow bx rB3
                                                replace gW := brow bx gW
                                                replace hBQ := Lib.hid (bnext hBQ.out bx hBQ.out.size)
                                                clear bx
                                                have hH := Below.refl wH.heap.size wH
                                                try simp only [Act.put, List.setIfInBounds_toArray, List.set_cons_zero, List.set_cons_succ]
                                                refine wpAnyH_take (i := 9) (oi := { dst := some 265, op := Op.unOp UnOp.not 4 (Operand.tmp 264), type := 4, pos := "laws.go:155", after := #[{ on := 8, ground := Ground.data }, { on := 2, ground := Ground.guard }], guard := some (2, false) }) (v := .bool false) rfl (by kernel_rfl) (by kernel_rfl) (by kernel_rfl) (fun _ _ _ h => h) (Or.inl ⟨by rfl, ?_⟩) hH ?_
                                                · intro w1 hS; (try dsimp only at hS); go_simp
                                                try simp only [Act.put, List.setIfInBounds_toArray, List.set_cons_zero, List.set_cons_succ]
                                                refine wpAnyH_take (i := 10) (oi := { dst := some 266, op := Op.pick (Operand.tmp 258) (Operand.const (Value.bool true)) (Operand.tmp 265), type := 4, pos := "laws.go:155", after := #[{ on := 2, ground := Ground.data }, { on := 9, ground := Ground.data }], guard := none }) (v := .bool false) rfl (by kernel_rfl) (by kernel_rfl) (by kernel_rfl) (fun _ _ _ h => h) (Or.inl ⟨by rfl, ?_⟩) hH ?_
                                                · intro w1 hS; (try dsimp only at hS); go_simp
                                                try simp only [Act.put, List.setIfInBounds_toArray, List.set_cons_zero, List.set_cons_succ]
                                                refine wpAnyH_take (i := 11) (oi := { dst := some 267, op := Op.move (Operand.tmp 266), type := 4, pos := "laws.go:155", after := #[{ on := 10, ground := Ground.data }, { on := 8, ground := Ground.chain }], guard := none }) (v := .bool false) rfl (by kernel_rfl) (by kernel_rfl) (by kernel_rfl) (fun _ _ _ h => h) (Or.inl ⟨by rfl, ?_⟩) hH ?_
                                                · intro w1 hS; (try dsimp only at hS); go_simp
                                                try simp only [Act.put, List.setIfInBounds_toArray, List.set_cons_zero, List.set_cons_succ]
                                                refine wpAnyH_take (i := 12) (oi := { dst := some 268, op := Op.move (Operand.tmp 15), type := 30, pos := "laws.go:155", after := #[{ on := 11, ground := Ground.guard }], guard := some (11, false) }) (v := .slice aB2 NB cB2) rfl (by kernel_rfl) (by kernel_rfl) (by kernel_rfl) (fun _ _ _ h => h) (Or.inl ⟨by rfl, ?_⟩) hH ?_
                                                · intro w1 hS; (try dsimp only at hS); go_simp
                                                try simp only [Act.put, List.setIfInBounds_toArray, List.set_cons_zero, List.set_cons_succ]
                                                refine wpAnyH_take (i := 13) (oi := { dst := some 269, op := Op.move (Operand.tmp 24), type := 3, pos := "laws.go:155", after := #[{ on := 11, ground := Ground.guard }], guard := some (11, false) }) (v := .int .i64 q) rfl (by kernel_rfl) (by kernel_rfl) (by kernel_rfl) (fun _ _ _ h => h) (Or.inl ⟨by rfl, ?_⟩) hH ?_
                                                · intro w1 hS; (try dsimp only at hS); go_simp
                                                try simp only [Act.put, List.setIfInBounds_toArray, List.set_cons_zero, List.set_cons_succ]
                                                refine wpAnyH_take (i := 14) (oi := { dst := some 270, op := Op.indexAddr 30 (Operand.tmp 268) (Operand.tmp 269), type := 0, pos := "laws.go:155", after := #[{ on := 12, ground := Ground.data }, { on := 13, ground := Ground.data }, { on := 11, ground := Ground.guard }], guard := some (11, false) }) (v := .pointer (some ⟨gb, q * 2, none⟩)) rfl (by kernel_rfl) (by kernel_rfl) (by kernel_rfl) (fun _ _ _ h => h) (Or.inl ⟨by rfl, ?_⟩) hH ?_
                                                · intro w1 hS; (try dsimp only at hS); have hab := HAB.out; go_simp
                                                try simp only [Act.put, List.setIfInBounds_toArray, List.set_cons_zero, List.set_cons_succ]
                                                refine wpAnyH_take (i := 15) (oi := { dst := some 271, op := Op.fieldAddr 35 (Operand.tmp 270) 0, type := 0, pos := "laws.go:155", after := #[{ on := 14, ground := Ground.data }, { on := 11, ground := Ground.guard }], guard := some (11, false) }) (v := .pointer (some ⟨gb, q * 2, none⟩)) rfl (by kernel_rfl) (by kernel_rfl) (by kernel_rfl) (fun _ _ _ h => h) (Or.inl ⟨by rfl, ?_⟩) hH ?_
                                                · intro w1 hS; (try dsimp only at hS); go_simp
                                                try simp only [Act.put, List.setIfInBounds_toArray, List.set_cons_zero, List.set_cons_succ]
                                                refine wpAnyH_take (i := 16) (oi := { dst := some 272, op := Op.load 24 (Operand.tmp 271), type := 24, pos := "laws.go:155", after := #[{ on := 15, ground := Ground.data }, { on := 11, ground := Ground.guard }], guard := some (11, false) }) (v := .int .i8 ((A : Int) + 1)) rfl (by kernel_rfl) (by kernel_rfl) (by kernel_rfl) (fun _ _ _ h => h) (Or.inl ⟨by rfl, ?_⟩) hH ?_
                                                · intro w1 hS; (try dsimp only at hS); have s0 : w1.cell? ⟨gb, q * 2, none⟩ = some (.int .i8 ((A : Int) + 1)) := (by rw [cell_of_rowAt (brow hS rB3)]; exact b0); have s1 : w1.cell? ⟨gb, q * 2 + 1, none⟩ = some (.int .i8 TQ) := (by rw [cell_of_rowAt (brow hS rB3)]; exact b1); go_simp
                                                try simp only [Act.put, List.setIfInBounds_toArray, List.set_cons_zero, List.set_cons_succ]
                                                refine wpAnyH_take (i := 17) (oi := { dst := some 273, op := Op.move (Operand.tmp 6), type := 30, pos := "laws.go:155", after := #[{ on := 11, ground := Ground.guard }], guard := some (11, false) }) (v := .slice (some ⟨g, 0, none⟩) N cap) rfl (by kernel_rfl) (by kernel_rfl) (by kernel_rfl) (fun _ _ _ h => h) (Or.inl ⟨by rfl, ?_⟩) hH ?_
                                                · intro w1 hS; (try dsimp only at hS); go_simp
                                                try simp only [Act.put, List.setIfInBounds_toArray, List.set_cons_zero, List.set_cons_succ]
                                                refine wpAnyH_take (i := 18) (oi := { dst := some 274, op := Op.move (Operand.tmp 8), type := 3, pos := "laws.go:155", after := #[{ on := 11, ground := Ground.guard }], guard := some (11, false) }) (v := .int .i64 k) rfl (by kernel_rfl) (by kernel_rfl) (by kernel_rfl) (fun _ _ _ h => h) (Or.inl ⟨by rfl, ?_⟩) hH ?_
                                                · intro w1 hS; (try dsimp only at hS); go_simp
                                                try simp only [Act.put, List.setIfInBounds_toArray, List.set_cons_zero, List.set_cons_succ]
                                                refine wpAnyH_take (i := 19) (oi := { dst := some 275, op := Op.indexAddr 30 (Operand.tmp 273) (Operand.tmp 274), type := 0, pos := "laws.go:155", after := #[{ on := 17, ground := Ground.data }, { on := 18, ground := Ground.data }, { on := 11, ground := Ground.guard }], guard := some (11, false) }) (v := .pointer (some ⟨g, k * 2, none⟩)) rfl (by kernel_rfl) (by kernel_rfl) (by kernel_rfl) (fun _ _ _ h => h) (Or.inl ⟨by rfl, ?_⟩) hH ?_
                                                · intro w1 hS; (try dsimp only at hS); go_simp
                                                try simp only [Act.put, List.setIfInBounds_toArray, List.set_cons_zero, List.set_cons_succ]
                                                refine wpAnyH_take (i := 20) (oi := { dst := some 276, op := Op.fieldAddr 35 (Operand.tmp 275) 0, type := 0, pos := "laws.go:155", after := #[{ on := 19, ground := Ground.data }, { on := 11, ground := Ground.guard }], guard := some (11, false) }) (v := .pointer (some ⟨g, k * 2, none⟩)) rfl (by kernel_rfl) (by kernel_rfl) (by kernel_rfl) (fun _ _ _ h => h) (Or.inl ⟨by rfl, ?_⟩) hH ?_
                                                · intro w1 hS; (try dsimp only at hS); go_simp
                                                try simp only [Act.put, List.setIfInBounds_toArray, List.set_cons_zero, List.set_cons_succ]
                                                refine wpAnyH_take (i := 21) (oi := { dst := some 277, op := Op.load 24 (Operand.tmp 276), type := 24, pos := "laws.go:155", after := #[{ on := 20, ground := Ground.data }, { on := 11, ground := Ground.guard }], guard := some (11, false) }) (v := .int .i8 A) rfl (by kernel_rfl) (by kernel_rfl) (by kernel_rfl) (fun _ _ _ h => h) (Or.inl ⟨by rfl, ?_⟩) hH ?_
                                                · intro w1 hS; (try dsimp only at hS); have s0 : w1.cell? ⟨g, k * 2, none⟩ = some (.int .i8 A) := (by rw [cell_of_rowAt (brow hS gW)]; exact c0); have s1 : w1.cell? ⟨g, k * 2 + 1, none⟩ = some (.int .i8 B) := (by rw [cell_of_rowAt (brow hS gW)]; exact c1); go_simp
                                                try simp only [Act.put, List.setIfInBounds_toArray, List.set_cons_zero, List.set_cons_succ]
                                                refine wpAnyH_take (i := 22) (oi := { dst := some 278, op := Op.binOp BinOp.add 24 (Operand.tmp 277) (Operand.const (Value.int IntKind.i8 1)) 24, type := 24, pos := "laws.go:155", after := #[{ on := 21, ground := Ground.data }, { on := 11, ground := Ground.guard }], guard := some (11, false) }) (v := .int .i8 ((A : Int) + 1)) rfl (by kernel_rfl) (by kernel_rfl) (by kernel_rfl) (fun _ _ _ h => h) (Or.inl ⟨by rfl, ?_⟩) hH ?_
                                                · intro w1 hS; (try dsimp only at hS); go_simp
                                                try simp only [Act.put, List.setIfInBounds_toArray, List.set_cons_zero, List.set_cons_succ]
                                                refine wpAnyH_take (i := 23) (oi := { dst := some 279, op := Op.binOp BinOp.neq 24 (Operand.tmp 272) (Operand.tmp 278) 24, type := 4, pos := "laws.go:155", after := #[{ on := 16, ground := Ground.data }, { on := 22, ground := Ground.data }, { on := 11, ground := Ground.guard }], guard := some (11, false) }) (v := .bool false) rfl (by kernel_rfl) (by kernel_rfl) (by kernel_rfl) (fun _ _ _ h => h) (Or.inl ⟨by rfl, ?_⟩) hH ?_
                                                · intro w1 hS; (try dsimp only at hS); go_simp
                                                try simp only [Act.put, List.setIfInBounds_toArray, List.set_cons_zero, List.set_cons_succ]
                                                refine wpAnyH_take (i := 24) (oi := { dst := some 280, op := Op.pick (Operand.tmp 267) (Operand.const (Value.bool true)) (Operand.tmp 279), type := 4, pos := "laws.go:155", after := #[{ on := 11, ground := Ground.data }, { on := 23, ground := Ground.data }], guard := none }) (v := .bool false) rfl (by kernel_rfl) (by kernel_rfl) (by kernel_rfl) (fun _ _ _ h => h) (Or.inl ⟨by rfl, ?_⟩) hH ?_
                                                · intro w1 hS; (try dsimp only at hS); go_simp
                                                try simp only [Act.put, List.setIfInBounds_toArray, List.set_cons_zero, List.set_cons_succ]
                                                refine wpAnyH_done (by kernel_rfl) ?_ _
                                                go_wp2_with fail
                                                refine ⟨⟨q + 1, by omega, by go_num, hBQ⟩, by simp [intOf]; omega⟩
                                          · obtain rfl : q = NB := by omega
                                            clear rW gW
                                            have HE := Lib.hid (bnext hBw.out hB3.out hBw.out.size)
                                            go_wp2_with fail
                                            refine ⟨⟨k + 1, by omega, by go_num, by go_num, HE⟩, by simp [intOf]; omega⟩
    · obtain rfl : k = N := by omega
      have k0 : c[0]? = some (.int .i8 (ww : Int)) := by rw [Array.getElem?_eq_getElem (by omega), HR.out.wide (by omega), HH.out.2]
      have k1 : c[1]? = some (.int .i8 (hh : Int)) := by rw [Array.getElem?_eq_getElem (by omega), HR.out.high (by omega), HH.out.1]
      obtain ⟨rs, hrs⟩ : ∃ rs, rs = r.s := ⟨_, rfl⟩
      have k2 : c[2]? = some (.int .u8 rs) := by rw [hrs, Array.getElem?_eq_getElem (by omega), HR.out.shift (by omega)]
      have rs1 : 0 ≤ rs ∧ rs ≤ 1 := by rw [hrs]; exact ⟨HR.out.s0, HO.out.2.2.2.2.1⟩
      have HRS := Lib.hid hrs
      clear hrs
      have wh : IntKind.i64.wrap (hh : Int) = hh := by rw [IntKind.wrap_i64]; omega
      have www : IntKind.i64.wrap (ww : Int) = ww := by rw [IntKind.wrap_i64]; omega
      have wrs : IntKind.i64.wrap rs = rs := by rw [IntKind.wrap_i64]; omega
      have w2 : IntKind.i64.wrap (2 * (ww : Int)) = 2 * (ww : Int) := by rw [IntKind.wrap_i64]; omega
      have w21 : IntKind.i64.wrap (2 * (ww : Int) + 1) = 2 * (ww : Int) + 1 := by rw [IntKind.wrap_i64]; omega
      clear rW gW
      as_aux_lemma =>
        go_wp2_with fail
        go_loopw [27, 28] (fun hv iv W => ∃ q : Nat, q ≤ hh ∧ iv = .int .i64 q ∧ hv = .int .i64 q ∧ Hid (Below w3.heap.size w3 W)) (fun _ iv _ => hh - (intOf iv).toNat)
        case atStart => exact ⟨0, by omega, rfl, rfl, hB⟩
        case round =>
          clear hB
          obtain ⟨q, hq, rfl, rfl, hB⟩ := hrel
          have rW := brow hB.out R3
          have m1 : wr.cell? ⟨RB, 1, none⟩ = some (.int .i8 (hh : Int)) := by rw [cell_of_rowAt rW]; exact k1
          by_cases hlt2 : q < hh
          · have q0 : (q : Int) < hh := by omega
            have CS := fun W => shiI c r q W HR.out HO.out ⟨by omega, by have := HH.out; omega⟩
            have HTI := Lib.hid (fun (W : World) (x : Int) hx => tatI c r q x W HR.out HO.out ⟨by omega, by have := HH.out; omega⟩ hx)
            have HTS := Lib.hid (fun (W : World) (x : Int) hx => tatS c r q x W HR.out HO.out ⟨by omega, by have := HH.out; omega⟩ hx)
            obtain ⟨sh, hsh⟩ : ∃ sh, sh = (r.by q == 1) := ⟨_, rfl⟩
            rw [← hsh] at CS
            have hs1 : (((q : Int) + rs) % 2 == 1) = sh := by rw [hsh, HRS.out]; rfl
            have wq : IntKind.i64.wrap ((q : Int) + rs) = (q : Int) + rs := by rw [IntKind.wrap_i64]; omega
            have q1 : 0 ≤ (q : Int) + rs := by omega
            have HSH := Lib.hid hsh
            clear hsh
            go_wp2_with fail
            refine (CS _).mono ?_
            rintro e wI ⟨rfl, bI⟩
            have hBI := Lib.hid (bnext hB.out bI hB.out.size)
            have rI := brow bI rW
            have m2 : wI.cell? ⟨RB, 2, none⟩ = some (.int .u8 rs) := by rw [cell_of_rowAt rI]; exact k2
            clear bI CS rW m1 hB
            as_aux_lemma =>
              go_wp2_with fail
              go_loopw [27, 31] (fun hv iv W => ∃ x : Nat, x ≤ 2 * ww + 1 ∧ iv = .int .i64 x ∧ hv = .int .i64 ((q : Int) + r.halfs q x) ∧ Hid (Below w3.heap.size w3 W)) (fun _ iv _ => 2 * ww + 1 - (intOf iv).toNat)
              case atStart => exact ⟨0, by omega, rfl, by have := Rf.halfs_zero (r := r) (k := q) HO.out.1; simp [this], hBI⟩
              case round =>
                clear hBI rI m2 hs1 wq q1
                obtain ⟨x, hx, rfl, rfl, hB⟩ := hrel
                have rW := brow hB.out R3
                have m0 : wr.cell? ⟨RB, 0, none⟩ = some (.int .i8 (ww : Int)) := by rw [cell_of_rowAt rW]; exact k0
                by_cases hx2 : x < 2 * ww + 1
                · have x0 : (x : Int) < 2 * (ww : Int) + 1 := by omega
                  have hxr : 0 ≤ (x : Int) ∧ (x : Int) ≤ 2 * r.w := by have := HH.out; omega
                  have CI := fun W => HTI.out W x hxr
                  have CZ := fun W => HTS.out W x hxr
                  have hhit := Rf.halfs_hit (r := r) (k := q) (c := x) HO.out.1 hxr
                  have hmis := Rf.halfs_miss (r := r) (k := q) (c := x) hxr
                  have hbd : 0 ≤ r.halfs q x ∧ r.halfs q x ≤ 1 := by unfold Rf.halfs; split <;> split <;> omega
                  generalize r.tile q x = T at *
                  generalize hHX : r.halfs q x = HX at *
                  generalize hHY : r.halfs q ((x : Int) + 1) = HY at *
                  have HHY := Lib.hid hHY
                  clear hHX hHY
                  have tt : (T != T) = false := by simp
                  by_cases hT : T < 0
                  · obtain ⟨e1, e2⟩ := hhit hT
                    have hT1 : decide (T < 0) = true := by simpa using hT
                    have wz : IntKind.i64.wrap ((q : Int) + HX + 1) = (q : Int) + HX + 1 := by rw [IntKind.wrap_i64]; omega
                    have hs2 : ((x : Int) == 0) = sh := by rw [HSH.out, Bool.eq_iff_iff]; simp only [beq_iff_eq]; exact e2.symm
                    have hs3 : (x == 0) = sh := by rw [← hs2, Bool.eq_iff_iff]; simp
                    have hs4 : decide (x = 0) = sh := by rw [← hs3]; rfl
                    have hB9 := hB
                    have E1 := Lib.hid (show (q : Int) + HX + 1 = q + r.halfs q ((x + 1 : Nat) : Int) by rw [show ((x + 1 : Nat) : Int) = (x : Int) + 1 from by omega, HHY.out]; omega)
                    clear hhit hmis hB e1 e2 hT
                    as_aux_lemma =>
                      go_wp2_with fail
                      refine (CI _).mono ?_
                      rintro e wa ⟨rfl, ba⟩
                      have ra := brow ba rW
                      have hBa := Lib.hid (bnext hB9.out ba hB9.out.size)
                      clear ba rW m0 hB9 CI
                      go_wp2_with fail
                      refine (CZ _).mono ?_
                      rintro e wb ⟨rfl, bb⟩
                      have hBb := Lib.hid (bnext hBa.out bb hBa.out.size)
                      clear bb ra hBa CZ
                      go_wp2_with fail
                      refine ⟨⟨x + 1, by omega, by go_num, by rw [E1.out], hBb⟩, by simp [intOf]; omega⟩
                  · have hT1 : decide (T < 0) = false := by simpa using hT
                    have e1 := hmis (by omega)
                    have hB9 := hB
                    have E1 := Lib.hid (show (q : Int) + HX = q + r.halfs q ((x + 1 : Nat) : Int) by rw [show ((x + 1 : Nat) : Int) = (x : Int) + 1 from by omega, HHY.out]; omega)
                    clear hhit hmis hB e1 hT
                    as_aux_lemma =>
                      go_wp2_with fail
                      refine (CI _).mono ?_
                      rintro e wa ⟨rfl, ba⟩
                      have ra := brow ba rW
                      have hBa := Lib.hid (bnext hB9.out ba hB9.out.size)
                      clear ba rW m0 hB9 CI
                      go_wp2_with fail
                      refine (CZ _).mono ?_
                      rintro e wb ⟨rfl, bb⟩
                      have hBb := Lib.hid (bnext hBa.out bb hBa.out.size)
                      clear bb ra hBa CZ
                      go_wp2_with fail
                      refine ⟨⟨x + 1, by omega, by go_num, by rw [E1.out], hBb⟩, by simp [intOf]; omega⟩
                · obtain rfl : x = 2 * ww + 1 := by omega
                  have E1 := Lib.hid (show (q : Int) + r.halfs q ((2 * ww + 1 : Nat) : Int) = ((q + 1 : Nat) : Int) by
                    have := Rf.halfs_end (r := r) (k := q) HO.out.1
                    rw [show ((2 * ww + 1 : Nat) : Int) = 2 * r.w + 1 by have := HH.out; omega, this]; omega)
                  rw [E1.out]
                  have xx : ¬ (2 * (ww : Int) + 1 < 2 * (ww : Int) + 1) := by omega
                  go_wp2_with fail
                  refine ⟨⟨q + 1, by omega, by go_num, by first | rfl | go_num, hB⟩, by simp [intOf]; omega⟩
          · have h0 : q = hh := by omega
            clear hlt2
            have qq : ¬ (q : Int) < hh := by omega
            have cov : (2 * (k : Int) + q) = (hh : Int) * (2 * (ww : Int) + 1) := by
              rw [HN.out, h0]; push_cast
              rw [Int.mul_add, Int.mul_one, Int.mul_left_comm]
            have qh : (q : Int) = hh := by omega
            obtain ⟨CV, hCV⟩ : ∃ CV, CV = (hh : Int) * (2 * (ww : Int) + 1) := ⟨_, rfl⟩
            have cb : 0 ≤ CV ∧ CV ≤ 1000 := by omega
            have cw : IntKind.i64.wrap ((hh : Int) * (2 * (ww : Int) + 1)) = CV := by rw [← hCV, IntKind.wrap_i64]; omega
            have cw3 : wrap64 ((hh : Int) * (2 * (ww : Int) + 1)) = CV := by rw [← hCV]; unfold wrap64; omega
            have cw2 : IntKind.i64.wrap (2 * (k : Int) + q) = CV := by rw [cov, cw]
            have cw4 : wrap64 (2 * (k : Int) + q) = CV := by rw [cov, cw3]
            have cw5 : (2 * (k : Int) + q) = CV := by rw [cov, hCV]
            have cvn : ((2 * (k : Int) + q) != CV) = false := by simp [cw5]
            clear hCV cw5 cb
            have m0 : wr.cell? ⟨RB, 0, none⟩ = some (.int .i8 (ww : Int)) := by rw [cell_of_rowAt rW]; exact k0
            have cvv : (CV != CV) = false := by simp
            have qhv : ((q : Int) != hh) = false := by simp [qh]
            have hB9 := hB
            have CP := fun W h => A2Place_any n2 (.slice a2 n2 cap2) f2 c r W h (by omega) HF2.out HR.out HO.out
            have CK := fun W h => a2At_any n2 (.slice a2 n2 cap2) f2 2 4 W h (by omega) HF2.out (by omega) (by omega)
            clear cov qh h0 hB
            as_aux_lemma =>
              go_wp2_with fail
              have b2w := H2.out.below (HB3.out.trans (hB9.out.mono HB3.out.size)) (Nat.le_refl _)
              refine (CP _ b2w).mono ?_
              rintro e wp ⟨pa, pb, rfl, hpa, hpb, bp⟩
              have rP := brow bp rW
              have hBP := Lib.hid (bnext hB9.out bp hB9.out.size)
              have b2p := Lib.hid (b2w.below bp (Nat.le_refl _))
              clear bp rW hB9 CP m0 m1 b2w cw cw2 cw3 cw4 cvn cvv qhv
              have pa8 : pa < 8 := by have := HH.out; omega
              have pb8 : pb < 8 := by have := HH.out; omega
              go_wp2_with fail
              refine gen_callsW fun W4 hW => ?_
              have lP := rowAt_lt rP
              have r4 : rowAt W4 RB = some c := by rw [hW]; first | exact (rowAt_alloc_past _ _ _ lP).trans rP | simp [go_sem, rP]
              have p4 : rowAt W4 wp.heap.size = some #[.int .i8 (pa : Int), .int .i8 (pb : Int)] := by rw [hW]; exact rowAt_alloc_at _ _ _ _ rfl
              have bW4 : Below wp.heap.size wp W4 := by rw [hW]; exact (Below.refl _ _).alloc (Nat.le_refl _) _
              have hB4 := Lib.hid (bnext hBP.out bW4 hBP.out.size)
              have b24 := b2p.out.below bW4 (Nat.le_refl _)
              clear hW bW4 rP hBP b2p
              refine (CK _ b24).mono ?_
              rintro e w5 ⟨kd, rfl, hkd, b5⟩
              have r5 := brow b5 r4
              have p5 := brow b5 p4
              have hB5 := Lib.hid (bnext hB4.out b5 hB4.out.size)
              clear b5 r4 p4 hB4 b24 CK
              have hz0 := Rf.ask_at (a := pa) (b := pb) HO.out ⟨by omega, hpa⟩ ⟨by omega, hpb⟩
              have CS1 := fun W => implSetTile_yes c r pa pb kd W HR.out pa8 pb8 (by omega) hz0
              have CS2 := fun W => specSetTile_yes c r pa pb kd W HR.out pa8 pb8 (by omega) hz0
              have hD := HR.out.set (pa * 8 + pb) (by omega) kd (by omega)
              generalize hDD : c.setIfInBounds (3 + (pa * 8 + pb)) (.int .u8 kd) = D at *
              have hDs := hD.size
              have hDo := hD.ones
              have heq := fun W => run_eq_roof D D _ _ hD hD W
              rw [Rf.eqB_self] at heq
              have HEQ := Lib.hid heq
              have HDD := Lib.hid hD
              clear hD heq hDD hz0
              have HKD := Lib.hid hkd
              generalize wp.heap.size = PB at *
              as_aux_lemma =>
                have e0 : w5.cell? ⟨PB, 0, none⟩ = some (.int .i8 (pa : Int)) := by rw [cell_of_rowAt p5]; rfl
                have e1 : w5.cell? ⟨PB, 1, none⟩ = some (.int .i8 (pb : Int)) := by rw [cell_of_rowAt p5]; rfl
                go_wp2_with fail
                refine (CS1 _).mono ?_
                rintro e w6 ⟨rfl, b6⟩
                have r6 := brow b6 r5
                have p6 := brow b6 p5
                have hB6 := Lib.hid (bnext hB5.out b6 hB5.out.size)
                clear b6 r5 p5 hB5 CS1 e0 e1
                have l6 := rowAt_lt r6
                have m6 := rowAt_lt p6
                have r7 : rowAt (w6.alloc (.cells D 28)) RB = some c := (rowAt_alloc_past _ _ _ l6).trans r6
                have e0 : (w6.alloc (.cells D 28)).cell? ⟨PB, 0, none⟩ = some (.int .i8 (pa : Int)) := by rw [cell_of_rowAt ((rowAt_alloc_past _ _ _ m6).trans p6)]; rfl
                have e1 : (w6.alloc (.cells D 28)).cell? ⟨PB, 1, none⟩ = some (.int .i8 (pb : Int)) := by rw [cell_of_rowAt ((rowAt_alloc_past _ _ _ m6).trans p6)]; rfl
                go_wp2_with fail
                refine gen_callsW fun W7 hW => ?_
                have bW7 : Below w6.heap.size w6 W7 := by rw [hW]; exact (Below.refl _ _).alloc (Nat.le_refl _) _
                have d7 : rowAt W7 w6.heap.size = some D := by rw [hW]; exact rowAt_alloc_at _ _ _ _ rfl
                clear r7 e0 e1
                have r7 := brow bW7 r6
                have p7 := brow bW7 p6
                have hB7 := Lib.hid (bnext hB6.out bW7 hB6.out.size)
                clear hW bW7 r6 p6 hB6 l6 m6
                generalize w6.heap.size = DB1 at *
                as_aux_lemma =>
                  refine (CS2 _).mono ?_
                  rintro e w8 ⟨rfl, b8⟩
                  have r8 := brow b8 r7
                  have p8 := brow b8 p7
                  have d8 := brow b8 d7
                  have hB8 := Lib.hid (bnext hB7.out b8 hB7.out.size)
                  clear b8 r7 p7 d7 hB7 CS2
                  have l8 := rowAt_lt d8
                  have r9 : rowAt (w8.alloc (.cells D 28)) RB = some c := (rowAt_alloc_past _ _ _ (rowAt_lt r8)).trans r8
                  have e0 : (w8.alloc (.cells D 28)).cell? ⟨PB, 0, none⟩ = some (.int .i8 (pa : Int)) := by rw [cell_of_rowAt ((rowAt_alloc_past _ _ _ (rowAt_lt p8)).trans p8)]; rfl
                  have e1 : (w8.alloc (.cells D 28)).cell? ⟨PB, 1, none⟩ = some (.int .i8 (pb : Int)) := by rw [cell_of_rowAt ((rowAt_alloc_past _ _ _ (rowAt_lt p8)).trans p8)]; rfl
                  have CDI := fun W => implDifferIn_any c D r _ W HR.out HDD.out
                  have CKA := fun W => kndS c r pa pb W HR.out HO.out hpa hpb
                  obtain ⟨dz, dsame, ddif⟩ := Rf.diff_set HO.out hpa hpb (k := kd) (by have := HKD.out; omega)
                  rw [dz] at CDI
                  generalize hDL : r.dfL (r.set (pa * 8 + pb) kd) = DL at *
                  obtain ⟨ln, hln⟩ : ∃ ln, ln = DL.length := ⟨_, rfl⟩
                  have HLN := Lib.hid hln
                  have HSM := Lib.hid dsame
                  have HDF := Lib.hid ddif
                  clear dz dsame ddif hDL hln
                  have d9 : rowAt (w8.alloc (.cells D 28)) DB1 = some D := (rowAt_alloc_past _ _ _ l8).trans d8
                  have n9 : DB1 ≠ w8.heap.size := Nat.ne_of_lt l8
                  have heq := HEQ.out
                  go_wp2_with fail
                  refine gen_callsW fun W9 hW => ?_
                  have bW9 : Below w8.heap.size w8 W9 := by rw [hW]; exact (Below.refl _ _).alloc (Nat.le_refl _) _
                  clear r9 e0 e1 d9 n9 heq
                  have r9 := brow bW9 r8
                  have p9 := brow bW9 p8
                  have hB9 := Lib.hid (bnext hB8.out bW9 hB8.out.size)
                  clear hW bW9 r8 p8 hB8 d8 l8
                  refine (CDI _).mono ?_
                  rintro e w10 ⟨vd, rfl, ld, b10⟩
                  rw [← HLN.out] at ld
                  obtain ⟨ad, cd, rfl⟩ := ld.shape
                  have r10 := brow b10 r9
                  have p10 := brow b10 p9
                  have hB10 := Lib.hid (bnext hB9.out b10 hB9.out.size)
                  clear b10 r9 p9 hB9 CDI
                  have e0 : w10.cell? ⟨PB, 0, none⟩ = some (.int .i8 (pa : Int)) := by rw [cell_of_rowAt p10]; rfl
                  have e1 : w10.cell? ⟨PB, 1, none⟩ = some (.int .i8 (pb : Int)) := by rw [cell_of_rowAt p10]; rfl
                  go_wp2_with fail
                  refine (CKA _).mono ?_
                  rintro e w11 ⟨rfl, b11⟩
                  have p11 := brow b11 p10
                  have ld11 := ld.below b11 (Nat.le_refl _)
                  have hB11 := Lib.hid (bnext hB10.out b11 hB10.out.size)
                  clear b11 r10 p10 hB10 CKA e0 e1 ld
                  have HP11 := Lib.hid p11
                  have HLD := Lib.hid ld11
                  clear p11 ld11
                  as_aux_lemma =>
                    by_cases hkq : r.t (pa * 8 + pb) = kd
                    · obtain rfl : ln = 0 := by rw [HLN.out]; exact HSM.out hkq
                      have kk : (r.t (pa * 8 + pb) != kd) = false := by simp [hkq]
                      clear hkq HLD HP11
                      go_wp2_with fail
                      go_quiet (fail)
                      go_wp2_with fail
                      go_ret
                      exact ⟨rfl, below_drewN (bnext HB3.out hB11.out HB3.out.size) _⟩
                    · obtain rfl : ln = 1 := by rw [HLN.out]; exact (HDF.out hkq).1
                      have kk : (r.t (pa * 8 + pb) != kd) = true := by simpa using hkq
                      obtain ⟨_, dp0, dp1⟩ := HDF.out hkq
                      clear hkq
                      rcases HLD.out with ⟨h0, _⟩ | ⟨gd, cpd, curd, hvd, hgd, rD, hsd, hfd⟩
                      · omega
                      obtain ⟨rfl, rfl⟩ : ad = some ⟨gd, 0, none⟩ ∧ cd = cpd := by cases hvd; exact ⟨rfl, rfl⟩
                      have x0 : w11.cell? ⟨gd, 0, none⟩ = some (.int .i8 (pa : Int)) := by rw [cell_of_rowAt rD]; have := hfd 0 (by omega); dsimp only at this; rw [dp0] at this; exact this
                      have x1 : w11.cell? ⟨gd, 1, none⟩ = some (.int .i8 (pb : Int)) := by rw [cell_of_rowAt rD]; have := hfd 1 (by omega); dsimp only at this; rw [dp1] at this; exact this
                      have e0 : w11.cell? ⟨PB, 0, none⟩ = some (.int .i8 (pa : Int)) := by rw [cell_of_rowAt HP11.out]; rfl
                      have e1 : w11.cell? ⟨PB, 1, none⟩ = some (.int .i8 (pb : Int)) := by rw [cell_of_rowAt HP11.out]; rfl
                      clear hvd hgd rD hsd hfd dp0 dp1 HLD HP11
                      go_wp2_with fail
                      go_quiet (fail)
                      go_wp2_with fail
                      go_ret
                      exact ⟨rfl, below_drewN (bnext HB3.out hB11.out HB3.out.size) _⟩
end Go.Proofs.Ytppohghejhcilaa

/- laws.FnLaps returns true for all bytes: a tile laps over those that it is above of; tiles cover their cells; a tile that is replaced has the new kind, and no other one has changed. No condition. -/
namespace Go.Proofs.Ytppohghejhcilaa

namespace LFnLaps
open Go.RowKit Go.ChangeShapes Go.WideShapes Go.ChangeAt
theorem own : ownKnob Try.prog.godebug = none := by kernel_rfl
theorem laidOut : laidOutB Try.prog = true := by kernel_rfl
set_option maxRecDepth 100000 in
theorem lifted (os : Os) (started : os.Started) (H : Type) (enc : TypeId × Value → H) :
    ReturnsInHanded {} Try.checked os 3 .any (Rows.fnLapsSpec.pre6 enc Try.prog Try.f3 Rows.fnLapsRow.domain false) (Rows.fnLapsSpec.post enc Try.prog Try.f3 false true false false) := by
  refine returnsInHanded_of_change (C := Try.checked) own started (by kernel_rfl) Try.func3
    (ChangeSpec.witness6 (enc := enc) (C := Try.checked) false ⟨#[], #[.slice none 0 0, .slice none 0 0], []⟩ 8 (by kernel_rfl) (by kernel_rfl) (by kernel_rfl) (by kernel_rfl)) ?_
  intro W base args ds gs before hval0 hW hcnd _
  have hval : ∀ (j : Nat) t v, Try.f3.params[j]? = some t → args[j]? = some v → Value.okWide Try.prog W .any base t v := hval0
  have hW' := hW
  obtain ⟨p, q, hA0, hV, rfl, hfz, hnd⟩ := hW
  have hA : DataW.TrodAll enc Try.prog W 0 (fun _ => true) true Try.f3.params.toList args.toList ds p := hA0
  rw [Try.params3] at hA hval
  obtain ⟨v0, vs0, d0, ds0, p0, q0, hargs, rfl, rfl, h0, r0⟩ := trodAll_cons hA
  obtain ⟨v1, vs1, d1, ds1, p1, q1, rfl, rfl, rfl, h1, r1⟩ := trodAll_cons r0
  obtain ⟨rfl, rfl, rfl⟩ := trodAll_nil r1
  obtain rfl : args = #[v0, v1] := by cases args; simp_all
  obtain ⟨rfl, rfl⟩ := trodVars_none hV
  have k0 := h0
  have lt0 : ∀ x ∈ p0, x.block < W.heap.size := by obtain ⟨m, hm⟩ := k0; exact DataW.trod_lt m _ _ _ hm
  have k1 := h1
  have lt1 : ∀ x ∈ p1, x.block < W.heap.size := by obtain ⟨m, hm⟩ := k1; exact DataW.trod_lt m _ _ _ hm
  obtain ⟨len0, cells0, hL0, hm0, hb0⟩ := open_byts (hval 0 22 v0 rfl rfl) h0
  obtain ⟨len1, cells1, hL1, hm1, hb1⟩ := open_byts (hval 1 22 v1 rfl rfl) h1
  clear hA0 hval0
  refine (law_walk_FnLaps hL0 hL1 hm0 hm1 hb0 hb1).mono fun e W' ⟨he, bel⟩ => ?_
  subst he
  exact ⟨_, rfl, _, _, _, [], _, [], hW', trodAll_mk1 (shut_bool Try.underlying4 _), (trodAll_cons_mk (Below.trod laidOut (by kernel_rfl) (of_decide_eq_true (by kernel_rfl)) k0 bel lt0) (trodAll_cons_mk (Below.trod laidOut (by kernel_rfl) (of_decide_eq_true (by kernel_rfl)) k1 bel lt1) trodAll_mk0)), rfl, bel.frame _, fun h => by cases h⟩

theorem over : Rows.fnLapsRow.holds Try.pinned (OpenSpec.ofChange Rows.fnLapsSpec) :=
  OpenClaim.holds_of_wide 3 Try.f3 rfl rfl rfl rfl rfl rfl rfl ⟨rfl, rfl, rfl, rfl, rfl⟩ rfl rfl rfl rfl rfl (by kernel_rfl) Try.func3 (by kernel_rfl)
    (of_decide_eq_true (by kernel_rfl)) (by unfold Func.isWrapper; first | (rw [if_pos (by decide +kernel)]; kernel_rfl) | (rw [if_neg (by decide +kernel)]; exact ⟨rfl, rfl⟩))
    (fun os started H enc _ => lifted os started H enc)

theorem proved : Rows.FnLapsSaid := over
end LFnLaps

end Go.Proofs.Ytppohghejhcilaa
