/- The program's tiles of a course: common, isWhole, pieceOf; the iterator l.tiles(). -/
import Derived.Test.YtdegfcgknppcoaaTilM
import Derived.Test.YtdegfcgknppcoaaCrs
import Derived.Test.YtdegfcgknppcoaaGrow
import Derived.Test.YtdegfcgknppcoaaNums
import Derived.Laws.StructEq
import Derived.Deep.RegionHeld3
namespace Go.Proofs.Ytdegfcgknppcoaa
open Go.RowKit Go.Shelf

set_option maxRecDepth 100000 in
set_option maxHeartbeats 1000000 in
theorem common_any (L R A E F T : Int) (hF : F = if A < L then L else A) (hT : T = if R < E then R else E) (w : World) :
    Calls Try.prog 98 #[.agg #[.int .i64 L, .int .i64 R], .agg #[.int .i64 A, .int .i64 E]] w fun e w' => e = .returned (.agg #[.int .i64 F, .int .i64 T]) ∧ Below w.heap.size w w' := by
  by_cases h1 : L < A
  · have HF : Hid (F = A) := Lib.hid (by rw [hF]; split <;> omega)
    by_cases h2 : E < R
    · have HT : Hid (T = E) := Lib.hid (by rw [hT]; split <;> omega)
      clear hF hT
      go_enter Try.func98, Try.ntmps98
      go_wp2_with fail
      refine bodyPost_ret (v := .agg #[.int .i64 A, .int .i64 E]) (by simp [results, Try.results98, go_sem]) rfl ⟨by rw [HF.out, HT.out], ?_⟩
      exact (((Below.refl _ _).alloc (Nat.le_refl _) _).alloc (by simp) _).alloc (by simp; omega) _
    · have HT : Hid (T = R) := Lib.hid (by rw [hT]; split <;> omega)
      clear hF hT
      go_enter Try.func98, Try.ntmps98
      go_wp2_with fail
      refine bodyPost_ret (v := .agg #[.int .i64 A, .int .i64 R]) (by simp [results, Try.results98, go_sem]) rfl ⟨by rw [HF.out, HT.out], ?_⟩
      exact (((Below.refl _ _).alloc (Nat.le_refl _) _).alloc (by simp) _).alloc (by simp; omega) _
  · have HF : Hid (F = L) := Lib.hid (by rw [hF]; split <;> omega)
    by_cases h2 : E < R
    · have HT : Hid (T = E) := Lib.hid (by rw [hT]; split <;> omega)
      clear hF hT
      go_enter Try.func98, Try.ntmps98
      go_wp2_with fail
      refine bodyPost_ret (v := .agg #[.int .i64 L, .int .i64 E]) (by simp [results, Try.results98, go_sem]) rfl ⟨by rw [HF.out, HT.out], ?_⟩
      exact (((Below.refl _ _).alloc (Nat.le_refl _) _).alloc (by simp) _).alloc (by simp; omega) _
    · have HT : Hid (T = R) := Lib.hid (by rw [hT]; split <;> omega)
      clear hF hT
      go_enter Try.func98, Try.ntmps98
      go_wp2_with fail
      refine bodyPost_ret (v := .agg #[.int .i64 L, .int .i64 R]) (by simp [results, Try.results98, go_sem]) rfl ⟨by rw [HF.out, HT.out], ?_⟩
      exact (((Below.refl _ _).alloc (Nat.le_refl _) _).alloc (by simp) _).alloc (by simp; omega) _

set_option maxRecDepth 100000 in
set_option maxHeartbeats 2000000 in
theorem isWhole_go (L R h A E F T : Int) (X : Bool) (hF : Hid (F = if A < L then L else A)) (hT : Hid (T = if R < E then R else E)) (e0 : ∃ b, (F == A) = b ∧ ((b = false ∧ X = false) ∨ (b = true ∧ (T == E) = X))) (w : World) :
    Calls Try.prog 87 #[.agg #[.int .i64 L, .int .i64 R, .int .i64 h], .agg #[.int .i64 A, .int .i64 E]] w fun e w' => e = .returned (.bool X) ∧ Below w.heap.size w w' := by
  obtain ⟨b, e0, e1⟩ := e0
  go_enter Try.func87, Try.ntmps87
  go_wp2_with fail
  refine gen_world fun W hW => ?_
  have B0 := Lib.hid (show Below w.heap.size w W from by rw [hW]; exact ((Below.refl _ _).alloc (Nat.le_refl _) _).alloc (by simp) _)
  have p0 : rowAt W w.heap.size = some #[.int .i64 L, .int .i64 R, .int .i64 h] := by rw [hW]; exact (rowAt_alloc_past _ _ _ (by simp)).trans (rowAt_alloc_at _ _ _ _ (by simp))
  have p1 : rowAt W (w.heap.size + 1) = some #[.int .i64 A, .int .i64 E] := by rw [hW]; exact rowAt_alloc_at _ _ _ _ (by simp)
  clear hW
  rcases e1 with ⟨rfl, rfl⟩ | ⟨rfl, e1⟩
  · refine wp_region_held_drew (S := fun w' => Below W.heap.size W w') (by kernel_rfl) ((Below.refl _ _).drew) (fun hH => ?_)
    refine wpAnyH_take (i := 0) (v := .pointer (some ⟨w.heap.size, 0, none⟩)) rfl (by kernel_rfl) (by kernel_rfl) (by kernel_rfl) (fun _ _ _ h => h) (Or.inl ⟨by rfl, ?_⟩) hH ?_
    · intro w1 hS; (try dsimp only at hS); go_simp
    (try simp only [List.getElem_toArray]); (try simp only [List.getElem_cons_succ]); (try simp only [List.getElem_cons_zero]); (try simp only [Act.put]); (try simp only [List.setIfInBounds_toArray]); (try simp only [List.set_cons_succ]); (try simp only [List.set_cons_zero])
    refine wpAnyH_take (i := 1) (v := .agg #[.int .i64 L, .int .i64 R]) rfl (by kernel_rfl) (by kernel_rfl) (by kernel_rfl) (fun _ _ _ h => h) (Or.inl ⟨by rfl, ?_⟩) hH ?_
    · intro w1 hS; (try dsimp only at hS); have s0 := cell_of_rowAt (brow hS p0); go_simp
    (try simp only [List.getElem_toArray]); (try simp only [List.getElem_cons_succ]); (try simp only [List.getElem_cons_zero]); (try simp only [Act.put]); (try simp only [List.setIfInBounds_toArray]); (try simp only [List.set_cons_succ]); (try simp only [List.set_cons_zero])
    refine wpAnyH_take (i := 2) (v := .agg #[.int .i64 A, .int .i64 E]) rfl (by kernel_rfl) (by kernel_rfl) (by kernel_rfl) (fun _ _ _ h => h) (Or.inl ⟨by rfl, ?_⟩) hH ?_
    · intro w1 hS; (try dsimp only at hS); have s0 := cell_of_rowAt (brow hS p1); go_simp
    (try simp only [List.getElem_toArray]); (try simp only [List.getElem_cons_succ]); (try simp only [List.getElem_cons_zero]); (try simp only [Act.put]); (try simp only [List.setIfInBounds_toArray]); (try simp only [List.set_cons_succ]); (try simp only [List.set_cons_zero])
    refine wpAnyH_take (i := 4) (v := .agg #[.int .i64 A, .int .i64 E]) rfl (by kernel_rfl) (by kernel_rfl) (by kernel_rfl) (fun _ _ _ h => h) (Or.inl ⟨by rfl, ?_⟩) hH ?_
    · intro w1 hS; (try dsimp only at hS); have s0 := cell_of_rowAt (brow hS p1); go_simp
    (try simp only [List.getElem_toArray]); (try simp only [List.getElem_cons_succ]); (try simp only [List.getElem_cons_zero]); (try simp only [Act.put]); (try simp only [List.setIfInBounds_toArray]); (try simp only [List.set_cons_succ]); (try simp only [List.set_cons_zero])
    refine wpAnyH_ready (rs := [3]) (by kernel_rfl) (by simp) (AllReadyH.cons rfl (fun K hK => ?_) AllReadyH.nil)
    go_simp
    refine (common_any L R A E F T hF.out hT.out _).mono ?_
    rintro x wx ⟨rfl, bx⟩
    go_simp
    refine hK.out _ _ (bnext hH bx hH.size) (fun hG => ?_)
    clear hK K hH bx
    replace hH := hG
    clear hG
    (try simp only [List.getElem_toArray]); (try simp only [List.getElem_cons_succ]); (try simp only [List.getElem_cons_zero]); (try simp only [Act.put]); (try simp only [List.setIfInBounds_toArray]); (try simp only [List.set_cons_succ]); (try simp only [List.set_cons_zero])
    refine wpAnyH_take (i := 5) (v := .bool false) rfl (by kernel_rfl) (by kernel_rfl) (by kernel_rfl) (fun _ _ _ h => h) (Or.inl ⟨by rfl, ?_⟩) hH ?_
    · intro w1 hS; (try dsimp only at hS); go_simp
    (try simp only [List.getElem_toArray]); (try simp only [List.getElem_cons_succ]); (try simp only [List.getElem_cons_zero]); (try simp only [Act.put]); (try simp only [List.setIfInBounds_toArray]); (try simp only [List.set_cons_succ]); (try simp only [List.set_cons_zero])
    refine wpAnyH_take (i := 6) (v := .bool false) rfl (by kernel_rfl) (by kernel_rfl) (by kernel_rfl) (fun _ _ _ h => h) (Or.inl ⟨by rfl, ?_⟩) hH ?_
    · intro w1 hS; (try dsimp only at hS); go_simp
    (try simp only [List.getElem_toArray]); (try simp only [List.getElem_cons_succ]); (try simp only [List.getElem_cons_zero]); (try simp only [Act.put]); (try simp only [List.setIfInBounds_toArray]); (try simp only [List.set_cons_succ]); (try simp only [List.set_cons_zero])
    refine wpAnyH_done (by kernel_rfl) ?_ _
    go_wp2_with fail
    go_ret
    exact ⟨rfl, bnext B0.out hH B0.out.size⟩
  · refine wp_region_held_drew (S := fun w' => Below W.heap.size W w') (by kernel_rfl) ((Below.refl _ _).drew) (fun hH => ?_)
    refine wpAnyH_take (i := 0) (v := .pointer (some ⟨w.heap.size, 0, none⟩)) rfl (by kernel_rfl) (by kernel_rfl) (by kernel_rfl) (fun _ _ _ h => h) (Or.inl ⟨by rfl, ?_⟩) hH ?_
    · intro w1 hS; (try dsimp only at hS); go_simp
    (try simp only [List.getElem_toArray]); (try simp only [List.getElem_cons_succ]); (try simp only [List.getElem_cons_zero]); (try simp only [Act.put]); (try simp only [List.setIfInBounds_toArray]); (try simp only [List.set_cons_succ]); (try simp only [List.set_cons_zero])
    refine wpAnyH_take (i := 1) (v := .agg #[.int .i64 L, .int .i64 R]) rfl (by kernel_rfl) (by kernel_rfl) (by kernel_rfl) (fun _ _ _ h => h) (Or.inl ⟨by rfl, ?_⟩) hH ?_
    · intro w1 hS; (try dsimp only at hS); have s0 := cell_of_rowAt (brow hS p0); go_simp
    (try simp only [List.getElem_toArray]); (try simp only [List.getElem_cons_succ]); (try simp only [List.getElem_cons_zero]); (try simp only [Act.put]); (try simp only [List.setIfInBounds_toArray]); (try simp only [List.set_cons_succ]); (try simp only [List.set_cons_zero])
    refine wpAnyH_take (i := 2) (v := .agg #[.int .i64 A, .int .i64 E]) rfl (by kernel_rfl) (by kernel_rfl) (by kernel_rfl) (fun _ _ _ h => h) (Or.inl ⟨by rfl, ?_⟩) hH ?_
    · intro w1 hS; (try dsimp only at hS); have s0 := cell_of_rowAt (brow hS p1); go_simp
    (try simp only [List.getElem_toArray]); (try simp only [List.getElem_cons_succ]); (try simp only [List.getElem_cons_zero]); (try simp only [Act.put]); (try simp only [List.setIfInBounds_toArray]); (try simp only [List.set_cons_succ]); (try simp only [List.set_cons_zero])
    refine wpAnyH_take (i := 4) (v := .agg #[.int .i64 A, .int .i64 E]) rfl (by kernel_rfl) (by kernel_rfl) (by kernel_rfl) (fun _ _ _ h => h) (Or.inl ⟨by rfl, ?_⟩) hH ?_
    · intro w1 hS; (try dsimp only at hS); have s0 := cell_of_rowAt (brow hS p1); go_simp
    (try simp only [List.getElem_toArray]); (try simp only [List.getElem_cons_succ]); (try simp only [List.getElem_cons_zero]); (try simp only [Act.put]); (try simp only [List.setIfInBounds_toArray]); (try simp only [List.set_cons_succ]); (try simp only [List.set_cons_zero])
    refine wpAnyH_ready (rs := [3]) (by kernel_rfl) (by simp) (AllReadyH.cons rfl (fun K hK => ?_) AllReadyH.nil)
    go_simp
    refine (common_any L R A E F T hF.out hT.out _).mono ?_
    rintro x wx ⟨rfl, bx⟩
    go_simp
    refine hK.out _ _ (bnext hH bx hH.size) (fun hG => ?_)
    clear hK K hH bx
    replace hH := hG
    clear hG
    (try simp only [List.getElem_toArray]); (try simp only [List.getElem_cons_succ]); (try simp only [List.getElem_cons_zero]); (try simp only [Act.put]); (try simp only [List.setIfInBounds_toArray]); (try simp only [List.set_cons_succ]); (try simp only [List.set_cons_zero])
    refine wpAnyH_take (i := 5) (v := .bool X) rfl (by kernel_rfl) (by kernel_rfl) (by kernel_rfl) (fun _ _ _ h => h) (Or.inl ⟨by rfl, ?_⟩) hH ?_
    · intro w1 hS; (try dsimp only at hS); go_simp; cases X <;> rfl
    (try simp only [List.getElem_toArray]); (try simp only [List.getElem_cons_succ]); (try simp only [List.getElem_cons_zero]); (try simp only [Act.put]); (try simp only [List.setIfInBounds_toArray]); (try simp only [List.set_cons_succ]); (try simp only [List.set_cons_zero])
    refine wpAnyH_take (i := 6) (v := .bool X) rfl (by kernel_rfl) (by kernel_rfl) (by kernel_rfl) (fun _ _ _ h => h) (Or.inl ⟨by rfl, ?_⟩) hH ?_
    · intro w1 hS; (try dsimp only at hS); go_simp
    (try simp only [List.getElem_toArray]); (try simp only [List.getElem_cons_succ]); (try simp only [List.getElem_cons_zero]); (try simp only [Act.put]); (try simp only [List.setIfInBounds_toArray]); (try simp only [List.set_cons_succ]); (try simp only [List.set_cons_zero])
    refine wpAnyH_done (by kernel_rfl) ?_ _
    go_wp2_with fail
    go_ret
    exact ⟨rfl, bnext B0.out hH B0.out.size⟩
theorem isWhole_any (L R h A E : Int) (w : World) :
    Calls Try.prog 87 #[.agg #[.int .i64 L, .int .i64 R, .int .i64 h], .agg #[.int .i64 A, .int .i64 E]] w fun e w' => e = .returned (.bool (decide (L ≤ A ∧ E ≤ R))) ∧ Below w.heap.size w w' := by
  refine isWhole_go L R h A E _ _ _ (Lib.hid rfl) (Lib.hid rfl) ⟨_, rfl, ?_⟩ w
  by_cases h1 : A < L
  · left
    rw [if_pos h1]
    simp; omega
  · right
    rw [if_neg h1]
    refine ⟨by simp, ?_⟩
    by_cases h2 : R < E
    · rw [if_pos h2]
      have e1 : (R == E) = false := by simp; omega
      rw [e1]; symm; simp; omega
    · rw [if_neg h2]
      simp; omega

set_option maxRecDepth 100000 in
set_option maxHeartbeats 2000000 in
theorem pieceOf_go (L R h A E F T H : Int) (hF : F = if A < L then L else A) (hT : T = if R < E then R else E) (hTF : 1 ≤ T - F ∧ T - F ≤ 7) (hH : Hid (H = if L ≤ A then 0 else if E ≤ R then 1 else 2)) (w : World) :
    Calls Try.prog 88 #[.agg #[.int .i64 L, .int .i64 R, .int .i64 h], .agg #[.int .i64 A, .int .i64 E]] w fun e w' => e = .returned (.agg #[.int .i8 H, .int .i8 (T - F)]) ∧ Below w.heap.size w w' := by
  have HF := Lib.hid hF
  have HT := Lib.hid hT
  have hw8 : IntKind.i8.wrap (T - F) = T - F := IntWalk.i8_in _ (by omega)
  clear hF hT
  go_enter Try.func88, Try.ntmps88
  go_wp2_with fail
  refine gen_callsW fun W hW => ?_
  have B0 := Lib.hid (show Below w.heap.size w W from by rw [hW]; exact (((Below.refl _ _).alloc (Nat.le_refl _) _).alloc (by simp) _).alloc (by simp; omega) _)
  have p1 : rowAt W (w.heap.size + 1) = some #[.int .i64 A, .int .i64 E] := by rw [hW]; exact (rowAt_alloc_past _ _ _ (by simp)).trans (rowAt_alloc_at _ _ _ _ (by simp))
  have p2 : rowAt W (w.heap.size + 1 + 1) = some #[.int .i8 0, .int .i8 0] := by rw [hW]; exact rowAt_alloc_at _ _ _ _ (by simp)
  clear hW
  refine (common_any L R A E F T HF.out HT.out _).mono ?_
  rintro e w1 ⟨rfl, b1⟩
  have B1 := Lib.hid (bnext B0.out b1 B0.out.size)
  have q1 := brow b1 p1
  have q2 := brow b1 p2
  have lt2 := rowAt_lt q2
  clear b1 p1 p2
  go_wp2_with fail
  refine gen_callsW fun W2 hW => ?_
  have b2 : Below w1.heap.size w1 W2 := by rw [hW]; exact (Below.refl _ _).alloc (Nat.le_refl _) _
  have p3 : rowAt W2 w1.heap.size = some #[.int .i64 F, .int .i64 T] := by rw [hW]; exact rowAt_alloc_at _ _ _ _ (by simp)
  have r1 := brow b2 q1
  have r2 := brow b2 q2
  have B2 := Lib.hid (bnext B1.out b2 B1.out.size)
  clear hW b2 q1 q2
  refine (wide_any F T _ (by omega)).mono ?_
  rintro e w3 ⟨rfl, b3⟩
  have B3 := Lib.hid (bnext B2.out b3 B2.out.size)
  have s1 := brow b3 r1
  have s2 := brow b3 r2
  have s3 := brow b3 p3
  have x1 := cell_of_rowAt s1
  have x2 := cell_of_rowAt s2
  have y2 := frozen_of_rowAt s2
  have x3 := cell_of_rowAt s3
  have l1 := rowAt_lt s1
  have l2 := rowAt_lt s2
  have l3 := rowAt_lt s3
  have n1 := Nat.ne_of_lt l1
  have n2 := Nat.ne_of_lt l2
  have n3 := Nat.ne_of_lt l3
  clear b3 r1 r2 p3
  have cF : (F == A) = decide (L ≤ A) := by
    rw [HF.out]
    by_cases h1 : A < L
    · rw [if_pos h1]; have e1 : (L == A) = false := by simp; omega
      rw [e1]; symm; simp; omega
    · rw [if_neg h1]; have e1 : (A == A) = true := by simp
      rw [e1]; symm; simp; omega
  have cT : (T == E) = decide (E ≤ R) := by
    rw [HT.out]
    by_cases h1 : R < E
    · rw [if_pos h1]; have e1 : (R == E) = false := by simp; omega
      rw [e1]; symm; simp; omega
    · rw [if_neg h1]; have e1 : (E == E) = true := by simp
      rw [e1]; symm; simp; omega
  by_cases h1 : L ≤ A
  · have HH : Hid (H = 0) := Lib.hid (by rw [hH.out, if_pos h1])
    have e1 : (F == A) = true := by rw [cF]; simp [h1]
    clear cF cT h1
    go_wp2_with fail
    refine bodyPost_ret (v := .agg #[.int .i8 0, .int .i8 (T - F)]) (by simp [results, Try.results88, go_sem, x2, l2]) rfl ⟨by rw [HH.out], ?_⟩
    have hs3 := B3.out.size
    first
      | exact B3.out
      | exact ((B3.out.setCell (p := ⟨w.heap.size + 1 + 1, _, none⟩) (by simp; omega) _).setCell (p := ⟨w.heap.size + 1 + 1, _, none⟩) (by simp; omega) _).alloc (by simpa using hs3) _
  · have e1 : (F == A) = false := by rw [cF]; simp; omega
    by_cases h2 : E ≤ R
    · have HH : Hid (H = 1) := Lib.hid (by rw [hH.out, if_neg h1, if_pos h2])
      have e2 : (T == E) = true := by rw [cT]; simp [h2]
      clear cF cT h1 h2
      go_wp2_with fail
      refine bodyPost_ret (v := .agg #[.int .i8 1, .int .i8 (T - F)]) (by simp [results, Try.results88, go_sem, x2, l2]) rfl ⟨by rw [HH.out], ?_⟩
      have hs3 := B3.out.size
      first
        | exact B3.out
        | exact ((B3.out.setCell (p := ⟨w.heap.size + 1 + 1, _, none⟩) (by simp; omega) _).setCell (p := ⟨w.heap.size + 1 + 1, _, none⟩) (by simp; omega) _).alloc (by simpa using hs3) _
    · have HH : Hid (H = 2) := Lib.hid (by rw [hH.out, if_neg h1, if_neg h2])
      have e2 : (T == E) = false := by rw [cT]; simp; omega
      clear cF cT h1 h2
      go_wp2_with fail
      refine bodyPost_ret (v := .agg #[.int .i8 2, .int .i8 (T - F)]) (by simp [results, Try.results88, go_sem, x2, l2]) rfl ⟨by rw [HH.out], ?_⟩
      have hs3 := B3.out.size
      first
        | exact B3.out
        | exact ((B3.out.setCell (p := ⟨w.heap.size + 1 + 1, _, none⟩) (by simp; omega) _).setCell (p := ⟨w.heap.size + 1 + 1, _, none⟩) (by simp; omega) _).alloc (by simpa using hs3) _
end Go.Proofs.Ytdegfcgknppcoaa
