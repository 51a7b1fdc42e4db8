/- DifferIn: both contracts. -/
import Derived.Test.YtoibolmippfcgaaDifferS
namespace Go.Proofs.Ytoibolmippfcgaa
open Go.RowKit

theorem Rf.dcode_0 {r q : Rf} (ho : r.Ok) (hp : q.Ok) (hs : r.same q) : r.dcode q = 0 := by unfold Rf.dcode; rw [if_pos (Rf.ok_true ho), if_pos (Rf.ok_true hp), if_pos hs]
theorem Rf.dcode_4 {r q : Rf} (ho : r.Ok) (hp : q.Ok) (hs : ¬ r.same q) : r.dcode q = 4 := by unfold Rf.dcode; rw [if_pos (Rf.ok_true ho), if_pos (Rf.ok_true hp), if_neg hs]
theorem Rf.dcode_1 {r q : Rf} (h : ¬ (r.Ok ∧ q.Ok)) : r.dcode q = 1 := by
  unfold Rf.dcode
  by_cases ho : r.Ok
  · have hp : ¬ q.Ok := fun hp => h ⟨ho, hp⟩
    rw [if_pos (Rf.ok_true ho), Rf.ok_false hp, if_neg (by decide)]
  · rw [Rf.ok_false ho, if_neg (by decide)]
theorem Rf.dfL_0 {r q : Rf} (ho : r.Ok) (hp : q.Ok) (hs : r.same q) : r.dfL q = r.diff q r.all := if_pos (Rf.dcode_0 ho hp hs)
theorem Rf.dfL_n {r q : Rf} (h : ¬ r.dcode q = 0) : r.dfL q = [] := if_neg h

set_option maxRecDepth 100000 in
set_option maxHeartbeats 4000000 in
theorem specDifferIn_any (c e : Array Value) (r q : Rf) (w : World) (hR : IsRoof c r) (hQ : IsRoof e q) :
    Calls Try.prog 23 #[.agg c, .agg e] w (GivesPs w (r.dfL q) (r.dcode q)) := by
  by_cases hgo : r.Ok ∧ q.Ok ∧ r.same q
  · obtain ⟨ho, hp, hs⟩ := hgo
    rw [Rf.dcode_0 ho hp hs, Rf.dfL_0 ho hp hs]
    exact specDiffer_go c e r q r.h.toNat r.w.toNat (by have := ho.2.2.1; omega) (by have := ho.1; omega) (by have := ho.2.2.2.1; omega) (by have := ho.2.1; omega) w hR hQ ho hp hs
  obtain ⟨p0, p1, pB⟩ := two_boxes w c e 29 29
  have hc := hR.size
  have he := hQ.size
  by_cases ho : r.Ok
  · by_cases hp : q.Ok
    · have hs : ¬ r.same q := fun h => hgo ⟨ho, hp, h⟩
      rw [Rf.dcode_4 ho hp hs, Rf.dfL_n (by rw [Rf.dcode_4 ho hp hs]; decide)]
      by_cases a : r.w = q.w
      · have s0 : (r.w != q.w) = false := by simp [a]
        by_cases b : r.h = q.h
        · have s1 : (r.h != q.h) = false := by simp [b]
          have s2 : (r.s != q.s) = true := by simpa using fun d => hs ⟨a, b, d⟩
          clear a b hs
          go_enter Try.func23, Try.ntmps23
          go_wp2_with fail
          refine (l01Ok_t w.heap.size c r _ p0 hR ho).mono ?_
          rintro x w1 ⟨rfl, b1⟩
          have q0 := brow b1 p0
          have q1 := brow b1 p1
          have B1 := bnext pB b1 pB.size
          clear b1 p0 p1 pB
          go_wp2_with fail
          refine (l01Ok_t (w.heap.size + 1) e q _ q1 hQ hp).mono ?_
          rintro x w2 ⟨rfl, b2⟩
          have p0 := brow b2 q0
          have p1 := brow b2 q1
          have B2 := bnext B1 b2 B1.size
          clear b2 q0 q1 B1
          have k0 : w2.cell? ⟨w.heap.size, 0, none⟩ = some (.int .i8 r.w) := by rw [cell_of_rowAt p0, Array.getElem?_eq_getElem (by omega), hR.wide (by omega)]
          have k1 : w2.cell? ⟨w.heap.size, 1, none⟩ = some (.int .i8 r.h) := by rw [cell_of_rowAt p0, Array.getElem?_eq_getElem (by omega), hR.high (by omega)]
          have k2 : w2.cell? ⟨w.heap.size, 2, none⟩ = some (.int .u8 r.s) := by rw [cell_of_rowAt p0, Array.getElem?_eq_getElem (by omega), hR.shift (by omega)]
          have m0 : w2.cell? ⟨w.heap.size + 1, 0, none⟩ = some (.int .i8 q.w) := by rw [cell_of_rowAt p1, Array.getElem?_eq_getElem (by omega), hQ.wide (by omega)]
          have m1 : w2.cell? ⟨w.heap.size + 1, 1, none⟩ = some (.int .i8 q.h) := by rw [cell_of_rowAt p1, Array.getElem?_eq_getElem (by omega), hQ.high (by omega)]
          have m2 : w2.cell? ⟨w.heap.size + 1, 2, none⟩ = some (.int .u8 q.s) := by rw [cell_of_rowAt p1, Array.getElem?_eq_getElem (by omega), hQ.shift (by omega)]
          go_wp2_with fail
          go_ret2
          exact ⟨_, rfl, .inl ⟨rfl, _, _, rfl⟩, B2.alloc B2.size _⟩
        · have s1 : (r.h != q.h) = true := by simpa using b
          clear a b hs
          go_enter Try.func23, Try.ntmps23
          go_wp2_with fail
          refine (l01Ok_t w.heap.size c r _ p0 hR ho).mono ?_
          rintro x w1 ⟨rfl, b1⟩
          have q0 := brow b1 p0
          have q1 := brow b1 p1
          have B1 := bnext pB b1 pB.size
          clear b1 p0 p1 pB
          go_wp2_with fail
          refine (l01Ok_t (w.heap.size + 1) e q _ q1 hQ hp).mono ?_
          rintro x w2 ⟨rfl, b2⟩
          have p0 := brow b2 q0
          have p1 := brow b2 q1
          have B2 := bnext B1 b2 B1.size
          clear b2 q0 q1 B1
          have k0 : w2.cell? ⟨w.heap.size, 0, none⟩ = some (.int .i8 r.w) := by rw [cell_of_rowAt p0, Array.getElem?_eq_getElem (by omega), hR.wide (by omega)]
          have k1 : w2.cell? ⟨w.heap.size, 1, none⟩ = some (.int .i8 r.h) := by rw [cell_of_rowAt p0, Array.getElem?_eq_getElem (by omega), hR.high (by omega)]
          have k2 : w2.cell? ⟨w.heap.size, 2, none⟩ = some (.int .u8 r.s) := by rw [cell_of_rowAt p0, Array.getElem?_eq_getElem (by omega), hR.shift (by omega)]
          have m0 : w2.cell? ⟨w.heap.size + 1, 0, none⟩ = some (.int .i8 q.w) := by rw [cell_of_rowAt p1, Array.getElem?_eq_getElem (by omega), hQ.wide (by omega)]
          have m1 : w2.cell? ⟨w.heap.size + 1, 1, none⟩ = some (.int .i8 q.h) := by rw [cell_of_rowAt p1, Array.getElem?_eq_getElem (by omega), hQ.high (by omega)]
          have m2 : w2.cell? ⟨w.heap.size + 1, 2, none⟩ = some (.int .u8 q.s) := by rw [cell_of_rowAt p1, Array.getElem?_eq_getElem (by omega), hQ.shift (by omega)]
          go_wp2_with fail
          go_ret2
          exact ⟨_, rfl, .inl ⟨rfl, _, _, rfl⟩, B2.alloc B2.size _⟩
      · have s0 : (r.w != q.w) = true := by simpa using a
        clear a hs
        go_enter Try.func23, Try.ntmps23
        go_wp2_with fail
        refine (l01Ok_t w.heap.size c r _ p0 hR ho).mono ?_
        rintro x w1 ⟨rfl, b1⟩
        have q0 := brow b1 p0
        have q1 := brow b1 p1
        have B1 := bnext pB b1 pB.size
        clear b1 p0 p1 pB
        go_wp2_with fail
        refine (l01Ok_t (w.heap.size + 1) e q _ q1 hQ hp).mono ?_
        rintro x w2 ⟨rfl, b2⟩
        have p0 := brow b2 q0
        have p1 := brow b2 q1
        have B2 := bnext B1 b2 B1.size
        clear b2 q0 q1 B1
        have k0 : w2.cell? ⟨w.heap.size, 0, none⟩ = some (.int .i8 r.w) := by rw [cell_of_rowAt p0, Array.getElem?_eq_getElem (by omega), hR.wide (by omega)]
        have k1 : w2.cell? ⟨w.heap.size, 1, none⟩ = some (.int .i8 r.h) := by rw [cell_of_rowAt p0, Array.getElem?_eq_getElem (by omega), hR.high (by omega)]
        have k2 : w2.cell? ⟨w.heap.size, 2, none⟩ = some (.int .u8 r.s) := by rw [cell_of_rowAt p0, Array.getElem?_eq_getElem (by omega), hR.shift (by omega)]
        have m0 : w2.cell? ⟨w.heap.size + 1, 0, none⟩ = some (.int .i8 q.w) := by rw [cell_of_rowAt p1, Array.getElem?_eq_getElem (by omega), hQ.wide (by omega)]
        have m1 : w2.cell? ⟨w.heap.size + 1, 1, none⟩ = some (.int .i8 q.h) := by rw [cell_of_rowAt p1, Array.getElem?_eq_getElem (by omega), hQ.high (by omega)]
        have m2 : w2.cell? ⟨w.heap.size + 1, 2, none⟩ = some (.int .u8 q.s) := by rw [cell_of_rowAt p1, Array.getElem?_eq_getElem (by omega), hQ.shift (by omega)]
        go_wp2_with fail
        go_ret2
        exact ⟨_, rfl, .inl ⟨rfl, _, _, rfl⟩, B2.alloc B2.size _⟩
    · rw [Rf.dcode_1 (fun h => hp h.2), Rf.dfL_n (by rw [Rf.dcode_1 (fun h => hp h.2)]; decide)]
      go_enter Try.func23, Try.ntmps23
      go_wp2_with fail
      refine (l01Ok_t w.heap.size c r _ p0 hR ho).mono ?_
      rintro x w1 ⟨rfl, b1⟩
      have q0 := brow b1 p0
      have q1 := brow b1 p1
      have B1 := bnext pB b1 pB.size
      clear b1 p0 p1 pB
      go_wp2_with fail
      refine (l01Ok_f (w.heap.size + 1) e q _ q1 hQ hp).mono ?_
      rintro x w2 ⟨rfl, b2⟩
      have B2 := bnext B1 b2 B1.size
      clear b2 q0 q1 B1
      go_wp2_with fail
      go_ret2
      exact ⟨_, rfl, .inl ⟨rfl, _, _, rfl⟩, B2.alloc B2.size _⟩
  · rw [Rf.dcode_1 (fun h => ho h.1), Rf.dfL_n (by rw [Rf.dcode_1 (fun h => ho h.1)]; decide)]
    go_enter Try.func23, Try.ntmps23
    go_wp2_with fail
    refine (l01Ok_f w.heap.size c r _ p0 hR ho).mono ?_
    rintro x w1 ⟨rfl, b1⟩
    have B1 := bnext pB b1 pB.size
    clear b1 p0 p1 pB
    go_wp2_with fail
    go_ret2
    exact ⟨_, rfl, .inl ⟨rfl, _, _, rfl⟩, B1.alloc B1.size _⟩

set_option maxRecDepth 100000 in
set_option maxHeartbeats 4000000 in
theorem implDifferIn_any (c e : Array Value) (r q : Rf) (w : World) (hR : IsRoof c r) (hQ : IsRoof e q) :
    Calls Try.prog 24 #[.agg c, .agg e] w (GivesPs w (r.dfL q) (r.dcode q)) := by
  by_cases hgo : r.Ok ∧ q.Ok ∧ r.same q
  · obtain ⟨ho, hp, hs⟩ := hgo
    rw [Rf.dcode_0 ho hp hs, Rf.dfL_0 ho hp hs]
    exact differ_any c e r q r.h.toNat r.w.toNat (by have := ho.2.2.1; omega) (by have := ho.1; omega) (by have := ho.2.2.2.1; omega) (by have := ho.2.1; omega) w hR hQ ho hp hs
  obtain ⟨p0, p1, pB⟩ := two_boxes w c e 29 29
  have hc := hR.size
  have he := hQ.size
  by_cases ho : r.Ok
  · by_cases hp : q.Ok
    · have hs : ¬ r.same q := fun h => hgo ⟨ho, hp, h⟩
      rw [Rf.dcode_4 ho hp hs, Rf.dfL_n (by rw [Rf.dcode_4 ho hp hs]; decide)]
      have CM := fun w => mended_any c r w hR
      have CN := fun w => mended_any e q w hQ
      have heq := fun W => run_eq_roof (bareC c) (bareC e) r.bare q.bare hR.bare hQ.bare W
      rw [Rf.bare_f hs] at heq
      generalize bareC c = X at *
      generalize bareC e = Y at *
      have HEQ := Lib.hid heq
      clear heq
      go_enter Try.func24, Try.ntmps24
      go_wp2_with fail
      refine (implValid_t c r _ hR ho).mono ?_
      rintro x w1 ⟨rfl, b1⟩
      have q0 := brow b1 p0
      have q1 := brow b1 p1
      have B1 := bnext pB b1 pB.size
      clear b1 p0 p1 pB
      go_wp2_with fail
      refine (implValid_t e q _ hQ hp).mono ?_
      rintro x w2 ⟨rfl, b2⟩
      have p0 := brow b2 q0
      have p1 := brow b2 q1
      have B2 := bnext B1 b2 B1.size
      clear b2 q0 q1 B1
      go_wp2_with fail
      have heq := HEQ.out
      refine Code.wp_mono onlyN_out ?_
      refine wp_region_held_drew (S := (fun w' => (rowAt w' w.heap.size = some c ∧ rowAt w' (w.heap.size + 1) = some e) ∧ Below w.heap.size w w')) (by kernel_rfl) (⟨⟨p0, p1⟩, B2.drew⟩) (fun hH => ?_)
      refine wpAnyH_take (i := 0) (v := .agg c) rfl (by kernel_rfl) (by kernel_rfl) (by kernel_rfl) (fun _ _ _ h => h) (Or.inl ⟨by rfl, ?_⟩) hH ?_
      · intro w1 hS; (try dsimp only at hS); obtain ⟨⟨u0, u1⟩, _⟩ := hS; go_simp
      (try simp only [List.getElem_toArray]); (try simp only [List.getElem_cons_succ]); (try simp only [List.getElem_cons_zero]); (try simp only [Act.put]); (try simp only [List.setIfInBounds_toArray]); (try simp only [List.set_cons_succ]); (try simp only [List.set_cons_zero])
      refine wpAnyH_take (i := 2) (v := .agg e) rfl (by kernel_rfl) (by kernel_rfl) (by kernel_rfl) (fun _ _ _ h => h) (Or.inl ⟨by rfl, ?_⟩) hH ?_
      · intro w1 hS; (try dsimp only at hS); obtain ⟨⟨u0, u1⟩, _⟩ := hS; go_simp
      (try simp only [List.getElem_toArray]); (try simp only [List.getElem_cons_succ]); (try simp only [List.getElem_cons_zero]); (try simp only [Act.put]); (try simp only [List.setIfInBounds_toArray]); (try simp only [List.set_cons_succ]); (try simp only [List.set_cons_zero])
      refine wpAnyH_ready (rs := [1]) (by kernel_rfl) (by simp) (AllReadyH.cons rfl (fun K hK => ?_) AllReadyH.nil)
      go_simp
      refine (CM _).mono ?_
      rintro x wx ⟨rfl, bx⟩
      go_simp
      refine hK.out _ _ (⟨⟨brow bx hH.1.1, brow bx hH.1.2⟩, bnext hH.2 bx hH.2.size⟩) (fun hG => ?_)
      clear hK K hH bx
      replace hH := hG
      clear hG
      (try simp only [List.getElem_toArray]); (try simp only [List.getElem_cons_succ]); (try simp only [List.getElem_cons_zero]); (try simp only [Act.put]); (try simp only [List.setIfInBounds_toArray]); (try simp only [List.set_cons_succ]); (try simp only [List.set_cons_zero])
      refine wpAnyH_ready (rs := [3]) (by kernel_rfl) (by simp) (AllReadyH.cons rfl (fun K hK => ?_) AllReadyH.nil)
      go_simp
      refine (CN _).mono ?_
      rintro x wx ⟨rfl, bx⟩
      go_simp
      refine hK.out _ _ (⟨⟨brow bx hH.1.1, brow bx hH.1.2⟩, bnext hH.2 bx hH.2.size⟩) (fun hG => ?_)
      clear hK K hH bx
      replace hH := hG
      clear hG
      (try simp only [List.getElem_toArray]); (try simp only [List.getElem_cons_succ]); (try simp only [List.getElem_cons_zero]); (try simp only [Act.put]); (try simp only [List.setIfInBounds_toArray]); (try simp only [List.set_cons_succ]); (try simp only [List.set_cons_zero])
      refine wpAnyH_take (i := 4) (v := .bool true) rfl (by kernel_rfl) (by kernel_rfl) (by kernel_rfl) (fun _ _ _ h => h) (Or.inl ⟨by rfl, ?_⟩) hH ?_
      · intro w1 hS; (try dsimp only at hS); go_simp
      (try simp only [List.getElem_toArray]); (try simp only [List.getElem_cons_succ]); (try simp only [List.getElem_cons_zero]); (try simp only [Act.put]); (try simp only [List.setIfInBounds_toArray]); (try simp only [List.set_cons_succ]); (try simp only [List.set_cons_zero])
      refine wpAnyH_done (by kernel_rfl) ?_ _
      dsimp only [OnlyN]
      have B3 := hH.2
      clear heq HEQ CM CN hH p0 p1 B2
      go_wp2_with fail
      go_ret2
      exact ⟨_, rfl, .inl ⟨rfl, _, _, rfl⟩, B3⟩
    · rw [Rf.dcode_1 (fun h => hp h.2), Rf.dfL_n (by rw [Rf.dcode_1 (fun h => hp h.2)]; decide)]
      go_enter Try.func24, Try.ntmps24
      go_wp2_with fail
      refine (implValid_t c r _ hR ho).mono ?_
      rintro x w1 ⟨rfl, b1⟩
      have q0 := brow b1 p0
      have q1 := brow b1 p1
      have B1 := bnext pB b1 pB.size
      clear b1 p0 p1 pB
      go_wp2_with fail
      refine (implValid_f e q _ hQ hp).mono ?_
      rintro x w2 ⟨rfl, b2⟩
      have B2 := bnext B1 b2 B1.size
      clear b2 q0 q1 B1
      go_wp2_with fail
      go_ret2
      exact ⟨_, rfl, .inl ⟨rfl, _, _, rfl⟩, B2⟩
  · rw [Rf.dcode_1 (fun h => ho h.1), Rf.dfL_n (by rw [Rf.dcode_1 (fun h => ho h.1)]; decide)]
    go_enter Try.func24, Try.ntmps24
    go_wp2_with fail
    refine (implValid_f c r _ hR ho).mono ?_
    rintro x w1 ⟨rfl, b1⟩
    have B1 := bnext pB b1 pB.size
    clear b1 p0 p1 pB
    go_wp2_with fail
    go_ret2
    exact ⟨_, rfl, .inl ⟨rfl, _, _, rfl⟩, B1⟩
end Go.Proofs.Ytoibolmippfcgaa
