/- StackRoofs: both contracts. -/
import Derived.Test.YtnhoclplledlfaaStackI
import Derived.Test.YtnhoclplledlfaaStackS
namespace Go.Proofs.Ytnhoclplledlfaa
open Go.RowKit

noncomputable def Rf.skC (r q : Rf) : Int := if r.ok = true then if q.ok = true then if r.w = q.w ∧ r.by r.h = q.by 0 then if r.h + q.h ≤ 8 then 0 else 3 else 4 else 1 else 1
noncomputable def Rf.skX (r q : Rf) (c e : Array Value) : Array Value := if r.skC q = 0 then stkF c e r.h.toNat q.h.toNat else Try.zeroCells27
theorem Rf.skC_0 {r q : Rf} (ho : r.Ok) (hp : q.Ok) (hw : r.w = q.w) (hb : r.by r.h = q.by 0) (hk : r.h + q.h ≤ 8) : r.skC q = 0 := by unfold Rf.skC; rw [if_pos (Rf.ok_true ho), if_pos (Rf.ok_true hp), if_pos ⟨hw, hb⟩, if_pos hk]
theorem Rf.skC_3 {r q : Rf} (ho : r.Ok) (hp : q.Ok) (hw : r.w = q.w) (hb : r.by r.h = q.by 0) (hk : ¬ r.h + q.h ≤ 8) : r.skC q = 3 := by unfold Rf.skC; rw [if_pos (Rf.ok_true ho), if_pos (Rf.ok_true hp), if_pos ⟨hw, hb⟩, if_neg hk]
theorem Rf.skC_4 {r q : Rf} (ho : r.Ok) (hp : q.Ok) (hn : ¬ (r.w = q.w ∧ r.by r.h = q.by 0)) : r.skC q = 4 := by unfold Rf.skC; rw [if_pos (Rf.ok_true ho), if_pos (Rf.ok_true hp), if_neg hn]
theorem Rf.skC_1 {r q : Rf} (h : ¬ (r.Ok ∧ q.Ok)) : r.skC q = 1 := by
  unfold Rf.skC
  by_cases ho : r.Ok
  · have hp : ¬ q.Ok := fun hp => h ⟨ho, hp⟩
    rw [if_pos (Rf.ok_true ho), Rf.ok_false hp, if_neg (by decide)]
  · rw [Rf.ok_false ho, if_neg (by decide)]
theorem Rf.skX_n {r q : Rf} {c e : Array Value} (h : ¬ r.skC q = 0) : r.skX q c e = Try.zeroCells27 := if_neg h
theorem skX_is {c e : Array Value} {r q : Rf} (hR : IsRoof c r) (hQ : IsRoof e q) : ∃ p, IsRoof (r.skX q c e) p := by
  by_cases hz : r.skC q = 0
  · have hle : r.Ok ∧ q.Ok ∧ r.h + q.h ≤ 8 := by
      by_cases ho : r.Ok ∧ q.Ok
      · by_cases hw : r.w = q.w ∧ r.by r.h = q.by 0
        · by_cases hk : r.h + q.h ≤ 8
          · exact ⟨ho.1, ho.2, hk⟩
          · rw [Rf.skC_3 ho.1 ho.2 hw.1 hw.2 hk] at hz; exact absurd hz (by decide)
        · rw [Rf.skC_4 ho.1 ho.2 hw] at hz; exact absurd hz (by decide)
      · rw [Rf.skC_1 ho] at hz; exact absurd hz (by decide)
    obtain ⟨ho, hp, hk⟩ := hle
    have := ho.2.2.1
    have := hp.2.2.1
    unfold Rf.skX
    rw [if_pos hz]
    exact ⟨_, stkF_is hR hQ (by omega)⟩
  · rw [Rf.skX_n hz]; exact ⟨_, zroof_is⟩

set_option maxRecDepth 100000 in
set_option maxHeartbeats 4000000 in
theorem specStackRoofs_any (c e : Array Value) (r q : Rf) (w : World) (hR : IsRoof c r) (hQ : IsRoof e q) :
    Calls Try.prog 10 #[.agg c, .agg e] w fun x w' => x = .returned (.tuple #[.agg (r.skX q c e), .int .i64 (r.skC q)]) ∧ Below w.heap.size w w' := by
  have hc := hR.size
  have he := hQ.size
  have hzs := zroof_size
  have hzo := zroof_ones
  obtain ⟨p0, p1, p2, pB⟩ := three_boxes w c e Try.zeroCells27 27 27
  by_cases ho : r.Ok
  · by_cases hp : q.Ok
    · have x1 := ho.2.2.1
      have x2 := ho.2.2.2.1
      have x3 := hp.2.2.1
      have x4 := hp.2.2.2.1
      obtain ⟨h, hh⟩ := Int.eq_ofNat_of_zero_le (show 0 ≤ r.h by omega)
      obtain ⟨k, hhk⟩ := Int.eq_ofNat_of_zero_le (show 0 ≤ q.h by omega)
      have g0 : c[0]? = some (.int .i8 r.w) := by rw [Array.getElem?_eq_getElem (by omega), hR.wide (by omega)]
      have g1 : c[1]? = some (.int .i8 h) := by rw [Array.getElem?_eq_getElem (by omega), hR.high (by omega), hh]
      have g2 : e[0]? = some (.int .i8 q.w) := by rw [Array.getElem?_eq_getElem (by omega), hQ.wide (by omega)]
      have g3 : e[1]? = some (.int .i8 k) := by rw [Array.getElem?_eq_getElem (by omega), hQ.high (by omega), hhk]
      by_cases hw : r.w = q.w
      · have sw : (r.w != q.w) = false := by simp [hw]
        by_cases hb : r.by r.h = q.by 0
        · by_cases hk : h + k ≤ 8
          · have eC : r.skC q = 0 := Rf.skC_0 ho hp hw hb (by omega)
            have eX : r.skX q c e = stkF c e h k := by unfold Rf.skX; rw [if_pos eC, hh, hhk]; rfl
            rw [eC, eX]
            exact specStack_go c e _ r q h k w hR hQ ho hp hw hb hh hhk hk rfl
          · have eC : r.skC q = 3 := Rf.skC_3 ho hp hw hb (by omega)
            rw [Rf.skX_n (by rw [eC]; decide), eC]
            have e1 : IntKind.i8.wrap ((h : Int) + (k : Int)) = (h : Int) + (k : Int) := IntWalk.i8_in _ (by omega)
            have e2 : IntKind.i64.wrap (h : Int) = (h : Int) := IntWalk.i64_in _ (by omega)
            have d1 : decide ((8 : Int) < (h : Int) + (k : Int)) = true := by simp; omega
            have sb : (r.by h != q.by 0) = false := by rw [← hh, hb]; simp
            go_enter Try.func10, Try.ntmps10
            go_wp2_with fail
            refine (l01Ok_t w.heap.size c r _ p0 hR ho).mono ?_
            rintro x w1 ⟨rfl, b1⟩
            have q0 := brow b1 p0
            have q1 := brow b1 p1
            have q2 := brow b1 p2
            have B1 := bnext pB b1 pB.size
            clear b1 p0 p1 p2 pB
            go_wp2_with fail
            refine (l01Ok_t (w.heap.size + 1) e q _ q1 hQ hp).mono ?_
            rintro x W ⟨rfl, b2⟩
            have p0 := brow b2 q0
            have p1 := brow b2 q1
            have p2 := brow b2 q2
            have B2 := bnext B1 b2 B1.size
            clear b2 q0 q1 q2 B1
            have cw := (cell_of_rowAt p0 0).trans g0
            have ch := (cell_of_rowAt p0 1).trans g1
            have dw := (cell_of_rowAt p1 0).trans g2
            have dh := (cell_of_rowAt p1 1).trans g3
            go_wp2_with fail
            refine (l01By_any w.heap.size c r h _ p0 hR (by omega)).mono ?_
            rintro x w3 ⟨rfl, rfl⟩
            go_wp2_with fail
            refine (l01By_any (w.heap.size + 1) e q 0 _ p1 hQ (by omega)).mono ?_
            rintro x w4 ⟨rfl, rfl⟩
            go_wp2_with fail
            refine bodyPost_ret (v := .tuple #[.agg Try.zeroCells27, .int .i64 3]) (results_row2 (m := 67) rfl _ _ (w.heap.size + 1 + 1) _ _ rfl rfl (rowAt_setRow_at _ _ _ (Option.isSome_iff_exists.2 ⟨_, p2⟩)) Try.underlying27 rfl (by kernel_rfl) hzs) rfl ⟨rfl, ?_⟩
            exact below_setRow B2 (by omega) _
        · have eC : r.skC q = 4 := Rf.skC_4 ho hp (fun z => hb z.2)
          rw [Rf.skX_n (by rw [eC]; decide), eC]
          have e2 : IntKind.i64.wrap (h : Int) = (h : Int) := IntWalk.i64_in _ (by omega)
          have sb : (r.by h != q.by 0) = true := by rw [← hh]; simpa using hb
          go_enter Try.func10, Try.ntmps10
          go_wp2_with fail
          refine (l01Ok_t w.heap.size c r _ p0 hR ho).mono ?_
          rintro x w1 ⟨rfl, b1⟩
          have q0 := brow b1 p0
          have q1 := brow b1 p1
          have q2 := brow b1 p2
          have B1 := bnext pB b1 pB.size
          clear b1 p0 p1 p2 pB
          go_wp2_with fail
          refine (l01Ok_t (w.heap.size + 1) e q _ q1 hQ hp).mono ?_
          rintro x W ⟨rfl, b2⟩
          have p0 := brow b2 q0
          have p1 := brow b2 q1
          have p2 := brow b2 q2
          have B2 := bnext B1 b2 B1.size
          clear b2 q0 q1 q2 B1
          have cw := (cell_of_rowAt p0 0).trans g0
          have ch := (cell_of_rowAt p0 1).trans g1
          have dw := (cell_of_rowAt p1 0).trans g2
          have dh := (cell_of_rowAt p1 1).trans g3
          go_wp2_with fail
          refine (l01By_any w.heap.size c r h _ p0 hR (by omega)).mono ?_
          rintro x w3 ⟨rfl, rfl⟩
          go_wp2_with fail
          refine (l01By_any (w.heap.size + 1) e q 0 _ p1 hQ (by omega)).mono ?_
          rintro x w4 ⟨rfl, rfl⟩
          go_wp2_with fail
          refine bodyPost_ret (v := .tuple #[.agg Try.zeroCells27, .int .i64 4]) (results_row2 (m := 67) rfl _ _ (w.heap.size + 1 + 1) _ _ rfl rfl (rowAt_setRow_at _ _ _ (Option.isSome_iff_exists.2 ⟨_, p2⟩)) Try.underlying27 rfl (by kernel_rfl) hzs) rfl ⟨rfl, ?_⟩
          exact below_setRow B2 (by omega) _
      · have eC : r.skC q = 4 := Rf.skC_4 ho hp (fun z => hw z.1)
        rw [Rf.skX_n (by rw [eC]; decide), eC]
        have sw : (r.w != q.w) = true := by simpa using hw
        go_enter Try.func10, Try.ntmps10
        go_wp2_with fail
        refine (l01Ok_t w.heap.size c r _ p0 hR ho).mono ?_
        rintro x w1 ⟨rfl, b1⟩
        have q0 := brow b1 p0
        have q1 := brow b1 p1
        have q2 := brow b1 p2
        have B1 := bnext pB b1 pB.size
        clear b1 p0 p1 p2 pB
        go_wp2_with fail
        refine (l01Ok_t (w.heap.size + 1) e q _ q1 hQ hp).mono ?_
        rintro x W ⟨rfl, b2⟩
        have p0 := brow b2 q0
        have p1 := brow b2 q1
        have p2 := brow b2 q2
        have B2 := bnext B1 b2 B1.size
        clear b2 q0 q1 q2 B1
        have cw := (cell_of_rowAt p0 0).trans g0
        have ch := (cell_of_rowAt p0 1).trans g1
        have dw := (cell_of_rowAt p1 0).trans g2
        have dh := (cell_of_rowAt p1 1).trans g3
        go_wp2_with fail
        refine bodyPost_ret (v := .tuple #[.agg Try.zeroCells27, .int .i64 4]) (results_row2 (m := 67) rfl _ _ (w.heap.size + 1 + 1) _ _ rfl rfl (rowAt_setRow_at _ _ _ (Option.isSome_iff_exists.2 ⟨_, p2⟩)) Try.underlying27 rfl (by kernel_rfl) hzs) rfl ⟨rfl, ?_⟩
        exact below_setRow B2 (by omega) _
    · have eC : r.skC q = 1 := Rf.skC_1 (fun z => hp z.2)
      rw [Rf.skX_n (by rw [eC]; decide), eC]
      go_enter Try.func10, Try.ntmps10
      go_wp2_with fail
      refine (l01Ok_t w.heap.size c r _ p0 hR ho).mono ?_
      rintro x w1 ⟨rfl, b1⟩
      have q0 := brow b1 p0
      have q1 := brow b1 p1
      have q2 := brow b1 p2
      have B1 := bnext pB b1 pB.size
      clear b1 p0 p1 p2 pB
      go_wp2_with fail
      refine (l01Ok_f (w.heap.size + 1) e q _ q1 hQ hp).mono ?_
      rintro x W ⟨rfl, b2⟩
      have p2 := brow b2 q2
      have B2 := bnext B1 b2 B1.size
      clear b2 q0 q1 q2 B1
      go_wp2_with fail
      refine bodyPost_ret (v := .tuple #[.agg Try.zeroCells27, .int .i64 1]) (results_row2 (m := 67) rfl _ _ (w.heap.size + 1 + 1) _ _ rfl rfl (rowAt_setRow_at _ _ _ (Option.isSome_iff_exists.2 ⟨_, p2⟩)) Try.underlying27 rfl (by kernel_rfl) hzs) rfl ⟨rfl, ?_⟩
      exact below_setRow B2 (by omega) _
  · have eC : r.skC q = 1 := Rf.skC_1 (fun z => ho z.1)
    rw [Rf.skX_n (by rw [eC]; decide), eC]
    go_enter Try.func10, Try.ntmps10
    go_wp2_with fail
    refine (l01Ok_f w.heap.size c r _ p0 hR ho).mono ?_
    rintro x w1 ⟨rfl, b1⟩
    have q2 := brow b1 p2
    have B1 := bnext pB b1 pB.size
    clear b1 p0 p1 p2 pB
    go_wp2_with fail
    refine bodyPost_ret (v := .tuple #[.agg Try.zeroCells27, .int .i64 1]) (results_row2 (m := 67) rfl _ _ (w.heap.size + 1 + 1) _ _ rfl rfl (rowAt_setRow_at _ _ _ (Option.isSome_iff_exists.2 ⟨_, q2⟩)) Try.underlying27 rfl (by kernel_rfl) hzs) rfl ⟨rfl, ?_⟩
    exact below_setRow B1 (by omega) _

set_option maxRecDepth 100000 in
set_option maxHeartbeats 4000000 in
theorem implStackRoofs_any (c e : Array Value) (r q : Rf) (w : World) (hR : IsRoof c r) (hQ : IsRoof e q) :
    Calls Try.prog 12 #[.agg c, .agg e] w fun x w' => x = .returned (.tuple #[.agg (r.skX q c e), .int .i64 (r.skC q)]) ∧ Below w.heap.size w w' := by
  have hc := hR.size
  have he := hQ.size
  have hzs := zroof_size
  have hzo := zroof_ones
  obtain ⟨p0, p1, p2, pB⟩ := three_boxes w c e Try.zeroCells27 27 27
  by_cases ho : r.Ok
  · by_cases hp : q.Ok
    · have x1 := ho.2.2.1
      have x2 := ho.2.2.2.1
      have x3 := hp.2.2.1
      have x4 := hp.2.2.2.1
      obtain ⟨h, hh⟩ := Int.eq_ofNat_of_zero_le (show 0 ≤ r.h by omega)
      obtain ⟨k, hhk⟩ := Int.eq_ofNat_of_zero_le (show 0 ≤ q.h by omega)
      have g0 : c[0]? = some (.int .i8 r.w) := by rw [Array.getElem?_eq_getElem (by omega), hR.wide (by omega)]
      have g1 : c[1]? = some (.int .i8 h) := by rw [Array.getElem?_eq_getElem (by omega), hR.high (by omega), hh]
      have g2 : e[0]? = some (.int .i8 q.w) := by rw [Array.getElem?_eq_getElem (by omega), hQ.wide (by omega)]
      have g3 : e[1]? = some (.int .i8 k) := by rw [Array.getElem?_eq_getElem (by omega), hQ.high (by omega), hhk]
      by_cases hw : r.w = q.w
      · have sw : (r.w != q.w) = false := by simp [hw]
        by_cases hb : r.by r.h = q.by 0
        · by_cases hk : h + k ≤ 8
          · have eC : r.skC q = 0 := Rf.skC_0 ho hp hw hb (by omega)
            have eX : r.skX q c e = stkF c e h k := by unfold Rf.skX; rw [if_pos eC, hh, hhk]; rfl
            rw [eC, eX]
            exact implStack_go c e _ r q h k w hR hQ ho hp hw hb hh hhk hk rfl
          · have eC : r.skC q = 3 := Rf.skC_3 ho hp hw hb (by omega)
            rw [Rf.skX_n (by rw [eC]; decide), eC]
            have e1 : IntKind.i8.wrap ((h : Int) + (k : Int)) = (h : Int) + (k : Int) := IntWalk.i8_in _ (by omega)
            have e2 : IntKind.i64.wrap (h : Int) = (h : Int) := IntWalk.i64_in _ (by omega)
            have d1 : decide ((8 : Int) < (h : Int) + (k : Int)) = true := by simp; omega
            have sb : ((r.by h == 1) != (q.by 0 == 1)) = false := by rw [← hh, hb]; simp
            have C1 := fun W => shifted_any c r h W hR (by omega)
            have C2 := fun W => shifted_any e q 0 W hQ (by omega)
            generalize (r.by h == 1) = x1 at *
            generalize (q.by 0 == 1) = x2 at *
            go_enter Try.func12, Try.ntmps12
            go_wp2_with fail
            refine (implValid_t c r _ hR ho).mono ?_
            rintro x w1 ⟨rfl, b1⟩
            have q0 := brow b1 p0
            have q1 := brow b1 p1
            have q2 := brow b1 p2
            have B1 := bnext pB b1 pB.size
            clear b1 p0 p1 p2 pB
            go_wp2_with fail
            refine (implValid_t e q _ hQ hp).mono ?_
            rintro x w2 ⟨rfl, b2⟩
            have p0 := brow b2 q0
            have p1 := brow b2 q1
            have p2 := brow b2 q2
            have B2 := bnext B1 b2 B1.size
            clear b2 q0 q1 q2 B1
            go_wp2_with fail
            refine Code.wp_mono onlyN_out2 ?_
            refine wp_region_held_drew (S := (fun w' => (rowAt w' w.heap.size = some c ∧ rowAt w' (w.heap.size + 1) = some e ∧ rowAt w' (w.heap.size + 1 + 1) = some Try.zeroCells27) ∧ Below w.heap.size w w')) (by kernel_rfl) (⟨⟨p0, p1, p2⟩, B2.drew⟩) (fun hH => ?_)
            refine wpAnyH_take (i := 0) (v := ?_) rfl (by kernel_rfl) (by kernel_rfl) (by kernel_rfl) (fun _ _ _ h => h) (Or.inl ⟨by rfl, ?_⟩) hH ?_
            rotate_left 1
            · intro w1 hS; (try dsimp only at hS); obtain ⟨⟨u0, u1, _⟩, _⟩ := hS; have cw := (cell_of_rowAt u0 0).trans g0; have ch := (cell_of_rowAt u0 1).trans g1; have dw := (cell_of_rowAt u1 0).trans g2; have dh := (cell_of_rowAt u1 1).trans g3; go_simp; (try with_reducible rfl)
            (try simp only [List.getElem_toArray]); (try simp only [List.getElem_cons_succ]); (try simp only [List.getElem_cons_zero]); (try simp only [Act.put]); (try simp only [List.setIfInBounds_toArray]); (try simp only [List.set_cons_succ]); (try simp only [List.set_cons_zero])
            refine wpAnyH_take (i := 1) (v := ?_) rfl (by kernel_rfl) (by kernel_rfl) (by kernel_rfl) (fun _ _ _ h => h) (Or.inl ⟨by rfl, ?_⟩) hH ?_
            rotate_left 1
            · intro w1 hS; (try dsimp only at hS); obtain ⟨⟨u0, u1, _⟩, _⟩ := hS; have cw := (cell_of_rowAt u0 0).trans g0; have ch := (cell_of_rowAt u0 1).trans g1; have dw := (cell_of_rowAt u1 0).trans g2; have dh := (cell_of_rowAt u1 1).trans g3; go_simp; (try with_reducible rfl)
            (try simp only [List.getElem_toArray]); (try simp only [List.getElem_cons_succ]); (try simp only [List.getElem_cons_zero]); (try simp only [Act.put]); (try simp only [List.setIfInBounds_toArray]); (try simp only [List.set_cons_succ]); (try simp only [List.set_cons_zero])
            refine wpAnyH_take (i := 2) (v := ?_) rfl (by kernel_rfl) (by kernel_rfl) (by kernel_rfl) (fun _ _ _ h => h) (Or.inl ⟨by rfl, ?_⟩) hH ?_
            rotate_left 1
            · intro w1 hS; (try dsimp only at hS); obtain ⟨⟨u0, u1, _⟩, _⟩ := hS; have cw := (cell_of_rowAt u0 0).trans g0; have ch := (cell_of_rowAt u0 1).trans g1; have dw := (cell_of_rowAt u1 0).trans g2; have dh := (cell_of_rowAt u1 1).trans g3; go_simp; (try with_reducible rfl)
            (try simp only [List.getElem_toArray]); (try simp only [List.getElem_cons_succ]); (try simp only [List.getElem_cons_zero]); (try simp only [Act.put]); (try simp only [List.setIfInBounds_toArray]); (try simp only [List.set_cons_succ]); (try simp only [List.set_cons_zero])
            refine wpAnyH_take (i := 3) (v := ?_) rfl (by kernel_rfl) (by kernel_rfl) (by kernel_rfl) (fun _ _ _ h => h) (Or.inl ⟨by rfl, ?_⟩) hH ?_
            rotate_left 1
            · intro w1 hS; (try dsimp only at hS); obtain ⟨⟨u0, u1, _⟩, _⟩ := hS; have cw := (cell_of_rowAt u0 0).trans g0; have ch := (cell_of_rowAt u0 1).trans g1; have dw := (cell_of_rowAt u1 0).trans g2; have dh := (cell_of_rowAt u1 1).trans g3; go_simp; (try with_reducible rfl)
            (try simp only [List.getElem_toArray]); (try simp only [List.getElem_cons_succ]); (try simp only [List.getElem_cons_zero]); (try simp only [Act.put]); (try simp only [List.setIfInBounds_toArray]); (try simp only [List.set_cons_succ]); (try simp only [List.set_cons_zero])
            refine wpAnyH_take (i := 4) (v := .bool false) rfl (by kernel_rfl) (by kernel_rfl) (by kernel_rfl) (fun _ _ _ h => h) (Or.inl ⟨by rfl, ?_⟩) hH ?_
            · intro w1 hS; (try dsimp only at hS); obtain ⟨⟨u0, u1, _⟩, _⟩ := hS; have cw := (cell_of_rowAt u0 0).trans g0; have ch := (cell_of_rowAt u0 1).trans g1; have dw := (cell_of_rowAt u1 0).trans g2; have dh := (cell_of_rowAt u1 1).trans g3; go_simp
            (try simp only [List.getElem_toArray]); (try simp only [List.getElem_cons_succ]); (try simp only [List.getElem_cons_zero]); (try simp only [Act.put]); (try simp only [List.setIfInBounds_toArray]); (try simp only [List.set_cons_succ]); (try simp only [List.set_cons_zero])
            refine wpAnyH_take (i := 5) (v := .bool false) rfl (by kernel_rfl) (by kernel_rfl) (by kernel_rfl) (fun _ _ _ h => h) (Or.inl ⟨by rfl, ?_⟩) hH ?_
            · intro w1 hS; (try dsimp only at hS); obtain ⟨⟨u0, u1, _⟩, _⟩ := hS; have cw := (cell_of_rowAt u0 0).trans g0; have ch := (cell_of_rowAt u0 1).trans g1; have dw := (cell_of_rowAt u1 0).trans g2; have dh := (cell_of_rowAt u1 1).trans g3; go_simp
            (try simp only [List.getElem_toArray]); (try simp only [List.getElem_cons_succ]); (try simp only [List.getElem_cons_zero]); (try simp only [Act.put]); (try simp only [List.setIfInBounds_toArray]); (try simp only [List.set_cons_succ]); (try simp only [List.set_cons_zero])
            refine wpAnyH_take (i := 6) (v := .agg c) rfl (by kernel_rfl) (by kernel_rfl) (by kernel_rfl) (fun _ _ _ h => h) (Or.inl ⟨by rfl, ?_⟩) hH ?_
            · intro w1 hS; (try dsimp only at hS); obtain ⟨⟨u0, u1, _⟩, _⟩ := hS; have cw := (cell_of_rowAt u0 0).trans g0; have ch := (cell_of_rowAt u0 1).trans g1; have dw := (cell_of_rowAt u1 0).trans g2; have dh := (cell_of_rowAt u1 1).trans g3; go_simp
            (try simp only [List.getElem_toArray]); (try simp only [List.getElem_cons_succ]); (try simp only [List.getElem_cons_zero]); (try simp only [Act.put]); (try simp only [List.setIfInBounds_toArray]); (try simp only [List.set_cons_succ]); (try simp only [List.set_cons_zero])
            refine wpAnyH_take (i := 7) (v := ?_) rfl (by kernel_rfl) (by kernel_rfl) (by kernel_rfl) (fun _ _ _ h => h) (Or.inl ⟨by rfl, ?_⟩) hH ?_
            rotate_left 1
            · intro w1 hS; (try dsimp only at hS); obtain ⟨⟨u0, u1, _⟩, _⟩ := hS; have cw := (cell_of_rowAt u0 0).trans g0; have ch := (cell_of_rowAt u0 1).trans g1; have dw := (cell_of_rowAt u1 0).trans g2; have dh := (cell_of_rowAt u1 1).trans g3; go_simp; (try with_reducible rfl)
            (try simp only [List.getElem_toArray]); (try simp only [List.getElem_cons_succ]); (try simp only [List.getElem_cons_zero]); (try simp only [Act.put]); (try simp only [List.setIfInBounds_toArray]); (try simp only [List.set_cons_succ]); (try simp only [List.set_cons_zero])
            refine wpAnyH_take (i := 8) (v := ?_) rfl (by kernel_rfl) (by kernel_rfl) (by kernel_rfl) (fun _ _ _ h => h) (Or.inl ⟨by rfl, ?_⟩) hH ?_
            rotate_left 1
            · intro w1 hS; (try dsimp only at hS); obtain ⟨⟨u0, u1, _⟩, _⟩ := hS; have cw := (cell_of_rowAt u0 0).trans g0; have ch := (cell_of_rowAt u0 1).trans g1; have dw := (cell_of_rowAt u1 0).trans g2; have dh := (cell_of_rowAt u1 1).trans g3; go_simp; (try with_reducible rfl)
            (try simp only [List.getElem_toArray]); (try simp only [List.getElem_cons_succ]); (try simp only [List.getElem_cons_zero]); (try simp only [Act.put]); (try simp only [List.setIfInBounds_toArray]); (try simp only [List.set_cons_succ]); (try simp only [List.set_cons_zero])
            refine wpAnyH_take (i := 9) (v := ?_) rfl (by kernel_rfl) (by kernel_rfl) (by kernel_rfl) (fun _ _ _ h => h) (Or.inl ⟨by rfl, ?_⟩) hH ?_
            rotate_left 1
            · intro w1 hS; (try dsimp only at hS); obtain ⟨⟨u0, u1, _⟩, _⟩ := hS; have cw := (cell_of_rowAt u0 0).trans g0; have ch := (cell_of_rowAt u0 1).trans g1; have dw := (cell_of_rowAt u1 0).trans g2; have dh := (cell_of_rowAt u1 1).trans g3; go_simp; (try with_reducible rfl)
            (try simp only [List.getElem_toArray]); (try simp only [List.getElem_cons_succ]); (try simp only [List.getElem_cons_zero]); (try simp only [Act.put]); (try simp only [List.setIfInBounds_toArray]); (try simp only [List.set_cons_succ]); (try simp only [List.set_cons_zero])
            refine wpAnyH_take (i := 11) (v := .agg e) rfl (by kernel_rfl) (by kernel_rfl) (by kernel_rfl) (fun _ _ _ h => h) (Or.inl ⟨by rfl, ?_⟩) hH ?_
            · intro w1 hS; (try dsimp only at hS); obtain ⟨⟨u0, u1, _⟩, _⟩ := hS; have cw := (cell_of_rowAt u0 0).trans g0; have ch := (cell_of_rowAt u0 1).trans g1; have dw := (cell_of_rowAt u1 0).trans g2; have dh := (cell_of_rowAt u1 1).trans g3; go_simp
            (try simp only [List.getElem_toArray]); (try simp only [List.getElem_cons_succ]); (try simp only [List.getElem_cons_zero]); (try simp only [Act.put]); (try simp only [List.setIfInBounds_toArray]); (try simp only [List.set_cons_succ]); (try simp only [List.set_cons_zero])
            refine wpAnyH_ready (rs := [10]) (by kernel_rfl) (by simp) (AllReadyH.cons rfl (fun K hK => ?_) AllReadyH.nil)
            go_simp
            refine (C1 _).mono ?_
            rintro x wx ⟨rfl, bx⟩
            go_simp
            refine hK.out _ _ (⟨⟨brow bx hH.1.1, brow bx hH.1.2.1, brow bx hH.1.2.2⟩, bnext hH.2 bx hH.2.size⟩) (fun hG => ?_)
            clear hK K hH bx
            replace hH := hG
            clear hG
            (try simp only [List.getElem_toArray]); (try simp only [List.getElem_cons_succ]); (try simp only [List.getElem_cons_zero]); (try simp only [Act.put]); (try simp only [List.setIfInBounds_toArray]); (try simp only [List.set_cons_succ]); (try simp only [List.set_cons_zero])
            refine wpAnyH_ready (rs := [12]) (by kernel_rfl) (by simp) (AllReadyH.cons rfl (fun K hK => ?_) AllReadyH.nil)
            go_simp
            refine (C2 _).mono ?_
            rintro x wx ⟨rfl, bx⟩
            go_simp
            refine hK.out _ _ (⟨⟨brow bx hH.1.1, brow bx hH.1.2.1, brow bx hH.1.2.2⟩, bnext hH.2 bx hH.2.size⟩) (fun hG => ?_)
            clear hK K hH bx
            replace hH := hG
            clear hG
            (try simp only [List.getElem_toArray]); (try simp only [List.getElem_cons_succ]); (try simp only [List.getElem_cons_zero]); (try simp only [Act.put]); (try simp only [List.setIfInBounds_toArray]); (try simp only [List.set_cons_succ]); (try simp only [List.set_cons_zero])
            refine wpAnyH_take (i := 13) (v := .bool false) rfl (by kernel_rfl) (by kernel_rfl) (by kernel_rfl) (fun _ _ _ h => h) (Or.inl ⟨by rfl, ?_⟩) hH ?_
            · intro w1 hS; (try dsimp only at hS); obtain ⟨⟨u0, u1, _⟩, _⟩ := hS; have cw := (cell_of_rowAt u0 0).trans g0; have ch := (cell_of_rowAt u0 1).trans g1; have dw := (cell_of_rowAt u1 0).trans g2; have dh := (cell_of_rowAt u1 1).trans g3; go_simp; (try (simpa using sb))
            (try simp only [List.getElem_toArray]); (try simp only [List.getElem_cons_succ]); (try simp only [List.getElem_cons_zero]); (try simp only [Act.put]); (try simp only [List.setIfInBounds_toArray]); (try simp only [List.set_cons_succ]); (try simp only [List.set_cons_zero])
            refine wpAnyH_take (i := 14) (v := .bool false) rfl (by kernel_rfl) (by kernel_rfl) (by kernel_rfl) (fun _ _ _ h => h) (Or.inl ⟨by rfl, ?_⟩) hH ?_
            · intro w1 hS; (try dsimp only at hS); obtain ⟨⟨u0, u1, _⟩, _⟩ := hS; have cw := (cell_of_rowAt u0 0).trans g0; have ch := (cell_of_rowAt u0 1).trans g1; have dw := (cell_of_rowAt u1 0).trans g2; have dh := (cell_of_rowAt u1 1).trans g3; go_simp
            (try simp only [List.getElem_toArray]); (try simp only [List.getElem_cons_succ]); (try simp only [List.getElem_cons_zero]); (try simp only [Act.put]); (try simp only [List.setIfInBounds_toArray]); (try simp only [List.set_cons_succ]); (try simp only [List.set_cons_zero])
            refine wpAnyH_done (by kernel_rfl) ?_ _
            dsimp only [OnlyN2]
            obtain ⟨⟨r0, r1, r2⟩, rB⟩ := hH
            have ch := (cell_of_rowAt r0 1).trans g1
            have dh := (cell_of_rowAt r1 1).trans g3
            go_wp2_with fail
            refine bodyPost_ret (v := .tuple #[.agg Try.zeroCells27, .int .i64 3]) (results_row2 (m := 67) rfl _ _ (w.heap.size + 1 + 1) _ _ rfl rfl (rowAt_setRow_at _ _ _ (Option.isSome_iff_exists.2 ⟨_, r2⟩)) Try.underlying27 rfl (by kernel_rfl) hzs) rfl ⟨rfl, ?_⟩
            exact below_setRow rB (by omega) _
        · have eC : r.skC q = 4 := Rf.skC_4 ho hp (fun z => hb z.2)
          rw [Rf.skX_n (by rw [eC]; decide), eC]
          have e2 : IntKind.i64.wrap (h : Int) = (h : Int) := IntWalk.i64_in _ (by omega)
          have sb : ((r.by h == 1) != (q.by 0 == 1)) = true := by
            have y1 := r.by_bd h
            have y2 := q.by_bd 0
            rw [hh] at hb
            by_cases z1 : r.by h = 1
            · have z2 : ¬ q.by 0 = 1 := fun z => hb (by omega)
              simp [z1, z2]
            · have z2 : q.by 0 = 1 := by omega
              simp [z1, z2]
          have C1 := fun W => shifted_any c r h W hR (by omega)
          have C2 := fun W => shifted_any e q 0 W hQ (by omega)
          generalize (r.by h == 1) = x1 at *
          generalize (q.by 0 == 1) = x2 at *
          go_enter Try.func12, Try.ntmps12
          go_wp2_with fail
          refine (implValid_t c r _ hR ho).mono ?_
          rintro x w1 ⟨rfl, b1⟩
          have q0 := brow b1 p0
          have q1 := brow b1 p1
          have q2 := brow b1 p2
          have B1 := bnext pB b1 pB.size
          clear b1 p0 p1 p2 pB
          go_wp2_with fail
          refine (implValid_t e q _ hQ hp).mono ?_
          rintro x w2 ⟨rfl, b2⟩
          have p0 := brow b2 q0
          have p1 := brow b2 q1
          have p2 := brow b2 q2
          have B2 := bnext B1 b2 B1.size
          clear b2 q0 q1 q2 B1
          go_wp2_with fail
          refine Code.wp_mono onlyN_out2 ?_
          refine wp_region_held_drew (S := (fun w' => (rowAt w' w.heap.size = some c ∧ rowAt w' (w.heap.size + 1) = some e ∧ rowAt w' (w.heap.size + 1 + 1) = some Try.zeroCells27) ∧ Below w.heap.size w w')) (by kernel_rfl) (⟨⟨p0, p1, p2⟩, B2.drew⟩) (fun hH => ?_)
          refine wpAnyH_take (i := 0) (v := ?_) rfl (by kernel_rfl) (by kernel_rfl) (by kernel_rfl) (fun _ _ _ h => h) (Or.inl ⟨by rfl, ?_⟩) hH ?_
          rotate_left 1
          · intro w1 hS; (try dsimp only at hS); obtain ⟨⟨u0, u1, _⟩, _⟩ := hS; have cw := (cell_of_rowAt u0 0).trans g0; have ch := (cell_of_rowAt u0 1).trans g1; have dw := (cell_of_rowAt u1 0).trans g2; have dh := (cell_of_rowAt u1 1).trans g3; go_simp; (try with_reducible rfl)
          (try simp only [List.getElem_toArray]); (try simp only [List.getElem_cons_succ]); (try simp only [List.getElem_cons_zero]); (try simp only [Act.put]); (try simp only [List.setIfInBounds_toArray]); (try simp only [List.set_cons_succ]); (try simp only [List.set_cons_zero])
          refine wpAnyH_take (i := 1) (v := ?_) rfl (by kernel_rfl) (by kernel_rfl) (by kernel_rfl) (fun _ _ _ h => h) (Or.inl ⟨by rfl, ?_⟩) hH ?_
          rotate_left 1
          · intro w1 hS; (try dsimp only at hS); obtain ⟨⟨u0, u1, _⟩, _⟩ := hS; have cw := (cell_of_rowAt u0 0).trans g0; have ch := (cell_of_rowAt u0 1).trans g1; have dw := (cell_of_rowAt u1 0).trans g2; have dh := (cell_of_rowAt u1 1).trans g3; go_simp; (try with_reducible rfl)
          (try simp only [List.getElem_toArray]); (try simp only [List.getElem_cons_succ]); (try simp only [List.getElem_cons_zero]); (try simp only [Act.put]); (try simp only [List.setIfInBounds_toArray]); (try simp only [List.set_cons_succ]); (try simp only [List.set_cons_zero])
          refine wpAnyH_take (i := 2) (v := ?_) rfl (by kernel_rfl) (by kernel_rfl) (by kernel_rfl) (fun _ _ _ h => h) (Or.inl ⟨by rfl, ?_⟩) hH ?_
          rotate_left 1
          · intro w1 hS; (try dsimp only at hS); obtain ⟨⟨u0, u1, _⟩, _⟩ := hS; have cw := (cell_of_rowAt u0 0).trans g0; have ch := (cell_of_rowAt u0 1).trans g1; have dw := (cell_of_rowAt u1 0).trans g2; have dh := (cell_of_rowAt u1 1).trans g3; go_simp; (try with_reducible rfl)
          (try simp only [List.getElem_toArray]); (try simp only [List.getElem_cons_succ]); (try simp only [List.getElem_cons_zero]); (try simp only [Act.put]); (try simp only [List.setIfInBounds_toArray]); (try simp only [List.set_cons_succ]); (try simp only [List.set_cons_zero])
          refine wpAnyH_take (i := 3) (v := ?_) rfl (by kernel_rfl) (by kernel_rfl) (by kernel_rfl) (fun _ _ _ h => h) (Or.inl ⟨by rfl, ?_⟩) hH ?_
          rotate_left 1
          · intro w1 hS; (try dsimp only at hS); obtain ⟨⟨u0, u1, _⟩, _⟩ := hS; have cw := (cell_of_rowAt u0 0).trans g0; have ch := (cell_of_rowAt u0 1).trans g1; have dw := (cell_of_rowAt u1 0).trans g2; have dh := (cell_of_rowAt u1 1).trans g3; go_simp; (try with_reducible rfl)
          (try simp only [List.getElem_toArray]); (try simp only [List.getElem_cons_succ]); (try simp only [List.getElem_cons_zero]); (try simp only [Act.put]); (try simp only [List.setIfInBounds_toArray]); (try simp only [List.set_cons_succ]); (try simp only [List.set_cons_zero])
          refine wpAnyH_take (i := 4) (v := .bool false) rfl (by kernel_rfl) (by kernel_rfl) (by kernel_rfl) (fun _ _ _ h => h) (Or.inl ⟨by rfl, ?_⟩) hH ?_
          · intro w1 hS; (try dsimp only at hS); obtain ⟨⟨u0, u1, _⟩, _⟩ := hS; have cw := (cell_of_rowAt u0 0).trans g0; have ch := (cell_of_rowAt u0 1).trans g1; have dw := (cell_of_rowAt u1 0).trans g2; have dh := (cell_of_rowAt u1 1).trans g3; go_simp
          (try simp only [List.getElem_toArray]); (try simp only [List.getElem_cons_succ]); (try simp only [List.getElem_cons_zero]); (try simp only [Act.put]); (try simp only [List.setIfInBounds_toArray]); (try simp only [List.set_cons_succ]); (try simp only [List.set_cons_zero])
          refine wpAnyH_take (i := 5) (v := .bool false) rfl (by kernel_rfl) (by kernel_rfl) (by kernel_rfl) (fun _ _ _ h => h) (Or.inl ⟨by rfl, ?_⟩) hH ?_
          · intro w1 hS; (try dsimp only at hS); obtain ⟨⟨u0, u1, _⟩, _⟩ := hS; have cw := (cell_of_rowAt u0 0).trans g0; have ch := (cell_of_rowAt u0 1).trans g1; have dw := (cell_of_rowAt u1 0).trans g2; have dh := (cell_of_rowAt u1 1).trans g3; go_simp
          (try simp only [List.getElem_toArray]); (try simp only [List.getElem_cons_succ]); (try simp only [List.getElem_cons_zero]); (try simp only [Act.put]); (try simp only [List.setIfInBounds_toArray]); (try simp only [List.set_cons_succ]); (try simp only [List.set_cons_zero])
          refine wpAnyH_take (i := 6) (v := .agg c) rfl (by kernel_rfl) (by kernel_rfl) (by kernel_rfl) (fun _ _ _ h => h) (Or.inl ⟨by rfl, ?_⟩) hH ?_
          · intro w1 hS; (try dsimp only at hS); obtain ⟨⟨u0, u1, _⟩, _⟩ := hS; have cw := (cell_of_rowAt u0 0).trans g0; have ch := (cell_of_rowAt u0 1).trans g1; have dw := (cell_of_rowAt u1 0).trans g2; have dh := (cell_of_rowAt u1 1).trans g3; go_simp
          (try simp only [List.getElem_toArray]); (try simp only [List.getElem_cons_succ]); (try simp only [List.getElem_cons_zero]); (try simp only [Act.put]); (try simp only [List.setIfInBounds_toArray]); (try simp only [List.set_cons_succ]); (try simp only [List.set_cons_zero])
          refine wpAnyH_take (i := 7) (v := ?_) rfl (by kernel_rfl) (by kernel_rfl) (by kernel_rfl) (fun _ _ _ h => h) (Or.inl ⟨by rfl, ?_⟩) hH ?_
          rotate_left 1
          · intro w1 hS; (try dsimp only at hS); obtain ⟨⟨u0, u1, _⟩, _⟩ := hS; have cw := (cell_of_rowAt u0 0).trans g0; have ch := (cell_of_rowAt u0 1).trans g1; have dw := (cell_of_rowAt u1 0).trans g2; have dh := (cell_of_rowAt u1 1).trans g3; go_simp; (try with_reducible rfl)
          (try simp only [List.getElem_toArray]); (try simp only [List.getElem_cons_succ]); (try simp only [List.getElem_cons_zero]); (try simp only [Act.put]); (try simp only [List.setIfInBounds_toArray]); (try simp only [List.set_cons_succ]); (try simp only [List.set_cons_zero])
          refine wpAnyH_take (i := 8) (v := ?_) rfl (by kernel_rfl) (by kernel_rfl) (by kernel_rfl) (fun _ _ _ h => h) (Or.inl ⟨by rfl, ?_⟩) hH ?_
          rotate_left 1
          · intro w1 hS; (try dsimp only at hS); obtain ⟨⟨u0, u1, _⟩, _⟩ := hS; have cw := (cell_of_rowAt u0 0).trans g0; have ch := (cell_of_rowAt u0 1).trans g1; have dw := (cell_of_rowAt u1 0).trans g2; have dh := (cell_of_rowAt u1 1).trans g3; go_simp; (try with_reducible rfl)
          (try simp only [List.getElem_toArray]); (try simp only [List.getElem_cons_succ]); (try simp only [List.getElem_cons_zero]); (try simp only [Act.put]); (try simp only [List.setIfInBounds_toArray]); (try simp only [List.set_cons_succ]); (try simp only [List.set_cons_zero])
          refine wpAnyH_take (i := 9) (v := ?_) rfl (by kernel_rfl) (by kernel_rfl) (by kernel_rfl) (fun _ _ _ h => h) (Or.inl ⟨by rfl, ?_⟩) hH ?_
          rotate_left 1
          · intro w1 hS; (try dsimp only at hS); obtain ⟨⟨u0, u1, _⟩, _⟩ := hS; have cw := (cell_of_rowAt u0 0).trans g0; have ch := (cell_of_rowAt u0 1).trans g1; have dw := (cell_of_rowAt u1 0).trans g2; have dh := (cell_of_rowAt u1 1).trans g3; go_simp; (try with_reducible rfl)
          (try simp only [List.getElem_toArray]); (try simp only [List.getElem_cons_succ]); (try simp only [List.getElem_cons_zero]); (try simp only [Act.put]); (try simp only [List.setIfInBounds_toArray]); (try simp only [List.set_cons_succ]); (try simp only [List.set_cons_zero])
          refine wpAnyH_take (i := 11) (v := .agg e) rfl (by kernel_rfl) (by kernel_rfl) (by kernel_rfl) (fun _ _ _ h => h) (Or.inl ⟨by rfl, ?_⟩) hH ?_
          · intro w1 hS; (try dsimp only at hS); obtain ⟨⟨u0, u1, _⟩, _⟩ := hS; have cw := (cell_of_rowAt u0 0).trans g0; have ch := (cell_of_rowAt u0 1).trans g1; have dw := (cell_of_rowAt u1 0).trans g2; have dh := (cell_of_rowAt u1 1).trans g3; go_simp
          (try simp only [List.getElem_toArray]); (try simp only [List.getElem_cons_succ]); (try simp only [List.getElem_cons_zero]); (try simp only [Act.put]); (try simp only [List.setIfInBounds_toArray]); (try simp only [List.set_cons_succ]); (try simp only [List.set_cons_zero])
          refine wpAnyH_ready (rs := [10]) (by kernel_rfl) (by simp) (AllReadyH.cons rfl (fun K hK => ?_) AllReadyH.nil)
          go_simp
          refine (C1 _).mono ?_
          rintro x wx ⟨rfl, bx⟩
          go_simp
          refine hK.out _ _ (⟨⟨brow bx hH.1.1, brow bx hH.1.2.1, brow bx hH.1.2.2⟩, bnext hH.2 bx hH.2.size⟩) (fun hG => ?_)
          clear hK K hH bx
          replace hH := hG
          clear hG
          (try simp only [List.getElem_toArray]); (try simp only [List.getElem_cons_succ]); (try simp only [List.getElem_cons_zero]); (try simp only [Act.put]); (try simp only [List.setIfInBounds_toArray]); (try simp only [List.set_cons_succ]); (try simp only [List.set_cons_zero])
          refine wpAnyH_ready (rs := [12]) (by kernel_rfl) (by simp) (AllReadyH.cons rfl (fun K hK => ?_) AllReadyH.nil)
          go_simp
          refine (C2 _).mono ?_
          rintro x wx ⟨rfl, bx⟩
          go_simp
          refine hK.out _ _ (⟨⟨brow bx hH.1.1, brow bx hH.1.2.1, brow bx hH.1.2.2⟩, bnext hH.2 bx hH.2.size⟩) (fun hG => ?_)
          clear hK K hH bx
          replace hH := hG
          clear hG
          (try simp only [List.getElem_toArray]); (try simp only [List.getElem_cons_succ]); (try simp only [List.getElem_cons_zero]); (try simp only [Act.put]); (try simp only [List.setIfInBounds_toArray]); (try simp only [List.set_cons_succ]); (try simp only [List.set_cons_zero])
          refine wpAnyH_take (i := 13) (v := .bool true) rfl (by kernel_rfl) (by kernel_rfl) (by kernel_rfl) (fun _ _ _ h => h) (Or.inl ⟨by rfl, ?_⟩) hH ?_
          · intro w1 hS; (try dsimp only at hS); obtain ⟨⟨u0, u1, _⟩, _⟩ := hS; have cw := (cell_of_rowAt u0 0).trans g0; have ch := (cell_of_rowAt u0 1).trans g1; have dw := (cell_of_rowAt u1 0).trans g2; have dh := (cell_of_rowAt u1 1).trans g3; go_simp; (try (simpa using sb))
          (try simp only [List.getElem_toArray]); (try simp only [List.getElem_cons_succ]); (try simp only [List.getElem_cons_zero]); (try simp only [Act.put]); (try simp only [List.setIfInBounds_toArray]); (try simp only [List.set_cons_succ]); (try simp only [List.set_cons_zero])
          refine wpAnyH_take (i := 14) (v := .bool true) rfl (by kernel_rfl) (by kernel_rfl) (by kernel_rfl) (fun _ _ _ h => h) (Or.inl ⟨by rfl, ?_⟩) hH ?_
          · intro w1 hS; (try dsimp only at hS); obtain ⟨⟨u0, u1, _⟩, _⟩ := hS; have cw := (cell_of_rowAt u0 0).trans g0; have ch := (cell_of_rowAt u0 1).trans g1; have dw := (cell_of_rowAt u1 0).trans g2; have dh := (cell_of_rowAt u1 1).trans g3; go_simp
          (try simp only [List.getElem_toArray]); (try simp only [List.getElem_cons_succ]); (try simp only [List.getElem_cons_zero]); (try simp only [Act.put]); (try simp only [List.setIfInBounds_toArray]); (try simp only [List.set_cons_succ]); (try simp only [List.set_cons_zero])
          refine wpAnyH_done (by kernel_rfl) ?_ _
          dsimp only [OnlyN2]
          obtain ⟨⟨r0, r1, r2⟩, rB⟩ := hH
          go_wp2_with fail
          refine bodyPost_ret (v := .tuple #[.agg Try.zeroCells27, .int .i64 4]) (results_row2 (m := 67) rfl _ _ (w.heap.size + 1 + 1) _ _ rfl rfl (rowAt_setRow_at _ _ _ (Option.isSome_iff_exists.2 ⟨_, r2⟩)) Try.underlying27 rfl (by kernel_rfl) hzs) rfl ⟨rfl, ?_⟩
          exact below_setRow rB (by omega) _
      · have eC : r.skC q = 4 := Rf.skC_4 ho hp (fun z => hw z.1)
        rw [Rf.skX_n (by rw [eC]; decide), eC]
        have sw : (r.w != q.w) = true := by simpa using hw
        go_enter Try.func12, Try.ntmps12
        go_wp2_with fail
        refine (implValid_t c r _ hR ho).mono ?_
        rintro x w1 ⟨rfl, b1⟩
        have q0 := brow b1 p0
        have q1 := brow b1 p1
        have q2 := brow b1 p2
        have B1 := bnext pB b1 pB.size
        clear b1 p0 p1 p2 pB
        go_wp2_with fail
        refine (implValid_t e q _ hQ hp).mono ?_
        rintro x w2 ⟨rfl, b2⟩
        have p0 := brow b2 q0
        have p1 := brow b2 q1
        have p2 := brow b2 q2
        have B2 := bnext B1 b2 B1.size
        clear b2 q0 q1 q2 B1
        go_wp2_with fail
        refine Code.wp_mono onlyN_out2 ?_
        refine wp_region_held_drew (S := (fun w' => (rowAt w' w.heap.size = some c ∧ rowAt w' (w.heap.size + 1) = some e ∧ rowAt w' (w.heap.size + 1 + 1) = some Try.zeroCells27) ∧ Below w.heap.size w w')) (by kernel_rfl) (⟨⟨p0, p1, p2⟩, B2.drew⟩) (fun hH => ?_)
        refine wpAnyH_take (i := 0) (v := ?_) rfl (by kernel_rfl) (by kernel_rfl) (by kernel_rfl) (fun _ _ _ h => h) (Or.inl ⟨by rfl, ?_⟩) hH ?_
        rotate_left 1
        · intro w1 hS; (try dsimp only at hS); obtain ⟨⟨u0, u1, _⟩, _⟩ := hS; have cw := (cell_of_rowAt u0 0).trans g0; have ch := (cell_of_rowAt u0 1).trans g1; have dw := (cell_of_rowAt u1 0).trans g2; have dh := (cell_of_rowAt u1 1).trans g3; go_simp; (try with_reducible rfl)
        (try simp only [List.getElem_toArray]); (try simp only [List.getElem_cons_succ]); (try simp only [List.getElem_cons_zero]); (try simp only [Act.put]); (try simp only [List.setIfInBounds_toArray]); (try simp only [List.set_cons_succ]); (try simp only [List.set_cons_zero])
        refine wpAnyH_take (i := 1) (v := ?_) rfl (by kernel_rfl) (by kernel_rfl) (by kernel_rfl) (fun _ _ _ h => h) (Or.inl ⟨by rfl, ?_⟩) hH ?_
        rotate_left 1
        · intro w1 hS; (try dsimp only at hS); obtain ⟨⟨u0, u1, _⟩, _⟩ := hS; have cw := (cell_of_rowAt u0 0).trans g0; have ch := (cell_of_rowAt u0 1).trans g1; have dw := (cell_of_rowAt u1 0).trans g2; have dh := (cell_of_rowAt u1 1).trans g3; go_simp; (try with_reducible rfl)
        (try simp only [List.getElem_toArray]); (try simp only [List.getElem_cons_succ]); (try simp only [List.getElem_cons_zero]); (try simp only [Act.put]); (try simp only [List.setIfInBounds_toArray]); (try simp only [List.set_cons_succ]); (try simp only [List.set_cons_zero])
        refine wpAnyH_take (i := 2) (v := ?_) rfl (by kernel_rfl) (by kernel_rfl) (by kernel_rfl) (fun _ _ _ h => h) (Or.inl ⟨by rfl, ?_⟩) hH ?_
        rotate_left 1
        · intro w1 hS; (try dsimp only at hS); obtain ⟨⟨u0, u1, _⟩, _⟩ := hS; have cw := (cell_of_rowAt u0 0).trans g0; have ch := (cell_of_rowAt u0 1).trans g1; have dw := (cell_of_rowAt u1 0).trans g2; have dh := (cell_of_rowAt u1 1).trans g3; go_simp; (try with_reducible rfl)
        (try simp only [List.getElem_toArray]); (try simp only [List.getElem_cons_succ]); (try simp only [List.getElem_cons_zero]); (try simp only [Act.put]); (try simp only [List.setIfInBounds_toArray]); (try simp only [List.set_cons_succ]); (try simp only [List.set_cons_zero])
        refine wpAnyH_take (i := 3) (v := ?_) rfl (by kernel_rfl) (by kernel_rfl) (by kernel_rfl) (fun _ _ _ h => h) (Or.inl ⟨by rfl, ?_⟩) hH ?_
        rotate_left 1
        · intro w1 hS; (try dsimp only at hS); obtain ⟨⟨u0, u1, _⟩, _⟩ := hS; have cw := (cell_of_rowAt u0 0).trans g0; have ch := (cell_of_rowAt u0 1).trans g1; have dw := (cell_of_rowAt u1 0).trans g2; have dh := (cell_of_rowAt u1 1).trans g3; go_simp; (try with_reducible rfl)
        (try simp only [List.getElem_toArray]); (try simp only [List.getElem_cons_succ]); (try simp only [List.getElem_cons_zero]); (try simp only [Act.put]); (try simp only [List.setIfInBounds_toArray]); (try simp only [List.set_cons_succ]); (try simp only [List.set_cons_zero])
        refine wpAnyH_take (i := 4) (v := .bool true) rfl (by kernel_rfl) (by kernel_rfl) (by kernel_rfl) (fun _ _ _ h => h) (Or.inl ⟨by rfl, ?_⟩) hH ?_
        · intro w1 hS; (try dsimp only at hS); obtain ⟨⟨u0, u1, _⟩, _⟩ := hS; have cw := (cell_of_rowAt u0 0).trans g0; have ch := (cell_of_rowAt u0 1).trans g1; have dw := (cell_of_rowAt u1 0).trans g2; have dh := (cell_of_rowAt u1 1).trans g3; go_simp
        (try simp only [List.getElem_toArray]); (try simp only [List.getElem_cons_succ]); (try simp only [List.getElem_cons_zero]); (try simp only [Act.put]); (try simp only [List.setIfInBounds_toArray]); (try simp only [List.set_cons_succ]); (try simp only [List.set_cons_zero])
        refine wpAnyH_take (i := 5) (v := .bool true) rfl (by kernel_rfl) (by kernel_rfl) (by kernel_rfl) (fun _ _ _ h => h) (Or.inl ⟨by rfl, ?_⟩) hH ?_
        · intro w1 hS; (try dsimp only at hS); obtain ⟨⟨u0, u1, _⟩, _⟩ := hS; have cw := (cell_of_rowAt u0 0).trans g0; have ch := (cell_of_rowAt u0 1).trans g1; have dw := (cell_of_rowAt u1 0).trans g2; have dh := (cell_of_rowAt u1 1).trans g3; go_simp
        (try simp only [List.getElem_toArray]); (try simp only [List.getElem_cons_succ]); (try simp only [List.getElem_cons_zero]); (try simp only [Act.put]); (try simp only [List.setIfInBounds_toArray]); (try simp only [List.set_cons_succ]); (try simp only [List.set_cons_zero])
        refine wpAnyH_take (i := 6) (v := undef) rfl (by kernel_rfl) (by kernel_rfl) (by kernel_rfl) (fun _ _ _ h => h) (Or.inr ⟨by rfl, rfl⟩) hH ?_
        (try simp only [List.getElem_toArray]); (try simp only [List.getElem_cons_succ]); (try simp only [List.getElem_cons_zero]); (try simp only [Act.put]); (try simp only [List.setIfInBounds_toArray]); (try simp only [List.set_cons_succ]); (try simp only [List.set_cons_zero])
        refine wpAnyH_take (i := 7) (v := undef) rfl (by kernel_rfl) (by kernel_rfl) (by kernel_rfl) (fun _ _ _ h => h) (Or.inr ⟨by rfl, rfl⟩) hH ?_
        (try simp only [List.getElem_toArray]); (try simp only [List.getElem_cons_succ]); (try simp only [List.getElem_cons_zero]); (try simp only [Act.put]); (try simp only [List.setIfInBounds_toArray]); (try simp only [List.set_cons_succ]); (try simp only [List.set_cons_zero])
        refine wpAnyH_take (i := 8) (v := undef) rfl (by kernel_rfl) (by kernel_rfl) (by kernel_rfl) (fun _ _ _ h => h) (Or.inr ⟨by rfl, rfl⟩) hH ?_
        (try simp only [List.getElem_toArray]); (try simp only [List.getElem_cons_succ]); (try simp only [List.getElem_cons_zero]); (try simp only [Act.put]); (try simp only [List.setIfInBounds_toArray]); (try simp only [List.set_cons_succ]); (try simp only [List.set_cons_zero])
        refine wpAnyH_take (i := 9) (v := undef) rfl (by kernel_rfl) (by kernel_rfl) (by kernel_rfl) (fun _ _ _ h => h) (Or.inr ⟨by rfl, rfl⟩) hH ?_
        (try simp only [List.getElem_toArray]); (try simp only [List.getElem_cons_succ]); (try simp only [List.getElem_cons_zero]); (try simp only [Act.put]); (try simp only [List.setIfInBounds_toArray]); (try simp only [List.set_cons_succ]); (try simp only [List.set_cons_zero])
        refine wpAnyH_take (i := 10) (v := undef) rfl (by kernel_rfl) (by kernel_rfl) (by kernel_rfl) (fun _ _ _ h => h) (Or.inr ⟨by rfl, rfl⟩) hH ?_
        (try simp only [List.getElem_toArray]); (try simp only [List.getElem_cons_succ]); (try simp only [List.getElem_cons_zero]); (try simp only [Act.put]); (try simp only [List.setIfInBounds_toArray]); (try simp only [List.set_cons_succ]); (try simp only [List.set_cons_zero])
        refine wpAnyH_take (i := 11) (v := undef) rfl (by kernel_rfl) (by kernel_rfl) (by kernel_rfl) (fun _ _ _ h => h) (Or.inr ⟨by rfl, rfl⟩) hH ?_
        (try simp only [List.getElem_toArray]); (try simp only [List.getElem_cons_succ]); (try simp only [List.getElem_cons_zero]); (try simp only [Act.put]); (try simp only [List.setIfInBounds_toArray]); (try simp only [List.set_cons_succ]); (try simp only [List.set_cons_zero])
        refine wpAnyH_take (i := 12) (v := undef) rfl (by kernel_rfl) (by kernel_rfl) (by kernel_rfl) (fun _ _ _ h => h) (Or.inr ⟨by rfl, rfl⟩) hH ?_
        (try simp only [List.getElem_toArray]); (try simp only [List.getElem_cons_succ]); (try simp only [List.getElem_cons_zero]); (try simp only [Act.put]); (try simp only [List.setIfInBounds_toArray]); (try simp only [List.set_cons_succ]); (try simp only [List.set_cons_zero])
        refine wpAnyH_take (i := 13) (v := undef) rfl (by kernel_rfl) (by kernel_rfl) (by kernel_rfl) (fun _ _ _ h => h) (Or.inr ⟨by rfl, rfl⟩) hH ?_
        (try simp only [List.getElem_toArray]); (try simp only [List.getElem_cons_succ]); (try simp only [List.getElem_cons_zero]); (try simp only [Act.put]); (try simp only [List.setIfInBounds_toArray]); (try simp only [List.set_cons_succ]); (try simp only [List.set_cons_zero])
        refine wpAnyH_take (i := 14) (v := .bool true) rfl (by kernel_rfl) (by kernel_rfl) (by kernel_rfl) (fun _ _ _ h => h) (Or.inl ⟨by rfl, ?_⟩) hH ?_
        · intro w1 hS; (try dsimp only at hS); obtain ⟨⟨u0, u1, _⟩, _⟩ := hS; have cw := (cell_of_rowAt u0 0).trans g0; have ch := (cell_of_rowAt u0 1).trans g1; have dw := (cell_of_rowAt u1 0).trans g2; have dh := (cell_of_rowAt u1 1).trans g3; go_simp
        (try simp only [List.getElem_toArray]); (try simp only [List.getElem_cons_succ]); (try simp only [List.getElem_cons_zero]); (try simp only [Act.put]); (try simp only [List.setIfInBounds_toArray]); (try simp only [List.set_cons_succ]); (try simp only [List.set_cons_zero])
        refine wpAnyH_done (by kernel_rfl) ?_ _
        dsimp only [OnlyN2]
        obtain ⟨⟨r0, r1, r2⟩, rB⟩ := hH
        go_wp2_with fail
        refine bodyPost_ret (v := .tuple #[.agg Try.zeroCells27, .int .i64 4]) (results_row2 (m := 67) rfl _ _ (w.heap.size + 1 + 1) _ _ rfl rfl (rowAt_setRow_at _ _ _ (Option.isSome_iff_exists.2 ⟨_, r2⟩)) Try.underlying27 rfl (by kernel_rfl) hzs) rfl ⟨rfl, ?_⟩
        exact below_setRow rB (by omega) _
    · have eC : r.skC q = 1 := Rf.skC_1 (fun z => hp z.2)
      rw [Rf.skX_n (by rw [eC]; decide), eC]
      go_enter Try.func12, Try.ntmps12
      go_wp2_with fail
      refine (implValid_t c r _ hR ho).mono ?_
      rintro x w1 ⟨rfl, b1⟩
      have q0 := brow b1 p0
      have q1 := brow b1 p1
      have q2 := brow b1 p2
      have B1 := bnext pB b1 pB.size
      clear b1 p0 p1 p2 pB
      go_wp2_with fail
      refine (implValid_f e q _ hQ hp).mono ?_
      rintro x W ⟨rfl, b2⟩
      have p2 := brow b2 q2
      have B2 := bnext B1 b2 B1.size
      clear b2 q0 q1 q2 B1
      go_wp2_with fail
      refine bodyPost_ret (v := .tuple #[.agg Try.zeroCells27, .int .i64 1]) (results_row2 (m := 67) rfl _ _ (w.heap.size + 1 + 1) _ _ rfl rfl (rowAt_setRow_at _ _ _ (Option.isSome_iff_exists.2 ⟨_, p2⟩)) Try.underlying27 rfl (by kernel_rfl) hzs) rfl ⟨rfl, ?_⟩
      exact below_setRow B2 (by omega) _
  · have eC : r.skC q = 1 := Rf.skC_1 (fun z => ho z.1)
    rw [Rf.skX_n (by rw [eC]; decide), eC]
    go_enter Try.func12, Try.ntmps12
    go_wp2_with fail
    refine (implValid_f c r _ hR ho).mono ?_
    rintro x w1 ⟨rfl, b1⟩
    have q2 := brow b1 p2
    have B1 := bnext pB b1 pB.size
    clear b1 p0 p1 p2 pB
    go_wp2_with fail
    refine bodyPost_ret (v := .tuple #[.agg Try.zeroCells27, .int .i64 1]) (results_row2 (m := 67) rfl _ _ (w.heap.size + 1 + 1) _ _ rfl rfl (rowAt_setRow_at _ _ _ (Option.isSome_iff_exists.2 ⟨_, q2⟩)) Try.underlying27 rfl (by kernel_rfl) hzs) rfl ⟨rfl, ?_⟩
    exact below_setRow B1 (by omega) _
end Go.Proofs.Ytnhoclplledlfaa
