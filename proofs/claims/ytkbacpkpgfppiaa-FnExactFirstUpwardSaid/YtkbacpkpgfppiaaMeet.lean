/- Contracts on the program's tiles of another course that have a cell in common with a tile. -/
import Derived.Test.YtkbacpkpgfppiaaLaps
namespace Go.Proofs.Ytkbacpkpgfppiaa
open Go.RowKit

@[go_sem ↓] theorem index_i2 (v i : Value) : Instr.index 147 v i = indexWhole 147 v i := rfl
@[go_sem] theorem run_index_i2 (cs : Array Value) (w : World) (i : Int) (h0 : 0 ≤ i) (h1 : i < (2 : Nat)) (hm : cs.size = 2) :
    (indexWhole 147 (.agg cs) (.int .i64 i)).run Try.prog w = .ok (cs[i.toNat]'(by omega)) w := run_index_int Try.underlying147 Try.underlying2 (by kernel_rfl) cs w i h0 h1 hm

theorem ownsRow_below {w w' : World} {base : Nat} {e : TypeId} {size : Nat} {v : Value} {n : Nat} {xs : List Value} (h : w.ownsRow base e size v n xs) (b : Below w.heap.size w w') : w'.ownsRow base e size v n xs := by
  obtain ⟨hl, h | ⟨g, cap, cur, rfl, hg, hh, hr⟩⟩ := h
  · exact ⟨hl, .inl h⟩
  · exact ⟨hl, .inr ⟨g, cap, cur, rfl, hg, (b.block g (Array.getElem?_eq_some_iff.1 hh).1).trans hh, hr⟩⟩
theorem World.grownBy_row {w w' : World} {row : Option Nat} (h : w.grownBy w' row) {n : Nat} (hn : n < w.heap.size) (hr : ∀ x, row = some x → n ≠ x) : rowAt w' n = rowAt w n :=
  by simp [rowAt, h.block n hn (fun e => hr n e.symm rfl)]

set_option maxRecDepth 100000 in
set_option maxHeartbeats 1000000 in
theorem meeting_tt (c : Array Value) (r : Rf) (i j k : Nat) (w : World) (hR : IsRoof c r) (ho : r.Ok) (hi : i < 8) (hj : j < 8) (hjw : (j : Int) < r.w) (hkh : (k : Int) < r.h)
    (h0 : 0 ≤ r.tile k (2 * j + r.by i)) (h1 : 0 ≤ r.tile k (2 * j + r.by i + 1)) :
    Calls Try.prog 155 #[.agg c, .agg #[.int .i8 i, .int .i8 j], .int .i8 k] w (GivesPl w 2 (plF k [r.tile k (2 * j + r.by i), r.tile k (2 * j + r.by i + 1)])) := by
  obtain ⟨hc, k0, k1, k2, v0, v1, g0, g1, s0, s1⟩ := hR.view
  clear k0 k2
  have hw1 := ho.1
  have hw8 := ho.2.1
  have hh8 := ho.2.2.2.1
  obtain ⟨y0, y1⟩ := r.by_bd i
  have z0 := tile_lt (r := r) (k := k) (cell := 2 * j + r.by i) hw8
  have z1 := tile_lt (r := r) (k := k) (cell := 2 * j + r.by i + 1) hw8
  obtain ⟨i0, hi0, hz0, hz1, hz2⟩ := info_parts A_infoPl
  have hlt : k < 8 := by omega
  generalize hT0 : r.tile k (2 * j + r.by i) = T0 at *
  generalize hT1 : r.tile k (2 * j + r.by i + 1) = T1 at *
  have HT0 := Lib.hid hT0
  have HT1 := Lib.hid hT1
  clear hT0 hT1
  go_enter Try.func155, Try.ntmps155
  go_wp2_with fail
  refine (cells_any c r i j _ hR hi hj).mono ?_
  rintro e w1 ⟨rfl, b1⟩
  have q1 := brow b1 ((rowAt_alloc_past _ (.cells #[.int .i8 i, .int .i8 j] 58) _ (by simp)).trans (rowAt_alloc_at w c 31 _ rfl))
  have B1 : Below w.heap.size w w1 := (((Below.refl _ _).alloc (Nat.le_refl _) _).alloc (by simp) _).trans (b1.mono (by simp; omega))
  clear b1
  go_wp2_with fail
  refine wp_loop_rounds 3 ?_
  rw [rounds_succ]
  go_wp2_with fail
  refine (tileAt_any c r k _ _ hR (by omega) (by omega) (by omega)).mono ?_
  rintro e w2 ⟨rfl, b2⟩
  rw [HT0.out]
  have q2 := brow b2 q1
  have B2 := bnext B1 b2 B1.size
  clear b2 q1 B1
  go_wp2_with (at_builtin; refine wpList_append_own _ rfl _ _ 33 rfl w.heap.size 58 i0 (.agg #[.int .i8 0, .int .i8 0]) 2 2 Try.underlying33 hi0 hz0 hz1 hz2 rfl (by decide) _ _ _ rfl (World.ownsRow_nil _ _ _ _) ⟨w2.heap.size, 0, none⟩ 1 1 [.int .i8 k, .int .i8 T0] rfl rfl ?c1 ?c2 ?c3 ?c4 ?c5 ?_)
  case c1 => exact cell_two_new _ _ _ _
  case c2 => simp [Value.oneCell']
  case c3 => unfold maxLen; omega
  case c4 => omega
  case c5 => have := B2.size; simp; omega
  intro v3 w3 own3 grow3 _
  obtain ⟨g3, cap3, rfl⟩ := ownsRow_succ own3
  simp only [Nat.zero_add] at own3
  have B3 : Below w.heap.size w w3 := (B2.alloc B2.size _).grown grow3 (by have := B2.size; simp; omega) (by intro x hx; cases hx)
  have q3 := (World.grownBy_row grow3 (by have := rowAt_lt q2; simp; omega) (by intro x hx; cases hx)).trans ((rowAt_alloc_past _ _ _ (rowAt_lt q2)).trans q2)
  clear B2 q2 grow3
  go_wp2_with fail
  rw [rounds_succ]
  go_wp2_with fail
  refine (tileAt_any c r k _ _ hR (by omega) (by omega) (by omega)).mono ?_
  rintro e w4 ⟨rfl, b4⟩
  rw [HT1.out]
  have B4 := bnext B3 b4 B3.size
  have own4 := ownsRow_below own3 b4
  clear own3
  clear b4 q3 B3
  go_wp2_with (at_builtin; refine wpList_append_own _ rfl _ _ 33 rfl w.heap.size 58 i0 (.agg #[.int .i8 0, .int .i8 0]) 2 2 Try.underlying33 hi0 hz0 hz1 hz2 rfl (by decide) _ _ _ rfl (own4.alloc _) ⟨w4.heap.size, 0, none⟩ 1 1 [.int .i8 k, .int .i8 T1] rfl rfl ?c1 ?c2 ?c3 ?c4 ?c5 ?_)
  case c1 => exact cell_two_new _ _ _ _
  case c2 => simp [Value.oneCell']
  case c3 => unfold maxLen; omega
  case c4 => omega
  case c5 => have := B4.size; simp; omega
  intro v5 w5 own5 grow5 _
  obtain ⟨g5, cap5, rfl⟩ := ownsRow_succ own5
  simp only [Nat.reduceAdd] at own5
  have B5 : Below w.heap.size w w5 := (B4.alloc B4.size _).grown grow5 (by have := B4.size; simp; omega) (by intro x hx; cases hx; exact (own4.lt g3 rfl).1)
  go_wp2_with fail
  rw [rounds_succ]
  go_wp2_with fail
  go_ret
  exact ⟨_, rfl, IsList.of_owns (k := k) (T := [T0, T1]) own5 rfl, B5⟩

set_option maxRecDepth 100000 in
set_option maxHeartbeats 1000000 in
theorem meeting_ft (c : Array Value) (r : Rf) (i j k : Nat) (w : World) (hR : IsRoof c r) (ho : r.Ok) (hi : i < 8) (hj : j < 8) (hjw : (j : Int) < r.w) (hkh : (k : Int) < r.h)
    (h0 : r.tile k (2 * j + r.by i) < 0) (h1 : 0 ≤ r.tile k (2 * j + r.by i + 1)) :
    Calls Try.prog 155 #[.agg c, .agg #[.int .i8 i, .int .i8 j], .int .i8 k] w (GivesPl w 1 (plF k [r.tile k (2 * j + r.by i + 1)])) := by
  obtain ⟨hc, k0, k1, k2, v0, v1, g0, g1, s0, s1⟩ := hR.view
  clear k0 k2
  have hw1 := ho.1
  have hw8 := ho.2.1
  have hh8 := ho.2.2.2.1
  obtain ⟨y0, y1⟩ := r.by_bd i
  have z0 := tile_lt (r := r) (k := k) (cell := 2 * j + r.by i) hw8
  have z1 := tile_lt (r := r) (k := k) (cell := 2 * j + r.by i + 1) hw8
  obtain ⟨i0, hi0, hz0, hz1, hz2⟩ := info_parts A_infoPl
  have hlt : k < 8 := by omega
  generalize hT0 : r.tile k (2 * j + r.by i) = T0 at *
  generalize hT1 : r.tile k (2 * j + r.by i + 1) = T1 at *
  have HT0 := Lib.hid hT0
  have HT1 := Lib.hid hT1
  clear hT0 hT1
  go_enter Try.func155, Try.ntmps155
  go_wp2_with fail
  refine (cells_any c r i j _ hR hi hj).mono ?_
  rintro e w1 ⟨rfl, b1⟩
  have q1 := brow b1 ((rowAt_alloc_past _ (.cells #[.int .i8 i, .int .i8 j] 58) _ (by simp)).trans (rowAt_alloc_at w c 31 _ rfl))
  have B1 : Below w.heap.size w w1 := (((Below.refl _ _).alloc (Nat.le_refl _) _).alloc (by simp) _).trans (b1.mono (by simp; omega))
  clear b1
  go_wp2_with fail
  refine wp_loop_rounds 3 ?_
  rw [rounds_succ]
  go_wp2_with fail
  refine (tileAt_any c r k _ _ hR (by omega) (by omega) (by omega)).mono ?_
  rintro e w2 ⟨rfl, b2⟩
  rw [HT0.out]
  have q2 := brow b2 q1
  have B2 := bnext B1 b2 B1.size
  clear b2 q1 B1
  go_wp2_with fail
  rw [rounds_succ]
  go_wp2_with fail
  refine (tileAt_any c r k _ _ hR (by omega) (by omega) (by omega)).mono ?_
  rintro e w4 ⟨rfl, b4⟩
  rw [HT1.out]
  have B4 := bnext B2 b4 B2.size
  clear b4 q2 B2
  go_wp2_with (at_builtin; refine wpList_append_own _ rfl _ _ 33 rfl w.heap.size 58 i0 (.agg #[.int .i8 0, .int .i8 0]) 2 2 Try.underlying33 hi0 hz0 hz1 hz2 rfl (by decide) _ _ _ rfl (World.ownsRow_nil _ _ _ _) ⟨w4.heap.size, 0, none⟩ 1 1 [.int .i8 k, .int .i8 T1] rfl rfl ?c1 ?c2 ?c3 ?c4 ?c5 ?_)
  case c1 => exact cell_two_new _ _ _ _
  case c2 => simp [Value.oneCell']
  case c3 => unfold maxLen; omega
  case c4 => omega
  case c5 => have := B4.size; simp; omega
  intro v5 w5 own5 grow5 _
  obtain ⟨g5, cap5, rfl⟩ := ownsRow_succ own5
  simp only [Nat.zero_add] at own5
  have B5 : Below w.heap.size w w5 := (B4.alloc B4.size _).grown grow5 (by have := B4.size; simp; omega) (by intro x hx; cases hx)
  go_wp2_with fail
  rw [rounds_succ]
  go_wp2_with fail
  go_ret
  exact ⟨_, rfl, IsList.of_owns (k := k) (T := [T1]) own5 rfl, B5⟩

set_option maxRecDepth 100000 in
set_option maxHeartbeats 1000000 in
theorem meeting_tf (c : Array Value) (r : Rf) (i j k : Nat) (w : World) (hR : IsRoof c r) (ho : r.Ok) (hi : i < 8) (hj : j < 8) (hjw : (j : Int) < r.w) (hkh : (k : Int) < r.h)
    (h0 : 0 ≤ r.tile k (2 * j + r.by i)) (h1 : r.tile k (2 * j + r.by i + 1) < 0) :
    Calls Try.prog 155 #[.agg c, .agg #[.int .i8 i, .int .i8 j], .int .i8 k] w (GivesPl w 1 (plF k [r.tile k (2 * j + r.by i)])) := by
  obtain ⟨hc, k0, k1, k2, v0, v1, g0, g1, s0, s1⟩ := hR.view
  clear k0 k2
  have hw1 := ho.1
  have hw8 := ho.2.1
  have hh8 := ho.2.2.2.1
  obtain ⟨y0, y1⟩ := r.by_bd i
  have z0 := tile_lt (r := r) (k := k) (cell := 2 * j + r.by i) hw8
  have z1 := tile_lt (r := r) (k := k) (cell := 2 * j + r.by i + 1) hw8
  obtain ⟨i0, hi0, hz0, hz1, hz2⟩ := info_parts A_infoPl
  have hlt : k < 8 := by omega
  generalize hT0 : r.tile k (2 * j + r.by i) = T0 at *
  generalize hT1 : r.tile k (2 * j + r.by i + 1) = T1 at *
  have HT0 := Lib.hid hT0
  have HT1 := Lib.hid hT1
  clear hT0 hT1
  go_enter Try.func155, Try.ntmps155
  go_wp2_with fail
  refine (cells_any c r i j _ hR hi hj).mono ?_
  rintro e w1 ⟨rfl, b1⟩
  have q1 := brow b1 ((rowAt_alloc_past _ (.cells #[.int .i8 i, .int .i8 j] 58) _ (by simp)).trans (rowAt_alloc_at w c 31 _ rfl))
  have B1 : Below w.heap.size w w1 := (((Below.refl _ _).alloc (Nat.le_refl _) _).alloc (by simp) _).trans (b1.mono (by simp; omega))
  clear b1
  go_wp2_with fail
  refine wp_loop_rounds 3 ?_
  rw [rounds_succ]
  go_wp2_with fail
  refine (tileAt_any c r k _ _ hR (by omega) (by omega) (by omega)).mono ?_
  rintro e w2 ⟨rfl, b2⟩
  rw [HT0.out]
  have q2 := brow b2 q1
  have B2 := bnext B1 b2 B1.size
  clear b2 q1 B1
  go_wp2_with (at_builtin; refine wpList_append_own _ rfl _ _ 33 rfl w.heap.size 58 i0 (.agg #[.int .i8 0, .int .i8 0]) 2 2 Try.underlying33 hi0 hz0 hz1 hz2 rfl (by decide) _ _ _ rfl (World.ownsRow_nil _ _ _ _) ⟨w2.heap.size, 0, none⟩ 1 1 [.int .i8 k, .int .i8 T0] rfl rfl ?c1 ?c2 ?c3 ?c4 ?c5 ?_)
  case c1 => exact cell_two_new _ _ _ _
  case c2 => simp [Value.oneCell']
  case c3 => unfold maxLen; omega
  case c4 => omega
  case c5 => have := B2.size; simp; omega
  intro v3 w3 own3 grow3 _
  obtain ⟨g3, cap3, rfl⟩ := ownsRow_succ own3
  simp only [Nat.zero_add] at own3
  have B3 : Below w.heap.size w w3 := (B2.alloc B2.size _).grown grow3 (by have := B2.size; simp; omega) (by intro x hx; cases hx)
  have q3 := (World.grownBy_row grow3 (by have := rowAt_lt q2; simp; omega) (by intro x hx; cases hx)).trans ((rowAt_alloc_past _ _ _ (rowAt_lt q2)).trans q2)
  clear B2 q2 grow3
  go_wp2_with fail
  rw [rounds_succ]
  go_wp2_with fail
  refine (tileAt_any c r k _ _ hR (by omega) (by omega) (by omega)).mono ?_
  rintro e w4 ⟨rfl, b4⟩
  rw [HT1.out]
  have B4 := bnext B3 b4 B3.size
  have own4 := ownsRow_below own3 b4
  clear own3
  clear b4 q3 B3
  go_wp2_with fail
  rw [rounds_succ]
  go_wp2_with fail
  go_ret
  exact ⟨_, rfl, IsList.of_owns (k := k) (T := [T0]) own4 rfl, B4⟩

set_option maxRecDepth 100000 in
set_option maxHeartbeats 400000 in
theorem meeting_no (c : Array Value) (r : Rf) (i j : Nat) (d : Int) (w : World) (hR : IsRoof c r) (hd : -128 ≤ d ∧ d ≤ 127) (hk : ¬ (0 ≤ d ∧ d < r.h)) (f : Nat → Int) :
    Calls Try.prog 155 #[.agg c, .agg #[.int .i8 i, .int .i8 j], .int .i8 d] w (GivesPl w 0 f) := by
  obtain ⟨hc, k0, k1, k2, v0, v1, g0, g1, s0, s1⟩ := hR.view
  clear k0 k2
  by_cases x0 : d < 0
  · go_enter Try.func155, Try.ntmps155
    go_wp2_with fail
    go_ret
    exact ⟨_, rfl, .inl ⟨rfl, _, _, rfl⟩, ((Below.refl _ _).alloc (Nat.le_refl _) _).alloc (by simp) _⟩
  · have x1 : r.h ≤ d := by omega
    go_enter Try.func155, Try.ntmps155
    go_wp2_with fail
    go_ret
    exact ⟨_, rfl, .inl ⟨rfl, _, _, rfl⟩, ((Below.refl _ _).alloc (Nat.le_refl _) _).alloc (by simp) _⟩

theorem both_none {r : Rf} {i j k : Nat} (hw : 1 ≤ r.w) (hj : (j : Int) < r.w) (h0 : r.tile k (2 * j + r.by i) < 0) (h1 : r.tile k (2 * j + r.by i + 1) < 0) : False := by
  obtain ⟨a0, a1⟩ := r.by_bd i
  obtain ⟨b0, b1⟩ := r.by_bd k
  unfold Rf.tile at h0 h1
  split at h0 <;> split at h1 <;> omega

theorem meeting_any (c : Array Value) (r : Rf) (i j : Nat) (k : Int) (w : World) (hR : IsRoof c r) (ho : r.Ok) (hi : i < 8) (hj : j < 8) (hjw : (j : Int) < r.w) (hd : -128 ≤ k ∧ k ≤ 127) :
    Calls Try.prog 155 #[.agg c, .agg #[.int .i8 i, .int .i8 j], .int .i8 k] w (GivesPl w (r.laps i j k).length (plF k (r.laps i j k))) := by
  by_cases hk : 0 ≤ k ∧ k < r.h
  · obtain ⟨m, rfl⟩ := Int.eq_ofNat_of_zero_le hk.1
    by_cases h0 : 0 ≤ r.tile m (2 * j + r.by i)
    · by_cases h1 : 0 ≤ r.tile m (2 * j + r.by i + 1)
      · rw [show r.laps i j m = [r.tile m (2 * j + r.by i), r.tile m (2 * j + r.by i + 1)] from by simp [Rf.laps, hk.2, h0, h1]]
        exact meeting_tt c r i j m w hR ho hi hj hjw hk.2 h0 h1
      · rw [show r.laps i j m = [r.tile m (2 * j + r.by i)] from by simp [Rf.laps, hk.2, h0, h1]]
        exact meeting_tf c r i j m w hR ho hi hj hjw hk.2 h0 (by omega)
    · by_cases h1 : 0 ≤ r.tile m (2 * j + r.by i + 1)
      · rw [show r.laps i j m = [r.tile m (2 * j + r.by i + 1)] from by simp [Rf.laps, hk.2, h0, h1]]
        exact meeting_ft c r i j m w hR ho hi hj hjw hk.2 (by omega) h1
      · exact (both_none (i := i) (j := j) (k := m) ho.1 hjw (by omega) (by omega)).elim
  · rw [show r.laps i j k = [] from by simp only [Rf.laps, if_neg hk]]
    exact meeting_no c r i j k w hR hd hk _

theorem l01Laps_any (n : Nat) (c : Array Value) (r : Rf) (i j : Nat) (d : Int) (w : World) (hr : rowAt w n = some c) (hR : IsRoof c r) (ho : r.Ok) (hi : i < 8) (hj : j < 8) (hjw : (j : Int) < r.w) (hd : d = -1 ∨ d = 1) :
    Calls Try.prog 154 #[.pointer (some ⟨n, 0, none⟩), .agg #[.int .i8 i, .int .i8 j], .int .i8 d] w (GivesPl w (r.laps i j (i + d)).length (plF (i + d) (r.laps i j (i + d)))) := by
  by_cases hk : 0 ≤ (i : Int) + d ∧ (i : Int) + d < r.h
  · obtain ⟨m, hm⟩ := Int.eq_ofNat_of_zero_le hk.1
    rw [hm] at hk ⊢
    by_cases h0 : 0 ≤ r.tile m (2 * j + r.by i)
    · by_cases h1 : 0 ≤ r.tile m (2 * j + r.by i + 1)
      · rw [show r.laps i j m = [r.tile m (2 * j + r.by i), r.tile m (2 * j + r.by i + 1)] from by simp [Rf.laps, hk.2, h0, h1]]
        exact l01Laps_tt n c r i j m d w hr hR ho hi hj hd hm.symm hk.2 h0 h1
      · rw [show r.laps i j m = [r.tile m (2 * j + r.by i)] from by simp [Rf.laps, hk.2, h0, h1]]
        exact l01Laps_tf n c r i j m d w hr hR ho hi hj hd hm.symm hk.2 h0 (by omega)
    · by_cases h1 : 0 ≤ r.tile m (2 * j + r.by i + 1)
      · rw [show r.laps i j m = [r.tile m (2 * j + r.by i + 1)] from by simp [Rf.laps, hk.2, h0, h1]]
        exact l01Laps_ft n c r i j m d w hr hR ho hi hj hd hm.symm hk.2 (by omega) h1
      · exact (both_none (i := i) (j := j) (k := m) ho.1 hjw (by omega) (by omega)).elim
  · rw [show r.laps i j (i + d) = [] from by simp only [Rf.laps, if_neg hk]]
    exact l01Laps_no n c r i j d w hr hR hi hd hk _

set_option maxRecDepth 100000 in
set_option maxHeartbeats 400000 in
theorem above_any (c : Array Value) (r : Rf) (i j : Nat) (w : World) (hR : IsRoof c r) (ho : r.Ok) (hi : i < 8) (hj : j < 8) (hjw : (j : Int) < r.w) :
    Calls Try.prog 121 #[.agg c, .agg #[.int .i8 i, .int .i8 j]] w (GivesPl w (r.laps i j (i - 1)).length (plF (i - 1) (r.laps i j (i - 1)))) := by
  have hc := hR.size
  have i0 : 0 ≤ (i : Int) := by omega
  have i1 : (i : Int) < 8 := by omega
  go_enter Try.func121, Try.ntmps121
  go_wp2_with fail
  refine (meeting_any c r i j _ _ hR ho hi hj hjw (by omega)).mono ?_
  rintro e w1 ⟨v, rfl, l1, b1⟩
  have B1 : Below w.heap.size w w1 := (((Below.refl _ _).alloc (Nat.le_refl _) _).alloc (by simp) _).trans (b1.mono (by simp; omega))
  replace l1 := l1.mono (show w.heap.size ≤ _ by simp; omega)
  clear b1
  go_wp2_with fail
  go_ret
  exact ⟨_, rfl, l1, B1⟩

set_option maxRecDepth 100000 in
set_option maxHeartbeats 400000 in
theorem below_any (c : Array Value) (r : Rf) (i j : Nat) (w : World) (hR : IsRoof c r) (ho : r.Ok) (hi : i < 8) (hj : j < 8) (hjw : (j : Int) < r.w) :
    Calls Try.prog 149 #[.agg c, .agg #[.int .i8 i, .int .i8 j]] w (GivesPl w (r.laps i j (i + 1)).length (plF (i + 1) (r.laps i j (i + 1)))) := by
  have hc := hR.size
  have i0 : 0 ≤ (i : Int) := by omega
  have i1 : (i : Int) < 8 := by omega
  go_enter Try.func149, Try.ntmps149
  go_wp2_with fail
  refine (meeting_any c r i j _ _ hR ho hi hj hjw (by omega)).mono ?_
  rintro e w1 ⟨v, rfl, l1, b1⟩
  have B1 : Below w.heap.size w w1 := (((Below.refl _ _).alloc (Nat.le_refl _) _).alloc (by simp) _).trans (b1.mono (by simp; omega))
  replace l1 := l1.mono (show w.heap.size ≤ _ by simp; omega)
  clear b1
  go_wp2_with fail
  go_ret
  exact ⟨_, rfl, l1, B1⟩
end Go.Proofs.Ytkbacpkpgfppiaa
