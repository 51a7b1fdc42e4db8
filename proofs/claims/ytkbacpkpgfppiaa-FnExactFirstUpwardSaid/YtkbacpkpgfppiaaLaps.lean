/- Contracts on the tiles of another course that have a cell in common with a tile. -/
import Derived.Test.YtkbacpkpgfppiaaCells
import Derived.Test.YtkbacpkpgfppiaaTile
import Derived.RangeFuncBox
namespace Go.Proofs.Ytkbacpkpgfppiaa
open Go.RowKit

def Rf.laps (r : Rf) (a b k : Int) : List Int := if 0 ≤ k ∧ k < r.h then [r.tile k (2 * b + r.by a), r.tile k (2 * b + r.by a + 1)].filter (fun t => decide (0 ≤ t)) else []
def plF (k : Int) (T : List Int) (x : Nat) : Int := if x % 2 = 0 then k else T.getD (x / 2) 0
def GivesPl (w : World) (n : Nat) (f : Nat → Int) (e : Ending) (w' : World) : Prop :=
  ∃ v, e = .returned v ∧ IsList w' w.heap.size v 2 n (fun i => .int .i8 (f i)) ∧ Below w.heap.size w w'

theorem heap_alloc_last (w : World) (o : Obj) (n : Nat) (h : n = w.heap.size) : (w.alloc o).heap[n]? = some o := by
  subst h; exact heap_alloc_new w o
theorem flat_get (k : Int) : ∀ (T : List Int) (i : Nat), i < T.length * 2 → (T.flatMap fun t => [Value.int .i8 k, Value.int .i8 t])[i]? = some (.int .i8 (plF k T i))
  | [], i, h => by simp at h
  | t :: T, i, h => by
    simp only [List.flatMap_cons, List.cons_append, List.nil_append]
    match i, h with
    | 0, _ => simp [plF]
    | 1, _ => simp [plF]
    | i + 2, h =>
      have := flat_get k T i (by simp at h; omega)
      simp only [List.getElem?_cons_succ]
      rw [this]
      congr 2
      unfold plF
      rw [show (i + 2) % 2 = i % 2 from by omega, show (i + 2) / 2 = i / 2 + 1 from by omega]
      simp
theorem IsList.of_owns {w : World} {base n : Nat} {e : TypeId} {v : Value} {k : Int} {T : List Int} (h : w.ownsRow base e 2 v n (T.flatMap fun t => [.int .i8 k, .int .i8 t])) (hT : T.length = n) : IsList w base v 2 n fun i => .int .i8 (plF k T i) := by
  obtain ⟨hl, h | ⟨g, cap, cur, rfl, hg, hh, hn, hm, hs, ht⟩⟩ := h
  · exact .inl ⟨h.2, none, 0, by rw [h.1]⟩
  · refine .inr ⟨g, cap, cur, rfl, hg, rowAt_of_heap hh, ?_, fun i hi => ?_⟩
    · rw [hs]; exact Nat.mul_le_mul_right 2 hn
    · have h1 : cur[i]? = (cur.toList.take (n * 2))[i]? := by rw [List.getElem?_take, if_pos hi, Array.getElem?_toList]
      rw [h1, ht]
      exact flat_get k T i (by omega)

theorem A_infoPl : (Try.prog.info? 58).map (fun i => (i.zero, i.size, i.bytes)) = some (some (.agg #[.int .i8 0, .int .i8 0]), 2, 2) := by kernel_rfl

theorem tile_lt {r : Rf} {k cell : Int} (hw : r.w ≤ 8) : -1 ≤ r.tile k cell ∧ r.tile k cell < 8 := by
  unfold Rf.tile; split <;> omega
theorem tile_ne {r : Rf} {a b k : Int} (hk : k = a - 1 ∨ k = a + 1) (h0 : 0 ≤ r.tile k (2 * b + r.by a)) : r.tile k (2 * b + r.by a) ≠ r.tile k (2 * b + r.by a + 1) := by
  unfold Rf.tile at h0 ⊢
  unfold Rf.by at h0 ⊢
  split <;> split <;> omega

set_option maxRecDepth 100000 in
set_option maxHeartbeats 1000000 in
theorem l01Laps_tt (n : Nat) (c : Array Value) (r : Rf) (i j k : Nat) (d : Int) (w : World) (hr : rowAt w n = some c) (hR : IsRoof c r) (ho : r.Ok) (hi : i < 8) (hj : j < 8) (hd : d = -1 ∨ d = 1) (hk : (k : Int) = i + d) (hkh : (k : Int) < r.h)
    (h0 : 0 ≤ r.tile k (2 * j + r.by i)) (h1 : 0 ≤ r.tile k (2 * j + r.by i + 1)) :
    Calls Try.prog 154 #[.pointer (some ⟨n, 0, none⟩), .agg #[.int .i8 i, .int .i8 j], .int .i8 d] w (GivesPl w 2 (plF k [r.tile k (2 * j + r.by i), r.tile k (2 * j + r.by i + 1)])) := by
  have hn := rowAt_lt hr
  have hcell := cell_of_rowAt hr
  have hw1 := ho.1
  have hw8 := ho.2.1
  have hh8 := ho.2.2.2.1
  obtain ⟨y0, y1⟩ := r.by_bd i
  have z0 := tile_lt (r := r) (k := k) (cell := 2 * j + r.by i) hw8
  have z1 := tile_lt (r := r) (k := k) (cell := 2 * j + r.by i + 1) hw8
  have zz := tile_ne (r := r) (a := i) (b := j) (k := k) (by omega) h0
  have hne : (r.tile k (2 * j + r.by i) != r.tile k (2 * j + r.by i + 1)) = true := by simpa using zz
  have hkd : (i : Int) + d = k := hk.symm
  obtain ⟨i0, hi0, hz0, hz1, hz2⟩ := info_parts A_infoPl
  clear zz hk
  have d0 : -1 ≤ d := by omega
  have d1 : d ≤ 1 := by omega
  have hlt : k < 8 := by omega
  clear hd
  go_enter Try.func154, Try.ntmps154
  go_wp2_with fail
  refine (l01Course_any n c r k _ ((rowAt_alloc_past _ _ _ (by simp; omega)).trans ((rowAt_alloc_past _ _ _ hn).trans hr)) hR).mono ?_
  rintro e w0 ⟨rfl, rfl⟩
  rw [inB_true (show 0 ≤ (k : Int) ∧ (k : Int) ≤ r.h - 1 by omega)]
  go_wp2_with fail
  refine (l01First_any n c r i j _ ((rowAt_alloc_past _ _ _ (by simp; omega)).trans ((rowAt_alloc_past _ _ _ hn).trans hr)) hR hi hj).mono ?_
  rintro e w1 ⟨rfl, b1⟩
  have q1 := brow b1 ((rowAt_alloc_past _ (.cells #[] 58) _ (by simp; omega)).trans ((rowAt_alloc_past _ (.cells #[.int .i8 i, .int .i8 j] 58) _ hn).trans hr))
  have own : w1.ownsRow w.heap.size 58 2 (.slice (some ⟨w.heap.size + 1, 0, none⟩) 0 0) 0 [] :=
    ⟨rfl, .inr ⟨_, 0, #[], rfl, by omega, (b1.block _ (by simp)).trans (heap_alloc_last _ _ _ (by simp)), Nat.le_refl _, Nat.zero_le _, rfl, rfl⟩⟩
  have B1 : Below w.heap.size w w1 := (((Below.refl _ _).alloc (Nat.le_refl _) _).alloc (by simp) _).trans (b1.mono (by simp; omega))
  have S1 := b1.size
  clear b1 hcell
  simp at S1
  generalize hT0 : r.tile k (2 * j + r.by i) = T0 at *
  generalize hT1 : r.tile k (2 * j + r.by i + 1) = T1 at *
  have HT0 := Lib.hid hT0
  have HT1 := Lib.hid hT1
  clear hT0 hT1
  go_wp2_with fail
  refine wp_loop_rounds 3 ?_
  rw [rounds_succ]
  go_wp2_with fail
  refine (l01Tile_any n c r k _ _ q1 hR (by omega) (by omega) (by omega)).mono ?_
  rintro e w2 ⟨rfl, rfl⟩
  rw [HT0.out]
  go_wp2_with (at_builtin; refine wpList_append_own _ rfl _ _ 33 rfl w.heap.size 58 i0 (.agg #[.int .i8 0, .int .i8 0]) 2 2 Try.underlying33 hi0 hz0 hz1 hz2 rfl (by decide) _ _ _ rfl (own.alloc _) ⟨w1.heap.size, 0, none⟩ 1 1 [.int .i8 k, .int .i8 T0] rfl rfl ?c1 ?c2 ?c3 ?c4 ?c5 ?_)
  case c1 => exact cell_two_new _ _ _ _
  case c2 => simp [Value.oneCell']
  case c3 => unfold maxLen; omega
  case c4 => omega
  case c5 => simp; omega
  intro v3 w3 own3 grow3 _
  obtain ⟨g3, cap3, rfl⟩ := ownsRow_succ own3
  simp only [Nat.zero_add] at own3
  have B3 : Below w.heap.size w w3 := (B1.alloc B1.size _).grown grow3 (by simp; omega) (by intro x hx; cases hx; exact (own.lt _ rfl).1)
  have q3 := brow' B3 hn hr
  have t3 : w3.cell? ⟨g3, 1, none⟩ = some (.int .i8 T0) := own3.cellAt 1 (by omega)
  have S3 := B3.size
  clear own B1 q1 grow3
  go_wp2_with fail
  rw [rounds_succ]
  go_wp2_with fail
  refine (l01Tile_any n c r k _ _ q3 hR (by omega) (by omega) (by omega)).mono ?_
  rintro e w4 ⟨rfl, rfl⟩
  rw [HT1.out]
  go_wp2_with (at_builtin; refine wpList_append_own _ rfl _ _ 33 rfl w.heap.size 58 i0 (.agg #[.int .i8 0, .int .i8 0]) 2 2 Try.underlying33 hi0 hz0 hz1 hz2 rfl (by decide) _ _ _ rfl (own3.alloc _) ⟨w3.heap.size, 0, none⟩ 1 1 [.int .i8 k, .int .i8 T1] rfl rfl ?c1 ?c2 ?c3 ?c4 ?c5 ?_)
  case c1 => exact cell_two_new _ _ _ _
  case c2 => simp [Value.oneCell']
  case c3 => unfold maxLen; omega
  case c4 => omega
  case c5 => simp; omega
  intro v5 w5 own5 grow5 _
  obtain ⟨g5, cap5, rfl⟩ := ownsRow_succ own5
  simp only [Nat.reduceAdd] at own5
  have B5 : Below w.heap.size w w5 := (B3.alloc B3.size _).grown grow5 (by simp; omega) (by intro x hx; cases hx; exact (own3.lt g3 rfl).1)
  clear own3 B3 q3 grow5 t3
  go_wp2_with fail
  rw [rounds_succ]
  go_wp2_with fail
  go_ret
  exact ⟨_, rfl, IsList.of_owns (k := k) (T := [T0, T1]) own5 rfl, B5⟩

set_option maxRecDepth 100000 in
set_option maxHeartbeats 1000000 in
theorem l01Laps_ft (n : Nat) (c : Array Value) (r : Rf) (i j k : Nat) (d : Int) (w : World) (hr : rowAt w n = some c) (hR : IsRoof c r) (ho : r.Ok) (hi : i < 8) (hj : j < 8) (hd : d = -1 ∨ d = 1) (hk : (k : Int) = i + d) (hkh : (k : Int) < r.h)
    (h0 : r.tile k (2 * j + r.by i) < 0) (h1 : 0 ≤ r.tile k (2 * j + r.by i + 1)) :
    Calls Try.prog 154 #[.pointer (some ⟨n, 0, none⟩), .agg #[.int .i8 i, .int .i8 j], .int .i8 d] w (GivesPl w 1 (plF k [r.tile k (2 * j + r.by i + 1)])) := by
  have hn := rowAt_lt hr
  have hcell := cell_of_rowAt hr
  have hw1 := ho.1
  have hw8 := ho.2.1
  have hh8 := ho.2.2.2.1
  obtain ⟨y0, y1⟩ := r.by_bd i
  have z0 := tile_lt (r := r) (k := k) (cell := 2 * j + r.by i) hw8
  have z1 := tile_lt (r := r) (k := k) (cell := 2 * j + r.by i + 1) hw8
  have hkd : (i : Int) + d = k := hk.symm
  obtain ⟨i0, hi0, hz0, hz1, hz2⟩ := info_parts A_infoPl
  clear hk
  have d0 : -1 ≤ d := by omega
  have d1 : d ≤ 1 := by omega
  have hlt : k < 8 := by omega
  clear hd
  go_enter Try.func154, Try.ntmps154
  go_wp2_with fail
  refine (l01Course_any n c r k _ ((rowAt_alloc_past _ _ _ (by simp; omega)).trans ((rowAt_alloc_past _ _ _ hn).trans hr)) hR).mono ?_
  rintro e w0 ⟨rfl, rfl⟩
  rw [inB_true (show 0 ≤ (k : Int) ∧ (k : Int) ≤ r.h - 1 by omega)]
  go_wp2_with fail
  refine (l01First_any n c r i j _ ((rowAt_alloc_past _ _ _ (by simp; omega)).trans ((rowAt_alloc_past _ _ _ hn).trans hr)) hR hi hj).mono ?_
  rintro e w1 ⟨rfl, b1⟩
  have q1 := brow b1 ((rowAt_alloc_past _ (.cells #[] 58) _ (by simp; omega)).trans ((rowAt_alloc_past _ (.cells #[.int .i8 i, .int .i8 j] 58) _ hn).trans hr))
  have own : w1.ownsRow w.heap.size 58 2 (.slice (some ⟨w.heap.size + 1, 0, none⟩) 0 0) 0 [] :=
    ⟨rfl, .inr ⟨_, 0, #[], rfl, by omega, (b1.block _ (by simp)).trans (heap_alloc_last _ _ _ (by simp)), Nat.le_refl _, Nat.zero_le _, rfl, rfl⟩⟩
  have B1 : Below w.heap.size w w1 := (((Below.refl _ _).alloc (Nat.le_refl _) _).alloc (by simp) _).trans (b1.mono (by simp; omega))
  have S1 := b1.size
  clear b1 hcell
  simp at S1
  generalize hT0 : r.tile k (2 * j + r.by i) = T0 at *
  generalize hT1 : r.tile k (2 * j + r.by i + 1) = T1 at *
  have HT0 := Lib.hid hT0
  have HT1 := Lib.hid hT1
  clear hT0 hT1
  go_wp2_with fail
  refine wp_loop_rounds 3 ?_
  rw [rounds_succ]
  go_wp2_with fail
  refine (l01Tile_any n c r k _ _ q1 hR (by omega) (by omega) (by omega)).mono ?_
  rintro e w2 ⟨rfl, rfl⟩
  rw [HT0.out]
  go_wp2_with fail
  rw [rounds_succ]
  go_wp2_with fail
  refine (l01Tile_any n c r k _ _ q1 hR (by omega) (by omega) (by omega)).mono ?_
  rintro e w4 ⟨rfl, rfl⟩
  rw [HT1.out]
  go_wp2_with (at_builtin; refine wpList_append_own _ rfl _ _ 33 rfl w.heap.size 58 i0 (.agg #[.int .i8 0, .int .i8 0]) 2 2 Try.underlying33 hi0 hz0 hz1 hz2 rfl (by decide) _ _ _ rfl (own.alloc _) ⟨w1.heap.size, 0, none⟩ 1 1 [.int .i8 k, .int .i8 T1] rfl rfl ?c1 ?c2 ?c3 ?c4 ?c5 ?_)
  case c1 => exact cell_two_new _ _ _ _
  case c2 => simp [Value.oneCell']
  case c3 => unfold maxLen; omega
  case c4 => omega
  case c5 => simp; omega
  intro v5 w5 own5 grow5 _
  obtain ⟨g5, cap5, rfl⟩ := ownsRow_succ own5
  simp only [Nat.zero_add] at own5
  have B5 : Below w.heap.size w w5 := (B1.alloc B1.size _).grown grow5 (by simp; omega) (by intro x hx; cases hx; exact (own.lt _ rfl).1)
  clear own B1 q1 grow5
  go_wp2_with fail
  rw [rounds_succ]
  go_wp2_with fail
  go_ret
  exact ⟨_, rfl, IsList.of_owns (k := k) (T := [T1]) own5 rfl, B5⟩

set_option maxRecDepth 100000 in
set_option maxHeartbeats 1000000 in
theorem l01Laps_tf (n : Nat) (c : Array Value) (r : Rf) (i j k : Nat) (d : Int) (w : World) (hr : rowAt w n = some c) (hR : IsRoof c r) (ho : r.Ok) (hi : i < 8) (hj : j < 8) (hd : d = -1 ∨ d = 1) (hk : (k : Int) = i + d) (hkh : (k : Int) < r.h)
    (h0 : 0 ≤ r.tile k (2 * j + r.by i)) (h1 : r.tile k (2 * j + r.by i + 1) < 0) :
    Calls Try.prog 154 #[.pointer (some ⟨n, 0, none⟩), .agg #[.int .i8 i, .int .i8 j], .int .i8 d] w (GivesPl w 1 (plF k [r.tile k (2 * j + r.by i)])) := by
  have hn := rowAt_lt hr
  have hcell := cell_of_rowAt hr
  have hw1 := ho.1
  have hw8 := ho.2.1
  have hh8 := ho.2.2.2.1
  obtain ⟨y0, y1⟩ := r.by_bd i
  have z0 := tile_lt (r := r) (k := k) (cell := 2 * j + r.by i) hw8
  have z1 := tile_lt (r := r) (k := k) (cell := 2 * j + r.by i + 1) hw8
  have hkd : (i : Int) + d = k := hk.symm
  obtain ⟨i0, hi0, hz0, hz1, hz2⟩ := info_parts A_infoPl
  clear hk
  have d0 : -1 ≤ d := by omega
  have d1 : d ≤ 1 := by omega
  have hlt : k < 8 := by omega
  clear hd
  go_enter Try.func154, Try.ntmps154
  go_wp2_with fail
  refine (l01Course_any n c r k _ ((rowAt_alloc_past _ _ _ (by simp; omega)).trans ((rowAt_alloc_past _ _ _ hn).trans hr)) hR).mono ?_
  rintro e w0 ⟨rfl, rfl⟩
  rw [inB_true (show 0 ≤ (k : Int) ∧ (k : Int) ≤ r.h - 1 by omega)]
  go_wp2_with fail
  refine (l01First_any n c r i j _ ((rowAt_alloc_past _ _ _ (by simp; omega)).trans ((rowAt_alloc_past _ _ _ hn).trans hr)) hR hi hj).mono ?_
  rintro e w1 ⟨rfl, b1⟩
  have q1 := brow b1 ((rowAt_alloc_past _ (.cells #[] 58) _ (by simp; omega)).trans ((rowAt_alloc_past _ (.cells #[.int .i8 i, .int .i8 j] 58) _ hn).trans hr))
  have own : w1.ownsRow w.heap.size 58 2 (.slice (some ⟨w.heap.size + 1, 0, none⟩) 0 0) 0 [] :=
    ⟨rfl, .inr ⟨_, 0, #[], rfl, by omega, (b1.block _ (by simp)).trans (heap_alloc_last _ _ _ (by simp)), Nat.le_refl _, Nat.zero_le _, rfl, rfl⟩⟩
  have B1 : Below w.heap.size w w1 := (((Below.refl _ _).alloc (Nat.le_refl _) _).alloc (by simp) _).trans (b1.mono (by simp; omega))
  have S1 := b1.size
  clear b1 hcell
  simp at S1
  generalize hT0 : r.tile k (2 * j + r.by i) = T0 at *
  generalize hT1 : r.tile k (2 * j + r.by i + 1) = T1 at *
  have HT0 := Lib.hid hT0
  have HT1 := Lib.hid hT1
  clear hT0 hT1
  go_wp2_with fail
  refine wp_loop_rounds 3 ?_
  rw [rounds_succ]
  go_wp2_with fail
  refine (l01Tile_any n c r k _ _ q1 hR (by omega) (by omega) (by omega)).mono ?_
  rintro e w2 ⟨rfl, rfl⟩
  rw [HT0.out]
  go_wp2_with (at_builtin; refine wpList_append_own _ rfl _ _ 33 rfl w.heap.size 58 i0 (.agg #[.int .i8 0, .int .i8 0]) 2 2 Try.underlying33 hi0 hz0 hz1 hz2 rfl (by decide) _ _ _ rfl (own.alloc _) ⟨w1.heap.size, 0, none⟩ 1 1 [.int .i8 k, .int .i8 T0] rfl rfl ?c1 ?c2 ?c3 ?c4 ?c5 ?_)
  case c1 => exact cell_two_new _ _ _ _
  case c2 => simp [Value.oneCell']
  case c3 => unfold maxLen; omega
  case c4 => omega
  case c5 => simp; omega
  intro v3 w3 own3 grow3 _
  obtain ⟨g3, cap3, rfl⟩ := ownsRow_succ own3
  simp only [Nat.zero_add] at own3
  have B3 : Below w.heap.size w w3 := (B1.alloc B1.size _).grown grow3 (by simp; omega) (by intro x hx; cases hx; exact (own.lt _ rfl).1)
  have q3 := brow' B3 hn hr
  have t3 : w3.cell? ⟨g3, 1, none⟩ = some (.int .i8 T0) := own3.cellAt 1 (by omega)
  have S3 := B3.size
  clear own B1 q1 grow3
  go_wp2_with fail
  rw [rounds_succ]
  go_wp2_with fail
  refine (l01Tile_any n c r k _ _ q3 hR (by omega) (by omega) (by omega)).mono ?_
  rintro e w4 ⟨rfl, rfl⟩
  rw [HT1.out]
  go_wp2_with fail
  rw [rounds_succ]
  go_wp2_with fail
  go_ret
  exact ⟨_, rfl, IsList.of_owns (k := k) (T := [T0]) own3 rfl, B3⟩

set_option maxRecDepth 100000 in
set_option maxHeartbeats 400000 in
theorem l01Laps_no (n : Nat) (c : Array Value) (r : Rf) (i j : Nat) (d : Int) (w : World) (hr : rowAt w n = some c) (hR : IsRoof c r) (hi : i < 8) (hd : d = -1 ∨ d = 1) (hk : ¬ (0 ≤ (i : Int) + d ∧ (i : Int) + d < r.h)) (f : Nat → Int) :
    Calls Try.prog 154 #[.pointer (some ⟨n, 0, none⟩), .agg #[.int .i8 i, .int .i8 j], .int .i8 d] w (GivesPl w 0 f) := by
  have hn := rowAt_lt hr
  have hin := inB_false (show ¬ (0 ≤ (i : Int) + d ∧ (i : Int) + d ≤ r.h - 1) by omega)
  have d0 : -1 ≤ d := by omega
  have d1 : d ≤ 1 := by omega
  clear hd
  go_enter Try.func154, Try.ntmps154
  go_wp2_with fail
  refine (l01Course_any n c r _ _ ((rowAt_alloc_past _ _ _ (by simp; omega)).trans ((rowAt_alloc_past _ _ _ hn).trans hr)) hR).mono ?_
  rintro e w0 ⟨rfl, rfl⟩
  rw [hin]
  go_wp2_with fail
  go_ret
  exact ⟨_, rfl, .inl ⟨rfl, _, _, rfl⟩, ((Below.refl _ _).alloc (Nat.le_refl _) _).alloc (by simp) _⟩
end Go.Proofs.Ytkbacpkpgfppiaa
