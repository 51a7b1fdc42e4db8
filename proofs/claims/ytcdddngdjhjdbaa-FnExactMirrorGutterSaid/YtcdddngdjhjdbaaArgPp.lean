/- Lists of pipes: opened, counted, copied, compared. -/
import Derived.Test.YtcdddngdjhjdbaaList
import Derived.Test.YtcdddngdjhjdbaaOpen
import Derived.Test.YtcdddngdjhjdbaaLs
import Derived.Test.YtcdddngdjhjdbaaSame
import Derived.Deep.SlicePairs
import Derived.OwnWalk
import Derived.Laws.MakeOwn
namespace Go.Proofs.Ytcdddngdjhjdbaa
open Go.RowKit Go.ChangeShapes Go.WideShapes

set_option maxHeartbeats 400000 in
theorem toPipe_any (a b : Int) (w : World) :
    Calls Try.prog 92 #[.agg #[.int .i8 a, .int .i16 b]] w fun e w' => e = .returned (.agg #[.int .i8 a, .int .i16 b]) ∧ Below w.heap.size w w' := by
  go_enter Try.func92, Try.ntmps92
  go_wp2
  refine bodyPost_ret (v := .agg #[.int .i8 a, .int .i16 b]) (by simp [results, Try.results92, go_sem]) rfl ⟨rfl, ?_⟩
  exact (((Below.refl _ _).alloc (Nat.le_refl _) _).alloc (by simp) _).alloc (by simp; omega) _
set_option maxRecDepth 100000 in
set_option maxHeartbeats 400000 in
theorem eqPipe_same (a b : Int) (w : World) :
    Calls Try.prog 97 #[.agg #[.int .i8 a, .int .i16 b], .agg #[.int .i8 a, .int .i16 b]] w fun e w' => e = .returned (.bool true) ∧ Below w.heap.size w w' := by
  have e0 : (a != a) = false := by simp
  have e1 : (b != b) = false := by simp
  go_enter Try.func97, Try.ntmps97
  go_wp2_with fail
  go_ret
  exact ⟨rfl, (((Below.refl _ _).alloc (Nat.le_refl _) _).alloc (by simp) _)⟩
section
variable {H : Type} {enc : TypeId × Value → H} {w : World} {base b0 : Nat} {spare : Nat → Bool} {held : Bool} {r : Reach}
set_option maxRecDepth 100000 in
/-- A place that came in. -/
theorem open_pp {v : Value} {d : DataW H} {p : List MemPlace} (hv : Value.okWide Try.prog w r b0 144 v) (h : DataW.Trod enc Try.prog w base spare held 144 v d p) :
    ∃ (a b : Int), v = .agg #[.int .i8 a, .int .i16 b] ∧ (-128 ≤ a ∧ a ≤ 127) ∧ (-32768 ≤ b ∧ b ≤ 32767) := by
  obtain ⟨c0, c1, y0, y1, m, rfl, rfl, rfl, hy0, hy1⟩ := Go.Joins.open_agg2 Try.underlying144 (by kernel_rfl) (by kernel_rfl) hv h
  obtain ⟨a, e0, _, wa⟩ := DataW.trod_int Try.underlying29 hy0
  obtain ⟨b, e1, _, wb⟩ := DataW.trod_int Try.underlying45 hy1
  simp at e0 e1
  subst e0 e1
  exact ⟨a, b, rfl, bounds_i8 wa, bounds_i16 wb⟩
end
/-- The cells of pipes: a cell and how much. -/
def pipeV (f : Nat → Int) (i : Nat) : Value := if i % 2 = 0 then .int .i8 (f i) else .int .i16 (f i)
theorem pipeV_0 (f : Nat → Int) (k : Nat) : pipeV f (k * 2) = .int .i8 (f (k * 2)) := by unfold pipeV; rw [if_pos (by omega)]
theorem pipeV_1 (f : Nat → Int) (k : Nat) : pipeV f (k * 2 + 1) = .int .i16 (f (k * 2 + 1)) := by unfold pipeV; rw [if_neg (by omega)]
/-- What fits into pipes' cells. -/
def pipeB (f : Nat → Int) (n : Nat) : Prop := ∀ i, i < n → (-128 ≤ f (i * 2) ∧ f (i * 2) ≤ 127) ∧ (-32768 ≤ f (i * 2 + 1) ∧ f (i * 2 + 1) ≤ 32767)
/-- v is a list of n places that came in; f tells their cells. -/
def ArgPp (w : World) (v : Value) (n : Nat) (f : Nat → Int) : Prop :=
  ∃ a cap, v = .slice a n cap ∧ (n = 0 ∨ ∃ g o, a = some ⟨g, o, none⟩ ∧ ∀ i, i < n * 2 → w.cell? ⟨g, o + i, none⟩ = some (pipeV f i))

theorem lt_of_cellPp {w : World} {p : Addr} {v : Value} (h : w.cell? p = some v) : p.block < w.heap.size := by
  rcases Nat.lt_or_ge p.block w.heap.size with h' | h'
  · exact h'
  · simp [World.cell?, Array.getElem?_eq_none h'] at h
theorem ArgPp.below {w w' : World} {v : Value} {n : Nat} {f : Nat → Int} {B : Nat} (h : ArgPp w v n f) (b : Below B w w') (hB : w.heap.size ≤ B) : ArgPp w' v n f := by
  obtain ⟨a, cap, rfl, h⟩ := h
  refine ⟨a, cap, rfl, ?_⟩
  rcases h with h | ⟨g, o, rfl, h⟩
  · exact .inl h
  · exact .inr ⟨g, o, rfl, fun i hi => (b.cell (p := ⟨g, o + i, none⟩) (Nat.lt_of_lt_of_le (lt_of_cellPp (h i hi)) hB)).trans (h i hi)⟩
theorem ArgPp.shape {w : World} {v : Value} {n : Nat} {f : Nat → Int} (h : ArgPp w v n f) : ∃ a cap, v = .slice a n cap := by
  obtain ⟨a, cap, rfl, _⟩ := h
  exact ⟨a, cap, rfl⟩
/-- The cells of place k. -/
theorem ArgPp.at {w : World} {a : Option Addr} {cap n : Nat} {f : Nat → Int} (h : ArgPp w (.slice a n cap) n f) {k : Nat} (hk : k < n) :
    ∃ g o, a = some ⟨g, o, none⟩ ∧ w.cell? ⟨g, o + k * 2, none⟩ = some (.int .i8 (f (k * 2))) ∧ w.cell? ⟨g, o + k * 2 + 1, none⟩ = some (.int .i16 (f (k * 2 + 1))) := by
  obtain ⟨a', cap', e, h⟩ := h
  cases e
  rcases h with h | ⟨g, o, rfl, h⟩
  · omega
  · exact ⟨g, o, rfl, (h _ (by omega)).trans (congrArg some (pipeV_0 f k)), by rw [Nat.add_assoc]; exact (h _ (by omega)).trans (congrArg some (pipeV_1 f k))⟩

section
variable {H : Type} {enc : TypeId × Value → H} {w : World} {base b0 : Nat} {spare : Nat → Bool} {held : Bool} {r : Reach}
set_option maxRecDepth 100000 in
theorem open_pps_of {a : Option Addr} {len cap fuel : Nat} {x : DataW H × List MemPlace} (hf : DataW.trod enc Try.prog w base spare held fuel 48 [.slice a len cap] = some x) :
    ∃ (n : Nat) (f : Nat → Int), ArgPp w (.slice a len cap) n f ∧ n ≤ maxLen ∧ pipeB f n := by
  rcases Go.Deep.open_slice_pairs Try.underlying48 Try.underlying144 (by kernel_rfl) rfl rfl (by kernel_rfl) (by kernel_rfl) hf with ⟨hc, _⟩ | ⟨a', len', cap', m, k, V0, V1, D0, D1, P0, P1, hc, _, hl, hm, hmm, _, hall⟩
  · simp at hc
    obtain ⟨rfl, rfl, rfl⟩ := hc
    exact ⟨0, fun _ => 0, ⟨none, 0, rfl, .inl rfl⟩, by omega, fun _ h => absurd h (by omega)⟩
  · simp at hc
    obtain ⟨rfl, rfl, rfl⟩ := hc
    have hlm : len ≤ m := by rw [hmm]; split <;> omega
    have key : ∀ i, i < len → ∃ x y : Int, V0 i = .int .i8 x ∧ V1 i = .int .i16 y ∧ (-128 ≤ x ∧ x ≤ 127) ∧ (-32768 ≤ y ∧ y ≤ 32767) := fun i hi => by
      obtain ⟨_, _, t0, t1⟩ := hall i (by omega)
      obtain ⟨x, e0, _, wx⟩ := DataW.trod_int Try.underlying29 t0
      obtain ⟨y, e1, _, wy⟩ := DataW.trod_int Try.underlying45 t1
      simp at e0 e1
      exact ⟨x, y, e0, e1, bounds_i8 wx, bounds_i16 wy⟩
    refine ⟨len, fun j => match (if j % 2 = 0 then V0 (j / 2) else V1 (j / 2)) with | .int _ z => z | _ => 0, ⟨some a', cap, rfl, ?_⟩, by omega, ?_⟩
    · by_cases h0 : len = 0
      · exact .inl h0
      right
      obtain ⟨g, o, spot⟩ := a'
      have hsp : spot = none := by simpa [Addr.add] using World.cell?_spot (hall 0 (by omega)).1
      subst hsp
      refine ⟨g, o, rfl, fun j hj => ?_⟩
      have hadd : ∀ x, (⟨g, o, none⟩ : Addr).add x = ⟨g, o + x, none⟩ := fun x => by unfold Addr.add; split <;> simp_all
      obtain ⟨x, y, e0, e1, _, _⟩ := key (j / 2) (by omega)
      obtain ⟨c0, c1, _, _⟩ := hall (j / 2) (by omega)
      rw [hadd] at c0 c1
      unfold pipeV
      dsimp only
      by_cases hj2 : j % 2 = 0
      · rw [if_pos hj2, if_pos hj2, e0]
        rw [e0, show j / 2 * 2 = j by omega] at c0
        exact c0
      · rw [if_neg hj2, if_neg hj2, e1]
        rw [e1, show j / 2 * 2 + 1 = j by omega] at c1
        exact c1
    · intro j hj
      obtain ⟨x, y, e0, e1, hx, hy⟩ := key j hj
      dsimp only
      rw [if_pos (show j * 2 % 2 = 0 by omega), if_neg (show ¬ (j * 2 + 1) % 2 = 0 by omega), show j * 2 / 2 = j by omega, show (j * 2 + 1) / 2 = j by omega, e0, e1]
      exact ⟨hx, hy⟩
set_option maxRecDepth 100000 in
/-- A list of places that came in. -/
theorem open_pps {v : Value} {d : DataW H} {p : List MemPlace} (hv : Value.okWide Try.prog w r b0 48 v) (h : DataW.Trod enc Try.prog w base spare held 48 v d p) :
    ∃ (n : Nat) (f : Nat → Int), ArgPp w v n f ∧ n ≤ maxLen ∧ pipeB f n := by
  obtain ⟨a, len, cap, rfl⟩ := okWide_slice Try.underlying48 hv
  obtain ⟨fuel, hf⟩ := h
  exact open_pps_of (by simpa [Value.cells] using hf)
end

theorem szPipeS_any (L : Int) (v : Value) (n : Nat) (f : Nat → Int) (w : World) (hv : ArgPp w v n f) (hL : 0 ≤ L ∧ L ≤ 1048576) (hm : n ≤ maxLen) (X : Int) (hX : X = if (n : Int) ≤ L then L - n else -1) :
    Calls Try.prog 44 #[v, .int .i64 L] w fun e w' => e = .returned (.int .i64 X) ∧ w = w' := by
  obtain ⟨a, cap, rfl⟩ := hv.shape
  clear hv
  unfold maxLen at hm
  by_cases h : (n : Int) ≤ L
  · rw [if_pos h] at hX
    subst hX
    go_enter Try.func44, Try.ntmps44
    go_wp2_with fail
    go_ret
    exact ⟨rfl, rfl⟩
  · rw [if_neg h] at hX
    subst hX
    go_enter Try.func44, Try.ntmps44
    go_wp2_with fail
    go_ret
    exact ⟨rfl, rfl⟩
theorem szPipeS_t (v : Value) (n : Nat) (f : Nat → Int) (w : World) (hv : ArgPp w v n f) (hn : n ≤ 1048576) :
    Calls Try.prog 44 #[v, .int .i64 1048576] w fun e w' => e = .returned (.int .i64 (1048576 - n)) ∧ w = w' := by
  obtain ⟨a, cap, rfl⟩ := hv.shape
  clear hv
  go_enter Try.func44, Try.ntmps44
  go_wp2_with fail
  go_ret
  exact ⟨rfl, rfl⟩
theorem szPipeS_f (v : Value) (n : Nat) (f : Nat → Int) (w : World) (hv : ArgPp w v n f) (hn : 1048576 < n) (hm : n ≤ maxLen) :
    Calls Try.prog 44 #[v, .int .i64 1048576] w fun e w' => e = .returned (.int .i64 (-1)) ∧ w = w' := by
  obtain ⟨a, cap, rfl⟩ := hv.shape
  unfold maxLen at hm
  clear hv
  go_enter Try.func44, Try.ntmps44
  go_wp2_with fail
  go_ret
  exact ⟨rfl, rfl⟩

def GivesPp (w : World) (n : Nat) (f : Nat → Int) (e : Ending) (w' : World) : Prop :=
  ∃ v, e = .returned v ∧ IsList w' w.heap.size v 2 n (pipeV f) ∧ Below w.heap.size w w'
/-- The same, of a list that is as long as its memory. -/
def GivesPpc (w : World) (n : Nat) (f : Nat → Int) (e : Ending) (w' : World) : Prop :=
  ∃ a, e = .returned (.slice a n n) ∧ IsList w' w.heap.size (.slice a n n) 2 n (pipeV f) ∧ Below w.heap.size w w'
theorem A_infoPp : (Try.prog.info? 90).map (fun i => (i.zero, i.size, i.bytes)) = some (some (.agg #[.int .i8 0, .int .i16 0]), 2, 4) := by kernel_rfl

set_option maxRecDepth 100000 in
set_option maxHeartbeats 1000000 in
theorem toPipeS_c (v : Value) (n : Nat) (f : Nat → Int) (w : World) (hv : ArgPp w v n f) (hn : n ≤ 1048576) :
    Calls Try.prog 48 #[v] w (GivesPpc w n f) := by
  have HV := Lib.hid hv
  obtain ⟨a, cap, rfl⟩ := hv.shape
  clear hv
  obtain ⟨i0, hi0, hz0, hz1, hz2⟩ := info_parts A_infoPp
  go_enter Try.func48, Try.ntmps48
  go_wp2_with (at_make; refine wpList_make_full _ rfl _ _ 52 rfl w.heap.size 90 i0 (.agg #[.int .i8 0, .int .i16 0]) 2 Try.underlying52 hi0 hz0 hz1 .i64 .i64 n n n rfl rfl rfl rfl (by rw [hz2]; omega) (by unfold maxLen; omega) (by simp) ?_)
  intro w1 own1 grow1
  have rg : ∃ cur, rowAt w1 w.heap.size = some cur ∧ cur.size = n * 2 := by
    obtain ⟨hl, ⟨h, _⟩ | ⟨g', cap', cur, he, hg, hh, hn', hm', hs, ht⟩⟩ := own1
    · cases h
    · cases he
      exact ⟨cur, rowAt_of_heap hh, hs⟩
  have B1 : Below w.heap.size w w1 := (Below.refl w.heap.size w).grown grow1 (by simp) (by intro x hx; cases hx)
  clear own1 grow1
  go_wp2_with fail
  go_loopw [4] (fun i W => ∃ (k : Nat) (cur : Array Value), k ≤ n ∧ i = .int .i64 k ∧ rowAt W w.heap.size = some cur ∧ cur.size = n * 2 ∧ Hid (∀ i, i < 2 * k → cur[i]? = some (pipeV f i)) ∧ Below w.heap.size w W) (fun i _ => n - (intOf i).toNat)
  case atStart =>
    obtain ⟨cur, hr, hs⟩ := rg
    exact ⟨0, cur, by omega, rfl, hr, hs, Lib.hid (by omega), B1⟩
  case round =>
    obtain ⟨k, cur, hk, rfl, hr, hs, hf, hB⟩ := hrel
    clear rg B1
    by_cases hlt : k < n
    · obtain ⟨g, o, rfl, c0, c1⟩ := (HV.out.below hB (Nat.le_refl _)).at hlt
      have hi0' : 0 ≤ (k : Int) := by omega
      have hi1 : (k : Int) < n := by omega
      have hR := Lib.hid hr
      have hBB := Lib.hid hB
      have hsz : w.heap.size < wr.heap.size := rowAt_lt hr
      clear hr hB hz0 hz1 hz2 hi0
      go_wp2_with fail
      refine (toPipe_any _ _ _).mono ?_
      rintro e w2 ⟨rfl, b2⟩
      have r2 := brow b2 hR.out
      have B2 := bnext hBB.out b2 hBB.out.size
      have hfro := frozen_of_rowAt r2
      have hkc : k * 2 < cur.size := by omega
      have hkd : k * 2 + 1 < cur.size := by omega
      have k0 : w2.cell? ⟨w.heap.size, k * 2, none⟩ = some cur[k * 2] := by rw [cell_of_rowAt r2, Array.getElem?_eq_getElem hkc]
      have k1 : w2.cell? ⟨w.heap.size, k * 2 + 1, none⟩ = some cur[k * 2 + 1] := by rw [cell_of_rowAt r2, Array.getElem?_eq_getElem hkd]
      have BB2 := Lib.hid B2
      have R2 := Lib.hid r2
      clear b2 r2 B2 c0 c1
      go_wp2_with fail
      have r1 := rowAt_setCell_at w2 w.heap.size (k * 2) (.int .i8 (f (k * 2))) (by simp [R2.out])
      rw [R2.out, Option.getD_some] at r1
      have r3 := rowAt_setCell_at (w2.setCell ⟨w.heap.size, k * 2, none⟩ (.int .i8 (f (k * 2)))) w.heap.size (k * 2 + 1) (.int .i16 (f (k * 2 + 1))) (by simp [r1])
      rw [r1, Option.getD_some] at r3
      refine ⟨⟨k + 1, _, by omega, by go_num, r3, by simp [hs], Lib.hid ?_, (BB2.out.setCell (p := ⟨_, k * 2, none⟩) (Nat.le_refl _) _).setCell (p := ⟨_, k * 2 + 1, none⟩) (Nat.le_refl _) _⟩, by simp [intOf]; omega⟩
      intro i hi
      by_cases hi1 : i = k * 2 + 1
      · subst hi1
        rw [Array.getElem?_setIfInBounds_self_of_lt (by simpa using hkd), pipeV_1]
      · rw [Array.getElem?_setIfInBounds_ne (Ne.symm hi1)]
        by_cases hi0 : i = k * 2
        · subst hi0
          rw [Array.getElem?_setIfInBounds_self_of_lt hkc, pipeV_0]
        · rw [Array.getElem?_setIfInBounds_ne (Ne.symm hi0)]
          exact hf.out i (by omega)
    · obtain rfl : k = n := by omega
      go_wp2_with fail
      go_ret
      exact ⟨_, rfl, .inr ⟨w.heap.size, _, cur, rfl, Nat.le_refl _, hr, by omega, fun i hi => hf.out i (by omega)⟩, hB⟩
theorem toPipeS_any (v : Value) (n : Nat) (f : Nat → Int) (w : World) (hv : ArgPp w v n f) (hn : n ≤ 1048576) :
    Calls Try.prog 48 #[v] w (GivesPp w n f) :=
  (toPipeS_c v n f w hv hn).mono fun _ _ ⟨a, h⟩ => ⟨.slice a n n, h⟩
set_option maxRecDepth 100000 in
set_option maxHeartbeats 400000 in
theorem eqPipeS_same (n : Nat) (f : Nat → Int) (v u : Value) (b b' : Nat) (w : World) (hv : IsList w b v 2 n (pipeV f)) (hu : IsList w b' u 2 n (pipeV f)) (hn : n ≤ 2000000) :
    Calls Try.prog 54 #[v, u] w fun e w' => e = .returned (.bool true) ∧ Below w.heap.size w w' := by
  have HV := Lib.hid hv
  have HU := Lib.hid hu
  obtain ⟨av, cv, rfl⟩ := hv.shape
  obtain ⟨au, cu, rfl⟩ := hu.shape
  clear hv hu
  have hnn : ((n : Int) != n) = false := by simp
  go_enter Try.func54, Try.ntmps54
  go_wp2_with fail
  go_loopw [5] (fun i W => ∃ k : Nat, k ≤ n ∧ i = .int .i64 k ∧ Below w.heap.size w W) (fun i _ => n - (intOf i).toNat)
  case atStart => exact ⟨0, by omega, rfl, Below.refl _ _⟩
  case round =>
    obtain ⟨k, hk, rfl, hB⟩ := hrel
    by_cases hlt : k < n
    · rcases HV.out.below hB (Nat.le_refl _) with ⟨h0, _⟩ | ⟨g, cap, cur, e1, hg, hr, hs, hf⟩
      · omega
      rcases HU.out.below hB (Nat.le_refl _) with ⟨h0, _⟩ | ⟨g', cap', cur', e2, hg', hr', hs', hf'⟩
      · omega
      cases e1
      cases e2
      have c0 : wr.cell? ⟨g, k * 2, none⟩ = some (.int .i8 (f (k * 2))) := by rw [cell_of_rowAt hr]; exact (hf _ (by omega)).trans (congrArg some (pipeV_0 f k))
      have c1 : wr.cell? ⟨g, k * 2 + 1, none⟩ = some (.int .i16 (f (k * 2 + 1))) := by rw [cell_of_rowAt hr]; exact (hf _ (by omega)).trans (congrArg some (pipeV_1 f k))
      have d0 : wr.cell? ⟨g', k * 2, none⟩ = some (.int .i8 (f (k * 2))) := by rw [cell_of_rowAt hr']; exact (hf' _ (by omega)).trans (congrArg some (pipeV_0 f k))
      have d1 : wr.cell? ⟨g', k * 2 + 1, none⟩ = some (.int .i16 (f (k * 2 + 1))) := by rw [cell_of_rowAt hr']; exact (hf' _ (by omega)).trans (congrArg some (pipeV_1 f k))
      have hi0 : 0 ≤ (k : Int) := by omega
      have hi1 : (k : Int) < n := by omega
      clear hf hf' hs hs' hr hr'
      go_wp2_with fail
      go_still_tail 8, (by kernel_rfl)
      change wpList _ _ _ _ _ wr.drew
      go_wp2_with fail
      refine (eqPipe_same _ _ _).mono ?_
      rintro e w1 ⟨rfl, hb⟩
      have hB1 := (hB.drew).trans (hb.mono hB.size)
      clear hb c0 c1 d0 d1
      go_wp2_with fail
      refine ⟨⟨k + 1, by omega, by go_num, hB1⟩, by simp [intOf]; omega⟩
    · go_wp2_with fail
      go_ret
      exact ⟨rfl, hB⟩
/-- What is marked: the numbers from m on, as they fit. -/
def markPp (m i : Nat) : Int := if i % 2 = 0 then IntKind.i8.wrap ((m : Int) + i) else IntKind.i16.wrap ((m : Int) + i)
theorem markPp_0 (m k : Nat) : markPp m (k * 2) = IntKind.i8.wrap ((m : Int) + 2 * k) := by unfold markPp; rw [if_pos (by omega), show ((k * 2 : Nat) : Int) = 2 * k from by omega]
theorem markPp_1 (m k : Nat) : markPp m (k * 2 + 1) = IntKind.i16.wrap ((m : Int) + 2 * k + 1) := by unfold markPp; rw [if_neg (by omega), show ((k * 2 + 1 : Nat) : Int) = 2 * k + 1 from by omega, Int.add_assoc]
end Go.Proofs.Ytcdddngdjhjdbaa
