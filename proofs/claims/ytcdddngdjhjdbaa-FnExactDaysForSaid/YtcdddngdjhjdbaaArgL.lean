/- Lists of places that come in: opened, counted, copied. -/
import Derived.Test.YtcdddngdjhjdbaaListP
import Derived.Test.YtcdddngdjhjdbaaHelp
import Derived.Test.YtcdddngdjhjdbaaOpen
import Derived.Deep.SlicePairs
import Derived.OwnWalk
import Derived.Laws.MakeOwn
namespace Go.Proofs.Ytcdddngdjhjdbaa
open Go.RowKit Go.ChangeShapes Go.WideShapes

/-- v is a list of n places that came in; f tells their cells. -/
def ArgL (w : World) (v : Value) (n : Nat) (f : Nat → Int) : Prop :=
  ∃ a cap, v = .slice a n cap ∧ (n = 0 ∨ ∃ g o, a = some ⟨g, o, none⟩ ∧ ∀ i, i < n * 2 → w.cell? ⟨g, o + i, none⟩ = some (.int .i8 (f i)))

theorem lt_of_cellA {w : World} {p : Addr} {v : Value} (h : w.cell? p = some v) : p.block < w.heap.size := by
  rcases Nat.lt_or_ge p.block w.heap.size with h' | h'
  · exact h'
  · simp [World.cell?, Array.getElem?_eq_none h'] at h
theorem ArgL.below {w w' : World} {v : Value} {n : Nat} {f : Nat → Int} {B : Nat} (h : ArgL w v n f) (b : Below B w w') (hB : w.heap.size ≤ B) : ArgL w' v n f := by
  obtain ⟨a, cap, rfl, h⟩ := h
  refine ⟨a, cap, rfl, ?_⟩
  rcases h with h | ⟨g, o, rfl, h⟩
  · exact .inl h
  · exact .inr ⟨g, o, rfl, fun i hi => (b.cell (p := ⟨g, o + i, none⟩) (Nat.lt_of_lt_of_le (lt_of_cellA (h i hi)) hB)).trans (h i hi)⟩
theorem ArgL.shape {w : World} {v : Value} {n : Nat} {f : Nat → Int} (h : ArgL w v n f) : ∃ a cap, v = .slice a n cap := by
  obtain ⟨a, cap, rfl, _⟩ := h
  exact ⟨a, cap, rfl⟩
/-- The cells of place k. -/
theorem ArgL.at {w : World} {a : Option Addr} {cap n : Nat} {f : Nat → Int} (h : ArgL w (.slice a n cap) n f) {k : Nat} (hk : k < n) :
    ∃ g o, a = some ⟨g, o, none⟩ ∧ w.cell? ⟨g, o + k * 2, none⟩ = some (.int .i8 (f (k * 2))) ∧ w.cell? ⟨g, o + k * 2 + 1, none⟩ = some (.int .i8 (f (k * 2 + 1))) := by
  obtain ⟨a', cap', e, h⟩ := h
  cases e
  rcases h with h | ⟨g, o, rfl, h⟩
  · omega
  · exact ⟨g, o, rfl, h _ (by omega), by rw [Nat.add_assoc]; exact h _ (by omega)⟩

section
variable {H : Type} {enc : TypeId × Value → H} {w : World} {base b0 : Nat} {spare : Nat → Bool} {held : Bool} {r : Reach}
set_option maxRecDepth 100000 in
/-- A list of places that came in. -/
theorem open_pls {v : Value} {d : DataW H} {p : List MemPlace} (hv : Value.okWide Try.prog w r b0 34 v) (h : DataW.Trod enc Try.prog w base spare held 34 v d p) :
    ∃ (n : Nat) (f : Nat → Int), ArgL w v n f ∧ n ≤ maxLen ∧ ∀ i, i < n * 2 → -128 ≤ f i ∧ f i ≤ 127 := by
  obtain ⟨a, len, cap, rfl⟩ := okWide_slice Try.underlying34 hv
  obtain ⟨fuel, hf⟩ := h
  rcases Go.Deep.open_slice_pairs Try.underlying34 Try.underlying62 (by kernel_rfl) rfl rfl (by kernel_rfl) (by kernel_rfl) hf with ⟨hc, _⟩ | ⟨a', len', cap', m, k, V0, V1, D0, D1, P0, P1, hc, _, hl, hm, hmm, _, hall⟩
  · simp [Value.cells] at hc
    obtain ⟨rfl, rfl, rfl⟩ := hc
    exact ⟨0, fun _ => 0, ⟨none, 0, rfl, .inl rfl⟩, by omega, by omega⟩
  · simp [Value.cells] at hc
    obtain ⟨rfl, rfl, rfl⟩ := hc
    have hlm : len ≤ m := by rw [hmm]; split <;> omega
    have key : ∀ i, i < len → ∃ x y : Int, V0 i = .int .i8 x ∧ V1 i = .int .i8 y ∧ (-128 ≤ x ∧ x ≤ 127) ∧ (-128 ≤ y ∧ y ≤ 127) := fun i hi => by
      obtain ⟨_, _, t0, t1⟩ := hall i (by omega)
      obtain ⟨x, e0, _, wx⟩ := DataW.trod_int Try.underlying29 t0
      obtain ⟨y, e1, _, wy⟩ := DataW.trod_int Try.underlying29 t1
      simp at e0 e1
      exact ⟨x, y, e0, e1, bounds_i8 wx, bounds_i8 wy⟩
    refine ⟨len, fun j => match (if j % 2 = 0 then V0 (j / 2) else V1 (j / 2)) with | .int _ z => z | _ => 0, ⟨some a', cap, rfl, ?_⟩, by omega, ?_⟩
    · by_cases h0 : len = 0
      · exact .inl h0
      right
      obtain ⟨g, o, spot⟩ := a'
      have hsp : spot = none := by simpa [Addr.add] using World.cell?_spot (hall 0 (by omega)).1
      subst hsp
      refine ⟨g, o, rfl, fun j hj => ?_⟩
      have hadd : ∀ x, (⟨g, o, none⟩ : Addr).add x = ⟨g, o + x, none⟩ := fun x => by unfold Addr.add; split <;> simp_all
      obtain ⟨x, y, e0, e1, _, _⟩ := key (j / 2) (by omega)
      obtain ⟨c0, c1, _, _⟩ := hall (j / 2) (by omega)
      rw [hadd] at c0 c1
      dsimp only
      by_cases hj2 : j % 2 = 0
      · rw [if_pos hj2, e0]
        rw [e0, show j / 2 * 2 = j by omega] at c0
        exact c0
      · rw [if_neg hj2, e1]
        rw [e1, show j / 2 * 2 + 1 = j by omega] at c1
        exact c1
    · intro j hj
      obtain ⟨x, y, e0, e1, hx, hy⟩ := key (j / 2) (by omega)
      dsimp only
      by_cases hj2 : j % 2 = 0
      · rw [if_pos hj2, e0]; exact hx
      · rw [if_neg hj2, e1]; exact hy
end

theorem szPlaceS_t (v : Value) (n : Nat) (f : Nat → Int) (w : World) (hv : ArgL w v n f) (hn : n ≤ 1048576) :
    Calls Try.prog 14 #[v, .int .i64 1048576] w fun e w' => e = .returned (.int .i64 (1048576 - n)) ∧ w = w' := by
  obtain ⟨a, cap, rfl⟩ := hv.shape
  clear hv
  go_enter Try.func14, Try.ntmps14
  go_wp2_with fail
  go_ret
  exact ⟨rfl, rfl⟩
theorem szPlaceS_f (v : Value) (n : Nat) (f : Nat → Int) (w : World) (hv : ArgL w v n f) (hn : 1048576 < n) (hm : n ≤ maxLen) :
    Calls Try.prog 14 #[v, .int .i64 1048576] w fun e w' => e = .returned (.int .i64 (-1)) ∧ w = w' := by
  obtain ⟨a, cap, rfl⟩ := hv.shape
  unfold maxLen at hm
  clear hv
  go_enter Try.func14, Try.ntmps14
  go_wp2_with fail
  go_ret
  exact ⟨rfl, rfl⟩

def GivesF (w : World) (n : Nat) (f : Nat → Int) (e : Ending) (w' : World) : Prop :=
  ∃ v, e = .returned v ∧ IsList w' w.heap.size v 2 n (fun i => .int .i8 (f i)) ∧ Below w.heap.size w w'
/-- The same, of a list that is as long as its memory. -/
def GivesFc (w : World) (n : Nat) (f : Nat → Int) (e : Ending) (w' : World) : Prop :=
  ∃ a, e = .returned (.slice a n n) ∧ IsList w' w.heap.size (.slice a n n) 2 n (fun i => .int .i8 (f i)) ∧ Below w.heap.size w w'
theorem A_infoP : (Try.prog.info? 65).map (fun i => (i.zero, i.size, i.bytes)) = some (some (.agg #[.int .i8 0, .int .i8 0]), 2, 2) := by kernel_rfl

set_option maxRecDepth 100000 in
set_option maxHeartbeats 1000000 in
theorem toPlaceS_c (v : Value) (n : Nat) (f : Nat → Int) (w : World) (hv : ArgL w v n f) (hn : n ≤ 1048576) :
    Calls Try.prog 17 #[v] w (GivesFc w n f) := by
  have HV := Lib.hid hv
  obtain ⟨a, cap, rfl⟩ := hv.shape
  clear hv
  obtain ⟨i0, hi0, hz0, hz1, hz2⟩ := info_parts A_infoP
  go_enter Try.func17, Try.ntmps17
  go_wp2_with (at_make; refine wpList_make_full _ rfl _ _ 40 rfl w.heap.size 65 i0 (.agg #[.int .i8 0, .int .i8 0]) 2 Try.underlying40 hi0 hz0 hz1 .i64 .i64 n n n rfl rfl rfl rfl (by rw [hz2]; omega) (by unfold maxLen; omega) (by simp) ?_)
  intro w1 own1 grow1
  have rg : ∃ cur, rowAt w1 w.heap.size = some cur ∧ cur.size = n * 2 := by
    obtain ⟨hl, ⟨h, _⟩ | ⟨g', cap', cur, he, hg, hh, hn', hm', hs, ht⟩⟩ := own1
    · cases h
    · cases he
      exact ⟨cur, rowAt_of_heap hh, hs⟩
  have B1 : Below w.heap.size w w1 := (Below.refl w.heap.size w).grown grow1 (by simp) (by intro x hx; cases hx)
  clear own1 grow1
  go_wp2_with fail
  go_loopw [4] (fun i W => ∃ (k : Nat) (cur : Array Value), k ≤ n ∧ i = .int .i64 k ∧ rowAt W w.heap.size = some cur ∧ cur.size = n * 2 ∧ Hid (∀ i, i < 2 * k → cur[i]? = some (.int .i8 (f i))) ∧ Below w.heap.size w W) (fun i _ => n - (intOf i).toNat)
  case atStart =>
    obtain ⟨cur, hr, hs⟩ := rg
    exact ⟨0, cur, by omega, rfl, hr, hs, Lib.hid (by omega), B1⟩
  case round =>
    obtain ⟨k, cur, hk, rfl, hr, hs, hf, hB⟩ := hrel
    clear rg B1
    by_cases hlt : k < n
    · obtain ⟨g, o, rfl, c0, c1⟩ := (HV.out.below hB (Nat.le_refl _)).at hlt
      have hi0' : 0 ≤ (k : Int) := by omega
      have hi1 : (k : Int) < n := by omega
      have hR := Lib.hid hr
      have hBB := Lib.hid hB
      have hsz : w.heap.size < wr.heap.size := rowAt_lt hr
      clear hr hB hz0 hz1 hz2 hi0
      go_wp2_with fail
      refine (toPlace_any _ _ _).mono ?_
      rintro e w2 ⟨rfl, b2⟩
      have r2 := brow b2 hR.out
      have B2 := bnext hBB.out b2 hBB.out.size
      have hfro := frozen_of_rowAt r2
      have hkc : k * 2 < cur.size := by omega
      have hkd : k * 2 + 1 < cur.size := by omega
      have k0 : w2.cell? ⟨w.heap.size, k * 2, none⟩ = some cur[k * 2] := by rw [cell_of_rowAt r2, Array.getElem?_eq_getElem hkc]
      have k1 : w2.cell? ⟨w.heap.size, k * 2 + 1, none⟩ = some cur[k * 2 + 1] := by rw [cell_of_rowAt r2, Array.getElem?_eq_getElem hkd]
      have BB2 := Lib.hid B2
      have R2 := Lib.hid r2
      clear b2 r2 B2 c0 c1
      go_wp2_with fail
      have r1 := rowAt_setCell_at w2 w.heap.size (k * 2) (.int .i8 (f (k * 2))) (by simp [R2.out])
      rw [R2.out, Option.getD_some] at r1
      have r3 := rowAt_setCell_at (w2.setCell ⟨w.heap.size, k * 2, none⟩ (.int .i8 (f (k * 2)))) w.heap.size (k * 2 + 1) (.int .i8 (f (k * 2 + 1))) (by simp [r1])
      rw [r1, Option.getD_some] at r3
      refine ⟨⟨k + 1, _, by omega, by go_num, r3, by simp [hs], Lib.hid ?_, (BB2.out.setCell (p := ⟨_, k * 2, none⟩) (Nat.le_refl _) _).setCell (p := ⟨_, k * 2 + 1, none⟩) (Nat.le_refl _) _⟩, by simp [intOf]; omega⟩
      intro i hi
      by_cases hi1 : i = k * 2 + 1
      · subst hi1
        rw [Array.getElem?_setIfInBounds_self_of_lt (by simpa using hkd)]
      · rw [Array.getElem?_setIfInBounds_ne (Ne.symm hi1)]
        by_cases hi0 : i = k * 2
        · subst hi0
          rw [Array.getElem?_setIfInBounds_self_of_lt hkc]
        · rw [Array.getElem?_setIfInBounds_ne (Ne.symm hi0)]
          exact hf.out i (by omega)
    · obtain rfl : k = n := by omega
      go_wp2_with fail
      go_ret
      exact ⟨_, rfl, .inr ⟨w.heap.size, _, cur, rfl, Nat.le_refl _, hr, by omega, fun i hi => hf.out i (by omega)⟩, hB⟩
theorem toPlaceS_any (v : Value) (n : Nat) (f : Nat → Int) (w : World) (hv : ArgL w v n f) (hn : n ≤ 1048576) :
    Calls Try.prog 17 #[v] w (GivesF w n f) :=
  (toPlaceS_c v n f w hv hn).mono fun _ _ ⟨a, h⟩ => ⟨.slice a n n, h⟩
end Go.Proofs.Ytcdddngdjhjdbaa
