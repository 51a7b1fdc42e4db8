/- Lists of numbers that come in: opened, copied; and wherever they lie. -/
import Derived.Test.YtcdddngdjhjdbaaList
import Derived.Test.YtcdddngdjhjdbaaHelp
import Derived.OwnWalk
import Derived.Laws.MakeOwn
import Derived.ChangeSlices
import Derived.OpenShut
namespace Go.Proofs.Ytcdddngdjhjdbaa
open Go.RowKit Go.ChangeShapes Go.WideShapes

/-- A list of numbers, wherever it lies. -/
def NumsAt (w : World) (v : Value) (n : Nat) (f : Nat → Int) : Prop :=
  ∃ a cap, v = .slice a n cap ∧ (n = 0 ∨ ∃ g o, a = some ⟨g, o, none⟩ ∧ g < w.heap.size ∧ ∀ i, i < n → w.cell? ⟨g, o + i, none⟩ = some (.int .i64 (f i)))
theorem NumsAt.below {w w' : World} {v : Value} {n : Nat} {f : Nat → Int} {B : Nat} (h : NumsAt w v n f) (b : Below B w w') (hB : w.heap.size ≤ B) : NumsAt w' v n f := by
  obtain ⟨a, cap, rfl, h⟩ := h
  refine ⟨a, cap, rfl, ?_⟩
  rcases h with h | ⟨g, o, rfl, hg, h⟩
  · exact .inl h
  · exact .inr ⟨g, o, rfl, Nat.lt_of_lt_of_le hg b.size, fun i hi => (b.cell (p := ⟨g, o + i, none⟩) (Nat.lt_of_lt_of_le hg hB)).trans (h i hi)⟩
theorem NumsAt.shape {w : World} {v : Value} {n : Nat} {f : Nat → Int} (h : NumsAt w v n f) : ∃ a cap, v = .slice a n cap := by
  obtain ⟨a, cap, rfl, _⟩ := h
  exact ⟨a, cap, rfl⟩
theorem NumsAt.at {w : World} {a : Option Addr} {cap n : Nat} {f : Nat → Int} (h : NumsAt w (.slice a n cap) n f) {k : Nat} (hk : k < n) :
    ∃ g o, a = some ⟨g, o, none⟩ ∧ w.cell? ⟨g, o + k, none⟩ = some (.int .i64 (f k)) := by
  obtain ⟨a', cap', e, h⟩ := h
  cases e
  rcases h with h | ⟨g, o, rfl, _, h⟩
  · omega
  · exact ⟨g, o, rfl, h k hk⟩
theorem NumsAt.none0 (w : World) (a : Option Addr) (cap : Nat) (f : Nat → Int) : NumsAt w (.slice a 0 cap) 0 f := ⟨a, cap, rfl, .inl rfl⟩
theorem IsList.nums {w : World} {base n : Nat} {v : Value} {f : Nat → Int} (h : IsList w base v 1 n (fun i => .int .i64 (f i))) : NumsAt w v n f := by
  rcases h with ⟨rfl, a, cap, rfl⟩ | ⟨g, cap, cur, rfl, hg, hr, hs, hf⟩
  · exact ⟨a, cap, rfl, .inl rfl⟩
  · exact ⟨_, cap, rfl, .inr ⟨g, 0, rfl, rowAt_lt hr, fun i hi => by rw [Nat.zero_add, cell_of_rowAt hr]; exact hf i (by omega)⟩⟩

section
variable {H : Type} {enc : TypeId × Value → H} {w : World} {base b0 : Nat} {spare : Nat → Bool} {held : Bool} {r : Reach}
set_option maxRecDepth 100000 in
/-- A list of numbers that came in. -/
theorem open_nums {v : Value} {d : DataW H} {p : List MemPlace} (hv : Value.okWide Try.prog w r b0 22 v) (h : DataW.Trod enc Try.prog w base spare held 22 v d p) :
    ∃ (n : Nat) (f : Nat → Int), NumsAt w v n f ∧ n ≤ maxLen ∧ ∀ i, i < n → -9223372036854775808 ≤ f i ∧ f i ≤ 9223372036854775807 := by
  obtain ⟨a, len, cap, rfl⟩ := okWide_slice Try.underlying22 hv
  obtain ⟨fuel, hf⟩ := h
  rcases open_ints Try.underlying22 Try.underlying2 (by kernel_rfl) hf with ⟨hc, _⟩ | ⟨a', len', cap', zs, hc, _, hl, hm, hmm, _, hcell, hwf⟩
  · simp [Value.cells] at hc
    obtain ⟨rfl, rfl, rfl⟩ := hc
    exact ⟨0, fun _ => 0, ⟨none, 0, rfl, .inl rfl⟩, by omega, by omega⟩
  · simp [Value.cells] at hc
    obtain ⟨rfl, rfl, rfl⟩ := hc
    have hlm : len ≤ zs.length := by rw [hmm]; split <;> omega
    refine ⟨len, fun i => zs.getD i 0, ⟨some a', cap, rfl, ?_⟩, by omega, ?_⟩
    · by_cases h0 : len = 0
      · exact .inl h0
      right
      obtain ⟨g, o, spot⟩ := a'
      have hsp : spot = none := by simpa [Addr.add] using World.cell?_spot (hcell 0 (by omega))
      subst hsp
      have hadd : ∀ x, (⟨g, o, none⟩ : Addr).add x = ⟨g, o + x, none⟩ := fun x => by unfold Addr.add; split <;> simp_all
      refine ⟨g, o, rfl, ?_, fun i hi => by rw [← hadd]; exact hcell i (by omega)⟩
      exact World.block_lt_of_cell? w _ (hcell 0 (by omega))
    · intro i hi
      have : zs.getD i 0 ∈ zs := by
        rw [List.getD_eq_getElem?_getD, List.getElem?_eq_getElem (by omega), Option.getD_some]
        exact List.getElem_mem _
      exact bounds_i64 (hwf _ this)
end

def GivesN (w : World) (n : Nat) (f : Nat → Int) (e : Ending) (w' : World) : Prop :=
  ∃ a, e = .returned (.slice a n n) ∧ IsList w' w.heap.size (.slice a n n) 1 n (fun i => .int .i64 (f i)) ∧ Below w.heap.size w w'
theorem A_info64 : (Try.prog.info? 2).map (fun i => (i.zero, i.size, i.bytes)) = some (some (.int .i64 0), 1, 8) := by kernel_rfl

set_option maxRecDepth 100000 in
set_option maxHeartbeats 1000000 in
theorem toInt64S_any (v : Value) (n : Nat) (f : Nat → Int) (w : World) (hv : NumsAt w v n f) (hn : n ≤ 2000000) :
    Calls Try.prog 9 #[v] w (GivesN w n f) := by
  have HV := Lib.hid hv
  obtain ⟨a, cap, rfl⟩ := hv.shape
  clear hv
  obtain ⟨i0, hi0, hz0, hz1, hz2⟩ := info_parts A_info64
  go_enter Try.func9, Try.ntmps9
  go_wp2_with (at_make; refine wpList_make_full _ rfl _ _ 22 rfl w.heap.size 2 i0 (.int .i64 0) 1 Try.underlying22 hi0 hz0 hz1 .i64 .i64 n n n rfl rfl rfl rfl (by rw [hz2]; omega) (by unfold maxLen; omega) (by simp) ?_)
  intro w1 own1 grow1
  have rg : ∃ cur, rowAt w1 w.heap.size = some cur ∧ cur.size = n := by
    obtain ⟨hl, ⟨h, _⟩ | ⟨g', cap', cur, he, hg, hh, hn', hm', hs, ht⟩⟩ := own1
    · cases h
    · cases he
      exact ⟨cur, rowAt_of_heap hh, by omega⟩
  have B1 : Below w.heap.size w w1 := (Below.refl w.heap.size w).grown grow1 (by simp) (by intro x hx; cases hx)
  clear own1 grow1
  go_wp2_with fail
  go_loopw [4] (fun i W => ∃ (k : Nat) (cur : Array Value), k ≤ n ∧ i = .int .i64 k ∧ rowAt W w.heap.size = some cur ∧ cur.size = n ∧ Hid (∀ i, i < k → cur[i]? = some (.int .i64 (f i))) ∧ Below w.heap.size w W) (fun i _ => n - (intOf i).toNat)
  case atStart =>
    obtain ⟨cur, hr, hs⟩ := rg
    exact ⟨0, cur, by omega, rfl, hr, hs, Lib.hid (by omega), B1⟩
  case round =>
    obtain ⟨k, cur, hk, rfl, hr, hs, hf, hB⟩ := hrel
    clear rg B1
    by_cases hlt : k < n
    · obtain ⟨g, o, rfl, c0⟩ := (HV.out.below hB (Nat.le_refl _)).at hlt
      have hi0' : 0 ≤ (k : Int) := by omega
      have hi1 : (k : Int) < n := by omega
      have hfro := frozen_of_rowAt hr
      have hkc : k < cur.size := by omega
      have k0 : wr.cell? ⟨w.heap.size, k, none⟩ = some cur[k] := by rw [cell_of_rowAt hr, Array.getElem?_eq_getElem hkc]
      have R2 := Lib.hid hr
      have HS := Lib.hid hs
      have BB2 := Lib.hid hB
      clear hr hB hz0 hz1 hz2 hi0 hs
      go_wp2_with fail
      have r1 := rowAt_setCell_at wr w.heap.size k (.int .i64 (f k)) (by simp [R2.out])
      rw [R2.out, Option.getD_some] at r1
      refine ⟨⟨k + 1, _, by omega, by go_num, r1, by simp [HS.out], Lib.hid ?_, BB2.out.setCell (p := ⟨_, k, none⟩) (Nat.le_refl _) _⟩, by simp [intOf]; omega⟩
      intro i hi
      by_cases hi0 : i = k
      · subst hi0
        rw [Array.getElem?_setIfInBounds_self_of_lt hkc]
      · rw [Array.getElem?_setIfInBounds_ne (Ne.symm hi0)]
        exact hf.out i (by omega)
    · obtain rfl : k = n := by omega
      go_wp2_with fail
      go_ret
      exact ⟨_, rfl, .inr ⟨w.heap.size, _, cur, rfl, Nat.le_refl _, hr, by omega, fun i hi => hf.out i (by omega)⟩, hB⟩
end Go.Proofs.Ytcdddngdjhjdbaa
