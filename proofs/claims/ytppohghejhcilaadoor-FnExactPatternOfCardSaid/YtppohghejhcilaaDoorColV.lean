/- Valid colours: contracts of both sides. -/
import Derived.Test.YtppohghejhcilaaDoorColF
import Derived.Test.YtppohghejhcilaaDoorSpecB
import Derived.Deep.RegionHeld3
namespace Go.Proofs.YtppohghejhcilaaDoor
open Go.RowKit

/-- Colours that are valid for a roof: bits for its tiles alone. -/
def Rf.Cols (r : Rf) (g : Nat → Nat) : Prop := r.Ok ∧ ∀ i, i < 8 → ∀ j, (g i).testBit j = true → (i : Int) < r.h ∧ (j : Int) < r.w
open Classical in
noncomputable def Rf.cok (r : Rf) (g : Nat → Nat) : Bool := decide (r.Cols g)
theorem Rf.cok_t {r : Rf} {g : Nat → Nat} (h : r.Cols g) : r.cok g = true := by simp [Rf.cok, h]
theorem Rf.cok_f {r : Rf} {g : Nat → Nat} (h : ¬ r.Cols g) : r.cok g = false := by simp [Rf.cok, h]
theorem Rf.Cols_of {r : Rf} {g : Nat → Nat} (h : r.cok g = true) : r.Cols g := by simpa [Rf.cok] using h
theorem Rf.not_Cols {r : Rf} {g : Nat → Nat} (h : r.cok g = false) : ¬ r.Cols g := by simpa [Rf.cok] using h
/-- Colours are valid where they are those of their own red tiles. -/
theorem cols_iff {r : Rf} {g : Nat → Nat} (ho : r.Ok) {hh ww : Nat} (hhe : r.h = hh) (hwe : r.w = ww) (hg : ∀ i, i < 8 → g i < 256) :
    (∀ i, i < 8 → (g i : Int) = (colL (fun i j => (g i).testBit j) (plUpto hh ww (hh * ww)) i : Int)) ↔ r.Cols g := by
  have w8 : ww ≤ 8 := by have := ho.2.1; omega
  constructor
  · intro h
    refine ⟨ho, fun i hi j hb => ?_⟩
    have e : g i = _ := Int.natCast_inj.1 (h i hi)
    have hb2 := hb
    rw [e, colL_all] at hb2
    simp only [Bool.and_eq_true, decide_eq_true_eq] at hb2
    omega
  · intro h i hi
    refine Int.natCast_inj.2 (bits256 (hg i hi) (colL_lt w8 _ i) fun j hj => ?_)
    rw [colL_all, Bool.eq_iff_iff]
    simp only [Bool.and_eq_true, decide_eq_true_eq]
    constructor
    · intro hb; have := h.2 i hi j hb; exact ⟨by omega, hb⟩
    · intro hb; exact hb.2
/-- The same by what is left behind the roof's width. -/
theorem bits_shift {n w : Nat} : n / 2 ^ w = 0 ↔ ∀ j, n.testBit j = true → j < w := by
  constructor
  · intro h j hb
    rcases Nat.lt_or_ge j w with hj | hj
    · exact hj
    · have := (Nat.testBit_shiftRight (i := w) (j := j - w) n)
      rw [Nat.shiftRight_eq_div_pow, h, show w + (j - w) = j from by omega, hb] at this
      simp at this
  · intro h
    refine Nat.eq_of_testBit_eq fun j => ?_
    have := (Nat.testBit_shiftRight (i := w) (j := j) n)
    rw [Nat.shiftRight_eq_div_pow] at this
    rw [this, Nat.zero_testBit]
    cases hb : n.testBit (w + j) with
    | false => rfl
    | true => have := h _ hb; omega
theorem bits_zero {n : Nat} : n = 0 ↔ ∀ j, n.testBit j = false := by
  constructor
  · rintro rfl j; exact Nat.zero_testBit j
  · intro h; exact Nat.eq_of_testBit_eq fun j => by rw [h j, Nat.zero_testBit]
/-- One course of valid colours. -/
def cFine (hh ww : Nat) (g : Nat → Nat) (i : Nat) : Prop := g i / 2 ^ ww = 0 ∧ (i < hh ∨ g i = 0)
theorem cols_fine {r : Rf} {g : Nat → Nat} (ho : r.Ok) {hh ww : Nat} (hhe : r.h = hh) (hwe : r.w = ww) : r.Cols g ↔ ∀ i, i < 8 → cFine hh ww g i := by
  constructor
  · intro h i hi
    refine ⟨bits_shift.2 fun j hb => by have := (h.2 i hi j hb).2; omega, ?_⟩
    by_cases hl : i < hh
    · exact .inl hl
    · refine .inr (bits_zero.2 fun j => ?_)
      cases hb : (g i).testBit j with
      | false => rfl
      | true => have := (h.2 i hi j hb).1; omega
  · intro h
    refine ⟨ho, fun i hi j hb => ?_⟩
    obtain ⟨h1, h2⟩ := h i hi
    have := bits_shift.1 h1 j hb
    refine ⟨?_, by omega⟩
    rcases h2 with h2 | h2
    · omega
    · rw [h2, Nat.zero_testBit] at hb; cases hb

set_option maxHeartbeats 1000000 in
theorem implValidCol_no (c d : Array Value) (r : Rf) (w : World) (hR : IsRoof c r) (ho : ¬ r.Ok) :
    Calls Tryd.prog 73 #[.agg c, .agg d] w fun e w' => e = .returned (.bool false) ∧ Below w.heap.size w w' := by
  obtain ⟨q0, q1, pB⟩ := two_boxes w c d 28 62
  have hc := hR.size
  go_enter Tryd.func73, Tryd.ntmps73
  go_wp2_with fail
  refine gen_world fun W hW => ?_
  rw [← hW] at q0 q1 pB
  clear hW
  refine wp_region_held_drew (S := fun w' => Below W.heap.size W w') (by kernel_rfl) ((Below.refl _ _).drew) (fun hH => ?_)
  refine wpAnyH_take (i := 0) (v := .agg c) rfl (by kernel_rfl) (by kernel_rfl) (by kernel_rfl) (fun _ _ _ h => h) (Or.inl ⟨by rfl, ?_⟩) hH ?_
  · intro w1 hS; (try dsimp only at hS); have s0 := brow hS q0; go_simp
  (try simp only [List.getElem_toArray]); (try simp only [List.getElem_cons_succ]); (try simp only [List.getElem_cons_zero]); (try simp only [Act.put]); (try simp only [List.setIfInBounds_toArray]); (try simp only [List.set_cons_succ]); (try simp only [List.set_cons_zero])
  refine wpAnyH_ready (rs := [1]) (by kernel_rfl) (by simp) (AllReadyH.cons rfl (fun K hK => ?_) AllReadyH.nil)
  go_simp
  refine (implValid_f c r _ hR ho).mono ?_
  rintro x wx ⟨rfl, bx⟩
  go_simp
  refine hK.out _ _ (bnext hH bx hH.size) (fun hG => ?_)
  clear hK K hH bx
  replace hH := hG
  clear hG
  (try simp only [List.getElem_toArray]); (try simp only [List.getElem_cons_succ]); (try simp only [List.getElem_cons_zero]); (try simp only [Act.put]); (try simp only [List.setIfInBounds_toArray]); (try simp only [List.set_cons_succ]); (try simp only [List.set_cons_zero])
  refine wpAnyH_take (i := 2) (v := .bool false) rfl (by kernel_rfl) (by kernel_rfl) (by kernel_rfl) (fun _ _ _ h => h) (Or.inl ⟨by rfl, ?_⟩) hH ?_
  · intro w1 hS; (try dsimp only at hS); go_simp
  (try simp only [List.getElem_toArray]); (try simp only [List.getElem_cons_succ]); (try simp only [List.getElem_cons_zero]); (try simp only [Act.put]); (try simp only [List.setIfInBounds_toArray]); (try simp only [List.set_cons_succ]); (try simp only [List.set_cons_zero])
  refine wpAnyH_take (i := 3) (v := undef) rfl (by kernel_rfl) (by kernel_rfl) (by kernel_rfl) (fun _ _ _ h => h) (Or.inr ⟨by rfl, rfl⟩) hH ?_
  (try simp only [List.getElem_toArray]); (try simp only [List.getElem_cons_succ]); (try simp only [List.getElem_cons_zero]); (try simp only [Act.put]); (try simp only [List.setIfInBounds_toArray]); (try simp only [List.set_cons_succ]); (try simp only [List.set_cons_zero])
  refine wpAnyH_take (i := 4) (v := undef) rfl (by kernel_rfl) (by kernel_rfl) (by kernel_rfl) (fun _ _ _ h => h) (Or.inr ⟨by rfl, rfl⟩) hH ?_
  (try simp only [List.getElem_toArray]); (try simp only [List.getElem_cons_succ]); (try simp only [List.getElem_cons_zero]); (try simp only [Act.put]); (try simp only [List.setIfInBounds_toArray]); (try simp only [List.set_cons_succ]); (try simp only [List.set_cons_zero])
  refine wpAnyH_take (i := 5) (v := undef) rfl (by kernel_rfl) (by kernel_rfl) (by kernel_rfl) (fun _ _ _ h => h) (Or.inr ⟨by rfl, rfl⟩) hH ?_
  (try simp only [List.getElem_toArray]); (try simp only [List.getElem_cons_succ]); (try simp only [List.getElem_cons_zero]); (try simp only [Act.put]); (try simp only [List.setIfInBounds_toArray]); (try simp only [List.set_cons_succ]); (try simp only [List.set_cons_zero])
  refine wpAnyH_take (i := 6) (v := undef) rfl (by kernel_rfl) (by kernel_rfl) (by kernel_rfl) (fun _ _ _ h => h) (Or.inr ⟨by rfl, rfl⟩) hH ?_
  (try simp only [List.getElem_toArray]); (try simp only [List.getElem_cons_succ]); (try simp only [List.getElem_cons_zero]); (try simp only [Act.put]); (try simp only [List.setIfInBounds_toArray]); (try simp only [List.set_cons_succ]); (try simp only [List.set_cons_zero])
  refine wpAnyH_take (i := 7) (v := undef) rfl (by kernel_rfl) (by kernel_rfl) (by kernel_rfl) (fun _ _ _ h => h) (Or.inr ⟨by rfl, rfl⟩) hH ?_
  (try simp only [List.getElem_toArray]); (try simp only [List.getElem_cons_succ]); (try simp only [List.getElem_cons_zero]); (try simp only [Act.put]); (try simp only [List.setIfInBounds_toArray]); (try simp only [List.set_cons_succ]); (try simp only [List.set_cons_zero])
  refine wpAnyH_take (i := 8) (v := undef) rfl (by kernel_rfl) (by kernel_rfl) (by kernel_rfl) (fun _ _ _ h => h) (Or.inr ⟨by rfl, rfl⟩) hH ?_
  (try simp only [List.getElem_toArray]); (try simp only [List.getElem_cons_succ]); (try simp only [List.getElem_cons_zero]); (try simp only [Act.put]); (try simp only [List.setIfInBounds_toArray]); (try simp only [List.set_cons_succ]); (try simp only [List.set_cons_zero])
  refine wpAnyH_take (i := 9) (v := .bool false) rfl (by kernel_rfl) (by kernel_rfl) (by kernel_rfl) (fun _ _ _ h => h) (Or.inl ⟨by rfl, ?_⟩) hH ?_
  · intro w1 hS; (try dsimp only at hS); go_simp
  (try simp only [List.getElem_toArray]); (try simp only [List.getElem_cons_succ]); (try simp only [List.getElem_cons_zero]); (try simp only [Act.put]); (try simp only [List.setIfInBounds_toArray]); (try simp only [List.set_cons_succ]); (try simp only [List.set_cons_zero])
  refine wpAnyH_take (i := 10) (v := .bool false) rfl (by kernel_rfl) (by kernel_rfl) (by kernel_rfl) (fun _ _ _ h => h) (Or.inl ⟨by rfl, ?_⟩) hH ?_
  · intro w1 hS; (try dsimp only at hS); go_simp
  (try simp only [List.getElem_toArray]); (try simp only [List.getElem_cons_succ]); (try simp only [List.getElem_cons_zero]); (try simp only [Act.put]); (try simp only [List.setIfInBounds_toArray]); (try simp only [List.set_cons_succ]); (try simp only [List.set_cons_zero])
  refine wpAnyH_done (by kernel_rfl) ?_ _
  have HB := bnext pB hH pB.size
  clear hH
  go_wp2_with fail
  go_ret
  exact ⟨rfl, HB⟩

set_option maxRecDepth 100000 in
set_option maxHeartbeats 1000000 in
theorem implValidCol_yes (c d : Array Value) (r : Rf) (g : Nat → Nat) (w : World) (hR : IsRoof c r) (hC : IsCol d g) (ho : r.Ok) :
    Calls Tryd.prog 73 #[.agg c, .agg d] w fun e w' => e = .returned (.bool (r.cok g)) ∧ Below w.heap.size w w' := by
  obtain ⟨q0, q1, pB⟩ := two_boxes w c d 28 62
  have hc := hR.size
  have hd := hC.size
  obtain ⟨hh, hhe⟩ := Int.eq_ofNat_of_zero_le (show 0 ≤ r.h by have := ho.2.2.1; omega)
  obtain ⟨ww, hwe⟩ := Int.eq_ofNat_of_zero_le (show 0 ≤ r.w by have := ho.1; omega)
  have h8 : hh ≤ 8 := by have := ho.2.2.2.1; omega
  have w8 : ww ≤ 8 := by have := ho.2.1; omega
  have hiff := cols_iff (g := g) ho hhe hwe hC.hi
  obtain ⟨f, hf⟩ : ∃ f, colL (fun i j => (g i).testBit j) (plUpto hh ww (hh * ww)) = f := ⟨_, rfl⟩
  rw [hf] at hiff
  obtain ⟨X, hX⟩ : ∃ X, mkC f = X := ⟨_, rfl⟩
  have hXk : IsK .u8 X 8 (fun i => (f i : Int)) := by rw [← hX]; exact isK_mkI _ _ _
  have PR : ∀ W, PredPl 98 #[.agg d] #[] (fun i j => (g i).testBit j) W := fun W i j W' hi hj _ => by simpa using isRed_any d g i j W' hC hi hj
  have CC := fun W => colour_any 98 #[.agg d] #[] (fun i j => (g i).testBit j) (enters_of Tryd.func98 (by kernel_rfl) rfl) c r hh ww hhe hwe h8 w8 W hR (PR W) X (by rw [hf, hX])
  have hXs := hXk.size
  clear PR hX hf
  by_cases hg : r.Cols g
  · have hq := fun W : World => run_equalIn_ints_t Tryd.underlying62 Tryd.underlying5 (by kernel_rfl) d X (fun i => (g i : Int)) (fun i => (f i : Int)) (fun i hi => hC.cell hi) (fun i hi => hXk.get hi) (hiff.2 hg) 9998 W
    rw [Rf.cok_t hg]
    clear hiff hg hhe hwe
    go_enter Tryd.func73, Tryd.ntmps73
    go_wp2_with fail
    refine gen_world fun W hW => ?_
    rw [← hW] at q0 q1 pB
    clear hW
    refine wp_region_held_drew (S := fun w' => Below W.heap.size W w') (by kernel_rfl) ((Below.refl _ _).drew) (fun hH => ?_)
    refine wpAnyH_take (i := 0) (v := .agg c) rfl (by kernel_rfl) (by kernel_rfl) (by kernel_rfl) (fun _ _ _ h => h) (Or.inl ⟨by rfl, ?_⟩) hH ?_
    · intro w1 hS; (try dsimp only at hS); have s0 := brow hS q0; go_simp
    (try simp only [List.getElem_toArray]); (try simp only [List.getElem_cons_succ]); (try simp only [List.getElem_cons_zero]); (try simp only [Act.put]); (try simp only [List.setIfInBounds_toArray]); (try simp only [List.set_cons_succ]); (try simp only [List.set_cons_zero])
    refine wpAnyH_ready (rs := [1]) (by kernel_rfl) (by simp) (AllReadyH.cons rfl (fun K hK => ?_) AllReadyH.nil)
    go_simp
    refine (implValid_t c r _ hR ho).mono ?_
    rintro x wx ⟨rfl, bx⟩
    go_simp
    refine hK.out _ _ (bnext hH bx hH.size) (fun hG => ?_)
    clear hK K hH bx
    replace hH := hG
    clear hG
    (try simp only [List.getElem_toArray]); (try simp only [List.getElem_cons_succ]); (try simp only [List.getElem_cons_zero]); (try simp only [Act.put]); (try simp only [List.setIfInBounds_toArray]); (try simp only [List.set_cons_succ]); (try simp only [List.set_cons_zero])
    refine wpAnyH_take (i := 2) (v := .bool true) rfl (by kernel_rfl) (by kernel_rfl) (by kernel_rfl) (fun _ _ _ h => h) (Or.inl ⟨by rfl, ?_⟩) hH ?_
    · intro w1 hS; (try dsimp only at hS); go_simp
    (try simp only [List.getElem_toArray]); (try simp only [List.getElem_cons_succ]); (try simp only [List.getElem_cons_zero]); (try simp only [Act.put]); (try simp only [List.setIfInBounds_toArray]); (try simp only [List.set_cons_succ]); (try simp only [List.set_cons_zero])
    refine wpAnyH_take (i := 3) (v := .agg d) rfl (by kernel_rfl) (by kernel_rfl) (by kernel_rfl) (fun _ _ _ h => h) (Or.inl ⟨by rfl, ?_⟩) hH ?_
    · intro w1 hS; (try dsimp only at hS); have s1 := brow hS q1; go_simp
    (try simp only [List.getElem_toArray]); (try simp only [List.getElem_cons_succ]); (try simp only [List.getElem_cons_zero]); (try simp only [Act.put]); (try simp only [List.setIfInBounds_toArray]); (try simp only [List.set_cons_succ]); (try simp only [List.set_cons_zero])
    refine wpAnyH_take (i := 4) (v := .agg c) rfl (by kernel_rfl) (by kernel_rfl) (by kernel_rfl) (fun _ _ _ h => h) (Or.inl ⟨by rfl, ?_⟩) hH ?_
    · intro w1 hS; (try dsimp only at hS); have s0 := brow hS q0; go_simp
    (try simp only [List.getElem_toArray]); (try simp only [List.getElem_cons_succ]); (try simp only [List.getElem_cons_zero]); (try simp only [Act.put]); (try simp only [List.setIfInBounds_toArray]); (try simp only [List.set_cons_succ]); (try simp only [List.set_cons_zero])
    refine wpAnyH_take (i := 5) (v := .agg d) rfl (by kernel_rfl) (by kernel_rfl) (by kernel_rfl) (fun _ _ _ h => h) (Or.inl ⟨by rfl, ?_⟩) hH ?_
    · intro w1 hS; (try dsimp only at hS); have s1 := brow hS q1; go_simp
    (try simp only [List.getElem_toArray]); (try simp only [List.getElem_cons_succ]); (try simp only [List.getElem_cons_zero]); (try simp only [Act.put]); (try simp only [List.setIfInBounds_toArray]); (try simp only [List.set_cons_succ]); (try simp only [List.set_cons_zero])
    refine wpAnyH_take (i := 6) (v := .func (.func 98) #[.agg d] #[]) rfl (by kernel_rfl) (by kernel_rfl) (by kernel_rfl) (fun _ _ _ h => h) (Or.inl ⟨by rfl, ?_⟩) hH ?_
    · intro w1 hS; (try dsimp only at hS); go_simp
    (try simp only [List.getElem_toArray]); (try simp only [List.getElem_cons_succ]); (try simp only [List.getElem_cons_zero]); (try simp only [Act.put]); (try simp only [List.setIfInBounds_toArray]); (try simp only [List.set_cons_succ]); (try simp only [List.set_cons_zero])
    refine wpAnyH_ready (rs := [7]) (by kernel_rfl) (by simp) (AllReadyH.cons rfl (fun K hK => ?_) AllReadyH.nil)
    go_simp
    refine (CC _).mono ?_
    rintro x wx ⟨rfl, bx⟩
    go_simp
    refine hK.out _ _ (bnext hH bx hH.size) (fun hG => ?_)
    clear hK K hH bx
    replace hH := hG
    clear hG
    (try simp only [List.getElem_toArray]); (try simp only [List.getElem_cons_succ]); (try simp only [List.getElem_cons_zero]); (try simp only [Act.put]); (try simp only [List.setIfInBounds_toArray]); (try simp only [List.set_cons_succ]); (try simp only [List.set_cons_zero])
    refine wpAnyH_take (i := 8) (v := .bool true) rfl (by kernel_rfl) (by kernel_rfl) (by kernel_rfl) (fun _ _ _ h => h) (Or.inl ⟨by rfl, ?_⟩) hH ?_
    · intro w1 hS; (try dsimp only at hS); have hq := hq w1; go_simp
    (try simp only [List.getElem_toArray]); (try simp only [List.getElem_cons_succ]); (try simp only [List.getElem_cons_zero]); (try simp only [Act.put]); (try simp only [List.setIfInBounds_toArray]); (try simp only [List.set_cons_succ]); (try simp only [List.set_cons_zero])
    refine wpAnyH_take (i := 9) (v := .bool true) rfl (by kernel_rfl) (by kernel_rfl) (by kernel_rfl) (fun _ _ _ h => h) (Or.inl ⟨by rfl, ?_⟩) hH ?_
    · intro w1 hS; (try dsimp only at hS); go_simp
    (try simp only [List.getElem_toArray]); (try simp only [List.getElem_cons_succ]); (try simp only [List.getElem_cons_zero]); (try simp only [Act.put]); (try simp only [List.setIfInBounds_toArray]); (try simp only [List.set_cons_succ]); (try simp only [List.set_cons_zero])
    refine wpAnyH_take (i := 10) (v := .bool true) rfl (by kernel_rfl) (by kernel_rfl) (by kernel_rfl) (fun _ _ _ h => h) (Or.inl ⟨by rfl, ?_⟩) hH ?_
    · intro w1 hS; (try dsimp only at hS); go_simp
    (try simp only [List.getElem_toArray]); (try simp only [List.getElem_cons_succ]); (try simp only [List.getElem_cons_zero]); (try simp only [Act.put]); (try simp only [List.setIfInBounds_toArray]); (try simp only [List.set_cons_succ]); (try simp only [List.set_cons_zero])
    refine wpAnyH_done (by kernel_rfl) ?_ _
    have HB := bnext pB hH pB.size
    clear hH hq CC
    go_wp2_with fail
    go_ret
    exact ⟨rfl, HB⟩
  · have hq := fun W : World => run_equalIn_ints_f Tryd.underlying62 Tryd.underlying5 (by kernel_rfl) d X (fun i => (g i : Int)) (fun i => (f i : Int)) (fun i hi => hC.cell hi) (fun i hi => hXk.get hi) (fun h => hg (hiff.1 h)) 9998 W
    rw [Rf.cok_f hg]
    clear hiff hg hhe hwe
    go_enter Tryd.func73, Tryd.ntmps73
    go_wp2_with fail
    refine gen_world fun W hW => ?_
    rw [← hW] at q0 q1 pB
    clear hW
    refine wp_region_held_drew (S := fun w' => Below W.heap.size W w') (by kernel_rfl) ((Below.refl _ _).drew) (fun hH => ?_)
    refine wpAnyH_take (i := 0) (v := .agg c) rfl (by kernel_rfl) (by kernel_rfl) (by kernel_rfl) (fun _ _ _ h => h) (Or.inl ⟨by rfl, ?_⟩) hH ?_
    · intro w1 hS; (try dsimp only at hS); have s0 := brow hS q0; go_simp
    (try simp only [List.getElem_toArray]); (try simp only [List.getElem_cons_succ]); (try simp only [List.getElem_cons_zero]); (try simp only [Act.put]); (try simp only [List.setIfInBounds_toArray]); (try simp only [List.set_cons_succ]); (try simp only [List.set_cons_zero])
    refine wpAnyH_ready (rs := [1]) (by kernel_rfl) (by simp) (AllReadyH.cons rfl (fun K hK => ?_) AllReadyH.nil)
    go_simp
    refine (implValid_t c r _ hR ho).mono ?_
    rintro x wx ⟨rfl, bx⟩
    go_simp
    refine hK.out _ _ (bnext hH bx hH.size) (fun hG => ?_)
    clear hK K hH bx
    replace hH := hG
    clear hG
    (try simp only [List.getElem_toArray]); (try simp only [List.getElem_cons_succ]); (try simp only [List.getElem_cons_zero]); (try simp only [Act.put]); (try simp only [List.setIfInBounds_toArray]); (try simp only [List.set_cons_succ]); (try simp only [List.set_cons_zero])
    refine wpAnyH_take (i := 2) (v := .bool true) rfl (by kernel_rfl) (by kernel_rfl) (by kernel_rfl) (fun _ _ _ h => h) (Or.inl ⟨by rfl, ?_⟩) hH ?_
    · intro w1 hS; (try dsimp only at hS); go_simp
    (try simp only [List.getElem_toArray]); (try simp only [List.getElem_cons_succ]); (try simp only [List.getElem_cons_zero]); (try simp only [Act.put]); (try simp only [List.setIfInBounds_toArray]); (try simp only [List.set_cons_succ]); (try simp only [List.set_cons_zero])
    refine wpAnyH_take (i := 3) (v := .agg d) rfl (by kernel_rfl) (by kernel_rfl) (by kernel_rfl) (fun _ _ _ h => h) (Or.inl ⟨by rfl, ?_⟩) hH ?_
    · intro w1 hS; (try dsimp only at hS); have s1 := brow hS q1; go_simp
    (try simp only [List.getElem_toArray]); (try simp only [List.getElem_cons_succ]); (try simp only [List.getElem_cons_zero]); (try simp only [Act.put]); (try simp only [List.setIfInBounds_toArray]); (try simp only [List.set_cons_succ]); (try simp only [List.set_cons_zero])
    refine wpAnyH_take (i := 4) (v := .agg c) rfl (by kernel_rfl) (by kernel_rfl) (by kernel_rfl) (fun _ _ _ h => h) (Or.inl ⟨by rfl, ?_⟩) hH ?_
    · intro w1 hS; (try dsimp only at hS); have s0 := brow hS q0; go_simp
    (try simp only [List.getElem_toArray]); (try simp only [List.getElem_cons_succ]); (try simp only [List.getElem_cons_zero]); (try simp only [Act.put]); (try simp only [List.setIfInBounds_toArray]); (try simp only [List.set_cons_succ]); (try simp only [List.set_cons_zero])
    refine wpAnyH_take (i := 5) (v := .agg d) rfl (by kernel_rfl) (by kernel_rfl) (by kernel_rfl) (fun _ _ _ h => h) (Or.inl ⟨by rfl, ?_⟩) hH ?_
    · intro w1 hS; (try dsimp only at hS); have s1 := brow hS q1; go_simp
    (try simp only [List.getElem_toArray]); (try simp only [List.getElem_cons_succ]); (try simp only [List.getElem_cons_zero]); (try simp only [Act.put]); (try simp only [List.setIfInBounds_toArray]); (try simp only [List.set_cons_succ]); (try simp only [List.set_cons_zero])
    refine wpAnyH_take (i := 6) (v := .func (.func 98) #[.agg d] #[]) rfl (by kernel_rfl) (by kernel_rfl) (by kernel_rfl) (fun _ _ _ h => h) (Or.inl ⟨by rfl, ?_⟩) hH ?_
    · intro w1 hS; (try dsimp only at hS); go_simp
    (try simp only [List.getElem_toArray]); (try simp only [List.getElem_cons_succ]); (try simp only [List.getElem_cons_zero]); (try simp only [Act.put]); (try simp only [List.setIfInBounds_toArray]); (try simp only [List.set_cons_succ]); (try simp only [List.set_cons_zero])
    refine wpAnyH_ready (rs := [7]) (by kernel_rfl) (by simp) (AllReadyH.cons rfl (fun K hK => ?_) AllReadyH.nil)
    go_simp
    refine (CC _).mono ?_
    rintro x wx ⟨rfl, bx⟩
    go_simp
    refine hK.out _ _ (bnext hH bx hH.size) (fun hG => ?_)
    clear hK K hH bx
    replace hH := hG
    clear hG
    (try simp only [List.getElem_toArray]); (try simp only [List.getElem_cons_succ]); (try simp only [List.getElem_cons_zero]); (try simp only [Act.put]); (try simp only [List.setIfInBounds_toArray]); (try simp only [List.set_cons_succ]); (try simp only [List.set_cons_zero])
    refine wpAnyH_take (i := 8) (v := .bool false) rfl (by kernel_rfl) (by kernel_rfl) (by kernel_rfl) (fun _ _ _ h => h) (Or.inl ⟨by rfl, ?_⟩) hH ?_
    · intro w1 hS; (try dsimp only at hS); have hq := hq w1; go_simp
    (try simp only [List.getElem_toArray]); (try simp only [List.getElem_cons_succ]); (try simp only [List.getElem_cons_zero]); (try simp only [Act.put]); (try simp only [List.setIfInBounds_toArray]); (try simp only [List.set_cons_succ]); (try simp only [List.set_cons_zero])
    refine wpAnyH_take (i := 9) (v := .bool false) rfl (by kernel_rfl) (by kernel_rfl) (by kernel_rfl) (fun _ _ _ h => h) (Or.inl ⟨by rfl, ?_⟩) hH ?_
    · intro w1 hS; (try dsimp only at hS); go_simp
    (try simp only [List.getElem_toArray]); (try simp only [List.getElem_cons_succ]); (try simp only [List.getElem_cons_zero]); (try simp only [Act.put]); (try simp only [List.setIfInBounds_toArray]); (try simp only [List.set_cons_succ]); (try simp only [List.set_cons_zero])
    refine wpAnyH_take (i := 10) (v := .bool false) rfl (by kernel_rfl) (by kernel_rfl) (by kernel_rfl) (fun _ _ _ h => h) (Or.inl ⟨by rfl, ?_⟩) hH ?_
    · intro w1 hS; (try dsimp only at hS); go_simp
    (try simp only [List.getElem_toArray]); (try simp only [List.getElem_cons_succ]); (try simp only [List.getElem_cons_zero]); (try simp only [Act.put]); (try simp only [List.setIfInBounds_toArray]); (try simp only [List.set_cons_succ]); (try simp only [List.set_cons_zero])
    refine wpAnyH_done (by kernel_rfl) ?_ _
    have HB := bnext pB hH pB.size
    clear hH hq CC
    go_wp2_with fail
    go_ret
    exact ⟨rfl, HB⟩

theorem implValidColours_any (c d : Array Value) (r : Rf) (g : Nat → Nat) (w : World) (hR : IsRoof c r) (hC : IsCol d g) :
    Calls Tryd.prog 73 #[.agg c, .agg d] w fun e w' => e = .returned (.bool (r.cok g)) ∧ Below w.heap.size w w' := by
  by_cases ho : r.Ok
  · exact implValidCol_yes c d r g w hR hC ho
  · rw [Rf.cok_f fun h => ho h.1]
    exact implValidCol_no c d r w hR ho
theorem implValidCol_t (c d : Array Value) (r : Rf) (g : Nat → Nat) (w : World) (hR : IsRoof c r) (hC : IsCol d g) (h : r.Cols g) :
    Calls Tryd.prog 73 #[.agg c, .agg d] w fun e w' => e = .returned (.bool true) ∧ Below w.heap.size w w' := by
  have := implValidColours_any c d r g w hR hC; rwa [Rf.cok_t h] at this
theorem implValidCol_f (c d : Array Value) (r : Rf) (g : Nat → Nat) (w : World) (hR : IsRoof c r) (hC : IsCol d g) (h : ¬ r.Cols g) :
    Calls Tryd.prog 73 #[.agg c, .agg d] w fun e w' => e = .returned (.bool false) ∧ Below w.heap.size w w' := by
  have := implValidColours_any c d r g w hR hC; rwa [Rf.cok_f h] at this
end Go.Proofs.YtppohghejhcilaaDoor
