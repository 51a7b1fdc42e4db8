/- MakePattern: both sides. -/
import Derived.Test.YtcdddngdjhjdbaaDoorPat
import Derived.Test.YtcdddngdjhjdbaaDoorSpecB
import Derived.Test.YtcdddngdjhjdbaaDoorImplB
import Derived.Test.YtcdddngdjhjdbaaDoorOuts
namespace Go.Proofs.YtcdddngdjhjdbaaDoor
open Go.RowKit

/-- The code of a roof, a word and a step; the colours of a word. -/
noncomputable def Rf.mkpC (r : Rf) (s : ByteArray) (y : Int) : Int := if r.ok = true ∧ wordB s = true then (if 0 ≤ y ∧ y ≤ 12 then 0 else 2) else 1
noncomputable def Rf.mkpG (r : Rf) (s : ByteArray) (y : Int) : Nat → Nat := if r.mkpC s y = 0 then colL (patB s y.toNat) (plUpto r.h.toNat r.w.toNat (r.h.toNat * r.w.toNat)) else fun _ => 0
theorem mkpC_ok {r : Rf} {s : ByteArray} {y : Int} (h : r.Ok) (hw : wordB s = true) (hy : 0 ≤ y ∧ y ≤ 12) : r.mkpC s y = 0 := by
  unfold Rf.mkpC; rw [if_pos ⟨Rf.ok_true h, hw⟩, if_pos hy]
theorem mkpC_rng {r : Rf} {s : ByteArray} {y : Int} (h : r.Ok) (hw : wordB s = true) (hy : ¬ (0 ≤ y ∧ y ≤ 12)) : r.mkpC s y = 2 := by
  unfold Rf.mkpC; rw [if_pos ⟨Rf.ok_true h, hw⟩, if_neg hy]
theorem mkpC_bad {r : Rf} {s : ByteArray} {y : Int} (h : ¬ (r.Ok ∧ wordB s = true)) : r.mkpC s y = 1 := by
  unfold Rf.mkpC; rw [if_neg fun h2 => h ⟨Rf.Ok_of h2.1, h2.2⟩]
theorem mkpG_no {r : Rf} {s : ByteArray} {y : Int} (h : r.mkpC s y ≠ 0) : r.mkpG s y = fun _ => 0 := if_neg h
theorem mkpG_ok {r : Rf} {s : ByteArray} {y : Int} (h : r.mkpC s y = 0) : r.mkpG s y = colL (patB s y.toNat) (plUpto r.h.toNat r.w.toNat (r.h.toNat * r.w.toNat)) := if_pos h
theorem mkpG_lt {r : Rf} {s : ByteArray} {y : Int} : ∀ i, i < 8 → r.mkpG s y i < 256 := fun i _ => by
  by_cases h : r.mkpC s y = 0
  · rw [mkpG_ok h]
    refine colL_lt ?_ _ i
    by_cases ho : r.Ok
    · have := ho.2.1; omega
    · rw [mkpC_bad (fun h2 => ho h2.1)] at h; cases h
  · rw [mkpG_no h]; show 0 < 256; omega
theorem word_size {s : ByteArray} (h : wordB s = true) : 1 ≤ s.size ∧ s.size ≤ 12 := by
  rcases Classical.em (1 ≤ s.size ∧ s.size ≤ 12) with h2 | h2
  · exact h2
  · rw [word_f h2] at h; cases h

set_option maxRecDepth 100000 in
set_option maxHeartbeats 2000000 in
theorem implMakePattern_any (c : Array Value) (r : Rf) (s : ByteArray) (y : Int) (w : World) (hR : IsRoof c r) (hs : s.size ≤ 2000000) (X : Array Value) (hX : mkC (r.mkpG s y) = X) :
    Calls Tryd.prog 21 #[.agg c, .string s, .int .i64 y] w fun e w' => e = .returned (.tuple #[.agg X, .int .i64 (r.mkpC s y)]) ∧ Below w.heap.size w w' := by
  have hc := hR.size
  have hXs : X.size = 8 := by rw [← hX]; exact size_mkI _ _ _
  have hXo : Ones X := by rw [← hX]; exact (isK_mkI _ _ _).ones
  have hz : (#[.int .u8 0, .int .u8 0, .int .u8 0, .int .u8 0, .int .u8 0, .int .u8 0, .int .u8 0, .int .u8 0] : Array Value) = mkC (fun _ => 0) := by kernel_rfl
  have hzo : Ones (#[.int .u8 0, .int .u8 0, .int .u8 0, .int .u8 0, .int .u8 0, .int .u8 0, .int .u8 0, .int .u8 0] : Array Value) := by rw [hz]; exact (isK_mkI _ _ _).ones
  have HZ := Lib.hid hz
  have zs : (mkC (fun _ => 0)).size = 8 := size_mkI _ _ _
  clear hz
  by_cases h : r.Ok
  · have CW := fun W => validWord_any s W (by omega)
    cases hw : wordB s with
    | true =>
      rw [hw] at CW
      by_cases hy : 0 ≤ y ∧ y ≤ 12
      · have hcd : r.mkpC s y = 0 := mkpC_ok h hw hy
        have ho : outB y 0 12 = false := by simp [outB]; omega
        rw [hcd]
        rw [mkpG_ok hcd] at hX
        have hsz := word_size hw
        obtain ⟨st, hst⟩ := Int.eq_ofNat_of_zero_le hy.1
        have hst12 : st ≤ 12 := by omega
        obtain ⟨hh, hhe⟩ : ∃ hh : Nat, r.h = hh := Int.eq_ofNat_of_zero_le (by have := h.2.2.1; omega)
        obtain ⟨ww, hwe⟩ : ∃ ww : Nat, r.w = ww := Int.eq_ofNat_of_zero_le (by have := h.1; omega)
        have h8 : hh ≤ 8 := by have := h.2.2.2.1; omega
        have w8 : ww ≤ 8 := by have := h.2.1; omega
        rw [show r.h.toNat = hh by omega, show r.w.toNat = ww by omega, show y.toNat = st by omega] at hX
        have CC := fun W => colour_any 66 #[.agg #[toldV s, .int .i64 st]] #[] (patB s st) (enters_of Tryd.func66 (by kernel_rfl) rfl) c r hh ww hhe hwe h8 w8 W hR (patB_pred s st W hsz hst12) X hX
        unfold toldV at CC
        have CO := fun W => isOutside_any y 0 12 W
        rw [ho] at CO
        have CV := fun W => implValid_t c r W hR h
        subst hst
        clear hX hw hy ho hcd hhe hwe h
        go_enter Tryd.func21, Tryd.ntmps21
        go_wp2_with fail
        refine gen_callsW fun W hW => ?_
        have p0 : rowAt W w.heap.size = some c := by rw [hW]; exact (rowAt_alloc_past _ _ _ (by simp)).trans (rowAt_alloc_at _ _ _ _ rfl)
        have p2 : rowAt W (w.heap.size + 1) = some (mkC (fun _ => 0)) := by rw [hW, ← HZ.out]; exact rowAt_alloc_at _ _ _ _ (by simp)
        have pB : Below w.heap.size w W := by rw [hW]; exact ((Below.refl _ _).alloc (Nat.le_refl _) _).alloc (by simp) _
        clear hW
        refine (CV _).mono ?_
        rintro e w1 ⟨rfl, b1⟩
        have s10 := brow b1 p0
        have s12 := brow b1 p2
        have B1 := bnext pB b1 pB.size
        clear b1 p0 p2 pB CV
        go_wp2_with fail
        refine (CW _).mono ?_
        rintro e w2 ⟨rfl, b2⟩
        have s20 := brow b2 s10
        have s22 := brow b2 s12
        have B2 := bnext B1 b2 B1.size
        clear b2 s10 s12 B1 CW
        go_wp2_with fail
        refine (CO _).mono ?_
        rintro e w3 ⟨rfl, b3⟩
        have s30 := brow b3 s20
        have s32 := brow b3 s22
        have B3 := bnext B2 b3 B2.size
        clear b3 s20 s22 B2 CO
        go_wp2_with fail
        refine (CC _).mono ?_
        rintro e w4 ⟨rfl, b4⟩
        have s40 := brow b4 s30
        have s42 := brow b4 s32
        have B4 := bnext B3 b4 B3.size
        clear b4 s30 s32 B3 CC
        go_wp2_with fail
        have l2 := rowAt_lt s42
        refine bodyPost_ret (v := .tuple #[.agg X, .int .i64 0]) (results_row2 (m := 8) rfl _ _ (w.heap.size + 1) _ _ rfl rfl (rowAt_setRow_at _ _ _ (Option.isSome_iff_exists.2 ⟨_, s42⟩)) Tryd.underlying41 rfl (by kernel_rfl) hXs) rfl ⟨rfl, ?_⟩
        exact below_setRow B4 (by omega) _
      · have hcd : r.mkpC s y = 2 := mkpC_rng h hw hy
        have hFz : (#[.int .u8 0, .int .u8 0, .int .u8 0, .int .u8 0, .int .u8 0, .int .u8 0, .int .u8 0, .int .u8 0] : Array Value) = X := by rw [HZ.out, ← hX, mkpG_no (by rw [hcd]; decide)]
        rw [hcd]
        clear hX hcd
        have HFZ := Lib.hid hFz
        clear hFz
        have CO := fun W => isOutside_any y 0 12 W
        rw [show outB y 0 12 = true by simp [outB]; omega] at CO
        have CV := fun W => implValid_t c r W hR h
        clear h hw hy
        go_enter Tryd.func21, Tryd.ntmps21
        go_wp2_with fail
        refine gen_callsW fun W hW => ?_
        have p0 : rowAt W w.heap.size = some c := by rw [hW]; exact (rowAt_alloc_past _ _ _ (by simp)).trans (rowAt_alloc_at _ _ _ _ rfl)
        have p2 : rowAt W (w.heap.size + 1) = some (mkC (fun _ => 0)) := by rw [hW, ← HZ.out]; exact rowAt_alloc_at _ _ _ _ (by simp)
        have pB : Below w.heap.size w W := by rw [hW]; exact ((Below.refl _ _).alloc (Nat.le_refl _) _).alloc (by simp) _
        clear hW
        refine (CV _).mono ?_
        rintro e w1 ⟨rfl, b1⟩
        have s10 := brow b1 p0
        have s12 := brow b1 p2
        have B1 := bnext pB b1 pB.size
        clear b1 p0 p2 pB CV
        go_wp2_with fail
        refine (CW _).mono ?_
        rintro e w2 ⟨rfl, b2⟩
        have s20 := brow b2 s10
        have s22 := brow b2 s12
        have B2 := bnext B1 b2 B1.size
        clear b2 s10 s12 B1 CW
        go_wp2_with fail
        refine (CO _).mono ?_
        rintro e w3 ⟨rfl, b3⟩
        have s30 := brow b3 s20
        have s32 := brow b3 s22
        have B3 := bnext B2 b3 B2.size
        clear b3 s20 s22 B2 CO
        go_wp2_with fail
        have l2 := rowAt_lt s32
        refine bodyPost_ret (v := .tuple #[.agg X, .int .i64 2]) (results_row2 (m := 8) rfl _ _ (w.heap.size + 1) _ _ rfl rfl (by rw [← HFZ.out]; exact rowAt_setRow_at _ _ _ (Option.isSome_iff_exists.2 ⟨_, s32⟩)) Tryd.underlying41 rfl (by kernel_rfl) hXs) rfl ⟨rfl, ?_⟩
        exact below_setRow B3 (by omega) _
    | false =>
      rw [hw] at CW
      have hcd : r.mkpC s y = 1 := mkpC_bad (fun h2 => by rw [hw] at h2; cases h2.2)
      have hFz : (#[.int .u8 0, .int .u8 0, .int .u8 0, .int .u8 0, .int .u8 0, .int .u8 0, .int .u8 0, .int .u8 0] : Array Value) = X := by rw [HZ.out, ← hX, mkpG_no (by rw [hcd]; decide)]
      rw [hcd]
      clear hX hcd
      have HFZ := Lib.hid hFz
      clear hFz
      have CV := fun W => implValid_t c r W hR h
      clear h hw
      go_enter Tryd.func21, Tryd.ntmps21
      go_wp2_with fail
      refine gen_callsW fun W hW => ?_
      have p0 : rowAt W w.heap.size = some c := by rw [hW]; exact (rowAt_alloc_past _ _ _ (by simp)).trans (rowAt_alloc_at _ _ _ _ rfl)
      have p2 : rowAt W (w.heap.size + 1) = some (mkC (fun _ => 0)) := by rw [hW, ← HZ.out]; exact rowAt_alloc_at _ _ _ _ (by simp)
      have pB : Below w.heap.size w W := by rw [hW]; exact ((Below.refl _ _).alloc (Nat.le_refl _) _).alloc (by simp) _
      clear hW
      refine (CV _).mono ?_
      rintro e w1 ⟨rfl, b1⟩
      have s10 := brow b1 p0
      have s12 := brow b1 p2
      have B1 := bnext pB b1 pB.size
      clear b1 p0 p2 pB CV
      go_wp2_with fail
      refine (CW _).mono ?_
      rintro e w2 ⟨rfl, b2⟩
      have s20 := brow b2 s10
      have s22 := brow b2 s12
      have B2 := bnext B1 b2 B1.size
      clear b2 s10 s12 B1 CW
      go_wp2_with fail
      have l2 := rowAt_lt s22
      refine bodyPost_ret (v := .tuple #[.agg X, .int .i64 1]) (results_row2 (m := 8) rfl _ _ (w.heap.size + 1) _ _ rfl rfl (by rw [← HFZ.out]; exact rowAt_setRow_at _ _ _ (Option.isSome_iff_exists.2 ⟨_, s22⟩)) Tryd.underlying41 rfl (by kernel_rfl) hXs) rfl ⟨rfl, ?_⟩
      exact below_setRow B2 (by omega) _
  · have hcd : r.mkpC s y = 1 := mkpC_bad (fun h2 => h h2.1)
    have hFz : (#[.int .u8 0, .int .u8 0, .int .u8 0, .int .u8 0, .int .u8 0, .int .u8 0, .int .u8 0, .int .u8 0] : Array Value) = X := by rw [HZ.out, ← hX, mkpG_no (by rw [hcd]; decide)]
    rw [hcd]
    clear hX hcd
    have HFZ := Lib.hid hFz
    clear hFz
    have CV := fun W => implValid_f c r W hR h
    clear h
    go_enter Tryd.func21, Tryd.ntmps21
    go_wp2_with fail
    refine gen_callsW fun W hW => ?_
    have p0 : rowAt W w.heap.size = some c := by rw [hW]; exact (rowAt_alloc_past _ _ _ (by simp)).trans (rowAt_alloc_at _ _ _ _ rfl)
    have p2 : rowAt W (w.heap.size + 1) = some (mkC (fun _ => 0)) := by rw [hW, ← HZ.out]; exact rowAt_alloc_at _ _ _ _ (by simp)
    have pB : Below w.heap.size w W := by rw [hW]; exact ((Below.refl _ _).alloc (Nat.le_refl _) _).alloc (by simp) _
    clear hW
    refine (CV _).mono ?_
    rintro e w1 ⟨rfl, b1⟩
    have s10 := brow b1 p0
    have s12 := brow b1 p2
    have B1 := bnext pB b1 pB.size
    clear b1 p0 p2 pB CV
    go_wp2_with fail
    have l2 := rowAt_lt s12
    refine bodyPost_ret (v := .tuple #[.agg X, .int .i64 1]) (results_row2 (m := 8) rfl _ _ (w.heap.size + 1) _ _ rfl rfl (by rw [← HFZ.out]; exact rowAt_setRow_at _ _ _ (Option.isSome_iff_exists.2 ⟨_, s12⟩)) Tryd.underlying41 rfl (by kernel_rfl) hXs) rfl ⟨rfl, ?_⟩
    exact below_setRow B1 (by omega) _

set_option maxRecDepth 100000 in
set_option maxHeartbeats 2000000 in
theorem specMakePattern_any (c : Array Value) (r : Rf) (s : ByteArray) (y : Int) (w : World) (hR : IsRoof c r) (hs : s.size ≤ 2000000) (X : Array Value) (hX : mkC (r.mkpG s y) = X) :
    Calls Tryd.prog 20 #[.agg c, .string s, .int .i64 y] w fun e w' => e = .returned (.tuple #[.agg X, .int .i64 (r.mkpC s y)]) ∧ Below w.heap.size w w' := by
  have hc := hR.size
  have hXs : X.size = 8 := by rw [← hX]; exact size_mkI _ _ _
  have hXo : Ones X := by rw [← hX]; exact (isK_mkI _ _ _).ones
  have hz : (#[.int .u8 0, .int .u8 0, .int .u8 0, .int .u8 0, .int .u8 0, .int .u8 0, .int .u8 0, .int .u8 0] : Array Value) = mkC (fun _ => 0) := by kernel_rfl
  have hzo : Ones (#[.int .u8 0, .int .u8 0, .int .u8 0, .int .u8 0, .int .u8 0, .int .u8 0, .int .u8 0, .int .u8 0] : Array Value) := by rw [hz]; exact (isK_mkI _ _ _).ones
  have HZ := Lib.hid hz
  have zs : (mkC (fun _ => 0)).size = 8 := size_mkI _ _ _
  clear hz
  by_cases h : r.Ok
  · have CW := fun W => (l07Word_any s W (by omega)).mono (fun e w' (h : e = .returned (.bool (wordB s)) ∧ W = w') => (show e = .returned (.bool (wordB s)) ∧ Below W.heap.size W w' from ⟨h.1, h.2 ▸ Below.refl _ _⟩))
    cases hw : wordB s with
    | true =>
      rw [hw] at CW
      by_cases hy : 0 ≤ y ∧ y ≤ 12
      · have hcd : r.mkpC s y = 0 := mkpC_ok h hw hy
        rw [hcd]
        rw [mkpG_ok hcd] at hX
        have hsz := word_size hw
        obtain ⟨st, hst⟩ := Int.eq_ofNat_of_zero_le hy.1
        have hst12 : st ≤ 12 := by omega
        obtain ⟨hh, hhe⟩ : ∃ hh : Nat, r.h = hh := Int.eq_ofNat_of_zero_le (by have := h.2.2.1; omega)
        obtain ⟨ww, hwe⟩ : ∃ ww : Nat, r.w = ww := Int.eq_ofNat_of_zero_le (by have := h.1; omega)
        have h8 : hh ≤ 8 := by have := h.2.2.2.1; omega
        have w8 : ww ≤ 8 := by have := h.2.1; omega
        rw [show r.h.toNat = hh by omega, show r.w.toNat = ww by omega, show y.toNat = st by omega] at hX
        have CC := fun W H0 => l07Make_any w.heap.size c r s st hh ww hhe hwe h8 w8 W H0 hR hsz hst12 X hX
        have CO := fun W => (l00In_any y 0 12 W).mono (fun e w' (h : e = .returned (.bool (inB y 0 12)) ∧ W = w') => (show e = .returned (.bool (inB y 0 12)) ∧ Below W.heap.size W w' from ⟨h.1, h.2 ▸ Below.refl _ _⟩))
        rw [inB_true hy] at CO
        have CV := fun W H0 => l01Ok_t w.heap.size c r W H0 hR h
        subst hst
        clear hX hw hy hcd hhe hwe h
        go_enter Tryd.func20, Tryd.ntmps20
        go_wp2_with fail
        refine gen_callsW fun W hW => ?_
        have p0 : rowAt W w.heap.size = some c := by rw [hW]; exact (rowAt_alloc_past _ _ _ (by simp)).trans (rowAt_alloc_at _ _ _ _ rfl)
        have p2 : rowAt W (w.heap.size + 1) = some (mkC (fun _ => 0)) := by rw [hW, ← HZ.out]; exact rowAt_alloc_at _ _ _ _ (by simp)
        have pB : Below w.heap.size w W := by rw [hW]; exact ((Below.refl _ _).alloc (Nat.le_refl _) _).alloc (by simp) _
        clear hW
        refine (CV _ p0).mono ?_
        rintro e w1 ⟨rfl, b1⟩
        have s10 := brow b1 p0
        have s12 := brow b1 p2
        have B1 := bnext pB b1 pB.size
        clear b1 p0 p2 pB CV
        go_wp2_with fail
        refine (CW _).mono ?_
        rintro e w2 ⟨rfl, b2⟩
        have s20 := brow b2 s10
        have s22 := brow b2 s12
        have B2 := bnext B1 b2 B1.size
        clear b2 s10 s12 B1 CW
        go_wp2_with fail
        refine (CO _).mono ?_
        rintro e w3 ⟨rfl, b3⟩
        have s30 := brow b3 s20
        have s32 := brow b3 s22
        have B3 := bnext B2 b3 B2.size
        clear b3 s20 s22 B2 CO
        go_wp2_with fail
        refine (CC _ s30).mono ?_
        rintro e w4 ⟨rfl, b4⟩
        have s40 := brow b4 s30
        have s42 := brow b4 s32
        have B4 := bnext B3 b4 B3.size
        clear b4 s30 s32 B3 CC
        go_wp2_with fail
        have l2 := rowAt_lt s42
        refine bodyPost_ret (v := .tuple #[.agg X, .int .i64 0]) (results_row2 (m := 8) rfl _ _ (w.heap.size + 1) _ _ rfl rfl (rowAt_setRow_at _ _ _ (Option.isSome_iff_exists.2 ⟨_, s42⟩)) Tryd.underlying41 rfl (by kernel_rfl) hXs) rfl ⟨rfl, ?_⟩
        exact below_setRow B4 (by omega) _
      · have hcd : r.mkpC s y = 2 := mkpC_rng h hw hy
        have hFz : (#[.int .u8 0, .int .u8 0, .int .u8 0, .int .u8 0, .int .u8 0, .int .u8 0, .int .u8 0, .int .u8 0] : Array Value) = X := by rw [HZ.out, ← hX, mkpG_no (by rw [hcd]; decide)]
        rw [hcd]
        clear hX hcd
        have HFZ := Lib.hid hFz
        clear hFz
        have CO := fun W => (l00In_any y 0 12 W).mono (fun e w' (h : e = .returned (.bool (inB y 0 12)) ∧ W = w') => (show e = .returned (.bool (inB y 0 12)) ∧ Below W.heap.size W w' from ⟨h.1, h.2 ▸ Below.refl _ _⟩))
        rw [inB_false hy] at CO
        have CV := fun W H0 => l01Ok_t w.heap.size c r W H0 hR h
        clear h hw hy
        go_enter Tryd.func20, Tryd.ntmps20
        go_wp2_with fail
        refine gen_callsW fun W hW => ?_
        have p0 : rowAt W w.heap.size = some c := by rw [hW]; exact (rowAt_alloc_past _ _ _ (by simp)).trans (rowAt_alloc_at _ _ _ _ rfl)
        have p2 : rowAt W (w.heap.size + 1) = some (mkC (fun _ => 0)) := by rw [hW, ← HZ.out]; exact rowAt_alloc_at _ _ _ _ (by simp)
        have pB : Below w.heap.size w W := by rw [hW]; exact ((Below.refl _ _).alloc (Nat.le_refl _) _).alloc (by simp) _
        clear hW
        refine (CV _ p0).mono ?_
        rintro e w1 ⟨rfl, b1⟩
        have s10 := brow b1 p0
        have s12 := brow b1 p2
        have B1 := bnext pB b1 pB.size
        clear b1 p0 p2 pB CV
        go_wp2_with fail
        refine (CW _).mono ?_
        rintro e w2 ⟨rfl, b2⟩
        have s20 := brow b2 s10
        have s22 := brow b2 s12
        have B2 := bnext B1 b2 B1.size
        clear b2 s10 s12 B1 CW
        go_wp2_with fail
        refine (CO _).mono ?_
        rintro e w3 ⟨rfl, b3⟩
        have s30 := brow b3 s20
        have s32 := brow b3 s22
        have B3 := bnext B2 b3 B2.size
        clear b3 s20 s22 B2 CO
        go_wp2_with fail
        have l2 := rowAt_lt s32
        refine bodyPost_ret (v := .tuple #[.agg X, .int .i64 2]) (results_row2 (m := 8) rfl _ _ (w.heap.size + 1) _ _ rfl rfl (by rw [← HFZ.out]; exact rowAt_setRow_at _ _ _ (Option.isSome_iff_exists.2 ⟨_, s32⟩)) Tryd.underlying41 rfl (by kernel_rfl) hXs) rfl ⟨rfl, ?_⟩
        exact below_setRow B3 (by omega) _
    | false =>
      rw [hw] at CW
      have hcd : r.mkpC s y = 1 := mkpC_bad (fun h2 => by rw [hw] at h2; cases h2.2)
      have hFz : (#[.int .u8 0, .int .u8 0, .int .u8 0, .int .u8 0, .int .u8 0, .int .u8 0, .int .u8 0, .int .u8 0] : Array Value) = X := by rw [HZ.out, ← hX, mkpG_no (by rw [hcd]; decide)]
      rw [hcd]
      clear hX hcd
      have HFZ := Lib.hid hFz
      clear hFz
      have CV := fun W H0 => l01Ok_t w.heap.size c r W H0 hR h
      clear h hw
      go_enter Tryd.func20, Tryd.ntmps20
      go_wp2_with fail
      refine gen_callsW fun W hW => ?_
      have p0 : rowAt W w.heap.size = some c := by rw [hW]; exact (rowAt_alloc_past _ _ _ (by simp)).trans (rowAt_alloc_at _ _ _ _ rfl)
      have p2 : rowAt W (w.heap.size + 1) = some (mkC (fun _ => 0)) := by rw [hW, ← HZ.out]; exact rowAt_alloc_at _ _ _ _ (by simp)
      have pB : Below w.heap.size w W := by rw [hW]; exact ((Below.refl _ _).alloc (Nat.le_refl _) _).alloc (by simp) _
      clear hW
      refine (CV _ p0).mono ?_
      rintro e w1 ⟨rfl, b1⟩
      have s10 := brow b1 p0
      have s12 := brow b1 p2
      have B1 := bnext pB b1 pB.size
      clear b1 p0 p2 pB CV
      go_wp2_with fail
      refine (CW _).mono ?_
      rintro e w2 ⟨rfl, b2⟩
      have s20 := brow b2 s10
      have s22 := brow b2 s12
      have B2 := bnext B1 b2 B1.size
      clear b2 s10 s12 B1 CW
      go_wp2_with fail
      have l2 := rowAt_lt s22
      refine bodyPost_ret (v := .tuple #[.agg X, .int .i64 1]) (results_row2 (m := 8) rfl _ _ (w.heap.size + 1) _ _ rfl rfl (by rw [← HFZ.out]; exact rowAt_setRow_at _ _ _ (Option.isSome_iff_exists.2 ⟨_, s22⟩)) Tryd.underlying41 rfl (by kernel_rfl) hXs) rfl ⟨rfl, ?_⟩
      exact below_setRow B2 (by omega) _
  · have hcd : r.mkpC s y = 1 := mkpC_bad (fun h2 => h h2.1)
    have hFz : (#[.int .u8 0, .int .u8 0, .int .u8 0, .int .u8 0, .int .u8 0, .int .u8 0, .int .u8 0, .int .u8 0] : Array Value) = X := by rw [HZ.out, ← hX, mkpG_no (by rw [hcd]; decide)]
    rw [hcd]
    clear hX hcd
    have HFZ := Lib.hid hFz
    clear hFz
    have CV := fun W H0 => l01Ok_f w.heap.size c r W H0 hR h
    clear h
    go_enter Tryd.func20, Tryd.ntmps20
    go_wp2_with fail
    refine gen_callsW fun W hW => ?_
    have p0 : rowAt W w.heap.size = some c := by rw [hW]; exact (rowAt_alloc_past _ _ _ (by simp)).trans (rowAt_alloc_at _ _ _ _ rfl)
    have p2 : rowAt W (w.heap.size + 1) = some (mkC (fun _ => 0)) := by rw [hW, ← HZ.out]; exact rowAt_alloc_at _ _ _ _ (by simp)
    have pB : Below w.heap.size w W := by rw [hW]; exact ((Below.refl _ _).alloc (Nat.le_refl _) _).alloc (by simp) _
    clear hW
    refine (CV _ p0).mono ?_
    rintro e w1 ⟨rfl, b1⟩
    have s10 := brow b1 p0
    have s12 := brow b1 p2
    have B1 := bnext pB b1 pB.size
    clear b1 p0 p2 pB CV
    go_wp2_with fail
    have l2 := rowAt_lt s12
    refine bodyPost_ret (v := .tuple #[.agg X, .int .i64 1]) (results_row2 (m := 8) rfl _ _ (w.heap.size + 1) _ _ rfl rfl (by rw [← HFZ.out]; exact rowAt_setRow_at _ _ _ (Option.isSome_iff_exists.2 ⟨_, s12⟩)) Tryd.underlying41 rfl (by kernel_rfl) hXs) rfl ⟨rfl, ?_⟩
    exact below_setRow B1 (by omega) _
end Go.Proofs.YtcdddngdjhjdbaaDoor
