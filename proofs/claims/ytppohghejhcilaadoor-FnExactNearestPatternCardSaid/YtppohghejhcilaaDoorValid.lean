/- Valid roofs: the model's and the program's answer. -/
import Derived.Test.YtppohghejhcilaaDoorSpecA
import Derived.Test.YtppohghejhcilaaDoorEq
namespace Go.Proofs.YtppohghejhcilaaDoor
open Go.RowKit

def rowFine (t : Nat → Int) (wide : Int) (k : Nat) : Prop := t k ≤ 3 ∧ ((k : Int) < wide ∨ t k = 0)
open Classical in
noncomputable def rowB (t : Nat → Int) (wide : Int) : Bool := decide (∀ k, k < 8 → rowFine t wide k)
theorem rowB_true {t : Nat → Int} {wide : Int} (h : ∀ k, k < 8 → rowFine t wide k) : rowB t wide = true := by simpa [rowB] using h
theorem rowB_false {t : Nat → Int} {wide : Int} {k : Nat} (hk : k < 8) (h : ¬ rowFine t wide k) : rowB t wide = false := by
  simp only [rowB, decide_eq_false_iff_not]; intro g; exact h (g k hk)

set_option maxHeartbeats 400000 in
theorem validRow_any (xs : Array Value) (t : Nat → Int) (wide : Int) (w : World) (hX : IsU8 xs 8 t) (hw : -128 ≤ wide ∧ wide ≤ 127) :
    Calls Tryd.prog 87 #[.agg xs, .int .i8 wide] w fun e w' => e = .returned (.bool (rowB t wide)) ∧ Below w.heap.size w w' := by
  have hx := hX.size
  have H := Lib.hid hX; clear hX
  go_enter Tryd.func87, Tryd.ntmps87
  go_wp2_with fail
  go_loopw [8] (fun i W => ∃ k : Nat, k ≤ 8 ∧ i = .int .i64 k ∧ Hid (∀ j, j < k → rowFine t wide j) ∧ Below w.heap.size w W) (fun i _ => 8 - (intOf i).toNat)
  case atStart => exact ⟨0, by omega, rfl, Lib.hid (by omega), (Below.refl _ _).alloc (Nat.le_refl _) _⟩
  case round =>
    obtain ⟨k, hk, rfl, hf, hB⟩ := hrel
    by_cases hlt : k < 8
    · have hk1 : k < xs.size := by omega
      have h0 := H.out.cell k hk1
      have b0 := H.out.lo k hlt
      have b1 := H.out.hi k hlt
      by_cases h3 : t k ≤ 3
      · by_cases hw : (k : Int) < wide
        · go_wp2_with fail
          refine ⟨⟨k + 1, by omega, by go_num, Lib.hid ?_, hB⟩, by simp [intOf]; omega⟩
          intro j hj
          by_cases hjk : j < k
          · exact hf.out j hjk
          · obtain rfl : j = k := by omega
            exact ⟨h3, .inl hw⟩
        · by_cases hz : t k = 0
          · have hzb : (t k != 0) = false := by simpa using hz
            go_wp2_with fail
            refine ⟨⟨k + 1, by omega, by go_num, Lib.hid ?_, hB⟩, by simp [intOf]; omega⟩
            intro j hj
            by_cases hjk : j < k
            · exact hf.out j hjk
            · obtain rfl : j = k := by omega
              exact ⟨h3, .inr hz⟩
          · have hzb : (t k != 0) = true := by simpa using hz
            go_wp2_with fail
            go_ret
            refine ⟨?_, hB⟩
            rw [rowB_false hlt (fun g => by rcases g.2 with g | g <;> omega)]
            rfl
      · go_wp2_with fail
        go_ret
        refine ⟨?_, hB⟩
        rw [rowB_false hlt (fun g => by have := g.1; omega)]
        rfl
    · go_wp2_with fail
      go_ret
      refine ⟨?_, hB⟩
      rw [rowB_true fun i hi => hf.out i (by omega)]
      rfl

set_option maxHeartbeats 400000 in
theorem implValidRoof_no (c : Array Value) (r : Rf) (w : World) (hR : IsRoof c r) (hno : r.w < 1 ∨ 8 < r.w ∨ r.h < 1 ∨ 8 < r.h ∨ 1 < r.s) :
    Calls Tryd.prog 59 #[.agg c] w fun e w' => e = .returned (.bool false) ∧ Below w.heap.size w w' := by
  obtain ⟨hc, k0, k1, k2, w0, w1, h0, h1, s0, s1⟩ := hR.view
  clear hR
  by_cases a1 : r.w < 1
  · go_enter Tryd.func59, Tryd.ntmps59
    go_wp2_with fail
    go_ret
    exact ⟨rfl, (Below.refl _ _).alloc (Nat.le_refl _) _⟩
  by_cases a2 : 8 < r.w
  · go_enter Tryd.func59, Tryd.ntmps59
    go_wp2_with fail
    go_ret
    exact ⟨rfl, (Below.refl _ _).alloc (Nat.le_refl _) _⟩
  by_cases a3 : r.h < 1
  · go_enter Tryd.func59, Tryd.ntmps59
    go_wp2_with fail
    go_ret
    exact ⟨rfl, (Below.refl _ _).alloc (Nat.le_refl _) _⟩
  by_cases a4 : 8 < r.h
  · go_enter Tryd.func59, Tryd.ntmps59
    go_wp2_with fail
    go_ret
    exact ⟨rfl, (Below.refl _ _).alloc (Nat.le_refl _) _⟩
  · have a5 : 1 < r.s := by omega
    go_enter Tryd.func59, Tryd.ntmps59
    go_wp2_with fail
    go_ret
    exact ⟨rfl, (Below.refl _ _).alloc (Nat.le_refl _) _⟩

theorem fine_of_row {r : Rf} {k j : Nat} (hj : j < 8) (hk : (k : Int) < r.h) : rowFine (fun j => r.t (k * 8 + j)) r.w j ↔ r.fine (k * 8 + j) := by
  unfold rowFine Rf.fine
  rw [show (k * 8 + j) / 8 = k from by omega, show (k * 8 + j) % 8 = j from by omega]
  constructor
  · rintro ⟨a, b⟩; exact ⟨a, b.imp (fun h => ⟨hk, h⟩) id⟩
  · rintro ⟨a, b⟩; exact ⟨a, b.imp (fun h => h.2) id⟩
theorem fine_upto {r : Rf} {k : Nat} (hf : ∀ j, j < k * 8 → r.fine j) (hr : ∀ j, j < 8 → r.fine (k * 8 + j)) : ∀ j, j < (k + 1) * 8 → r.fine j := by
  intro j hj
  by_cases h : j < k * 8
  · exact hf j h
  · have := hr (j - k * 8) (by omega)
    rwa [show k * 8 + (j - k * 8) = j from by omega] at this

set_option maxHeartbeats 1000000 in
theorem implValidRoof_h8 (c : Array Value) (r : Rf) (w : World) (hR : IsRoof c r) (a1 : 1 ≤ r.w) (a2 : r.w ≤ 8) (a5 : r.s ≤ 1) (hhe : r.h = 8) :
    Calls Tryd.prog 59 #[.agg c] w fun e w' => e = .returned (.bool r.ok) ∧ Below w.heap.size w w' := by
  obtain ⟨hc, k0, k1, k2, w0, w1, h0, h1, s0, s1⟩ := hR.view
  have H := Lib.hid hR; clear hR
  have HH := Lib.hid hhe
  have hb1 : decide (r.w < 1) = false := by simp; omega
  have hb2 : decide (8 < r.w) = false := by simp; omega
  have hb5 : decide (1 < r.s) = false := by simp; omega
  rw [hhe] at k1
  clear hhe h0 h1
  go_enter Tryd.func59, Tryd.ntmps59
  go_wp2_with fail
  go_loopw [35] (fun i W => ∃ k : Nat, k ≤ 8 ∧ i = .int .i64 k ∧ Hid (∀ j, j < k * 8 → r.fine j) ∧ rowAt W w.heap.size = some c ∧ Below w.heap.size w W) (fun i _ => 8 - (intOf i).toNat)
  case atStart => exact ⟨0, by omega, rfl, Lib.hid (by omega), rowAt_alloc_at _ _ _ _ rfl, (Below.refl _ _).alloc (Nat.le_refl _) _⟩
  case round =>
    obtain ⟨k, hk, rfl, hf, r0, hB⟩ := hrel
    have hcell := cell_of_rowAt r0
    have hn := rowAt_lt r0
    by_cases hlt : k < 8
    · have hk8 : 3 + k * 8 + 8 ≤ 67 := by omega
      have hs8 : (c.extract (3 + k * 8) (3 + k * 8 + 8)).size = 8 := by simp; omega
      have ho8 : Ones (c.extract (3 + k * 8) (3 + k * 8 + 8)) := H.out.ones.extract _ _
      have hkh : (k : Int) < r.h := by have := HH.out; omega
      go_wp2_with fail
      refine (validRow_any _ _ _ _ (H.out.row k (by omega)) (by omega)).mono ?_
      rintro e w1 ⟨rfl, hb⟩
      have hB1 : Below w.heap.size w w1 := (hB.alloc hB.size _).trans (hb.mono (by simp; have := hB.size; omega))
      have r1 := brow' hb (by simp; omega) ((rowAt_alloc_past _ _ _ hn).trans r0)
      clear hb hcell
      by_cases hg : ∀ j, j < 8 → rowFine (fun j => r.t (k * 8 + j)) r.w j
      · rw [rowB_true hg]
        have HG := Lib.hid hg; clear hg
        go_wp2_with fail
        refine ⟨⟨k + 1, by omega, by go_num, Lib.hid (fine_upto hf.out fun j hj => (fine_of_row hj hkh).1 (HG.out j hj)), r1, hB1⟩, by simp [intOf]; omega⟩
      · obtain ⟨j, hj⟩ := Classical.not_forall.1 hg
        obtain ⟨hj8, hj⟩ := Classical.not_imp.1 hj
        rw [rowB_false hj8 hj]
        clear hg
        go_wp2_with fail
        go_ret
        refine ⟨?_, hB1⟩
        rw [Rf.ok_false fun ok => hj ((fine_of_row hj8 hkh).2 (ok.2.2.2.2.2 _ (by omega)))]
        rfl
    · obtain rfl : k = 8 := by omega
      go_wp2_with fail
      refine wp_loop_rounds 1 ?_
      rw [rounds_succ]
      go_wp2_with fail
      go_ret
      refine ⟨?_, hB⟩
      rw [Rf.ok_true ⟨a1, a2, by have := HH.out; omega, by have := HH.out; omega, a5, hf.out⟩]
      rfl

set_option maxHeartbeats 1000000 in
theorem implValidRoof_lt (c : Array Value) (r : Rf) (w : World) (hR : IsRoof c r) (a1 : 1 ≤ r.w) (a2 : r.w ≤ 8) (a5 : r.s ≤ 1) (hh : Nat) (hhe : r.h = hh) (hl2 : 1 ≤ hh) (hl3 : hh < 8) :
    Calls Tryd.prog 59 #[.agg c] w fun e w' => e = .returned (.bool r.ok) ∧ Below w.heap.size w w' := by
  obtain ⟨hc, k0, k1, k2, w0, w1, h0, h1, s0, s1⟩ := hR.view
  have H := Lib.hid hR; clear hR
  have HH := Lib.hid hhe
  have hb1 : decide (r.w < 1) = false := by simp; omega
  have hb2 : decide (8 < r.w) = false := by simp; omega
  have hb5 : decide (1 < r.s) = false := by simp; omega
  rw [hhe] at k1
  have hb3 : decide ((hh : Int) < 1) = false := by simp; omega
  have hb4 : decide (8 < (hh : Int)) = false := by simp; omega
  have hl0 : 0 ≤ (hh : Int) := by omega
  have hl1 : (hh : Int) ≤ 8 := by omega
  clear hhe h0 h1
  go_enter Tryd.func59, Tryd.ntmps59
  go_wp2_with fail
  go_loopw [35] (fun i W => ∃ k : Nat, k ≤ hh ∧ i = .int .i64 k ∧ Hid (∀ j, j < k * 8 → r.fine j) ∧ rowAt W w.heap.size = some c ∧ Below w.heap.size w W) (fun i _ => hh - (intOf i).toNat)
  case atStart => exact ⟨0, by omega, rfl, Lib.hid (by omega), rowAt_alloc_at _ _ _ _ rfl, (Below.refl _ _).alloc (Nat.le_refl _) _⟩
  case round =>
    obtain ⟨k, hk, rfl, hf, r0, hB⟩ := hrel
    have hcell := cell_of_rowAt r0
    have hn := rowAt_lt r0
    by_cases hlt : k < hh
    · have hk8 : 3 + k * 8 + 8 ≤ 67 := by omega
      have hs8 : (c.extract (3 + k * 8) (3 + k * 8 + 8)).size = 8 := by simp; omega
      have ho8 : Ones (c.extract (3 + k * 8) (3 + k * 8 + 8)) := H.out.ones.extract _ _
      have hkh : (k : Int) < r.h := by have := HH.out; omega
      go_wp2_with fail
      refine (validRow_any _ _ _ _ (H.out.row k (by omega)) (by omega)).mono ?_
      rintro e w1 ⟨rfl, hb⟩
      have hB1 : Below w.heap.size w w1 := (hB.alloc hB.size _).trans (hb.mono (by simp; have := hB.size; omega))
      have r1 := brow' hb (by simp; omega) ((rowAt_alloc_past _ _ _ hn).trans r0)
      clear hb hcell
      by_cases hg : ∀ j, j < 8 → rowFine (fun j => r.t (k * 8 + j)) r.w j
      · rw [rowB_true hg]
        have HG := Lib.hid hg; clear hg
        go_wp2_with fail
        refine ⟨⟨k + 1, by omega, by go_num, Lib.hid (fine_upto hf.out fun j hj => (fine_of_row hj hkh).1 (HG.out j hj)), r1, hB1⟩, by simp [intOf]; omega⟩
      · obtain ⟨j, hj⟩ := Classical.not_forall.1 hg
        obtain ⟨hj8, hj⟩ := Classical.not_imp.1 hj
        rw [rowB_false hj8 hj]
        clear hg
        go_wp2_with fail
        go_ret
        refine ⟨?_, hB1⟩
        rw [Rf.ok_false fun ok => hj ((fine_of_row hj8 hkh).2 (ok.2.2.2.2.2 _ (by omega)))]
        rfl
    · obtain rfl : k = hh := by omega
      have hne : ¬ (8 = k) := by omega
      go_wp2_with fail
      go_loopw [50] (fun i W => ∃ m : Nat, k + m ≤ 8 ∧ i = .int .i64 m ∧ Hid (∀ j, j < (k + m) * 8 → r.fine j) ∧ rowAt W w.heap.size = some c ∧ Below w.heap.size w W) (fun i _ => 8 - (intOf i).toNat)
      case atStart => exact ⟨0, by omega, rfl, Lib.hid (by simpa using hf.out), r0, hB⟩
      case round =>
        clear r0 hB hcell hn
        obtain ⟨m, hm, rfl, hg, r0, hB⟩ := hrel
        have hcell := cell_of_rowAt r0
        have hn := rowAt_lt r0
        by_cases hlt : k + m < 8
        · have hk8 : 3 + k * 8 + m * 8 + 8 ≤ 67 := by omega
          have hs8 : (c.extract (3 + k * 8 + m * 8) (3 + k * 8 + m * 8 + 8)).size = 8 := by simp; omega
          have ho8 : Ones (c.extract (3 + k * 8 + m * 8) (3 + k * 8 + m * 8 + 8)) := H.out.ones.extract _ _
          have hrow := H.out.row (k + m) hlt
          rw [show 3 + (k + m) * 8 = 3 + k * 8 + m * 8 from by omega] at hrow
          have hx : ∀ i, i < 8 → (c.extract (3 + k * 8 + m * 8) (3 + k * 8 + m * 8 + 8))[i]? = some (.int .u8 (r.t ((k + m) * 8 + i))) := fun i hi => by
            rw [Array.getElem?_eq_getElem (by omega), hrow.cell]
          have hy : ∀ i, i < 8 → (#[.int .u8 0, .int .u8 0, .int .u8 0, .int .u8 0, .int .u8 0, .int .u8 0, .int .u8 0, .int .u8 0] : Array Value)[i]? = some (.int .u8 ((fun _ => 0 : Nat → Int) i)) := by
            intro i hi
            have : i = 0 ∨ i = 1 ∨ i = 2 ∨ i = 3 ∨ i = 4 ∨ i = 5 ∨ i = 6 ∨ i = 7 := by omega
            rcases this with rfl | rfl | rfl | rfl | rfl | rfl | rfl | rfl <;> rfl
          by_cases hz : ∀ i, i < 8 → r.t ((k + m) * 8 + i) = 0
          · have hq := fun W : World => run_equalIn_ints_t Tryd.underlying25 Tryd.underlying5 (by kernel_rfl) _ _ (fun i => r.t ((k + m) * 8 + i)) _ hx hy hz 9998 W
            clear hx hy hrow
            have HZ := Lib.hid hz; clear hz
            go_wp2_with fail
            refine ⟨⟨m + 1, by omega, by go_num, Lib.hid ?_, (rowAt_alloc_past _ _ _ hn).trans r0, hB.alloc hB.size _⟩, by simp [intOf]; omega⟩
            rw [show (k + (m + 1)) = (k + m) + 1 from by omega]
            exact fine_upto hg.out fun j hj => ⟨by rw [HZ.out j hj]; omega, .inr (HZ.out j hj)⟩
          · have hq := fun W : World => run_equalIn_ints_f Tryd.underlying25 Tryd.underlying5 (by kernel_rfl) _ _ (fun i => r.t ((k + m) * 8 + i)) _ hx hy hz 9998 W
            clear hx hy hrow
            have HZ := Lib.hid hz; clear hz
            go_wp2_with fail
            go_ret
            refine ⟨?_, hB.alloc hB.size _⟩
            rw [Rf.ok_false fun ok => HZ.out fun j hj => by
              rcases (ok.2.2.2.2.2 ((k + m) * 8 + j) (by omega)).2 with g | g
              · rw [show ((k + m) * 8 + j) / 8 = k + m from by omega] at g
                have := HH.out; omega
              · exact g]
            rfl
        · go_wp2_with fail
          go_ret
          refine ⟨?_, hB⟩
          rw [Rf.ok_true ⟨a1, a2, by have := HH.out; omega, by have := HH.out; omega, a5, fun i hi => hg.out i (by omega)⟩]
          rfl

theorem implValidRoof_any (c : Array Value) (r : Rf) (w : World) (hR : IsRoof c r) :
    Calls Tryd.prog 59 #[.agg c] w fun e w' => e = .returned (.bool r.ok) ∧ Below w.heap.size w w' := by
  by_cases h : 1 ≤ r.w ∧ r.w ≤ 8 ∧ 1 ≤ r.h ∧ r.h ≤ 8 ∧ r.s ≤ 1
  · obtain ⟨a1, a2, a3, a4, a5⟩ := h
    by_cases h8 : r.h = 8
    · exact implValidRoof_h8 c r w hR a1 a2 a5 h8
    · obtain ⟨hh, hhe⟩ := Int.eq_ofNat_of_zero_le (show 0 ≤ r.h by omega)
      exact implValidRoof_lt c r w hR a1 a2 a5 hh hhe (by omega) (by omega)
  · rw [Rf.ok_false fun ok => h ⟨ok.1, ok.2.1, ok.2.2.1, ok.2.2.2.1, ok.2.2.2.2.1⟩]
    exact implValidRoof_no c r w hR (by omega)
end Go.Proofs.YtppohghejhcilaaDoor
