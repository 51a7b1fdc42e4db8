/- Contracts of the model's first functions: bounds, kinds, places, valid roofs. -/
import Derived.Test.YtppohghejhcilaaDoorTy
import Derived.Test.YtppohghejhcilaaDoorRoof
import Derived.Deep.QuietTactic
import Derived.BigQuiet
import Derived.IntWalk
namespace Go.Proofs.YtppohghejhcilaaDoor
open Go.RowKit

def inB (n lo hi : Int) : Bool := decide (lo ≤ n ∧ n ≤ hi)
theorem inB_true {n lo hi : Int} (h : lo ≤ n ∧ n ≤ hi) : inB n lo hi = true := by simp [inB, h]
theorem inB_false {n lo hi : Int} (h : ¬ (lo ≤ n ∧ n ≤ hi)) : inB n lo hi = false := by simp [inB]; omega

theorem l00In_any (n lo hi : Int) (w : World) :
    Calls Tryd.prog 72 #[.int .i64 n, .int .i64 lo, .int .i64 hi] w fun e w' => e = .returned (.bool (inB n lo hi)) ∧ w = w' := by
  by_cases h1 : lo ≤ n
  · by_cases h2 : n ≤ hi
    · rw [inB_true ⟨h1, h2⟩]
      go_enter Tryd.func72, Tryd.ntmps72
      go_wp2
      go_ret
      exact ⟨rfl, rfl⟩
    · rw [inB_false (by omega)]
      go_enter Tryd.func72, Tryd.ntmps72
      go_wp2
      go_ret
      exact ⟨rfl, rfl⟩
  · rw [inB_false (by omega)]
    go_enter Tryd.func72, Tryd.ntmps72
    go_wp2
    go_ret
    exact ⟨rfl, rfl⟩

theorem l00In_q (n lo hi : Int) (w : World) :
    Calls Tryd.prog 72 #[.int .i64 n, .int .i64 lo, .int .i64 hi] w fun e w' => e = .returned (.bool (inB n lo hi)) ∧ w' = w :=
  (l00In_any n lo hi w).mono fun _ _ h => ⟨h.1, h.2.symm⟩

theorem l00In_t (n lo hi : Int) (w : World) (h : lo ≤ n ∧ n ≤ hi) :
    Calls Tryd.prog 72 #[.int .i64 n, .int .i64 lo, .int .i64 hi] w fun e w' => e = .returned (.bool true) ∧ w = w' := by
  have := l00In_any n lo hi w; rwa [inB_true h] at this
theorem l00In_f (n lo hi : Int) (w : World) (h : ¬ (lo ≤ n ∧ n ≤ hi)) :
    Calls Tryd.prog 72 #[.int .i64 n, .int .i64 lo, .int .i64 hi] w fun e w' => e = .returned (.bool false) ∧ w = w' := by
  have := l00In_any n lo hi w; rwa [inB_false h] at this
theorem l00In_tq (n lo hi : Int) (w : World) (h : lo ≤ n ∧ n ≤ hi) :
    Calls Tryd.prog 72 #[.int .i64 n, .int .i64 lo, .int .i64 hi] w fun e w' => e = .returned (.bool true) ∧ w' = w := by
  have := l00In_q n lo hi w; rwa [inB_true h] at this
theorem l00In_fq (n lo hi : Int) (w : World) (h : ¬ (lo ≤ n ∧ n ≤ hi)) :
    Calls Tryd.prog 72 #[.int .i64 n, .int .i64 lo, .int .i64 hi] w fun e w' => e = .returned (.bool false) ∧ w' = w := by
  have := l00In_q n lo hi w; rwa [inB_false h] at this

theorem l01Kind_any (k : Int) (w : World) :
    Calls Tryd.prog 107 #[.int .i64 k] w fun e w' => e = .returned (.bool (inB k 0 3)) ∧ w = w' := by
  go_enter Tryd.func107, Tryd.ntmps107
  go_wp2_with fail
  refine (l00In_any _ _ _ _).mono ?_
  rintro e w' ⟨rfl, rfl⟩
  go_wp2
  go_ret
  exact ⟨rfl, rfl⟩

theorem l01Kind_t (k : Int) (w : World) (h : 0 ≤ k ∧ k ≤ 3) :
    Calls Tryd.prog 107 #[.int .i64 k] w fun e w' => e = .returned (.bool true) ∧ w = w' := by
  have := l01Kind_any k w; rwa [inB_true h] at this
theorem l01Kind_f (k : Int) (w : World) (h : ¬ (0 ≤ k ∧ k ≤ 3)) :
    Calls Tryd.prog 107 #[.int .i64 k] w fun e w' => e = .returned (.bool false) ∧ w = w' := by
  have := l01Kind_any k w; rwa [inB_false h] at this

/-- There is such a place. -/
def Rf.isB (r : Rf) (a b : Int) : Bool := decide (0 ≤ a ∧ a < r.h ∧ 0 ≤ b ∧ b < r.w)
theorem Rf.isB_true {r : Rf} {a b : Int} (h : 0 ≤ a ∧ a < r.h ∧ 0 ≤ b ∧ b < r.w) : r.isB a b = true := by simp [Rf.isB, h]
theorem Rf.isB_false {r : Rf} {a b : Int} (h : ¬ (0 ≤ a ∧ a < r.h ∧ 0 ≤ b ∧ b < r.w)) : r.isB a b = false := by simp only [Rf.isB, decide_eq_false_iff_not]; exact h

theorem l01Is_any (n : Nat) (c : Array Value) (r : Rf) (a b : Int) (w : World) (hr : rowAt w n = some c) (hR : IsRoof c r) (ha : -128 ≤ a ∧ a ≤ 127) (hb : -128 ≤ b ∧ b ≤ 127) :
    Calls Tryd.prog 84 #[.pointer (some ⟨n, 0, none⟩), .agg #[.int .i8 a, .int .i8 b]] w fun e w' => e = .returned (.bool (r.isB a b)) ∧ Below w.heap.size w w' := by
  have hn := rowAt_lt hr
  have hcell := cell_of_rowAt hr
  obtain ⟨hc, k0, k1, k2, w0, w1, h0, h1, s0, s1⟩ := hR.view
  clear hR k2
  have e3 : IntKind.i64.wrap (r.h - 1) = r.h - 1 := IntWalk.i64_in _ (by omega)
  have e4 : IntKind.i64.wrap (r.w - 1) = r.w - 1 := IntWalk.i64_in _ (by omega)
  by_cases hx : 0 ≤ a ∧ a < r.h
  · by_cases hy : 0 ≤ b ∧ b < r.w
    · rw [Rf.isB_true ⟨hx.1, hx.2, hy⟩]
      go_enter Tryd.func84, Tryd.ntmps84
      go_wp2
      go_quiet ((go_at_call 72; exact Calls.quiet_of_same (l00In_tq _ _ _ _ (by omega))))
      clear e3 e4
      go_wp2
      go_ret
      exact ⟨rfl, below_drewN ((Below.refl _ _).alloc (Nat.le_refl _) _) _⟩
    · rw [Rf.isB_false (by omega)]
      have hx' : 0 ≤ a ∧ a ≤ r.h - 1 := by omega
      have hy' : ¬ (0 ≤ b ∧ b ≤ r.w - 1) := by omega
      go_enter Tryd.func84, Tryd.ntmps84
      go_wp2
      go_quiet ((go_at_call 72; first | exact Calls.quiet_of_same (l00In_tq _ _ _ _ hx') | exact Calls.quiet_of_same (l00In_fq _ _ _ _ hy')))
      clear e3 e4
      go_wp2
      go_ret
      exact ⟨rfl, below_drewN ((Below.refl _ _).alloc (Nat.le_refl _) _) _⟩
  · rw [Rf.isB_false (by omega)]
    have hx' : ¬ (0 ≤ a ∧ a ≤ r.h - 1) := by omega
    go_enter Tryd.func84, Tryd.ntmps84
    go_wp2
    go_quiet ((go_at_call 72; exact Calls.quiet_of_same (l00In_fq _ _ _ _ hx')))
    clear e3 e4
    go_wp2
    go_ret
    exact ⟨rfl, below_drewN ((Below.refl _ _).alloc (Nat.le_refl _) _) _⟩

theorem l01Is_t (n : Nat) (c : Array Value) (r : Rf) (a b : Int) (w : World) (hr : rowAt w n = some c) (hR : IsRoof c r) (ha : -128 ≤ a ∧ a ≤ 127) (hb : -128 ≤ b ∧ b ≤ 127) (h : 0 ≤ a ∧ a < r.h ∧ 0 ≤ b ∧ b < r.w) :
    Calls Tryd.prog 84 #[.pointer (some ⟨n, 0, none⟩), .agg #[.int .i8 a, .int .i8 b]] w fun e w' => e = .returned (.bool true) ∧ Below w.heap.size w w' := by
  have := l01Is_any n c r a b w hr hR ha hb; rwa [Rf.isB_true h] at this
theorem l01Is_f (n : Nat) (c : Array Value) (r : Rf) (a b : Int) (w : World) (hr : rowAt w n = some c) (hR : IsRoof c r) (ha : -128 ≤ a ∧ a ≤ 127) (hb : -128 ≤ b ∧ b ≤ 127) (h : ¬ (0 ≤ a ∧ a < r.h ∧ 0 ≤ b ∧ b < r.w)) :
    Calls Tryd.prog 84 #[.pointer (some ⟨n, 0, none⟩), .agg #[.int .i8 a, .int .i8 b]] w fun e w' => e = .returned (.bool false) ∧ Below w.heap.size w w' := by
  have := l01Is_any n c r a b w hr hR ha hb; rwa [Rf.isB_false h] at this

set_option maxHeartbeats 400000 in
theorem l01Ok_no (n : Nat) (c : Array Value) (r : Rf) (w : World) (hr : rowAt w n = some c) (hR : IsRoof c r) (hno : ¬ (1 ≤ r.w ∧ r.w ≤ 8 ∧ 1 ≤ r.h ∧ r.h ≤ 8 ∧ r.s ≤ 1)) :
    Calls Tryd.prog 83 #[.pointer (some ⟨n, 0, none⟩)] w fun e w' => e = .returned (.bool false) ∧ w = w' := by
  have hn := rowAt_lt hr
  have hcell := cell_of_rowAt hr
  obtain ⟨hc, k0, k1, k2, w0, w1, h0, h1, s0, s1⟩ := hR.view
  clear hR
  by_cases hx : 1 ≤ r.w ∧ r.w ≤ 8
  · by_cases hy : 1 ≤ r.h ∧ r.h ≤ 8
    · have hs : ¬ r.s ≤ 1 := by omega
      go_enter Tryd.func83, Tryd.ntmps83
      go_wp2_with fail
      refine (l00In_t _ _ _ _ hx).mono ?_
      rintro e w' ⟨rfl, rfl⟩
      go_wp2_with fail
      refine (l00In_t _ _ _ _ hy).mono ?_
      rintro e w' ⟨rfl, rfl⟩
      go_wp2_with fail
      go_ret
      exact ⟨rfl, rfl⟩
    · go_enter Tryd.func83, Tryd.ntmps83
      go_wp2_with fail
      refine (l00In_t _ _ _ _ hx).mono ?_
      rintro e w' ⟨rfl, rfl⟩
      go_wp2_with fail
      refine (l00In_f _ _ _ _ hy).mono ?_
      rintro e w' ⟨rfl, rfl⟩
      go_wp2_with fail
      go_ret
      exact ⟨rfl, rfl⟩
  · go_enter Tryd.func83, Tryd.ntmps83
    go_wp2_with fail
    refine (l00In_f _ _ _ _ hx).mono ?_
    rintro e w' ⟨rfl, rfl⟩
    go_wp2_with fail
    go_ret
    exact ⟨rfl, rfl⟩

set_option maxHeartbeats 1000000 in
theorem l01Ok_yes (n : Nat) (c : Array Value) (r : Rf) (w : World) (hr : rowAt w n = some c) (hR : IsRoof c r) (hyes : 1 ≤ r.w ∧ r.w ≤ 8 ∧ 1 ≤ r.h ∧ r.h ≤ 8 ∧ r.s ≤ 1) :
    Calls Tryd.prog 83 #[.pointer (some ⟨n, 0, none⟩)] w fun e w' => e = .returned (.bool r.ok) ∧ Below w.heap.size w w' := by
  have hn := rowAt_lt hr
  have hcell := cell_of_rowAt hr
  obtain ⟨hc, k0, k1, k2, w0, w1, h0, h1, s0, s1⟩ := hR.view
  have H := Lib.hid hR; clear hR
  have hx : 1 ≤ r.w ∧ r.w ≤ 8 := by omega
  have hy : 1 ≤ r.h ∧ r.h ≤ 8 := by omega
  have hs : r.s ≤ 1 := by omega
  have hsb : decide (1 < r.s) = false := by simp; omega
  go_enter Tryd.func83, Tryd.ntmps83
  go_wp2_with fail
  refine (l00In_t _ _ _ _ hx).mono ?_
  rintro e w' ⟨rfl, rfl⟩
  go_wp2_with fail
  refine (l00In_t _ _ _ _ hy).mono ?_
  rintro e w' ⟨rfl, rfl⟩
  go_wp2_with fail
  go_loopw [3] (fun i W => ∃ k : Nat, k ≤ 8 ∧ i = .int .i8 k ∧ Hid (∀ j, j < k * 8 → r.fine j) ∧ Below w.heap.size w W) (fun i _ => 8 - (intOf i).toNat)
  case atStart => exact ⟨0, by omega, rfl, Lib.hid (by omega), Below.refl _ _⟩
  case round =>
    obtain ⟨k, hk, rfl, hf, hB⟩ := hrel
    clear hcell
    by_cases hlt : k < 8
    · have hkb : decide ((k : Int) < 8) = true := by simp; omega
      go_wp2_with fail
      go_loopw [4] (fun i W => ∃ m : Nat, m ≤ 8 ∧ i = .int .i8 m ∧ Hid (∀ j, j < k * 8 + m → r.fine j) ∧ Below w.heap.size w W) (fun i _ => 8 - (intOf i).toNat)
      case atStart => exact ⟨0, by omega, rfl, Lib.hid (by simpa using hf.out), hB⟩
      case round =>
        obtain ⟨m, hm, rfl, hg, hC⟩ := hrel
        by_cases hml : m < 8
        · have rW := brow' hC hn hr
          have hnW := rowAt_lt rW
          have hi : 3 + k * 8 + m < c.size := by omega
          have ht := H.out.tile (3 + k * 8 + m) hi (by omega)
          rw [show 3 + k * 8 + m - 3 = k * 8 + m from by omega] at ht
          have hcm : wr.cell? ⟨n, 3 + k * 8 + m, none⟩ = some (.int .u8 (r.t (k * 8 + m))) := by rw [cell_of_rowAt rW, Array.getElem?_eq_getElem hi, ht]
          have b0 := H.out.tiles.lo (k * 8 + m) (by omega)
          have b1 := H.out.tiles.hi (k * 8 + m) (by omega)
          have hd : (k * 8 + m) / 8 = k := by omega
          have hd2 : (k * 8 + m) % 8 = m := by omega
          have HD := Lib.hid hd; clear hd
          have HE := Lib.hid hd2; clear hd2 ht hi k0 k1 k2 hc
          by_cases hk3 : r.t (k * 8 + m) ≤ 3
          · by_cases hp : (k : Int) < r.h ∧ (m : Int) < r.w
            · go_wp2_with fail
              refine (l01Kind_t _ _ (by omega)).mono ?_
              rintro e w' ⟨rfl, rfl⟩
              go_wp2_with fail
              refine (l01Is_t n c r _ _ _ rW H.out (by omega) (by omega) (by omega)).mono ?_
              rintro e w' ⟨rfl, hb⟩
              clear hcm
              go_wp2_with fail
              refine ⟨⟨m + 1, by omega, by go_num, Lib.hid ?_, hC.trans (hb.mono hC.size)⟩, by simp [intOf]; omega⟩
              intro j hj
              by_cases hjm : j < k * 8 + m
              · exact hg.out j hjm
              · obtain rfl : j = k * 8 + m := by omega
                exact ⟨hk3, by rw [HD.out, HE.out]; exact .inl hp⟩
            · by_cases hz : r.t (k * 8 + m) = 0
              · go_wp2_with fail
                refine (l01Kind_t _ _ (by omega)).mono ?_
                rintro e w' ⟨rfl, rfl⟩
                go_wp2_with fail
                refine (l01Is_f n c r _ _ _ rW H.out (by omega) (by omega) (by omega)).mono ?_
                rintro e w' ⟨rfl, hb⟩
                have hcm' := (hb.cell (p := ⟨n, 3 + k * 8 + m, none⟩) hnW).trans hcm
                rw [hz] at hcm'
                clear hcm
                go_wp2_with fail
                refine ⟨⟨m + 1, by omega, by go_num, Lib.hid ?_, hC.trans (hb.mono hC.size)⟩, by simp [intOf]; omega⟩
                intro j hj
                by_cases hjm : j < k * 8 + m
                · exact hg.out j hjm
                · obtain rfl : j = k * 8 + m := by omega
                  exact ⟨hk3, .inr hz⟩
              · go_wp2_with fail
                refine (l01Kind_t _ _ (by omega)).mono ?_
                rintro e w' ⟨rfl, rfl⟩
                go_wp2_with fail
                refine (l01Is_f n c r _ _ _ rW H.out (by omega) (by omega) (by omega)).mono ?_
                rintro e w' ⟨rfl, hb⟩
                have hcm' := (hb.cell (p := ⟨n, 3 + k * 8 + m, none⟩) hnW).trans hcm
                have hzb : (r.t (k * 8 + m) != 0) = true := by simpa using hz
                clear hcm
                go_wp2_with fail
                go_ret
                refine ⟨?_, hC.trans (hb.mono hC.size)⟩
                rw [Rf.ok_false fun ok => by
                  obtain ⟨_, h2⟩ := ok.2.2.2.2.2 (k * 8 + m) (by omega)
                  rw [HD.out, HE.out] at h2
                  rcases h2 with h2 | h2
                  · exact hp h2
                  · exact hz h2]
                rfl
          · go_wp2_with fail
            refine (l01Kind_f _ _ (by omega)).mono ?_
            rintro e w' ⟨rfl, rfl⟩
            go_wp2_with fail
            go_ret
            refine ⟨?_, hC⟩
            rw [Rf.ok_false fun ok => by have := (ok.2.2.2.2.2 (k * 8 + m) (by omega)).1; omega]
            rfl
        · go_wp2_with fail
          refine ⟨⟨k + 1, by omega, by go_num, Lib.hid ?_, hC⟩, by simp [intOf]; omega⟩
          intro j hj
          exact hg.out j (by omega)
    · go_wp2_with fail
      go_ret
      refine ⟨?_, hB⟩
      rw [Rf.ok_true ⟨hx.1, hx.2, hy.1, hy.2, hs, fun i hi => hf.out i (by omega)⟩]
      rfl

theorem l01Ok_any (n : Nat) (c : Array Value) (r : Rf) (w : World) (hr : rowAt w n = some c) (hR : IsRoof c r) :
    Calls Tryd.prog 83 #[.pointer (some ⟨n, 0, none⟩)] w fun e w' => e = .returned (.bool r.ok) ∧ Below w.heap.size w w' := by
  by_cases h : 1 ≤ r.w ∧ r.w ≤ 8 ∧ 1 ≤ r.h ∧ r.h ≤ 8 ∧ r.s ≤ 1
  · exact l01Ok_yes n c r w hr hR h
  · refine (l01Ok_no n c r w hr hR h).mono ?_
    rintro e w' ⟨rfl, rfl⟩
    rw [Rf.ok_false fun ok => h ⟨ok.1, ok.2.1, ok.2.2.1, ok.2.2.2.1, ok.2.2.2.2.1⟩]
    exact ⟨rfl, Below.refl _ _⟩
end Go.Proofs.YtppohghejhcilaaDoor
