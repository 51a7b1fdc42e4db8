/- Valid colours: the model's side. -/
import Derived.Test.YtppohghejhcilaaDoorColV
namespace Go.Proofs.YtppohghejhcilaaDoor
open Go.RowKit

set_option maxRecDepth 100000 in
set_option maxHeartbeats 1000000 in
theorem l07Colours_any (n m : Nat) (c d : Array Value) (r : Rf) (g : Nat → Nat) (w : World) (hr : rowAt w n = some c) (hR : IsRoof c r) (hd : rowAt w m = some d) (hC : IsCol d g) :
    Calls Tryd.prog 65 #[.pointer (some ⟨n, 0, none⟩), .pointer (some ⟨m, 0, none⟩)] w fun e w' => e = .returned (.bool (r.cok g)) ∧ Below w.heap.size w w' := by
  have hn := rowAt_lt hr
  have hm := rowAt_lt hd
  have hc := hR.size
  by_cases ho : r.Ok
  · obtain ⟨hh, hhe⟩ := Int.eq_ofNat_of_zero_le (show 0 ≤ r.h by have := ho.2.2.1; omega)
    obtain ⟨ww, hwe⟩ := Int.eq_ofNat_of_zero_le (show 0 ≤ r.w by have := ho.1; omega)
    have h8 : hh ≤ 8 := by have := ho.2.2.2.1; omega
    have w8 : ww ≤ 8 := by have := ho.2.1; omega
    have hiff := Lib.hid (cols_fine (g := g) ho hhe hwe)
    have k0 : ∀ W, rowAt W n = some c → W.cell? ⟨n, 0, none⟩ = some (.int .i8 ww) := fun W h => by
      rw [cell_of_rowAt h, Array.getElem?_eq_getElem (by omega), hR.wide (by omega), hwe]
    have k1 : ∀ W, rowAt W n = some c → W.cell? ⟨n, 1, none⟩ = some (.int .i8 hh) := fun W h => by
      rw [cell_of_rowAt h, Array.getElem?_eq_getElem (by omega), hR.high (by omega), hhe]
    have K0 := Lib.hid k0
    have K1 := Lib.hid k1
    clear k0 k1 hhe hwe
    go_enter Tryd.func65, Tryd.ntmps65
    go_wp2_with fail
    refine (l01Ok_t n c r _ hr hR ho).mono ?_
    rintro e w1 ⟨rfl, b1⟩
    go_wp2_with fail
    go_loopw [5] (fun i W => ∃ k : Nat, k ≤ 8 ∧ i = .int .i64 k ∧ Hid (∀ j, j < k → cFine hh ww g j) ∧ Below w.heap.size w W) (fun i _ => 8 - (intOf i).toNat)
    case atStart => exact ⟨0, by omega, rfl, Lib.hid (by omega), b1⟩
    case round =>
      obtain ⟨k, hk, rfl, hf, hB⟩ := hrel
      clear b1
      by_cases hlt : k < 8
      · have rN := brow' hB hn hr
        have rM := brow' hB hm hd
        have cm : wr.cell? ⟨m, k, none⟩ = some (.int .u8 (g k : Int)) := (cell_of_rowAt rM k).trans (hC.cell hlt)
        have c0 := K0.out _ rN
        have c1 := K1.out _ rN
        have g8 := hC.hi k hlt
        have g0 : (0 : Int) ≤ (g k : Int) := by omega
        have g1 : (g k : Int) ≤ 255 := by omega
        have ki0 : (0 : Int) ≤ (k : Int) := by omega
        have ki1 : (k : Int) < 8 := by omega
        have wi0 : (0 : Int) ≤ (ww : Int) := by omega
        have wi1 : (ww : Int) ≤ 8 := by omega
        have hdiv : ((g k : Int) / 2 ^ ww) = ((g k / 2 ^ ww : Nat) : Int) := by simp
        have e1 : IntKind.i64.wrap (g k : Int) = (g k : Int) := IntWalk.i64_in _ (by omega)
        have e2 : IntKind.u64.wrap (ww : Int) = (ww : Int) := IntWalk.u64_in _ (by omega)
        have e3 : min ww 64 = ww := by omega
        have e4 : IntKind.i64.wrap (hh : Int) = (hh : Int) := IntWalk.i64_in _ (by omega)
        clear rN rM hr hd
        by_cases a1 : g k / 2 ^ ww = 0
        · have hb1 : ((g k : Int) / 2 ^ ww != 0) = false := by rw [hdiv, a1]; rfl
          clear hdiv
          by_cases a2 : k < hh
          · have hb2 : decide (hh ≤ k) = false := by simp; omega
            have A := Lib.hid a1
            clear a1
            go_wp2_with fail
            go_quiet (fail)
            go_wp2_with fail
            refine ⟨⟨k + 1, by omega, by go_num, Lib.hid ?_, below_drewN hB _⟩, by simp [intOf]; omega⟩
            intro j hj
            by_cases hjk : j < k
            · exact hf.out j hjk
            · obtain rfl : j = k := by omega
              exact ⟨A.out, .inl a2⟩
          · have hb2 : decide (hh ≤ k) = true := by simp; omega
            by_cases a3 : g k = 0
            · have hb3 : ((g k : Int) != 0) = false := by simp [a3]
              have A := Lib.hid a1
              have A3 := Lib.hid a3
              clear a1 a3
              go_wp2_with fail
              go_quiet (fail)
              go_wp2_with fail
              refine ⟨⟨k + 1, by omega, by go_num, Lib.hid ?_, below_drewN hB _⟩, by simp [intOf]; omega⟩
              intro j hj
              by_cases hjk : j < k
              · exact hf.out j hjk
              · obtain rfl : j = k := by omega
                exact ⟨A.out, .inr A3.out⟩
            · have hb3 : ((g k : Int) != 0) = true := by simp; omega
              have A3 := Lib.hid a3
              clear a1 a3
              go_wp2_with fail
              go_quiet (fail)
              go_wp2_with fail
              go_ret
              refine ⟨?_, below_drewN hB _⟩
              rw [Rf.cok_f fun h => by rcases (hiff.out.1 h k hlt).2 with e | e; exact a2 e; exact A3.out e]
              rfl
        · have hb1 : ((g k : Int) / 2 ^ ww != 0) = true := by rw [hdiv]; simp; omega
          clear hdiv
          have A := Lib.hid a1
          clear a1
          go_wp2_with fail
          go_quiet (fail)
          go_wp2_with fail
          go_ret
          refine ⟨?_, below_drewN hB _⟩
          rw [Rf.cok_f fun h => A.out (hiff.out.1 h k hlt).1]
          rfl
      · go_wp2_with fail
        go_ret
        refine ⟨?_, hB⟩
        rw [Rf.cok_t (hiff.out.2 fun i hi => hf.out i (by omega))]
        rfl
  · rw [Rf.cok_f fun h => ho h.1]
    go_enter Tryd.func65, Tryd.ntmps65
    go_wp2_with fail
    refine (l01Ok_f n c r _ hr hR ho).mono ?_
    rintro e w1 ⟨rfl, b1⟩
    go_wp2_with fail
    go_ret
    exact ⟨rfl, b1⟩
theorem l07Colours_t (n m : Nat) (c d : Array Value) (r : Rf) (g : Nat → Nat) (w : World) (hr : rowAt w n = some c) (hR : IsRoof c r) (hd : rowAt w m = some d) (hC : IsCol d g) (h : r.Cols g) :
    Calls Tryd.prog 65 #[.pointer (some ⟨n, 0, none⟩), .pointer (some ⟨m, 0, none⟩)] w fun e w' => e = .returned (.bool true) ∧ Below w.heap.size w w' := by
  have := l07Colours_any n m c d r g w hr hR hd hC; rwa [Rf.cok_t h] at this
theorem l07Colours_f (n m : Nat) (c d : Array Value) (r : Rf) (g : Nat → Nat) (w : World) (hr : rowAt w n = some c) (hR : IsRoof c r) (hd : rowAt w m = some d) (hC : IsCol d g) (h : ¬ r.Cols g) :
    Calls Tryd.prog 65 #[.pointer (some ⟨n, 0, none⟩), .pointer (some ⟨m, 0, none⟩)] w fun e w' => e = .returned (.bool false) ∧ Below w.heap.size w w' := by
  have := l07Colours_any n m c d r g w hr hR hd hC; rwa [Rf.cok_f h] at this

end Go.Proofs.YtppohghejhcilaaDoor
