/- Valid ages: the model's side. -/
import Derived.Test.YtppohghejhcilaaDoorAgeM
import Derived.Test.YtppohghejhcilaaDoorSpecB
namespace Go.Proofs.YtppohghejhcilaaDoor
open Go.RowKit

set_option maxRecDepth 100000 in
set_option maxHeartbeats 1000000 in
theorem l07Ages_any (n p : Nat) (c d : Array Value) (r : Rf) (t : Nat → Int) (w : World) (hr : rowAt w n = some c) (hR : IsRoof c r) (hp : rowAt w p = some d) (hA : IsU8 d 64 t) :
    Calls Tryd.prog 53 #[.pointer (some ⟨n, 0, none⟩), .pointer (some ⟨p, 0, none⟩)] w fun e w' => e = .returned (.bool (r.aok t)) ∧ Below w.heap.size w w' := by
  have hn := rowAt_lt hr
  have hpn := rowAt_lt hp
  by_cases ho : r.Ok
  · go_enter Tryd.func53, Tryd.ntmps53
    go_wp2_with fail
    refine (l01Ok_t n c r _ hr hR ho).mono ?_
    rintro e w1 ⟨rfl, b1⟩
    go_wp2_with fail
    go_loopw [5] (fun i W => ∃ k : Nat, k ≤ 8 ∧ i = .int .i8 k ∧ Hid (∀ j, j < k * 8 → r.aFine t j) ∧ Below w.heap.size w W) (fun i _ => 8 - (intOf i).toNat)
    case atStart => exact ⟨0, by omega, rfl, Lib.hid (by omega), b1⟩
    case round =>
      clear b1
      obtain ⟨k, hk, rfl, hf, hB⟩ := hrel
      by_cases hlt : k < 8
      · have hkb : decide ((k : Int) < 8) = true := by simp; omega
        go_wp2_with fail
        go_loopw [6] (fun i W => ∃ m : Nat, m ≤ 8 ∧ i = .int .i8 m ∧ Hid (∀ j, j < k * 8 + m → r.aFine t j) ∧ Below w.heap.size w W) (fun i _ => 8 - (intOf i).toNat)
        case atStart => exact ⟨0, by omega, rfl, Lib.hid (by simpa using hf.out), hB⟩
        case round =>
          obtain ⟨m, hm, rfl, hg, hC⟩ := hrel
          by_cases hml : m < 8
          · have rW := brow' hC hn hr
            have rP := brow' hC hpn hp
            have hi64 : k * 8 + m < 64 := by omega
            have hcm : wr.cell? ⟨p, k * 8 + m, none⟩ = some (.int .u8 (t (k * 8 + m))) := (cell_of_rowAt rP _).trans (hA.isK.get hi64)
            have b0 := hA.lo (k * 8 + m) (by omega)
            have b1 := hA.hi (k * 8 + m) (by omega)
            have HD := Lib.hid (show (k * 8 + m) / 8 = k by omega)
            have HE := Lib.hid (show (k * 8 + m) % 8 = m by omega)
            have hpW := rowAt_lt rP
            by_cases hk3 : t (k * 8 + m) ≤ 100
            · have hkd : decide (100 < t (k * 8 + m)) = false := by simp; omega
              by_cases hp2 : (k : Int) < r.h ∧ (m : Int) < r.w
              · go_wp2_with fail
                refine (l01Is_t n c r _ _ _ rW hR (by omega) (by omega) (by omega)).mono ?_
                rintro e w' ⟨rfl, hb⟩
                clear hcm
                go_wp2_with fail
                refine ⟨⟨m + 1, by omega, by go_num, Lib.hid ?_, hC.trans (hb.mono hC.size)⟩, by simp [intOf]; omega⟩
                intro j hj
                by_cases hjm : j < k * 8 + m
                · exact hg.out j hjm
                · obtain rfl : j = k * 8 + m := by omega
                  exact ⟨hk3, by rw [HD.out, HE.out]; exact .inl hp2⟩
              · by_cases hz : t (k * 8 + m) = 0
                · have hzb : (t (k * 8 + m) != 0) = false := by simp [hz]
                  go_wp2_with fail
                  refine (l01Is_f n c r _ _ _ rW hR (by omega) (by omega) (by omega)).mono ?_
                  rintro e w' ⟨rfl, hb⟩
                  have hcm' := (hb.cell (p := ⟨p, k * 8 + m, none⟩) hpW).trans hcm
                  have HZ := Lib.hid hz
                  clear hcm hz
                  go_wp2_with fail
                  refine ⟨⟨m + 1, by omega, by go_num, Lib.hid ?_, hC.trans (hb.mono hC.size)⟩, by simp [intOf]; omega⟩
                  intro j hj
                  by_cases hjm : j < k * 8 + m
                  · exact hg.out j hjm
                  · obtain rfl : j = k * 8 + m := by omega
                    exact ⟨hk3, .inr HZ.out⟩
                · have hzb : (t (k * 8 + m) != 0) = true := by simpa using hz
                  go_wp2_with fail
                  refine (l01Is_f n c r _ _ _ rW hR (by omega) (by omega) (by omega)).mono ?_
                  rintro e w' ⟨rfl, hb⟩
                  have hcm' := (hb.cell (p := ⟨p, k * 8 + m, none⟩) hpW).trans hcm
                  clear hcm
                  go_wp2_with fail
                  go_ret
                  refine ⟨?_, hC.trans (hb.mono hC.size)⟩
                  rw [Rf.aok_f fun ok => by
                    obtain ⟨_, h2⟩ := ok.2 (k * 8 + m) (by omega)
                    rw [HD.out, HE.out] at h2
                    rcases h2 with h2 | h2
                    · exact hp2 h2
                    · exact hz h2]
                  rfl
            · have hkd : decide (100 < t (k * 8 + m)) = true := by simp; omega
              go_wp2_with fail
              go_ret
              refine ⟨?_, hC⟩
              rw [Rf.aok_f fun ok => by have := (ok.2 (k * 8 + m) (by omega)).1; omega]
              rfl
          · go_wp2_with fail
            refine ⟨⟨k + 1, by omega, by go_num, Lib.hid ?_, hC⟩, by simp [intOf]; omega⟩
            intro j hj
            exact hg.out j (by omega)
      · go_wp2_with fail
        go_ret
        refine ⟨?_, hB⟩
        rw [Rf.aok_t ⟨ho, fun i hi => hf.out i (by omega)⟩]
        rfl
  · rw [Rf.aok_f fun g => ho g.1]
    go_enter Tryd.func53, Tryd.ntmps53
    go_wp2_with fail
    refine (l01Ok_f n c r _ hr hR ho).mono ?_
    rintro e w1 ⟨rfl, b1⟩
    go_wp2_with fail
    go_ret
    exact ⟨rfl, b1⟩
theorem l07Ages_t (n p : Nat) (c d : Array Value) (r : Rf) (t : Nat → Int) (w : World) (hr : rowAt w n = some c) (hR : IsRoof c r) (hp : rowAt w p = some d) (hA : IsU8 d 64 t) (h : r.Aged t) :
    Calls Tryd.prog 53 #[.pointer (some ⟨n, 0, none⟩), .pointer (some ⟨p, 0, none⟩)] w fun e w' => e = .returned (.bool true) ∧ Below w.heap.size w w' := by
  have := l07Ages_any n p c d r t w hr hR hp hA; rwa [Rf.aok_t h] at this
theorem l07Ages_f (n p : Nat) (c d : Array Value) (r : Rf) (t : Nat → Int) (w : World) (hr : rowAt w n = some c) (hR : IsRoof c r) (hp : rowAt w p = some d) (hA : IsU8 d 64 t) (h : ¬ r.Aged t) :
    Calls Tryd.prog 53 #[.pointer (some ⟨n, 0, none⟩), .pointer (some ⟨p, 0, none⟩)] w fun e w' => e = .returned (.bool false) ∧ Below w.heap.size w w' := by
  have := l07Ages_any n p c d r t w hr hR hp hA; rwa [Rf.aok_f h] at this

end Go.Proofs.YtppohghejhcilaaDoor
