/- Valid rain: the program's answer. -/
import Derived.Test.YtcdddngdjhjdbaaDoorRainA
import Derived.Test.YtcdddngdjhjdbaaDoorCopy
import Derived.RegionTactic
import Derived.Deep.RegionWith
import Derived.Deep.DeepCutAuto
import Derived.Deep.DrawnRows
namespace Go.Proofs.YtcdddngdjhjdbaaDoor
open Go.RowKit
attribute [local go_sem ↓] Go.wp_at_zero Go.wp_at_succ

set_option maxRecDepth 100000 in
set_option maxHeartbeats 1000000 in
theorem firstCells_any (d : Array Value) (t : Nat → Int) (m : Nat) (w : World) (hT : IsRain d t) (h1 : 1 ≤ m) (h2 : m ≤ 17) :
    Calls Tryd.prog 151 #[.agg d, .int .i64 m] w fun e w' => e = .returned (.agg (mkI .i16 17 (fun i => if i < m then t i else 0))) ∧ Below w.heap.size w w' := by
  have hd := hT.size
  have m0 : (0 : Int) ≤ m := by omega
  have m1 : (m : Int) ≤ 17 := by omega
  generalize hF : mkI .i16 17 (fun i => if i < m then t i else 0) = F
  have hFs : F.size = 17 := by rw [← hF]; simp
  have hFo : Ones F := by rw [← hF]; exact (isK_mkI _ _ _).ones
  have hsp : splice (mkI .i16 17 fun _ => 0) 0 (d.extract 0 (0 + m)) = F := by
    rw [← hF]
    refine (IsK.of_get (by rw [size_splice _ _ _ (by simp; omega)]; simp) fun i hi => ?_).eq
    have hx : (d.extract 0 (0 + m)).size = m := by simp; omega
    rw [get_splice _ _ _ (by simp; omega), if_neg (by omega), hx]
    by_cases him : i < m
    · rw [if_pos (by omega), get_extract _ _ _ _ (by omega) (by omega), if_pos him, Nat.zero_add, Nat.sub_zero, hT.isK.get hi]
    · rw [if_neg (by omega), (isK_mkI _ _ _).get hi, if_neg him]
  clear hF
  have HSP := Lib.hid hsp
  clear hsp
  go_enter Tryd.func151, Tryd.ntmps151
  go_wp2_with fail
  refine gen_world fun W hW => ?_
  have p0 : rowAt W w.heap.size = some d := by rw [hW]; exact (rowAt_alloc_past _ _ _ (by simp; omega)).trans ((rowAt_alloc_past _ _ _ (by simp)).trans (rowAt_alloc_at _ _ _ _ rfl))
  have p1 : rowAt W (w.heap.size + 1) = some (mkI .i16 17 fun _ => 0) := by
    rw [hW, rowAt_alloc_past _ _ _ (by simp), rowAt_alloc_at _ _ _ _ (by simp)]; kernel_rfl
  have p2 : rowAt W (w.heap.size + 1 + 1) = some (mkI .i16 17 fun _ => 0) := by
    rw [hW, rowAt_alloc_at _ _ _ _ (by simp)]; kernel_rfl
  have pB : Below w.heap.size w W := by rw [hW]; exact (((Below.refl _ _).alloc (Nat.le_refl _) _).alloc (by simp) _).alloc (by simp; omega) _
  clear hW
  have hcp := run_copy_rows (P := Tryd.prog) W.drew 254 254 3 58 (w.heap.size + 1 + 1) 0 m 17 w.heap.size 0 m 17 m _ _ Tryd.underlying254 (by kernel_rfl) p2 p0 (Nat.min_self m).symm (by omega) (by simp; omega) hT.ones
  rw [HSP.out] at hcp
  go_region
  clear hcp
  go_wp2_with fail
  refine bodyPost_ret (v := .agg F) (results_row1 rfl _ _ (w.heap.size + 1) F rfl (by simp [go_sem, p1]) Tryd.underlying63 rfl (by kernel_rfl) hFs) rfl ⟨rfl, ?_⟩
  exact below_setRow (below_setRow pB (by omega) _).drew (by omega) _

set_option maxHeartbeats 1000000 in
theorem implValidRain_no (c d : Array Value) (r : Rf) (w : World) (hR : IsRoof c r) (ho : ¬ r.Ok) :
    Calls Tryd.prog 135 #[.agg c, .agg d] w fun e w' => e = .returned (.bool false) ∧ Below w.heap.size w w' := by
  obtain ⟨p0, p1, pB⟩ := two_boxes w c d 30 63
  have hc := hR.size
  go_enter Tryd.func135, Tryd.ntmps135
  go_wp2_with fail
  refine gen_world fun W hW => ?_
  rw [← hW] at p0 p1 pB
  clear hW
  go_region_with ((go_at_call 63; (with_reducible refine (implValid_f c r _ hR ho).mono ?_); rintro x wx ⟨rfl, bx⟩; have g := bnext pB.drew bx pB.size))
  all_goals
    go_wp2_with fail
    go_ret
    exact ⟨rfl, g⟩


def cutR (r : Rf) (t : Nat → Int) (i : Nat) : Int := if i < (2 * r.w + 1).toNat then t i else 0

set_option maxRecDepth 100000 in
set_option maxHeartbeats 4000000 in
theorem implValidRain_yes (c d : Array Value) (r : Rf) (t : Nat → Int) (w : World) (hR : IsRoof c r) (hT : IsRain d t) (ho : r.Ok) :
    Calls Tryd.prog 135 #[.agg c, .agg d] w fun e w' => e = .returned (.bool (r.rok t)) ∧ Below w.heap.size w w' := by
  have hw1 := ho.1
  have hw8 := ho.2.1
  have hd := hT.size
  obtain ⟨p0, p1, pB⟩ := two_boxes w c d 30 63
  have hc := hR.size
  obtain ⟨m, hm⟩ := Int.eq_ofNat_of_zero_le (show 0 ≤ 2 * r.w + 1 by omega)
  have hcut : cutR r t = fun i => if i < m then t i else 0 := by funext i; simp [cutR, hm]
  by_cases hall : ∀ i, i < 17 → t i = cutR r t i
  · have hq := fun W : World => run_equalIn_ints_t Tryd.underlying63 Tryd.underlying58 (by kernel_rfl) d (mkI .i16 17 (cutR r t)) t (cutR r t) (fun i hi => hT.isK.get hi) (fun i hi => (isK_mkI _ _ _).get hi) hall 9998 W
    rw [hcut] at hq
    have HA := Lib.hid hall
    clear hall
    have HC := Lib.hid hcut
    clear hcut
    go_enter Tryd.func135, Tryd.ntmps135
    go_wp2_with fail
    refine gen_world fun W hW => ?_
    rw [← hW] at p0 p1 pB
    clear hW
    have lW0 := rowAt_lt p0
    have lW1 := rowAt_lt p1
    go_cut [17] (fun p W' => p = .bool false ∧ rowAt W' (w.heap.size + 1) = some d ∧ Below w.heap.size w W')
    case first =>
      go_region_with (first | (go_at_call 63; (with_reducible refine (implValid_t c r _ hR ho).mono ?_); rintro x wx ⟨rfl, bx⟩; have q0 := brow bx p0; have q1 := brow bx p1; have g := bnext pB.drew bx pB.size; clear bx) | (go_at_call 152; (with_reducible refine (across_any c r _ hR).mono ?_); rw [hm]; rintro x wx ⟨rfl, bx⟩; replace q0 := brow bx q0; replace q1 := brow bx q1; replace g := bnext g bx g.size; clear bx) | (go_at_call 151; (with_reducible refine (firstCells_any d t m _ hT (by omega) (by omega)).mono ?_); rintro x wx ⟨rfl, bx⟩; replace q0 := brow bx q0; replace q1 := brow bx q1; replace g := bnext g bx g.size; clear bx))
      all_goals
        go_wp2_with fail
        go_meet
        case rel => exact ⟨rfl, q1, g⟩
    case rest =>
      obtain ⟨rfl, r1, g⟩ := hcut
      clear hq p0 p1 pB
      go_wp2_with fail
      go_loopw [19] (fun i W => ∃ k : Nat, k ≤ 17 ∧ i = .int .i64 k ∧ Hid (∀ j, j < k → r.rfine t j) ∧ W = wc) (fun i _ => 17 - (intOf i).toNat)
      case atStart => exact ⟨0, by omega, rfl, Lib.hid (by omega), rfl⟩
      case round =>
        obtain ⟨k, hk, rfl, hf, rfl⟩ := hrel
        by_cases hlt : k < 17
        · have hk1 : k < d.size := by omega
          have h0 := hT.isK.cell k hk1
          have x0 := hT.lo k hlt
          have x1 := hT.hi k hlt
          have hh := HA.out k hlt
          unfold cutR at hh
          have HH := Lib.hid hh
          clear hh
          by_cases y0 : 0 ≤ t k
          · by_cases y1 : t k ≤ 1000
            · go_wp2_with fail
              refine ⟨⟨k + 1, by omega, by go_num, Lib.hid ?_, trivial⟩, by simp [intOf]; omega⟩
              intro j hj
              by_cases hjk : j < k
              · exact hf.out j hjk
              · obtain rfl : j = k := by omega
                refine ⟨⟨y0, y1⟩, ?_⟩
                have := HH.out
                split at this
                · exact .inl (by omega)
                · exact .inr this
            · go_wp2_with fail
              go_ret
              refine ⟨?_, g⟩
              rw [Rf.rok_false fun h => by have := (h.2 k hlt).1.2; omega]
              rfl
          · go_wp2_with fail
            go_ret
            refine ⟨?_, g⟩
            rw [Rf.rok_false fun h => by have := (h.2 k hlt).1.1; omega]
            rfl
        · go_wp2_with fail
          go_ret
          refine ⟨?_, g⟩
          rw [Rf.rok_true ⟨ho, fun i hi => hf.out i (by omega)⟩]
          rfl
  · have hq := fun W : World => run_equalIn_ints_f Tryd.underlying63 Tryd.underlying58 (by kernel_rfl) d (mkI .i16 17 (cutR r t)) t (cutR r t) (fun i hi => hT.isK.get hi) (fun i hi => (isK_mkI _ _ _).get hi) hall 9998 W
    rw [hcut] at hq
    have HA := Lib.hid hall
    clear hall
    have HC := Lib.hid hcut
    clear hcut
    go_enter Tryd.func135, Tryd.ntmps135
    go_wp2_with fail
    refine gen_world fun W hW => ?_
    rw [← hW] at p0 p1 pB
    clear hW
    have lW0 := rowAt_lt p0
    have lW1 := rowAt_lt p1
    go_cut [17] (fun p W' => p = .bool true ∧ rowAt W' (w.heap.size + 1) = some d ∧ Below w.heap.size w W')
    case first =>
      go_region_with (first | (go_at_call 63; (with_reducible refine (implValid_t c r _ hR ho).mono ?_); rintro x wx ⟨rfl, bx⟩; have q0 := brow bx p0; have q1 := brow bx p1; have g := bnext pB.drew bx pB.size; clear bx) | (go_at_call 152; (with_reducible refine (across_any c r _ hR).mono ?_); rw [hm]; rintro x wx ⟨rfl, bx⟩; replace q0 := brow bx q0; replace q1 := brow bx q1; replace g := bnext g bx g.size; clear bx) | (go_at_call 151; (with_reducible refine (firstCells_any d t m _ hT (by omega) (by omega)).mono ?_); rintro x wx ⟨rfl, bx⟩; replace q0 := brow bx q0; replace q1 := brow bx q1; replace g := bnext g bx g.size; clear bx))
      all_goals
        go_wp2_with fail
        go_meet
        case rel => exact ⟨rfl, q1, g⟩
    case rest =>
      obtain ⟨rfl, r1, g⟩ := hcut
      clear hq p0 p1 pB
      go_wp2_with fail
      go_ret
      refine ⟨?_, g⟩
      rw [Rf.rok_false fun h => HA.out fun i hi => ?_]
      · rfl
      · have := (h.2 i hi).2
        unfold cutR
        split
        · rfl
        · omega

theorem implValidRain_any (c d : Array Value) (r : Rf) (t : Nat → Int) (w : World) (hR : IsRoof c r) (hT : IsRain d t) :
    Calls Tryd.prog 135 #[.agg c, .agg d] w fun e w' => e = .returned (.bool (r.rok t)) ∧ Below w.heap.size w w' := by
  by_cases ho : r.Ok
  · exact implValidRain_yes c d r t w hR hT ho
  · rw [Rf.rok_false fun h => ho h.1]
    exact implValidRain_no c d r w hR ho
theorem implValidRain_t (c d : Array Value) (r : Rf) (t : Nat → Int) (w : World) (hR : IsRoof c r) (hT : IsRain d t) (h : r.Rains t) :
    Calls Tryd.prog 135 #[.agg c, .agg d] w fun e w' => e = .returned (.bool true) ∧ Below w.heap.size w w' := by
  have := implValidRain_any c d r t w hR hT; rwa [Rf.rok_true h] at this
theorem implValidRain_f (c d : Array Value) (r : Rf) (t : Nat → Int) (w : World) (hR : IsRoof c r) (hT : IsRain d t) (h : ¬ r.Rains t) :
    Calls Tryd.prog 135 #[.agg c, .agg d] w fun e w' => e = .returned (.bool false) ∧ Below w.heap.size w w' := by
  have := implValidRain_any c d r t w hR hT; rwa [Rf.rok_false h] at this
end Go.Proofs.YtcdddngdjhjdbaaDoor
