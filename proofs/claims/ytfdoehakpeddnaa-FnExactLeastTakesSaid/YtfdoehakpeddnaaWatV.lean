/- ValidWater: both sides. -/
import Derived.Test.YtfdoehakpeddnaaGutG
import Derived.Test.YtfdoehakpeddnaaGutV
import Derived.Test.YtfdoehakpeddnaaWat
import Derived.Test.YtfdoehakpeddnaaCopy
import Derived.Test.YtfdoehakpeddnaaEq
namespace Go.Proofs.Ytfdoehakpeddnaa
open Go.RowKit

/-- The water of a cell is as valid water has it. -/
def Gt.wOk (g : Gt) (t : Nat → Int) (i : Nat) : Prop := 0 ≤ t i ∧ t i ≤ g.d ∧ ((i : Int) < g.n ∨ t i = 0)
open Classical in
noncomputable def Gt.watB (g : Gt) (t : Nat → Int) : Bool := decide (g.Ok ∧ ∀ i, i < 17 → g.wOk t i)
theorem Gt.watB_t {g : Gt} {t : Nat → Int} (h : g.Ok) (k : ∀ i, i < 17 → g.wOk t i) : g.watB t = true := by simp only [Gt.watB, decide_eq_true_eq]; exact ⟨h, k⟩
theorem Gt.watB_f {g : Gt} {t : Nat → Int} (h : ¬ g.Ok) : g.watB t = false := by simp only [Gt.watB, decide_eq_false_iff_not]; exact fun x => h x.1
theorem Gt.watB_c {g : Gt} {t : Nat → Int} {i : Nat} (hi : i < 17) (h : ¬ g.wOk t i) : g.watB t = false := by simp only [Gt.watB, decide_eq_false_iff_not]; exact fun x => h (x.2 i hi)
theorem Gt.watB_of {g : Gt} {t : Nat → Int} (h : g.watB t = true) : g.Ok ∧ ∀ i, i < 17 → g.wOk t i := by simpa only [Gt.watB, decide_eq_true_eq] using h

set_option maxRecDepth 100000 in
set_option maxHeartbeats 2000000 in
theorem l06Water_any (k b kw : Nat) (c d : Array Value) (g : Gt) (t : Nat → Int) (v : Value) (w : World) (hA : GutAt w k c g v b) (hR : rowAt w kw = some d) (hD : IsWat d t) (hm : g.m ≤ 2000000) :
    Calls Try.prog 57 #[.pointer (some ⟨k, 0, none⟩), .pointer (some ⟨kw, 0, none⟩)] w fun e w' => e = .returned (.bool (g.watB t)) ∧ Below w.heap.size w w' := by
  have CK := l06Ok_any k b c g v w hA hm
  have HA := Lib.hid hA
  cases hk : g.ok with
  | false =>
    rw [hk] at CK
    have HX := Lib.hid (Gt.watB_f (t := t) (Gt.not_of hk))
    clear hA hk
    go_enter Try.func57, Try.ntmps57
    go_wp2_with fail
    refine CK.mono ?_
    rintro e w1 ⟨rfl, b1⟩
    clear CK
    go_wp2_with fail
    go_ret
    exact ⟨by rw [HX.out]; rfl, b1⟩
  | true =>
    rw [hk] at CK
    have hO := Gt.Ok_of hk
    have HT := Lib.hid (Gt.watB_t (t := t) hO)
    have HC := Lib.hid (fun i (hi : i < 17) (h : ¬ g.wOk t i) => Gt.watB_c hi h)
    have n1 := hO.n1
    have n17 := hO.n17
    have d0 := hO.d0
    have d1 := hO.d1
    have HD := Lib.hid hD
    have hds := hD.size
    clear hA hk hO hD
    go_enter Try.func57, Try.ntmps57
    go_wp2_with fail
    refine CK.mono ?_
    rintro e w1 ⟨rfl, b1⟩
    have HR := Lib.hid hR
    clear CK hR
    go_wp2_with fail
    go_loopw [5] (fun i W => ∃ j : Nat, j ≤ 17 ∧ i = .int .i8 j ∧ Hid (∀ q, q < j → g.wOk t q) ∧ Below w.heap.size w W) (fun i _ => 17 - (intOf i).toNat)
    case atStart => exact ⟨0, by omega, rfl, Lib.hid (by omega), b1⟩
    case round =>
      clear b1
      obtain ⟨j, hj, rfl, hF, hB⟩ := hrel
      have HB := Lib.hid hB
      have rW := brow hB HA.out.row
      have rD := brow hB HR.out
      have z0 : wr.cell? ⟨k, 0, none⟩ = some (.int .i8 g.n) := by rw [cell_of_rowAt rW]; exact HA.out.is.get0
      have z1 : wr.cell? ⟨k, 1, none⟩ = some (.int .i16 g.d) := by rw [cell_of_rowAt rW]; exact HA.out.is.get1
      have hlw := rowAt_lt rW
      have hlw2 := rowAt_lt rD
      by_cases hlt : j < 17
      · have c0 : wr.cell? ⟨kw, j, none⟩ = some (.int .i32 (t j)) := by rw [cell_of_rowAt rD]; exact HD.out.isK.get hlt
        have x0 := HD.out.lo j hlt
        have x1 := HD.out.hi j hlt
        have j0 : 0 ≤ (j : Int) := by omega
        have j1 : (j : Int) < 17 := by omega
        have nxt : Hid (g.wOk t j → ∀ q, q < j + 1 → g.wOk t q) := Lib.hid fun hx q hq => by
          by_cases hqj : q < j
          · exact hF.out q hqj
          · obtain rfl : q = j := by omega
            exact hx
        by_cases hr : 0 ≤ t j ∧ t j ≤ g.d
        · by_cases hn : (j : Int) < g.n
          · have hb : decide (g.n ≤ (j : Int)) = false := by simp; omega
            clear rW rD hB
            go_wp2_with fail
            go_quiet ((go_at_call 48; exact Calls.quiet_of_same (l00In_tq _ _ _ _ hr)))
            go_wp2_with fail
            refine ⟨⟨j + 1, by omega, by go_num, Lib.hid (nxt.out ⟨hr.1, hr.2, .inl hn⟩), below_drewN HB.out _⟩, by simp [intOf]; omega⟩
          · have hb : decide (g.n ≤ (j : Int)) = true := by simp; omega
            by_cases hz : t j = 0
            · have hzb : (t j != 0) = false := by simp [hz]
              have HZ := Lib.hid hz
              clear hz rW rD hB
              go_wp2_with fail
              go_quiet ((go_at_call 48; exact Calls.quiet_of_same (l00In_tq _ _ _ _ hr)))
              go_wp2_with fail
              refine ⟨⟨j + 1, by omega, by go_num, Lib.hid (nxt.out ⟨hr.1, hr.2, .inr HZ.out⟩), below_drewN HB.out _⟩, by simp [intOf]; omega⟩
            · have hzb : (t j != 0) = true := by simp [hz]
              have HX := Lib.hid (HC.out j hlt (fun o => by rcases o.2.2 with o | o <;> omega))
              clear hz rW rD hB
              go_wp2_with fail
              go_quiet ((go_at_call 48; exact Calls.quiet_of_same (l00In_tq _ _ _ _ hr)))
              go_wp2_with fail
              go_ret
              exact ⟨by rw [HX.out]; rfl, below_drewN HB.out _⟩
        · have HX := Lib.hid (HC.out j hlt (fun o => hr ⟨o.1, o.2.1⟩))
          clear rW rD hB
          go_wp2_with fail
          go_quiet ((go_at_call 48; exact Calls.quiet_of_same (l00In_fq _ _ _ _ hr)))
          go_wp2_with fail
          go_ret
          exact ⟨by rw [HX.out]; rfl, below_drewN HB.out _⟩
      · obtain rfl : j = 17 := by omega
        have hj1 : ¬ ((17 : Nat) : Int) < 17 := by omega
        have HX := Lib.hid (HT.out (fun i hi => hF.out i hi))
        clear rW rD hB
        go_wp2_with fail
        go_ret
        exact ⟨by rw [HX.out]; rfl, HB.out⟩

/-- Water that is bounded, k cells of it. -/
def Gt.heldV (g : Gt) (t : Nat → Int) (i : Nat) : Int := if (i : Int) < g.n then min (max (t i) 0) g.d else 0
theorem Gt.heldV_iff {g : Gt} {t : Nat → Int} (h : g.Ok) : (∀ i, i < 17 → t i = g.heldV t i) ↔ g.watB t = true := by
  have d0 := h.d0
  constructor
  · intro e
    refine Gt.watB_t h fun i hi => ?_
    have := e i hi
    unfold Gt.heldV at this
    unfold Gt.wOk
    split at this <;> omega
  · intro e i hi
    obtain ⟨a, b, c⟩ := (Gt.watB_of e).2 i hi
    unfold Gt.heldV
    split <;> omega

set_option maxRecDepth 100000 in
set_option maxHeartbeats 2000000 in
theorem implValidWater_any (b : Nat) (c : Array Value) (g : Gt) (v : Value) (d : Array Value) (t : Nat → Int) (w : World) (hG : IsGut c g v) (hv : IsList w b v 2 g.m (pipeV g.p)) (hm : g.m ≤ 2000000) (hD : IsWat d t) :
    Calls Try.prog 58 #[.agg c, .agg d] w fun e w' => e = .returned (.bool (g.watB t)) ∧ Below w.heap.size w w' := by
  have hc := hG.size
  have hds := hD.size
  have rA : rowAt ((w.alloc (.cells c 37)).alloc (.cells d 32)) w.heap.size = some c := (rowAt_alloc_past _ _ _ (by simp)).trans (rowAt_alloc_at _ _ _ _ rfl)
  have rD : rowAt ((w.alloc (.cells c 37)).alloc (.cells d 32)) (w.heap.size + 1) = some d := rowAt_alloc_at _ _ _ _ (by simp)
  have hB0 : Below w.heap.size w ((w.alloc (.cells c 37)).alloc (.cells d 32)) := ((Below.refl _ _).alloc (Nat.le_refl _) _).alloc (by simp) _
  have hV := Lib.hid (hv.below hB0 (Nat.le_refl _))
  have CK := fun W H => implValidGutter_any b c g v W hG H hm
  cases hk : g.ok with
  | false =>
    rw [hk] at CK
    have HX := Lib.hid (Gt.watB_f (t := t) (Gt.not_of hk))
    clear hG hv hk
    go_enter Try.func58, Try.ntmps58
    go_wp2_with fail
    refine (CK _ hV.out).mono ?_
    rintro e w1 ⟨rfl, b1⟩
    have B1 := bnext hB0 b1 hB0.size
    clear b1 CK
    go_wp2_with fail
    go_ret
    exact ⟨by rw [HX.out]; rfl, B1⟩
  | true =>
    rw [hk] at CK
    have hO := Gt.Ok_of hk
    obtain ⟨N, hN⟩ := Int.eq_ofNat_of_zero_le (show 0 ≤ g.n by have := hO.n1; omega)
    have hN17 : N ≤ 17 := by have := hO.n17; omega
    have hN0 : 0 ≤ (N : Int) := by omega
    have hNi : (N : Int) ≤ 17 := by omega
    have d0 := hO.d0
    have d1 := hO.d1
    have HG := Lib.hid hG
    have HD := Lib.hid hD
    have HNN := Lib.hid hN
    have HO := Lib.hid hO
    have ho := hD.ones
    clear hG hv hk hD hN
    go_enter Try.func58, Try.ntmps58
    go_wp2_with fail
    refine (CK _ hV.out).mono ?_
    rintro e w1 ⟨rfl, b1⟩
    have r1 := brow b1 rA
    have r2 := brow b1 rD
    have B1 := bnext hB0 b1 hB0.size
    clear b1 CK rA rD hV hB0
    go_wp2_with fail
    refine gen_world fun W hW => ?_
    have q0 : rowAt W w.heap.size = some c := by rw [hW]; exact (rowAt_alloc_past _ _ _ (rowAt_lt r1)).trans r1
    have q1 : rowAt W (w.heap.size + 1) = some d := by rw [hW]; exact (rowAt_alloc_past _ _ _ (rowAt_lt r2)).trans r2
    obtain ⟨z, q4, hz, hzc⟩ : ∃ z : Array Value, rowAt W w1.heap.size = some z ∧ z.size = 17 ∧ (∀ i, i < 17 → z[i]? = some (.int .i32 0)) := by
      rw [hW]
      refine ⟨_, rowAt_alloc_at _ _ _ _ rfl, by simp, fun i hi => ?_⟩
      match i with
      | 0 => rfl
      | 1 => rfl
      | 2 => rfl
      | 3 => rfl
      | 4 => rfl
      | 5 => rfl
      | 6 => rfl
      | 7 => rfl
      | 8 => rfl
      | 9 => rfl
      | 10 => rfl
      | 11 => rfl
      | 12 => rfl
      | 13 => rfl
      | 14 => rfl
      | 15 => rfl
      | 16 => rfl
      | n + 17 => omega
    have BW : Below w.heap.size w W := by rw [hW]; exact B1.alloc B1.size _
    have ge := B1.size
    have lt1 : w.heap.size + 1 < w1.heap.size := rowAt_lt r2
    clear hW r1 r2 B1
    generalize w1.heap.size = K at *
    have z0 : W.cell? ⟨w.heap.size, 0, none⟩ = some (.int .i8 (N : Int)) := by rw [cell_of_rowAt q0, HG.out.get0, HNN.out]
    have n1 : w.heap.size ≠ K := by omega
    have n2 : w.heap.size + 1 ≠ K := by omega
    have ll := rowAt_lt q0
    have hcp := run_copy_rows (P := Try.prog) W.drew 134 134 3 21 K 0 N 17 (w.heap.size + 1) 0 N 17 N z d Try.underlying134 (by kernel_rfl) q4 q1 (Nat.min_self N).symm (by omega) (by omega) ho
    obtain ⟨F, hF⟩ : ∃ F, splice z 0 (d.extract 0 (0 + N)) = F := ⟨_, rfl⟩
    have fs : F.size = 17 := by rw [← hF, size_splice _ _ _ (by simp; omega)]; exact hz
    have fc : ∀ i, i < 17 → F[i]? = some (.int .i32 (if i < N then t i else 0)) := by
      intro i hi
      rw [← hF]
      by_cases h : i < N
      · rw [if_pos h, get_splice _ _ _ (by simp; omega), if_neg (by omega), if_pos (by simp; omega), Nat.sub_zero]
        rw [get_extract _ _ _ _ (by omega) (by omega), Nat.zero_add]
        exact HD.out.isK.get hi
      · rw [if_neg h, get_splice _ _ _ (by simp; omega), if_neg (by omega), if_neg (by simp; omega)]
        exact hzc i hi
    rw [hF] at hcp
    go_still_tail 6, (by kernel_rfl)
    change wpList _ _ _ _ _ W.drew
    repeat go_step
    clear hcp
    have s4 : rowAt (W.drew.setRow K F) K = some F := rowAt_setRow_at _ _ _ (by rw [show rowAt W.drew K = _ from q4]; rfl)
    have s0 : rowAt (W.drew.setRow K F) w.heap.size = some c := (rowAt_setRow_ne _ _ _ _ n1).trans q0
    have s1 : rowAt (W.drew.setRow K F) (w.heap.size + 1) = some d := (rowAt_setRow_ne _ _ _ _ n2).trans q1
    have sB : Below w.heap.size w (W.drew.setRow K F) := below_setRow BW.drew ge _
    clear q0 q1 BW z0 hF hzc hz ll
    have fo : Ones F := (IsK.of_get fs fc : IsK .i32 F 17 _).ones
    go_wp2_with fail
    go_loopw [6, 7, 19] (fun _ _ i W => ∃ (k : Nat) (cur : Array Value), k ≤ 17 ∧ i = .int .i64 k ∧ rowAt W K = some cur ∧ cur.size = 17 ∧ Hid (∀ i, i < k → cur[i]? = some (.int .i32 (g.heldV t i))) ∧ rowAt W w.heap.size = some c ∧ rowAt W (w.heap.size + 1) = some d ∧ Below w.heap.size w W) (fun _ _ i _ => 17 - (intOf i).toNat)
    case atStart => exact ⟨0, F, by omega, rfl, s4, fs, Lib.hid (by omega), s0, s1, sB⟩
    case round =>
      clear s4 s0 s1 sB
      obtain ⟨k, cur, hk, rfl, hr, hs, hf, rC, rD, hB⟩ := hrel
      by_cases hlt : k < 17
      · have hkF : k < F.size := by omega
        have hkc : k < cur.size := by omega
        have f0 : F[k] = .int .i32 (if k < N then t k else 0) := by have := fc k hlt; rw [Array.getElem?_eq_getElem hkF] at this; exact Option.some.inj this
        have z1 : wr.cell? ⟨w.heap.size, 1, none⟩ = some (.int .i16 g.d) := by rw [cell_of_rowAt rC]; exact HG.out.get1
        have kk : wr.cell? ⟨K, k, none⟩ = some cur[k] := by rw [cell_of_rowAt hr, Array.getElem?_eq_getElem hkc]
        have fr := frozen_of_rowAt hr
        have ll := rowAt_lt rC
        have lk := rowAt_lt hr
        have j0 : 0 ≤ (k : Int) := by omega
        have j1 : (k : Int) < 17 := by omega
        have HR := Lib.hid hr
        have HB := Lib.hid hB
        have HS := Lib.hid hs
        have HCC := Lib.hid rC
        have HDD := Lib.hid rD
        have hx : min (max (if k < N then t k else 0) 0) g.d = g.heldV t k := by
          unfold Gt.heldV
          rw [HNN.out]
          by_cases h : k < N
          · rw [if_pos h, if_pos (by omega)]
          · rw [if_neg h, if_neg (by omega)]; omega
        have HX := Lib.hid hx
        generalize (if k < N then t k else 0) = x at *
        clear hr hB hs rC rD hx
        go_wp2_with fail
        have hy : (if g.d < if x < 0 then 0 else x then g.d else if x < 0 then 0 else x) = g.heldV t k := by
          rw [← HX.out]
          by_cases h1 : x < 0
          · rw [if_pos h1]; split <;> omega
          · rw [if_neg h1]; split <;> omega
        rw [hy]
        have R3 := rowAt_setCell_at wr K k (.int .i32 (g.heldV t k)) (by rw [HR.out]; rfl)
        rw [HR.out, Option.getD_some] at R3
        refine ⟨⟨k + 1, _, by omega, by go_num, R3, by simp [HS.out], Lib.hid ?_, (rowAt_setCell_ne _ _ _ _ _ n1).trans HCC.out, (rowAt_setCell_ne _ _ _ _ _ n2).trans HDD.out, HB.out.setCell (p := ⟨K, k, none⟩) ge _⟩, by simp [intOf]; omega⟩
        intro i hi
        by_cases hi0 : i = k
        · subst hi0
          rw [Array.getElem?_setIfInBounds_self_of_lt hkc]
        · rw [Array.getElem?_setIfInBounds_ne (Ne.symm hi0)]
          exact hf.out i (by omega)
      · obtain rfl : k = 17 := by omega
        have hj1 : ¬ ((17 : Nat) : Int) < 17 := by omega
        have l1 := rowAt_lt rD
        have l2 := rowAt_lt hr
        have co : Ones cur := (IsK.of_get hs hf.out : IsK .i32 cur 17 _).ones
        have HB := Lib.hid hB
        clear hB
        cases hwb : g.watB t with
        | true =>
          have hq := fun W : World => run_equalIn_ints_t Try.underlying32 Try.underlying21 (by kernel_rfl) d cur t (g.heldV t) (fun i hi => HD.out.isK.get hi) hf.out ((Gt.heldV_iff HO.out).2 hwb) 9998 W
          have HW := Lib.hid hwb
          clear hwb
          go_wp2_with fail
          go_ret
          exact ⟨by rw [HW.out]; rfl, HB.out⟩
        | false =>
          have hq := fun W : World => run_equalIn_ints_f Try.underlying32 Try.underlying21 (by kernel_rfl) d cur t (g.heldV t) (fun i hi => HD.out.isK.get hi) hf.out (fun h => by rw [(Gt.heldV_iff HO.out).1 h] at hwb; cases hwb) 9998 W
          have HW := Lib.hid hwb
          clear hwb
          go_wp2_with fail
          go_ret
          exact ⟨by rw [HW.out]; rfl, HB.out⟩
end Go.Proofs.Ytfdoehakpeddnaa
