/- DrainTime: both sides. -/
import Derived.Test.YtfdoehakpeddnaaMinQ
import Derived.Test.YtfdoehakpeddnaaWatV
import Derived.Test.YtfdoehakpeddnaaAnyI
namespace Go.Proofs.Ytfdoehakpeddnaa
open Go.RowKit

open Classical in
/-- All cells are empty behind j minutes without rain. -/
noncomputable def Gt.dryB (g : Gt) (t : Nat → Int) (j : Nat) : Bool := decide (∀ i, i < 17 → g.itT t (fun _ => 0) 0 j i = 0)
theorem Gt.dryB_t {g : Gt} {t : Nat → Int} {j : Nat} : g.dryB t j = true ↔ ∀ i, i < 17 → g.itT t (fun _ => 0) 0 j i = 0 := by simp only [Gt.dryB, decide_eq_true_eq]
theorem Gt.dryB_f {g : Gt} {t : Nat → Int} {j : Nat} : g.dryB t j = false ↔ ¬ ∀ i, i < 17 → g.itT t (fun _ => 0) 0 j i = 0 := by simp only [Gt.dryB, decide_eq_false_iff_not]
noncomputable def Gt.draZ (g : Gt) (t : Nat → Int) : Int := firstI (g.dryB t) 201
noncomputable def Gt.draV (g : Gt) (t : Nat → Int) : Int := if g.watB t = true ∧ 0 ≤ g.draZ t then g.draZ t else 0
noncomputable def Gt.draC (g : Gt) (t : Nat → Int) : Int := if g.watB t = true then (if 0 ≤ g.draZ t then 0 else 6) else 1
theorem Gt.dra_n {g : Gt} {t : Nat → Int} (h : g.watB t = false) : g.draV t = 0 ∧ g.draC t = 1 := by
  unfold Gt.draV Gt.draC
  rw [h]
  exact ⟨if_neg (fun x => by cases x.1), if_neg (fun x => by cases x)⟩
theorem Gt.dra_hit {g : Gt} {t : Nat → Int} (h : g.watB t = true) {j : Nat} (hj : j < 201) (hm : ∀ q, q < j → g.dryB t q = false) (hd : g.dryB t j = true) : g.draV t = j ∧ g.draC t = 0 := by
  have e : g.draZ t = j := firstI_hit hj hm hd
  unfold Gt.draV Gt.draC
  rw [h, e]
  exact ⟨if_pos ⟨rfl, by omega⟩, by rw [if_pos rfl, if_pos (by omega)]⟩
theorem Gt.dra_miss {g : Gt} {t : Nat → Int} (h : g.watB t = true) (hm : ∀ q, q < 201 → g.dryB t q = false) : g.draV t = 0 ∧ g.draC t = 6 := by
  have e : g.draZ t = -1 := firstI_miss hm
  unfold Gt.draV Gt.draC
  rw [h, e]
  exact ⟨if_neg (fun x => by omega), by rw [if_pos rfl, if_neg (by omega)]⟩
theorem Gt.wat_bd {g : Gt} {t : Nat → Int} (h : g.watB t = true) : ∀ i, i < 17 → 0 ≤ t i ∧ t i ≤ 1000 := fun i hi => by
  obtain ⟨o, f⟩ := Gt.watB_of h
  have h1 := (f i hi).1
  have h2 := (f i hi).2.1
  have h3 := o.d1
  exact ⟨h1, by omega⟩

set_option maxRecDepth 100000 in
set_option maxHeartbeats 4000000 in
theorem specDrainTime_any (b : Nat) (c : Array Value) (g : Gt) (v : Value) (d : Array Value) (t : Nat → Int) (w : World) (hG : IsGut c g v) (hv : IsList w b v 2 g.m (pipeV g.p)) (hm : g.m ≤ 2000000) (hD : IsWat d t) :
    Calls Try.prog 25 #[.agg c, .agg d] w fun e w' => e = .returned (.tuple #[.int .i64 (g.draV t), .int .i64 (g.draC t)]) ∧ Below w.heap.size w w' := by
  have hA := gutAt_box hG hv
  have hb : Below (w.alloc (.cells c 37)).heap.size (w.alloc (.cells c 37)) ((w.alloc (.cells c 37)).alloc (.cells d 32)) := (Below.refl _ _).alloc (Nat.le_refl _) _
  have hB0 : Below w.heap.size w ((w.alloc (.cells c 37)).alloc (.cells d 32)) := ((Below.refl _ _).alloc (Nat.le_refl _) _).alloc (by simp) _
  have hA1 := Lib.hid (hA.below hb (Nat.le_refl _))
  have hR : rowAt ((w.alloc (.cells c 37)).alloc (.cells d 32)) (w.heap.size + 1) = some d := rowAt_alloc_at _ _ _ _ (by simp)
  have HR := Lib.hid hR
  have HD := Lib.hid hD
  have hds := hD.size
  have HAP := Lib.hid (hv.away (K := w.heap.size + 1) (by omega))
  have CW := l06Water_any _ b _ c d g t v _ hA1.out HR.out HD.out hm
  have HV := Lib.hid hv
  have HG := Lib.hid hG
  clear hG hv hA hb hR hD
  cases hwb : g.watB t with
  | false =>
    rw [hwb] at CW
    obtain ⟨e1, e2⟩ := Gt.dra_n hwb
    rw [e1, e2]
    clear e1 e2 hwb
    go_enter Try.func25, Try.ntmps25
    go_wp2_with fail
    refine CW.mono ?_
    rintro e w1 ⟨rfl, b1⟩
    have B1 := bnext hB0 b1 hB0.size
    clear b1 CW hB0
    go_wp2_with fail
    go_ret2
    exact ⟨rfl, B1⟩
  | true =>
    rw [hwb] at CW
    have hO := (Gt.watB_of hwb).1
    have HO := Lib.hid hO
    have HT := Lib.hid (Gt.itT_bd (r := fun _ => 0) (n := 0) hO (Gt.wat_bd hwb) (by omega))
    have HH := Lib.hid (fun (j : Nat) (hj : j < 201) hm hd => Gt.dra_hit hwb (j := j) hj hm hd)
    have HM := Lib.hid (fun hm => Gt.dra_miss hwb hm)
    clear hwb
    go_enter Try.func25, Try.ntmps25
    go_wp2_with fail
    refine CW.mono ?_
    rintro e w1 ⟨rfl, b1⟩
    have B1 := bnext hB0 b1 hB0.size
    have a1 := hA1.out.below b1 (Nat.le_refl _)
    have r1 := brow b1 HR.out
    have n1 : w.heap.size ≠ w.heap.size + 1 := by omega
    clear b1 CW hB0
    go_wp2_with fail
    have hk1 : w.heap.size ≤ w.heap.size + 1 := by omega
    generalize w.heap.size + 1 = K1 at *
    go_loopw [6] (fun i V => ∃ (j : Nat) (cur : Array Value), j ≤ 201 ∧ i = .int .i64 j ∧ rowAt V K1 = some cur ∧ Hid (IsK .i32 cur 17 (g.itT t (fun _ => 0) 0 j)) ∧ Hid (GutAt V w.heap.size c g v b) ∧ Hid (∀ q, q < j → g.dryB t q = false) ∧ Below w.heap.size w V) (fun i _ => 201 - (intOf i).toNat)
    case atStart => exact ⟨0, d, by omega, rfl, r1, Lib.hid HD.out.isK, Lib.hid a1, Lib.hid (fun q hq => by omega), B1⟩
    case round =>
      clear r1 a1 B1
      obtain ⟨j, cur, hj, rfl, q1, hI, hA, hF, hB⟩ := hrel
      by_cases hlt : j < 201
      · have j0 : 0 ≤ (j : Int) := by omega
        have j1 : (j : Int) ≤ 200 := by omega
        have hcs := hI.out.size
        have hco := hI.out.ones
        have l1 := rowAt_lt q1
        have l0 := rowAt_lt hA.out.row
        have HB := Lib.hid hB
        cases hdry : g.dryB t j with
        | true =>
          have hq := fun W : World => run_equalIn_ints_t Try.underlying32 Try.underlying21 (by kernel_rfl) cur zeroW (g.itT t (fun _ => 0) 0 j) (fun _ => 0) (fun i hi => hI.out.get hi) (fun i hi => zeroW_is.get hi) (Gt.dryB_t.1 hdry) 9998 W
          unfold zeroW at hq
          obtain ⟨e1, e2⟩ := HH.out j hlt hF.out hdry
          have E1 := Lib.hid e1
          have E2 := Lib.hid e2
          clear e1 e2 hdry hB
          go_wp2_with fail
          go_ret2
          exact ⟨by rw [E1.out, E2.out]; rfl, HB.out⟩
        | false =>
          have hq := fun W : World => run_equalIn_ints_f Try.underlying32 Try.underlying21 (by kernel_rfl) cur zeroW (g.itT t (fun _ => 0) 0 j) (fun _ => 0) (fun i hi => hI.out.get hi) (fun i hi => zeroW_is.get hi) (Gt.dryB_f.1 hdry) 9998 W
          unfold zeroW at hq
          have HDR := Lib.hid hdry
          have I2 := Lib.hid hI.out
          clear hdry hB
          go_wp2_with fail
          have hws : (wr.alloc (.cells #[] 2)).heap.size = wr.heap.size + 1 := by simp
          have rq : rowAt (wr.alloc (.cells #[] 2)) K1 = some cur := (rowAt_alloc_past _ _ _ l1).trans q1
          have hbw : Below wr.heap.size wr (wr.alloc (.cells #[] 2)) := (Below.refl _ _).alloc (Nat.le_refl _) _
          refine (l06Minute_1 w.heap.size b K1 0 0 c cur g (g.itT t (fun _ => 0) 0 j) (fun _ => 0) v _ _ (hA.out.below hbw (Nat.le_refl _)) rq I2.out (.inl ⟨rfl, _, _, rfl⟩) (by omega) (HT.out j) (by omega) n1 (fun h => by omega) HAP.out HO.out hm).mono ?_
          rintro e w5 ⟨rfl, ⟨cur2, r5, i5⟩, hO5, hL5⟩
          have B5 := Lib.hid ((HB.out.alloc HB.out.size (.cells #[] 2)).trans (hL5.2 w.heap.size hk1 (by have := HB.out.size; simp; omega)))
          have r0 : rowAt w5 w.heap.size = some c := (hO5 _ n1 (by simp; omega)).trans ((rowAt_alloc_past _ _ _ l0).trans hA.out.row)
          have A5 := Lib.hid (show GutAt w5 w.heap.size c g v b from ⟨r0, HG.out, HV.out.below B5.out (Nat.le_refl _)⟩)
          have I5 := Lib.hid i5
          have l5 := rowAt_lt r5
          clear hO5 hL5 i5 rq hbw q1 l1 l0 hws r0
          go_wp2_with fail
          refine ⟨⟨j + 1, cur2, by omega, by go_num, r5, I5, A5, Lib.hid fun q hq => ?_, B5.out⟩, by simp [intOf]; omega⟩
          by_cases h : q < j
          · exact hF.out q h
          · obtain rfl : q = j := by omega
            exact HDR.out
      · obtain rfl : j = 201 := by omega
        have hj1 : ¬ ((201 : Nat) : Int) ≤ 200 := by omega
        obtain ⟨e1, e2⟩ := HM.out hF.out
        have E1 := Lib.hid e1
        have E2 := Lib.hid e2
        have HB := Lib.hid hB
        clear e1 e2 hB
        go_wp2_with fail
        go_ret2
        exact ⟨by rw [E1.out, E2.out]; rfl, HB.out⟩

set_option maxRecDepth 100000 in
set_option maxHeartbeats 4000000 in
theorem implDrainTime_any (b : Nat) (c : Array Value) (g : Gt) (v : Value) (d : Array Value) (t : Nat → Int) (w : World) (hG : IsGut c g v) (hv : IsList w b v 2 g.m (pipeV g.p)) (hm : g.m ≤ 2000000) (hD : IsWat d t) :
    Calls Try.prog 26 #[.agg c, .agg d] w fun e w' => e = .returned (.tuple #[.int .i64 (g.draV t), .int .i64 (g.draC t)]) ∧ Below w.heap.size w w' := by
  have hc := hG.size
  have hco := hG.ones
  have hds := hD.size
  have hdo := hD.ones
  have rA : rowAt ((w.alloc (.cells c 37)).alloc (.cells d 32)) w.heap.size = some c := (rowAt_alloc_past _ _ _ (by simp)).trans (rowAt_alloc_at _ _ _ _ rfl)
  have rD : rowAt ((w.alloc (.cells c 37)).alloc (.cells d 32)) (w.heap.size + 1) = some d := rowAt_alloc_at _ _ _ _ (by simp)
  have hB0 : Below w.heap.size w ((w.alloc (.cells c 37)).alloc (.cells d 32)) := ((Below.refl _ _).alloc (Nat.le_refl _) _).alloc (by simp) _
  have CW := fun W H => implValidWater_any b c g v d t W hG H hm hD
  have HV := Lib.hid hv
  have HG := Lib.hid hG
  have HD := Lib.hid hD
  have k01 : w.heap.size ≠ w.heap.size + 1 := by omega
  have b01 : w.heap.size ≤ w.heap.size + 1 := by omega
  clear hG hv hD
  cases hwb : g.watB t with
  | false =>
    rw [hwb] at CW
    obtain ⟨e1, e2⟩ := Gt.dra_n hwb
    rw [e1, e2]
    clear e1 e2 hwb
    go_enter Try.func26, Try.ntmps26
    go_wp2_with fail
    refine (CW _ (HV.out.below hB0 (Nat.le_refl _))).mono ?_
    rintro e w1 ⟨rfl, b1⟩
    have B1 := bnext hB0 b1 hB0.size
    clear b1 CW hB0 rA rD
    go_wp2_with fail
    go_ret2
    exact ⟨rfl, B1⟩
  | true =>
    rw [hwb] at CW
    have hO := (Gt.watB_of hwb).1
    have HO := Lib.hid hO
    have HT := Lib.hid (Gt.itT_bd (r := fun _ => 0) (n := 0) hO (Gt.wat_bd hwb) (by omega))
    have HH := Lib.hid (fun (j : Nat) (hj : j < 201) hm hd => Gt.dra_hit hwb (j := j) hj hm hd)
    have HM := Lib.hid (fun hm => Gt.dra_miss hwb hm)
    have CM := fun W x (dd : Array Value) (tt : Nat → Int) (a : IsShw W 0 x g 0 (fun _ => 0)) (bb : IsK .i32 dd 17 tt) (c : ∀ i, i < 17 → 0 ≤ tt i ∧ tt i ≤ 1000) => minuteW_any 0 0 x g (fun _ => 0) tt dd W a (Nat.zero_le _) HO.out bb c (by omega)
    have CH := fun W H => shower_any b 0 c g v (.slice none 0 0) (fun _ => 0) W HG.out H HO.out (.inl ⟨rfl, _, _, rfl⟩)
    clear hwb hO
    go_enter Try.func26, Try.ntmps26
    go_wp2_with fail
    refine (CW _ (HV.out.below hB0 (Nat.le_refl _))).mono ?_
    rintro e w1 ⟨rfl, b1⟩
    have r1 := brow b1 rA
    have r2 := brow b1 rD
    have B1 := bnext hB0 b1 hB0.size
    clear b1 CW hB0 rA rD
    go_wp2_with fail
    refine (CH _ (HV.out.below B1 (Nat.le_refl _))).mono ?_
    rintro e w2 ⟨x, rfl, hS, hSK, b2⟩
    have hSK1 := hSK (w.heap.size + 1) (rowAt_lt r2) (fun h => by omega)
    have s1 := brow b2 r1
    have s2 := brow b2 r2
    have B2 := bnext B1 b2 B1.size
    have xs : x.size = 4 := by obtain ⟨vo, vf, vr, rfl, _⟩ := hS; rfl
    have xo := hS.ones
    have HS := Lib.hid hSK1
    clear b2 B1 r1 r2 CH hS hSK hSK1
    go_wp2_with fail
    refine gen_world fun W hW => ?_
    have q0 : rowAt W w.heap.size = some c := by rw [hW]; simpa using (rowAt_alloc_past _ _ _ (rowAt_lt s1)).trans s1
    have q1 : rowAt W (w.heap.size + 1) = some d := by rw [hW]; simpa using (rowAt_alloc_past _ _ _ (rowAt_lt s2)).trans s2
    have q2 : rowAt W w2.heap.size = some x := by rw [hW]; simpa using rowAt_alloc_at w2 x 80 _ rfl
    have BW : Below w.heap.size w W := by rw [hW]; simpa using B2.alloc B2.size _
    have SW : IsShwK W (w.heap.size + 1) x g 0 (fun _ => 0) := by rw [hW]; exact HS.out.below ((Below.refl _ _).alloc (Nat.le_refl _) _)
    have k12 : w.heap.size + 1 ≠ w2.heap.size := Nat.ne_of_lt (rowAt_lt s2)
    have k02 : w.heap.size ≠ w2.heap.size := Nat.ne_of_lt (rowAt_lt s1)
    have HSW := Lib.hid SW
    clear hW s1 s2 B2 HS SW
    generalize w2.heap.size = K2 at *
    generalize w.heap.size + 1 = K1 at *
    go_loopw [7, 14] (fun _ i V => ∃ (j : Nat) (cur : Array Value), j ≤ 201 ∧ i = .int .i64 j ∧ rowAt V K1 = some cur ∧ Hid (IsK .i32 cur 17 (g.itT t (fun _ => 0) 0 j)) ∧ rowAt V w.heap.size = some c ∧ rowAt V K2 = some x ∧ Hid (IsShwK V K1 x g 0 (fun _ => 0)) ∧ Hid (∀ q, q < j → g.dryB t q = false) ∧ Below w.heap.size w V) (fun _ i _ => 201 - (intOf i).toNat)
    case atStart => exact ⟨0, d, by omega, rfl, q1, Lib.hid HD.out.isK, q0, q2, HSW, Lib.hid (fun q hq => by omega), BW⟩
    case round =>
      clear q0 q1 q2 HSW BW
      obtain ⟨j, cur, hj, rfl, q1, hI, q0, q2, hS, hF, hB⟩ := hrel
      by_cases hlt : j < 201
      · have j0 : 0 ≤ (j : Int) := by omega
        have j1 : (j : Int) < 201 := by omega
        have hcs := hI.out.size
        have hcu := hI.out.ones
        have l1 := rowAt_lt q1
        have l0 := rowAt_lt q0
        have HB := Lib.hid hB
        cases hdry : g.dryB t j with
        | true =>
          have hq := fun W : World => run_equalIn_ints_t Try.underlying32 Try.underlying21 (by kernel_rfl) cur zeroW (g.itT t (fun _ => 0) 0 j) (fun _ => 0) (fun i hi => hI.out.get hi) (fun i hi => zeroW_is.get hi) (Gt.dryB_t.1 hdry) 9998 W
          unfold zeroW at hq
          obtain ⟨e1, e2⟩ := HH.out j hlt hF.out hdry
          have E1 := Lib.hid e1
          have E2 := Lib.hid e2
          clear e1 e2 hdry hB
          go_wp2_with fail
          go_ret2
          exact ⟨by rw [E1.out, E2.out]; rfl, HB.out⟩
        | false =>
          have hq := fun W : World => run_equalIn_ints_f Try.underlying32 Try.underlying21 (by kernel_rfl) cur zeroW (g.itT t (fun _ => 0) 0 j) (fun _ => 0) (fun i hi => hI.out.get hi) (fun i hi => zeroW_is.get hi) (Gt.dryB_f.1 hdry) 9998 W
          unfold zeroW at hq
          have HDR := Lib.hid hdry
          have CMj := CM wr x cur _ hS.out.shw hI.out (HT.out j)
          have Q0 := Lib.hid q0
          clear hdry hB q0
          go_wp2_with fail
          refine CMj.mono ?_
          rintro e w5 ⟨cur2, rfl, i2, b5⟩
          have r0 := brow b5 Q0.out
          have r1 := brow b5 q1
          have r2 := brow b5 q2
          have S5 := Lib.hid (hS.out.below b5)
          have B5 := Lib.hid (bnext HB.out b5 HB.out.size)
          have c2s := i2.size
          have c2o := i2.ones
          have I2 := Lib.hid i2
          have l5 := rowAt_lt r1
          have R0 := Lib.hid r0
          have R2 := Lib.hid r2
          clear CMj b5 q1 q2 i2 l1 l0 r0 r2
          go_wp2_with fail
          refine ⟨⟨j + 1, cur2, by omega, by go_num, rowAt_setRow_at _ _ _ (by rw [r1]; rfl), I2, (rowAt_setRow_ne _ _ _ _ k01).trans R0.out, (rowAt_setRow_ne _ _ _ _ (Ne.symm k12)).trans R2.out, Lib.hid (S5.out.setRow _), Lib.hid fun q hq => ?_, below_setRow B5.out b01 _⟩, by simp [intOf]; omega⟩
          by_cases h : q < j
          · exact hF.out q h
          · obtain rfl : q = j := by omega
            exact HDR.out
      · obtain rfl : j = 201 := by omega
        have hj1 : ¬ ((201 : Nat) : Int) < 201 := by omega
        obtain ⟨e1, e2⟩ := HM.out hF.out
        have E1 := Lib.hid e1
        have E2 := Lib.hid e2
        have HB := Lib.hid hB
        clear e1 e2 hB
        go_wp2_with fail
        go_ret2
        exact ⟨by rw [E1.out, E2.out]; rfl, HB.out⟩
end Go.Proofs.Ytfdoehakpeddnaa
