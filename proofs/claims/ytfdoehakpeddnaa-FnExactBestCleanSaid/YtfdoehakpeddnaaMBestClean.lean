import Derived.Test.YtfdoehakpeddnaaK6
import Derived.Test.YtfdoehakpeddnaaGutG
import Derived.Test.YtfdoehakpeddnaaWat
import Derived.Test.YtfdoehakpeddnaaNums
import Derived.Test.YtfdoehakpeddnaaLeav
import Derived.Test.YtfdoehakpeddnaaArgN
import Derived.Test.YtfdoehakpeddnaaLs
import Derived.Test.YtfdoehakpeddnaaGutH
import Derived.Deep.RegionHeld3
import Derived.Deep.DeepCutAuto

/- The first minute in which something runs over: the model's and the program's. -/
namespace Go.Proofs.Ytfdoehakpeddnaa
open Go.RowKit

/-- Something runs over in minute j. -/
noncomputable def Gt.ovB (g : Gt) (n : Nat) (r : Nat → Int) (j : Nat) : Bool := decide (0 < g.minO (g.itT (fun _ => 0) r n j) r n)
noncomputable def Gt.ovZ (g : Gt) (n : Nat) (r : Nat → Int) : Int := firstI (g.ovB n r) 200
/-- That minute, 0 if there is none, and whether there is one. -/
noncomputable def Gt.ovV (g : Gt) (n : Nat) (r : Nat → Int) : Int := if 0 ≤ g.ovZ n r then g.ovZ n r else 0
noncomputable def Gt.ovF (g : Gt) (n : Nat) (r : Nat → Int) : Bool := decide (0 ≤ g.ovZ n r)
theorem Gt.ov_t {g : Gt} {n j : Nat} {r : Nat → Int} (h : g.ovZ n r = j) : g.ovV n r = j ∧ g.ovF n r = true := by
  unfold Gt.ovV Gt.ovF
  rw [h]
  exact ⟨if_pos (by omega), decide_eq_true (by omega)⟩
theorem Gt.ov_f {g : Gt} {n : Nat} {r : Nat → Int} (h : g.ovZ n r = -1) : g.ovV n r = 0 ∧ g.ovF n r = false := by
  unfold Gt.ovV Gt.ovF
  rw [h]
  exact ⟨if_neg (by omega), decide_eq_false (by omega)⟩
theorem zero_bd : ∀ i, i < 17 → 0 ≤ (fun _ : Nat => (0 : Int)) i ∧ (fun _ : Nat => (0 : Int)) i ≤ 1000 := fun i _ => by simp

set_option maxRecDepth 100000 in
set_option maxHeartbeats 4000000 in
theorem l06Over_any (k b br n : Nat) (c : Array Value) (g : Gt) (r : Nat → Int) (v u : Value) (w : World) (hA : GutAt w k c g v b) (hr : IsList w br u 1 n (fun i => .int .i64 (r i))) (hrn : g.Rn n r) (hok : g.Ok) (hm : g.m ≤ 2000000) :
    Calls Try.prog 54 #[.pointer (some ⟨k, 0, none⟩), u] w fun e w' => e = .returned (.int .i64 (g.ovZ n r)) ∧ Below w.heap.size w w' := by
  have hn17 : n ≤ 17 := by have := hrn.2; have := hok.n17; omega
  have HT := Lib.hid (Gt.itT_bd hok zero_bd hrn.1)
  have HAR := Lib.hid (hr.away (K := w.heap.size) (by omega))
  have HAP := Lib.hid (hA.pipes.away (K := w.heap.size) (by omega))
  have HH := Lib.hid (fun (j : Nat) (hj : j < 200) (hm : ∀ q, q < j → g.ovB n r q = false) (hd : g.ovB n r j = true) => show g.ovZ n r = j from firstI_hit hj hm hd)
  have HM := Lib.hid (fun (hm : ∀ q, q < 200 → g.ovB n r q = false) => show g.ovZ n r = -1 from firstI_miss hm)
  have hk := hA.lt
  have HA := Lib.hid hA
  have HR := Lib.hid hr
  have HRN := Lib.hid hrn.1
  have HO := Lib.hid hok
  obtain ⟨a, cap, rfl⟩ := hr.shape
  have hzo := zeroW_is.ones
  unfold zeroW at hzo
  clear hA hr hrn hok
  go_enter Try.func54, Try.ntmps54
  go_wp2_with fail
  refine gen_world fun W hW => ?_
  have q1 : rowAt W w.heap.size = some zeroW := by rw [hW]; exact rowAt_alloc_at _ _ _ _ (by simp)
  have BW : Below w.heap.size w W := by rw [hW]; exact (Below.refl _ _).alloc (Nat.le_refl _) _
  have kn : k ≠ w.heap.size := by omega
  clear hW
  go_loopw [6, 7, 8] (fun i _ _ V => ∃ (j : Nat) (cur : Array Value), j ≤ 200 ∧ i = .int .i64 j ∧ rowAt V w.heap.size = some cur ∧ Hid (IsK .i32 cur 17 (g.itT (fun _ => 0) r n j)) ∧ Hid (∀ q, q < j → g.ovB n r q = false) ∧ Below w.heap.size w V) (fun i _ _ _ => 200 - (intOf i).toNat)
  case atStart => exact ⟨0, zeroW, by omega, rfl, q1, Lib.hid zeroW_is, Lib.hid (fun q hq => by omega), BW⟩
  case round =>
    clear q1 BW
    obtain ⟨j, cur, hj, rfl, q1, hI, hF, hB⟩ := hrel
    by_cases hlt : j < 200
    · have j0 : 0 ≤ (j : Int) := by omega
      have j1 : (j : Int) < 200 := by omega
      have CMj := l06Minute_1 k b w.heap.size br n c cur g (g.itT (fun _ => 0) r n j) r v (.slice a n cap) wr (HA.out.below hB (Nat.le_refl _)) q1 hI.out (HR.out.below hB (Nat.le_refl _)) hn17 (HT.out j) HRN.out kn HAR.out HAP.out HO.out hm
      have HIT := Lib.hid (show g.itT (fun _ => 0) r n (j + 1) = g.minT (g.itT (fun _ => 0) r n j) r n from rfl)
      have HOV := Lib.hid (show g.ovB n r j = decide (0 < g.minO (g.itT (fun _ => 0) r n j) r n) from rfl)
      have HB := Lib.hid hB
      clear hB
      generalize g.minS (g.itT (fun _ => 0) r n j) r n = s1 at *
      generalize g.minO (g.itT (fun _ => 0) r n j) r n = o1 at *
      by_cases hov : 0 < o1
      · have hd : decide (0 < o1) = true := by simpa using hov
        have E := Lib.hid (HH.out j hlt hF.out (HOV.out.trans hd))
        clear hov
        go_wp2_with fail
        refine CMj.mono ?_
        rintro e w5 ⟨rfl, _, _, hL5⟩
        have B5 := Lib.hid (HB.out.trans (hL5.2 w.heap.size (Nat.le_refl _) HB.out.size))
        clear CMj hL5 q1
        go_wp2_with fail
        go_ret
        exact ⟨by rw [E.out]; rfl, B5.out⟩
      · have hd : decide (0 < o1) = false := by simpa using hov
        have E := Lib.hid (HOV.out.trans hd)
        clear hov
        go_wp2_with fail
        refine CMj.mono ?_
        rintro e w5 ⟨rfl, ⟨cur2, r5, i5⟩, _, hL5⟩
        have B5 := Lib.hid (HB.out.trans (hL5.2 w.heap.size (Nat.le_refl _) HB.out.size))
        have I5 := Lib.hid i5
        have R5 := Lib.hid r5
        clear CMj hL5 q1 i5 r5
        go_wp2_with fail
        refine ⟨⟨j + 1, cur2, by omega, by go_num, R5.out, by rw [HIT.out]; exact I5, Lib.hid fun q hq => ?_, B5.out⟩, by simp [intOf]; omega⟩
        by_cases h : q < j
        · exact hF.out q h
        · obtain rfl : q = j := by omega
          exact E.out
    · obtain rfl : j = 200 := by omega
      have hj1 : ¬ ((200 : Nat) : Int) < 200 := by omega
      have E := Lib.hid (HM.out hF.out)
      have HB := Lib.hid hB
      clear hB
      go_wp2_with fail
      go_ret
      exact ⟨by rw [E.out]; rfl, HB.out⟩

set_option maxRecDepth 100000 in
set_option maxHeartbeats 4000000 in
theorem firstOver_any (n : Nat) (x : Array Value) (g : Gt) (r : Nat → Int) (w : World) (hS : IsShw w 0 x g n r) (hrn : g.Rn n r) (hok : g.Ok) :
    Calls Try.prog 56 #[.agg x] w fun e w' => e = .returned (.tuple #[.int .i64 (g.ovV n r), .bool (g.ovF n r)]) ∧ Below w.heap.size w w' := by
  have hnN : n ≤ g.n.toNat := by have := hrn.2; omega
  have HT := Lib.hid (Gt.itT_bd hok zero_bd hrn.1)
  have HH := Lib.hid (fun (j : Nat) (hj : j < 200) (hm : ∀ q, q < j → g.ovB n r q = false) (hd : g.ovB n r j = true) => show g.ovZ n r = j from firstI_hit hj hm hd)
  have HM := Lib.hid (fun (hm : ∀ q, q < 200 → g.ovB n r q = false) => show g.ovZ n r = -1 from firstI_miss hm)
  have CM := fun W (dd : Array Value) (tt : Nat → Int) (a : IsShw W 0 x g n r) (bb : IsK .i32 dd 17 tt) (c : ∀ i, i < 17 → 0 ≤ tt i ∧ tt i ≤ 1000) => minuteW_any 0 n x g r tt dd W a hnN hok bb c hrn.1
  have xs : x.size = 4 := by obtain ⟨vo, vf, vr, rfl, _⟩ := hS; rfl
  have xo := hS.ones
  have HAW := Lib.hid (show IsShwK w (w.heap.size + 1) x g n r from by
    obtain ⟨vo, vf, vr, e, l1, l2, l3⟩ := hS
    exact ⟨vo, vf, vr, e, ⟨l1, l1.away (by omega)⟩, ⟨l2, l2.away (by omega)⟩, ⟨l3, l3.away (by omega)⟩⟩)
  have hzo := zeroW_is.ones
  unfold zeroW at hzo
  clear hS hrn hok
  go_enter Try.func56, Try.ntmps56
  go_wp2_with fail
  refine gen_world fun W hW => ?_
  have q0 : rowAt W w.heap.size = some x := by rw [hW]; exact (rowAt_alloc_past _ _ _ (by simp)).trans (rowAt_alloc_at _ _ _ _ (by simp))
  have q1 : rowAt W (w.heap.size + 1) = some zeroW := by rw [hW]; exact rowAt_alloc_at _ _ _ _ (by simp)
  have BW : Below w.heap.size w W := by rw [hW]; exact ((Below.refl _ _).alloc (Nat.le_refl _) _).alloc (by simp) _
  have SW := Lib.hid (HAW.out.below BW)
  have k01 : w.heap.size ≠ w.heap.size + 1 := by omega
  have b1 : w.heap.size ≤ w.heap.size + 1 := by omega
  clear hW HAW
  generalize w.heap.size + 1 = K1 at *
  go_loopw [5, 6, 7, 8, 9] (fun _ _ _ _ i V => ∃ (j : Nat) (cur : Array Value), j ≤ 200 ∧ i = .int .i64 j ∧ rowAt V K1 = some cur ∧ Hid (IsK .i32 cur 17 (g.itT (fun _ => 0) r n j)) ∧ rowAt V w.heap.size = some x ∧ Hid (IsShwK V K1 x g n r) ∧ Hid (∀ q, q < j → g.ovB n r q = false) ∧ Below w.heap.size w V) (fun _ _ _ _ i _ => 200 - (intOf i).toNat)
  case atStart => exact ⟨0, zeroW, by omega, rfl, q1, Lib.hid zeroW_is, q0, SW, Lib.hid (fun q hq => by omega), BW⟩
  case round =>
    clear q0 q1 SW BW
    obtain ⟨j, cur, hj, rfl, q1, hI, q0, hS, hF, hB⟩ := hrel
    by_cases hlt : j < 200
    · have j0 : 0 ≤ (j : Int) := by omega
      have j1 : (j : Int) < 200 := by omega
      have hcs := hI.out.size
      have hcu := hI.out.ones
      have CMj := CM wr cur _ hS.out.shw hI.out (HT.out j)
      have HIT := Lib.hid (show g.itT (fun _ => 0) r n (j + 1) = g.minT (g.itT (fun _ => 0) r n j) r n from rfl)
      have HOV := Lib.hid (show g.ovB n r j = decide (0 < g.minO (g.itT (fun _ => 0) r n j) r n) from rfl)
      have HB := Lib.hid hB
      clear hB
      generalize g.minS (g.itT (fun _ => 0) r n j) r n = s1 at *
      generalize g.minO (g.itT (fun _ => 0) r n j) r n = o1 at *
      by_cases hov : 0 < o1
      · have hd : decide (0 < o1) = true := by simpa using hov
        have E := Lib.hid (HH.out j hlt hF.out (HOV.out.trans hd))
        clear hov
        go_wp2_with fail
        refine CMj.mono ?_
        rintro e w5 ⟨cur2, rfl, i2, b5⟩
        have B5 := Lib.hid (bnext HB.out b5 HB.out.size)
        have c2s := i2.size
        have c2o := i2.ones
        clear CMj b5 i2
        go_wp2_with fail
        go_ret2
        refine ⟨?_, B5.out.alloc B5.out.size _⟩
        rw [(Gt.ov_t E.out).1, (Gt.ov_t E.out).2]
        rfl
      · have hd : decide (0 < o1) = false := by simpa using hov
        have E := Lib.hid (HOV.out.trans hd)
        clear hov
        go_wp2_with fail
        refine CMj.mono ?_
        rintro e w5 ⟨cur2, rfl, i2, b5⟩
        have r0 := brow b5 q0
        have r1 := brow b5 q1
        have S5 := Lib.hid (hS.out.below b5)
        have B5 := Lib.hid (bnext HB.out b5 HB.out.size)
        have c2s := i2.size
        have c2o := i2.ones
        have I2 := Lib.hid i2
        have l0 := rowAt_lt r0
        have l1 := rowAt_lt r1
        have n0 := Nat.ne_of_lt l0
        have n1 := Nat.ne_of_lt l1
        have R0 := Lib.hid r0
        clear CMj b5 q0 q1 i2 r0
        go_wp2_with fail
        refine ⟨⟨j + 1, cur2, by omega, by go_num, (rowAt_alloc_past _ _ _ (by simpa using l1)).trans (rowAt_setRow_at _ _ _ (by rw [r1]; rfl)), by rw [HIT.out]; exact I2, (rowAt_alloc_past _ _ _ (by simpa using l0)).trans ((rowAt_setRow_ne _ _ _ _ k01).trans R0.out), Lib.hid ((S5.out.setRow _).below ((Below.refl _ _).alloc (Nat.le_refl _) _)), Lib.hid fun q hq => ?_, (below_setRow B5.out b1 _).alloc (by simpa using B5.out.size) _⟩, by simp [intOf]; omega⟩
        by_cases h : q < j
        · exact hF.out q h
        · obtain rfl : q = j := by omega
          exact E.out
    · obtain rfl : j = 200 := by omega
      have hj1 : ¬ ((200 : Nat) : Int) < 200 := by omega
      have E := Lib.hid (HM.out hF.out)
      have HB := Lib.hid hB
      clear hB
      go_wp2_with fail
      go_ret2
      refine ⟨?_, HB.out⟩
      rw [(Gt.ov_f E.out).1, (Gt.ov_f E.out).2]
      rfl

/-- FirstOver's two numbers. -/
noncomputable def Gt.foC (g : Gt) (n : Nat) (r : Nat → Int) : Int := if g.ask (g.rnB n r) = 0 then (if 0 ≤ g.ovZ n r then 0 else 6) else g.ask (g.rnB n r)
noncomputable def Gt.foV (g : Gt) (n : Nat) (r : Nat → Int) : Int := if g.ask (g.rnB n r) = 0 then g.ovV n r else 0
theorem Gt.fo_a {g : Gt} {n : Nat} {r : Nat → Int} (h : g.ask (g.rnB n r) ≠ 0) : g.foV n r = 0 ∧ g.foC n r = g.ask (g.rnB n r) := ⟨if_neg h, if_neg h⟩
theorem Gt.fo_b {g : Gt} {n : Nat} {r : Nat → Int} (h : g.ask (g.rnB n r) = 0) (k : 0 ≤ g.ovZ n r) : g.foV n r = g.ovZ n r ∧ g.foC n r = 0 := by
  unfold Gt.foV Gt.foC Gt.ovV
  rw [if_pos h, if_pos h, if_pos k, if_pos k]; exact ⟨rfl, rfl⟩
theorem Gt.fo_c {g : Gt} {n : Nat} {r : Nat → Int} (h : g.ask (g.rnB n r) = 0) (k : ¬ 0 ≤ g.ovZ n r) : g.foV n r = 0 ∧ g.foC n r = 6 := by
  unfold Gt.foV Gt.foC Gt.ovV
  rw [if_pos h, if_pos h, if_neg k, if_neg k]; exact ⟨rfl, rfl⟩
theorem Gt.ask_of {g : Gt} {f : Bool} (h : g.ask f = 0) : g.Ok ∧ f = true := by
  unfold Gt.ask at h
  cases h1 : g.ok with
  | false => rw [h1] at h; simp at h
  | true =>
    cases f with
    | false => rw [h1] at h; simp at h
    | true => exact ⟨Gt.Ok_of h1, rfl⟩
theorem Gt.rnC_none {g : Gt} {n : Nat} {r f : Nat → Int} : g.rnC n r 0 f = g.ask (g.rnB n r) := by
  unfold Gt.rnC
  rw [show anyI (outs f) 0 = false from anyI_f.2 (by omega)]
  simp

set_option maxRecDepth 100000 in
set_option maxHeartbeats 4000000 in
theorem specFirstOver_any (b br n : Nat) (c : Array Value) (g : Gt) (v u : Value) (r : Nat → Int) (w : World) (hG : IsGut c g v) (hv : IsList w b v 2 g.m (pipeV g.p)) (hm : g.m ≤ 2000000) (hr : IsList w br u 1 n (fun i => .int .i64 (r i))) (hn : n ≤ 2000000) :
    Calls Try.prog 23 #[.agg c, u] w fun e w' => e = .returned (.tuple #[.int .i64 (g.foV n r), .int .i64 (g.foC n r)]) ∧ Below w.heap.size w w' := by
  have hA := Lib.hid (gutAt_box hG hv)
  have hB0 : Below w.heap.size w (w.alloc (.cells c 37)) := (Below.refl _ _).alloc (Nat.le_refl _) _
  have HR := Lib.hid (hr.below hB0 (Nat.le_refl _))
  have CR := fun W a h => l06Rain_any w.heap.size b br n c g v u r W a h hn
  have CA := fun W a => l06Asked_any w.heap.size b c g v (g.rnB n r) W a hm
  obtain ⟨a, cap, rfl⟩ := hr.shape
  have HQ := Lib.hid (fun (h : g.ask (g.rnB n r) = 0) => Gt.ask_of h)
  have HFA := Lib.hid (fun (h : g.ask (g.rnB n r) ≠ 0) => Gt.fo_a h)
  have HFB := Lib.hid (fun (h : g.ask (g.rnB n r) = 0) k => Gt.fo_b h k)
  have HFC := Lib.hid (fun (h : g.ask (g.rnB n r) = 0) k => Gt.fo_c h k)
  have CO := fun W x h (hq : g.rnB n r = true) hok => l06Over_any w.heap.size b br n c g r v (.slice a n cap) W x h (Gt.rnB_of hq) hok hm
  clear hG hv hr
  generalize g.rnB n r = fine at *
  generalize hcode : g.ask fine = code at *
  replace hcode := Lib.hid hcode
  by_cases hz : code = 0
  · subst hz
    obtain ⟨hok, hfi⟩ := HQ.out rfl
    have CP := fun W a h => CO W a h hfi hok
    have HGZ := Lib.hid (HFB.out rfl)
    have HGN := Lib.hid (HFC.out rfl)
    clear HQ HFA HFB HFC hok CO
    generalize g.ovZ n r = z at *
    subst hfi
    by_cases hzz : 0 ≤ z
    · obtain ⟨e1, e2⟩ := HGZ.out hzz
      have E1 := Lib.hid e1
      have E2 := Lib.hid e2
      have hd : decide (z < 0) = false := by simp; omega
      clear e1 e2 HGZ HGN hcode
      go_enter Try.func23, Try.ntmps23
      go_wp2_with fail
      refine (CR _ hA.out HR.out).mono ?_
      rintro e w1 ⟨rfl, b1⟩
      have B1 := bnext hB0 b1 hB0.size
      have A1 := Lib.hid (hA.out.below b1 (Nat.le_refl _))
      have R1 := Lib.hid (HR.out.below b1 (Nat.le_refl _))
      clear b1 CR hA HR
      go_wp2_with fail
      refine (CA _ A1.out).mono ?_
      rintro e w2 ⟨rfl, b2⟩
      have B2 := bnext B1 b2 B1.size
      have A2 := Lib.hid (A1.out.below b2 (Nat.le_refl _))
      have R2 := Lib.hid (R1.out.below b2 (Nat.le_refl _))
      clear b2 CA A1 R1 B1
      go_wp2_with fail
      refine (CP _ A2.out R2.out).mono ?_
      rintro e w3 ⟨rfl, b3⟩
      have B3 := bnext B2 b3 B2.size
      clear b3 CP A2 R2 B2
      go_wp2_with fail
      go_ret2
      exact ⟨by rw [E1.out, E2.out]; rfl, B3⟩
    · obtain ⟨e1, e2⟩ := HGN.out hzz
      have E1 := Lib.hid e1
      have E2 := Lib.hid e2
      have hd : decide (z < 0) = true := by simp; omega
      clear e1 e2 HGZ HGN hcode hzz
      go_enter Try.func23, Try.ntmps23
      go_wp2_with fail
      refine (CR _ hA.out HR.out).mono ?_
      rintro e w1 ⟨rfl, b1⟩
      have B1 := bnext hB0 b1 hB0.size
      have A1 := Lib.hid (hA.out.below b1 (Nat.le_refl _))
      have R1 := Lib.hid (HR.out.below b1 (Nat.le_refl _))
      clear b1 CR hA HR
      go_wp2_with fail
      refine (CA _ A1.out).mono ?_
      rintro e w2 ⟨rfl, b2⟩
      have B2 := bnext B1 b2 B1.size
      have A2 := Lib.hid (A1.out.below b2 (Nat.le_refl _))
      have R2 := Lib.hid (R1.out.below b2 (Nat.le_refl _))
      clear b2 CA A1 R1 B1
      go_wp2_with fail
      refine (CP _ A2.out R2.out).mono ?_
      rintro e w3 ⟨rfl, b3⟩
      have B3 := bnext B2 b3 B2.size
      clear b3 CP A2 R2 B2
      go_wp2_with fail
      go_ret2
      exact ⟨by rw [E1.out, E2.out]; rfl, B3⟩
  · obtain ⟨e1, e2⟩ := HFA.out hz
    have E1 := Lib.hid e1
    have E2 := Lib.hid e2
    have hcb : (code != 0) = true := by simpa using hz
    clear HQ HFA HFB HFC CO e1 e2 hz
    go_enter Try.func23, Try.ntmps23
    go_wp2_with fail
    refine (CR _ hA.out HR.out).mono ?_
    rintro e w1 ⟨rfl, b1⟩
    have B1 := bnext hB0 b1 hB0.size
    have A1 := Lib.hid (hA.out.below b1 (Nat.le_refl _))
    clear b1 CR hA HR
    go_wp2_with fail
    refine (CA _ A1.out).mono ?_
    rintro e w2 ⟨rfl, b2⟩
    have B2 := bnext B1 b2 B1.size
    clear b2 CA A1 B1
    go_wp2_with fail
    go_ret2
    exact ⟨by rw [E1.out, E2.out]; rfl, B2⟩

set_option maxRecDepth 100000 in
set_option maxHeartbeats 4000000 in
theorem implFirstOver_any (b br n : Nat) (c : Array Value) (g : Gt) (v u : Value) (r : Nat → Int) (w : World) (hG : IsGut c g v) (hv : IsList w b v 2 g.m (pipeV g.p)) (hm : g.m ≤ 2000000) (hr : IsList w br u 1 n (fun i => .int .i64 (r i))) (hn : n ≤ 2000000) :
    Calls Try.prog 24 #[.agg c, u] w fun e w' => e = .returned (.tuple #[.int .i64 (g.foV n r), .int .i64 (g.foC n r)]) ∧ Below w.heap.size w w' := by
  have hB0 : Below w.heap.size w (w.alloc (.cells c 37)) := (Below.refl _ _).alloc (Nat.le_refl _) _
  have rA : rowAt (w.alloc (.cells c 37)) w.heap.size = some c := rowAt_alloc_at _ _ _ _ rfl
  have HV := Lib.hid (hv.below hB0 (Nat.le_refl _))
  have HR := Lib.hid (hr.below hB0 (Nat.le_refl _))
  have hc := hG.size
  have hco := hG.ones
  have CC := fun W h1 h2 => checkRain_any b br 0 n 0 c g v u (.slice none 0 0) r (fun _ => 0) W hG h1 hm h2 hn (.inl ⟨rfl, _, _, rfl⟩) (by omega)
  rw [Gt.rnC_none] at CC
  obtain ⟨a, cap, rfl⟩ := hr.shape
  have CS := fun W (x : IsList W b v 2 g.m (pipeV g.p)) (z : IsList W br (.slice a n cap) 1 n (fun i => .int .i64 (r i))) (hok : g.Ok) => shower_any 0 n c g v (.slice a n cap) r W hG (x.mono (Nat.zero_le _)) hok (z.mono (Nat.zero_le _))
  have HQ := Lib.hid (fun (h : g.ask (g.rnB n r) = 0) => Gt.ask_of h)
  have HFA := Lib.hid (fun (h : g.ask (g.rnB n r) ≠ 0) => Gt.fo_a h)
  have HFB := Lib.hid (fun (h : g.ask (g.rnB n r) = 0) k => Gt.fo_b h k)
  have HFC := Lib.hid (fun (h : g.ask (g.rnB n r) = 0) k => Gt.fo_c h k)
  have CO := fun W x (hS : IsShw W 0 x g n r) (hq : g.rnB n r = true) hok => firstOver_any n x g r W hS (Gt.rnB_of hq) hok
  clear hG hv hr
  generalize g.rnB n r = fine at *
  generalize hcode : g.ask fine = code at *
  replace hcode := Lib.hid hcode
  by_cases hz : code = 0
  · subst hz
    obtain ⟨hok, hfi⟩ := HQ.out rfl
    have CO := fun W x hS => CO W x hS hfi hok
    have CS := fun W x z => CS W x z hok
    have HGZ := Lib.hid (HFB.out rfl)
    have HGN := Lib.hid (HFC.out rfl)
    clear HQ HFA HFB HFC hok
    unfold Gt.ovV Gt.ovF at CO
    generalize g.ovZ n r = z at *
    by_cases hzz : 0 ≤ z
    · obtain ⟨e1, e2⟩ := HGZ.out hzz
      have E1 := Lib.hid e1
      have E2 := Lib.hid e2
      rw [if_pos hzz, decide_eq_true hzz] at CO
      clear e1 e2 HGZ HGN hcode hfi
      go_enter Try.func24, Try.ntmps24
      go_wp2_with fail
      refine (CC _ HV.out HR.out).mono ?_
      rintro e w1 ⟨rfl, b1⟩
      have B1 := bnext hB0 b1 hB0.size
      have r1 := brow b1 rA
      have V1 := Lib.hid (HV.out.below b1 (Nat.le_refl _))
      have R1 := Lib.hid (HR.out.below b1 (Nat.le_refl _))
      have l1 := rowAt_lt r1
      clear b1 CC HV HR rA
      go_wp2_with fail
      refine (CS _ V1.out R1.out).mono ?_
      rintro e w2 ⟨x, rfl, hS, _, b2⟩
      have B2 := bnext B1 b2 B1.size
      clear b2 CS V1 R1 B1 r1 l1
      go_wp2_with fail
      refine (CO _ _ hS).mono ?_
      rintro e w3 ⟨rfl, b3⟩
      have B3 := bnext B2 b3 B2.size
      clear b3 CO B2 hS
      go_wp2_with fail
      go_ret2
      exact ⟨by rw [E1.out, E2.out]; rfl, B3⟩
    · obtain ⟨e1, e2⟩ := HGN.out hzz
      have E1 := Lib.hid e1
      have E2 := Lib.hid e2
      rw [if_neg hzz, decide_eq_false hzz] at CO
      clear e1 e2 HGZ HGN hcode hfi hzz
      go_enter Try.func24, Try.ntmps24
      go_wp2_with fail
      refine (CC _ HV.out HR.out).mono ?_
      rintro e w1 ⟨rfl, b1⟩
      have B1 := bnext hB0 b1 hB0.size
      have r1 := brow b1 rA
      have V1 := Lib.hid (HV.out.below b1 (Nat.le_refl _))
      have R1 := Lib.hid (HR.out.below b1 (Nat.le_refl _))
      have l1 := rowAt_lt r1
      clear b1 CC HV HR rA
      go_wp2_with fail
      refine (CS _ V1.out R1.out).mono ?_
      rintro e w2 ⟨x, rfl, hS, _, b2⟩
      have B2 := bnext B1 b2 B1.size
      clear b2 CS V1 R1 B1 r1 l1
      go_wp2_with fail
      refine (CO _ _ hS).mono ?_
      rintro e w3 ⟨rfl, b3⟩
      have B3 := bnext B2 b3 B2.size
      clear b3 CO B2 hS
      go_wp2_with fail
      go_ret2
      exact ⟨by rw [E1.out, E2.out]; rfl, B3⟩
  · obtain ⟨e1, e2⟩ := HFA.out hz
    have E1 := Lib.hid e1
    have E2 := Lib.hid e2
    have hcb : (code != 0) = true := by simpa using hz
    clear HQ HFA HFB HFC CO CS e1 e2 hz
    go_enter Try.func24, Try.ntmps24
    go_wp2_with fail
    refine (CC _ HV.out HR.out).mono ?_
    rintro e w1 ⟨rfl, b1⟩
    have B1 := bnext hB0 b1 hB0.size
    clear b1 CC HV HR
    go_wp2_with fail
    go_ret2
    exact ⟨by rw [E1.out, E2.out]; rfl, B1⟩
end Go.Proofs.Ytfdoehakpeddnaa

/- BestClean: mathematics, and the model's l06Spilt. -/
namespace Go.Proofs.Ytfdoehakpeddnaa
open Go.RowKit

theorem and32_one {a : Nat} (ha : a < 2 ^ 32) : bits BinOp.and IntKind.u32 (a : Int) 1 = ((a % 2 : Nat) : Int) := by
  have h32 : IntKind.u32.bits = 32 := rfl
  unfold bits
  rw [show (1 : Int) = ((1 : Nat) : Int) from rfl]
  simp only [BitVec.ofInt_natCast, BitVec.toNat_and, BitVec.toNat_ofNat]
  rw [h32]
  rw [Nat.mod_eq_of_lt ha, Nat.mod_eq_of_lt (show 1 < 2 ^ 32 by omega), Nat.and_one_is_mod]
  exact IntWalk.u32_in _ (by omega)
theorem Gt.leaf_num {g : Gt} {L : Nat} (h : g.l = L) (hL : L < 2 ^ 32) (j : Nat) : g.leaf j = L.testBit j := by
  unfold Gt.leaf
  rw [h]
  have e : ((L : Int) / 2 ^ j) = ((L / 2 ^ j : Nat) : Int) := by rw [Int.natCast_ediv, Int.natCast_pow]; rfl
  rw [e, and32_one (Nat.lt_of_le_of_lt (Nat.div_le_self _ _) hL), Nat.testBit_eq_decide_div_mod_eq]
  by_cases q : L / 2 ^ j % 2 = 1
  · rw [q]; rfl
  · have : L / 2 ^ j % 2 = 0 := by omega
    rw [this]; rfl
theorem Gt.leaf_none {g : Gt} (h0 : 0 ≤ g.l ∧ g.l ≤ 4294967295) (hl : g.lvB = true) (ha : ∀ j : Nat, (j : Int) < g.n → g.leaf j = false) : g.l = 0 := by
  obtain ⟨L, hL⟩ := Int.eq_ofNat_of_zero_le h0.1
  have hb : L < 2 ^ 32 := by omega
  unfold Gt.lvB at hl
  rw [hL] at hl
  have hd : L / 2 ^ g.n.toNat = 0 := by
    have e : ((L : Int) / 2 ^ g.n.toNat) = ((L / 2 ^ g.n.toNat : Nat) : Int) := by rw [Int.natCast_ediv, Int.natCast_pow]; rfl
    rw [e] at hl
    have := eq_of_beq hl
    omega
  have hlt : L < 2 ^ g.n.toNat := by
    rcases Nat.lt_or_ge L (2 ^ g.n.toNat) with h | h
    · exact h
    · have := Nat.div_pos h (Nat.two_pow_pos _)
      omega
  have : L = 0 := Nat.eq_of_testBit_eq fun j => by
    rw [Nat.zero_testBit]
    by_cases hj : j < g.n.toNat
    · rw [← Gt.leaf_num hL hb]; exact ha j (by omega)
    · exact Nat.testBit_lt_two_pow (Nat.lt_of_lt_of_le hlt (Nat.pow_le_pow_right (by omega) (by omega)))
  rw [hL, this]; rfl
theorem Gt.leaf_zero {g : Gt} (h : g.l = 0) (j : Nat) : g.leaf j = false := by
  rw [Gt.leaf_num (L := 0) h (by omega), Nat.zero_testBit]
theorem Gt.clr_le {g : Gt} (h0 : 0 ≤ g.l ∧ g.l ≤ 4294967295) (j : Nat) : g.clrL j ≤ g.l := by
  obtain ⟨L, hL⟩ := Int.eq_ofNat_of_zero_le h0.1
  have hb : L < 2 ^ 32 := by omega
  unfold Gt.clrL
  rw [hL]
  generalize IntKind.u32.wrap (2 ^ j) = y
  unfold bits
  simp only [BitVec.ofInt_natCast, BitVec.toNat_and, BitVec.toNat_ofNat]
  rw [show L % 2 ^ IntKind.u32.bits = L from Nat.mod_eq_of_lt hb]
  have hle : L &&& (~~~BitVec.ofInt IntKind.u32.bits y).toNat ≤ L := Nat.and_le_left
  generalize L &&& (~~~BitVec.ofInt IntKind.u32.bits y).toNat = q at *
  have e := IntWalk.u32_in (q : Int) (by omega)
  rw [e]
  omega
theorem Gt.Ok.clr {g : Gt} (h : g.Ok) (h0 : 0 ≤ g.l ∧ g.l ≤ 4294967295) (j : Nat) : (g.clr j).Ok := by
  refine ⟨h.n1, h.n17, h.d0, h.d1, ?_, h.m4, h.hs, h.ps⟩
  have a := Gt.clr_le h0 j
  have b : 0 ≤ g.clrL j := (bits_u32 _ _ _).1
  have hl := h.lv
  unfold Gt.lvB at hl ⊢
  have e := eq_of_beq hl
  show (g.clrL j / 2 ^ g.n.toNat == 0) = true
  have p : (0 : Int) < 2 ^ g.n.toNat := Int.pow_pos (by omega)
  have h1 := Int.ediv_le_ediv p a
  have h2 := Int.ediv_nonneg b (Int.le_of_lt p)
  rw [e] at h1
  have : g.clrL j / 2 ^ g.n.toNat = 0 := by omega
  rw [this]; rfl
theorem Gt.watB_zero {g : Gt} : g.watB (fun _ => 0) = g.ok := by
  cases h : g.ok with
  | false => exact Gt.watB_f (Gt.not_of h)
  | true =>
    have o := Gt.Ok_of h
    exact Gt.watB_t o fun i _ => ⟨Int.le_refl _, o.d0, .inr rfl⟩
theorem Gt.wet_zero {g : Gt} {f : Bool} : g.wet (fun _ => 0) f = g.ask f := by
  unfold Gt.wet Gt.ask
  rw [Gt.watB_zero]

set_option maxRecDepth 100000 in
set_option maxHeartbeats 4000000 in
theorem l06Spilt_any (k b br n : Nat) (c : Array Value) (g : Gt) (r : Nat → Int) (v u : Value) (y : Nat) (w : World) (hA : GutAt w k c g v b) (hr : IsList w br u 1 n (fun i => .int .i64 (r i))) (hrn : g.Rn n r) (hok : g.Ok) (hm : g.m ≤ 2000000) (hy : y ≤ 200) :
    Calls Try.prog 61 #[.pointer (some ⟨k, 0, none⟩), u, .int .i64 y] w fun e w' => e = .returned (.int .i64 (g.itO (fun _ => 0) r n y)) ∧ Below w.heap.size w w' := by
  have hn17 : n ≤ 17 := by have := hrn.2; have := hok.n17; omega
  have HT := Lib.hid (Gt.itT_bd hok zero_bd hrn.1)
  have HOB := Lib.hid (Gt.itO_bd hok zero_bd hrn.1)
  have HAR := Lib.hid (hr.away (K := w.heap.size) (by omega))
  have HAP := Lib.hid (hA.pipes.away (K := w.heap.size) (by omega))
  have hk := hA.lt
  have HA := Lib.hid hA
  have HR := Lib.hid hr
  have HRN := Lib.hid hrn.1
  have HO := Lib.hid hok
  obtain ⟨a, cap, rfl⟩ := hr.shape
  have hzo := zeroW_is.ones
  unfold zeroW at hzo
  clear hA hr hrn hok
  go_enter Try.func61, Try.ntmps61
  go_wp2_with fail
  refine gen_world fun W hW => ?_
  have q1 : rowAt W w.heap.size = some zeroW := by rw [hW]; exact rowAt_alloc_at _ _ _ _ (by simp)
  have BW : Below w.heap.size w W := by rw [hW]; exact (Below.refl _ _).alloc (Nat.le_refl _) _
  have kn : k ≠ w.heap.size := by omega
  clear hW
  go_loopw [8, 9, 10, 11] (fun s i _ _ V => ∃ (j : Nat) (cur : Array Value), j ≤ y ∧ i = .int .i64 j ∧ s = .int .i64 (g.itO (fun _ => 0) r n j) ∧ rowAt V w.heap.size = some cur ∧ Hid (IsK .i32 cur 17 (g.itT (fun _ => 0) r n j)) ∧ Below w.heap.size w V) (fun _ i _ _ _ => y - (intOf i).toNat)
  case atStart => exact ⟨0, zeroW, by omega, rfl, rfl, q1, Lib.hid zeroW_is, BW⟩
  case round =>
    clear q1 BW
    obtain ⟨j, cur, hj, rfl, rfl, q1, hI, hB⟩ := hrel
    by_cases hlt : j < y
    · have j0 : 0 ≤ (j : Int) := by omega
      have j1 : (j : Int) < y := by omega
      have CMj := l06Minute_1 k b w.heap.size br n c cur g (g.itT (fun _ => 0) r n j) r v (.slice a n cap) wr (HA.out.below hB (Nat.le_refl _)) q1 hI.out (HR.out.below hB (Nat.le_refl _)) hn17 (HT.out j) HRN.out kn HAR.out HAP.out HO.out hm
      have HIT := Lib.hid (show g.itT (fun _ => 0) r n (j + 1) = g.minT (g.itT (fun _ => 0) r n j) r n from rfl)
      have ob := HOB.out j
      have ob' := HOB.out (j + 1)
      have eO : g.itO (fun _ => 0) r n (j + 1) = g.itO (fun _ => 0) r n j + g.minO (g.itT (fun _ => 0) r n j) r n := rfl
      have tov : 0 ≤ g.itO (fun _ => 0) r n (j + 1) ∧ g.itO (fun _ => 0) r n (j + 1) ≤ 116178000 := by omega
      have EO := Lib.hid eO
      rw [eO] at tov
      have HB := Lib.hid hB
      clear hB eO ob ob'
      generalize g.itO (fun _ => 0) r n j = o0 at *
      generalize g.minS (g.itT (fun _ => 0) r n j) r n = s1 at *
      generalize g.minO (g.itT (fun _ => 0) r n j) r n = o1 at *
      go_wp2_with fail
      refine CMj.mono ?_
      rintro e w5 ⟨rfl, ⟨cur2, r5, i5⟩, _, hL5⟩
      have B5 := Lib.hid (HB.out.trans (hL5.2 w.heap.size (Nat.le_refl _) HB.out.size))
      have I5 := Lib.hid i5
      have R5 := Lib.hid r5
      clear CMj hL5 q1 i5 r5
      go_wp2_with fail
      refine ⟨⟨j + 1, cur2, by omega, by go_num, by rw [EO.out], R5.out, by rw [HIT.out]; exact I5, B5.out⟩, by simp [intOf]; omega⟩
    · obtain rfl : j = y := by omega
      have HB := Lib.hid hB
      clear hB
      go_wp2_with fail
      go_ret
      exact ⟨rfl, HB.out⟩

/-- What runs over if a cell is cleaned; the best cell of the first j, -1 if there is none, and its number. -/
noncomputable def Gt.bo (g : Gt) (n : Nat) (r : Nat → Int) (y j : Nat) : Int := (g.clr j).itO (fun _ => 0) r n y
noncomputable def Gt.bc (g : Gt) (n : Nat) (r : Nat → Int) (y : Nat) : Nat → Int × Int
  | 0 => (-1, 0)
  | j + 1 => if g.leaf j = true ∧ ((g.bc n r y j).1 < 0 ∨ g.bo n r y j < (g.bc n r y j).2) then ((j : Int), g.bo n r y j) else g.bc n r y j
theorem Gt.bc_bd {g : Gt} {n : Nat} {r : Nat → Int} {y : Nat} : ∀ j, -1 ≤ (g.bc n r y j).1 ∧ (g.bc n r y j).1 < j
  | 0 => by unfold Gt.bc; simp
  | j + 1 => by
    have := Gt.bc_bd (g := g) (n := n) (r := r) (y := y) j
    unfold Gt.bc
    split
    · constructor
      · show (-1 : Int) ≤ (j : Int); omega
      · show (j : Int) < ((j + 1 : Nat) : Int); omega
    · omega
theorem Gt.bc_none {g : Gt} {n : Nat} {r : Nat → Int} {y : Nat} : ∀ j, ((g.bc n r y j).1 < 0 ↔ ∀ i, i < j → g.leaf i = false)
  | 0 => by unfold Gt.bc; simp
  | j + 1 => by
    have ih := Gt.bc_none (g := g) (n := n) (r := r) (y := y) j
    constructor
    · intro h i hi
      unfold Gt.bc at h
      split at h
      · have h' : (j : Int) < 0 := h
        omega
      · rename_i hc
        have hf := ih.1 h
        by_cases e : i = j
        · subst e
          cases hl : g.leaf i with
          | false => rfl
          | true => exact absurd ⟨hl, .inl h⟩ hc
        · exact hf i (by omega)
    · intro h
      have := ih.2 fun i hi => h i (by omega)
      unfold Gt.bc
      rw [if_neg (fun x => by rw [h j (by omega)] at x; cases x.1)]
      exact this
/-- The program's two numbers. -/
noncomputable def Gt.bp (g : Gt) (n : Nat) (r : Nat → Int) (y j : Nat) : Int × Int := if (g.bc n r y j).1 < 0 then (0, 9223372036854775807) else g.bc n r y j
theorem Gt.bp_succ {g : Gt} {n : Nat} {r : Nat → Int} {y j : Nat} (hl : g.leaf j = true) (hb : g.bo n r y j < 9223372036854775807) : g.bp n r y (j + 1) = if g.bo n r y j < (g.bp n r y j).2 then ((j : Int), g.bo n r y j) else g.bp n r y j := by
  unfold Gt.bp
  by_cases h : (g.bc n r y j).1 < 0
  · rw [if_pos h]
    have e : g.bc n r y (j + 1) = ((j : Int), g.bo n r y j) := by
      show (if _ then _ else _) = _
      rw [if_pos ⟨hl, .inl h⟩]
    rw [e, if_neg (show ¬ (j : Int) < 0 by omega), if_pos hb]
  · rw [if_neg h]
    by_cases q : g.bo n r y j < (g.bc n r y j).2
    · have e : g.bc n r y (j + 1) = ((j : Int), g.bo n r y j) := by
        show (if _ then _ else _) = _
        rw [if_pos ⟨hl, .inr q⟩]
      rw [e, if_neg (show ¬ (j : Int) < 0 by omega), if_pos q]
    · have e : g.bc n r y (j + 1) = g.bc n r y j := by
        show (if _ then _ else _) = _
        rw [if_neg (fun x => x.2.elim h q)]
      rw [e, if_neg h, if_neg q]
theorem Gt.bp_skip {g : Gt} {n : Nat} {r : Nat → Int} {y j : Nat} (hl : g.leaf j = false) : g.bp n r y (j + 1) = g.bp n r y j := by
  unfold Gt.bp
  have e : g.bc n r y (j + 1) = g.bc n r y j := by
    show (if _ then _ else _) = _
    rw [if_neg (fun x => by rw [hl] at x; cases x.1)]
  rw [e]
theorem Gt.bc_skip {g : Gt} {n : Nat} {r : Nat → Int} {y j : Nat} (hl : g.leaf j = false) : g.bc n r y (j + 1) = g.bc n r y j := by
  show (if _ then _ else _) = _
  rw [if_neg (fun x => by rw [hl] at x; cases x.1)]
theorem Gt.bc_take {g : Gt} {n : Nat} {r : Nat → Int} {y j : Nat} (hl : g.leaf j = true) (h : (g.bc n r y j).1 < 0 ∨ g.bo n r y j < (g.bc n r y j).2) : g.bc n r y (j + 1) = ((j : Int), g.bo n r y j) := by
  show (if _ then _ else _) = _
  rw [if_pos ⟨hl, h⟩]
theorem Gt.bc_leave {g : Gt} {n : Nat} {r : Nat → Int} {y j : Nat} (h : ¬ ((g.bc n r y j).1 < 0 ∨ g.bo n r y j < (g.bc n r y j).2)) : g.bc n r y (j + 1) = g.bc n r y j := by
  show (if _ then _ else _) = _
  rw [if_neg (fun x => h x.2)]
/-- BestClean's code and two numbers. -/
noncomputable def Gt.bcC (g : Gt) (n : Nat) (r : Nat → Int) (y : Int) : Int := if g.ask (g.rnB n r && inB y 0 200) = 0 then (if (g.bc n r y.toNat g.n.toNat).1 < 0 then 6 else 0) else g.ask (g.rnB n r && inB y 0 200)
noncomputable def Gt.bcV (g : Gt) (n : Nat) (r : Nat → Int) (y : Int) : Int × Int := if g.ask (g.rnB n r && inB y 0 200) = 0 then (if (g.bc n r y.toNat g.n.toNat).1 < 0 then (0, 0) else g.bc n r y.toNat g.n.toNat) else (0, 0)
theorem Gt.bq_a {g : Gt} {n : Nat} {r : Nat → Int} {y : Int} (h : g.ask (g.rnB n r && inB y 0 200) ≠ 0) : g.bcV n r y = (0, 0) ∧ g.bcC n r y = g.ask (g.rnB n r && inB y 0 200) := ⟨if_neg h, if_neg h⟩
theorem Gt.bq_b {g : Gt} {n : Nat} {r : Nat → Int} {y : Int} (h : g.ask (g.rnB n r && inB y 0 200) = 0) (k : (g.bc n r y.toNat g.n.toNat).1 < 0) : g.bcV n r y = (0, 0) ∧ g.bcC n r y = 6 := by
  unfold Gt.bcV Gt.bcC
  rw [if_pos h, if_pos h, if_pos k, if_pos k]; exact ⟨rfl, rfl⟩
theorem Gt.bq_c {g : Gt} {n : Nat} {r : Nat → Int} {y : Int} (h : g.ask (g.rnB n r && inB y 0 200) = 0) (k : ¬ (g.bc n r y.toNat g.n.toNat).1 < 0) : g.bcV n r y = g.bc n r y.toNat g.n.toNat ∧ g.bcC n r y = 0 := by
  unfold Gt.bcV Gt.bcC
  rw [if_pos h, if_pos h, if_neg k, if_neg k]; exact ⟨rfl, rfl⟩
end Go.Proofs.Ytfdoehakpeddnaa

/- BestClean: the model. -/
namespace Go.Proofs.Ytfdoehakpeddnaa
open Go.RowKit

set_option maxRecDepth 100000 in
set_option maxHeartbeats 4000000 in
theorem specBestClean_any (b br n : Nat) (c : Array Value) (g : Gt) (v u : Value) (r : Nat → Int) (y : Int) (w : World) (hG : IsGut c g v) (hv : IsList w b v 2 g.m (pipeV g.p)) (hm : g.m ≤ 2000000) (hr : IsList w br u 1 n (fun i => .int .i64 (r i))) (hn : n ≤ 2000000) :
    Calls Try.prog 27 #[.agg c, u, .int .i64 y] w fun e w' => e = .returned (.tuple #[.int .i64 (g.bcV n r y).1, .int .i64 (g.bcV n r y).2, .int .i64 (g.bcC n r y)]) ∧ Below w.heap.size w w' := by
  have hA := Lib.hid (gutAt_box hG hv)
  have hB0 : Below w.heap.size w (w.alloc (.cells c 37)) := (Below.refl _ _).alloc (Nat.le_refl _) _
  have HR := Lib.hid (hr.below hB0 (Nat.le_refl _))
  have hc := hG.size
  have hco := hG.ones
  have CR := fun W a h => l06Rain_any w.heap.size b br n c g v u r W a h hn
  have HG := Lib.hid hG
  obtain ⟨a, cap, rfl⟩ := hr.shape
  obtain ⟨code, hcode⟩ : ∃ z, z = g.ask (g.rnB n r && inB y 0 200) := ⟨_, rfl⟩
  have CA := fun W fine a => l06Asked_any w.heap.size b c g v fine W a hm
  clear hG hv hr
  cases hrb : g.rnB n r with
  | false =>
    rw [hrb] at CR
    have hz : code ≠ 0 := by
      intro h
      rw [h] at hcode
      have := (Gt.ask_of hcode.symm).2
      rw [hrb] at this
      cases this
    have hcw : g.ask false = code := by rw [hcode, hrb]; rfl
    replace hcode := Lib.hid hcode
    go_enter Try.func27, Try.ntmps27
    go_wp2_with fail
    refine (CR _ hA.out HR.out).mono ?_
    rintro e w1 ⟨rfl, x1⟩
    have B1 := bnext hB0 x1 hB0.size
    have A1 := Lib.hid (hA.out.below x1 (Nat.le_refl _))
    have R1 := Lib.hid (HR.out.below x1 (Nat.le_refl _))
    clear x1 CR hA HR
    go_wp2_with fail
    refine (CA _ _ A1.out).mono ?_
    rw [hcw]
    rintro e w2 ⟨rfl, x2⟩
    have B2 := Lib.hid (bnext B1 x2 B1.size)
    have A2 := Lib.hid (A1.out.below x2 (Nat.le_refl _))
    have R2 := Lib.hid (R1.out.below x2 (Nat.le_refl _))
    clear x2 B1 A1 R1 CA
    clear hcw hrb
    have hcb : (code != 0) = true := by simpa using hz
    obtain ⟨e1, e2⟩ := Gt.bq_a (show g.ask (g.rnB n r && inB y 0 200) ≠ 0 by rw [← hcode.out]; exact hz)
    rw [← hcode.out] at e2
    have E1 := Lib.hid e1
    have E2 := Lib.hid e2
    clear e1 e2 hz hcode A2 R2
    go_wp2_with fail
    go_ret3
    exact ⟨by rw [E1.out, E2.out]; rfl, B2.out⟩
  | true =>
    rw [hrb] at CR
    have hcw : g.ask (inB y 0 200) = code := by rw [hcode, hrb]; rfl
    by_cases hz : code = 0
    · rw [hz] at hcw
      have hask := hcode.symm.trans hz
      obtain ⟨hok, hf⟩ := Gt.ask_of hask
      have hin : 0 ≤ y ∧ y ≤ 200 := by
        rw [hrb] at hf
        by_cases q : 0 ≤ y ∧ y ≤ 200
        · exact q
        · rw [inB_false q] at hf; cases hf
      have hrn := Gt.rnB_of hrb
      obtain ⟨k, rfl⟩ := Int.eq_ofNat_of_zero_le hin.1
      have hk : k ≤ 200 := by omega
      have ek : ((k : Int)).toNat = k := by omega
      obtain ⟨N, hN⟩ := Int.eq_ofNat_of_zero_le (show 0 ≤ g.n by have := hok.n1; omega)
      have hN17 : N ≤ 17 := by have := hok.n17; omega
      have eN : g.n.toNat = N := by omega
      have HQB := Lib.hid (fun q => Gt.bq_b (n := n) (r := r) hask q)
      have HQC := Lib.hid (fun q => Gt.bq_c (n := n) (r := r) hask q)
      rw [ek, eN] at HQB HQC
      have HO := Lib.hid hok
      have HNN := Lib.hid hN
      have l0 := HG.out.l0
      have l1 := HG.out.l1
      have CSP := fun (j : Nat) W kc c' (hA' : GutAt W kc c' (g.clr j) v b) h => l06Spilt_any kc b br n c' (g.clr j) r v (.slice a n cap) k W hA' h hrn (hok.clr ⟨l0, l1⟩ j) hm hk
      have CLF := fun (j : Nat) W hA' (hj : j < 32) => l06Leaf_any w.heap.size b c g v j W hA' hj
      have HBO := Lib.hid (fun j => Gt.itO_bd (hok.clr ⟨l0, l1⟩ j) zero_bd hrn.1 k)
      have HBC := Lib.hid (Gt.bc_bd (g := g) (n := n) (r := r) (y := k))
      clear hcode hz hok hrn hask hf hin hrb eN ek hN
      go_enter Try.func27, Try.ntmps27
      go_wp2_with fail
      refine (CR _ hA.out HR.out).mono ?_
      rintro e w1 ⟨rfl, x1⟩
      have B1 := bnext hB0 x1 hB0.size
      have A1 := Lib.hid (hA.out.below x1 (Nat.le_refl _))
      have R1 := Lib.hid (HR.out.below x1 (Nat.le_refl _))
      clear x1 CR hA HR
      go_wp2_with fail
      refine (l00In_q _ _ _ _).mono ?_
      rintro e w9 ⟨rfl, rfl⟩
      go_wp2_with fail
      refine (CA _ _ A1.out).mono ?_
      rw [hcw]
      rintro e w2 ⟨rfl, x2⟩
      have B2 := Lib.hid (bnext B1 x2 B1.size)
      have A2 := Lib.hid (A1.out.below x2 (Nat.le_refl _))
      have R2 := Lib.hid (R1.out.below x2 (Nat.le_refl _))
      clear x2 B1 A1 R1 CA
      clear hcw
      go_wp2_with fail
      go_loopw [10, 11, 12, 13, 14] (fun bv lv i _ _ V => ∃ j : Nat, j ≤ N ∧ i = .int .i64 j ∧ bv = .int .i64 (g.bc n r k j).1 ∧ lv = .int .i64 (g.bc n r k j).2 ∧ Hid (GutAt V w.heap.size c g v b) ∧ Hid (IsList V br (.slice a n cap) 1 n (fun i => .int .i64 (r i))) ∧ Below w.heap.size w V) (fun _ _ i _ _ _ => N - (intOf i).toNat)
      case atStart => exact ⟨0, by omega, rfl, rfl, rfl, A2, R2, B2.out⟩
      case round =>
        clear A2 R2 B2
        obtain ⟨j, hj, rfl, rfl, rfl, hA, hR, hB⟩ := hrel
        have z0 : wr.cell? ⟨w.heap.size, 0, none⟩ = some (.int .i8 (N : Int)) := by rw [cell_of_rowAt hA.out.row, HG.out.get0, HNN.out]
        have lA := hA.out.lt
        have HB := Lib.hid hB
        clear hB
        by_cases hlt : j < N
        · have j0 : 0 ≤ (j : Int) := by omega
          have j1 : (j : Int) < N := by omega
          have CL := CLF j wr hA.out (by omega)
          cases hl : g.leaf j with
          | false =>
            have E := Lib.hid (Gt.bc_skip (n := n) (r := r) (y := k) hl)
            rw [hl] at CL
            clear hl
            go_wp2_with fail
            refine CL.mono ?_
            rintro e w3 ⟨rfl, x3⟩
            have B3 := Lib.hid (bnext HB.out x3 HB.out.size)
            have A3 := Lib.hid (hA.out.below x3 (Nat.le_refl _))
            have R3 := Lib.hid (hR.out.below x3 (Nat.le_refl _))
            clear x3 CL hA hR z0 lA HB
            go_wp2_with fail
            refine ⟨⟨j + 1, by omega, by go_num, by rw [E.out], by rw [E.out], A3, R3, B3.out⟩, by simp [intOf]; omega⟩
          | true =>
            rw [hl] at CL
            have ET := Lib.hid (fun h => Gt.bc_take (n := n) (r := r) (y := k) hl h)
            have EL := Lib.hid (fun h => Gt.bc_leave (g := g) (n := n) (r := r) (y := k) (j := j) h)
            have hbd := HBO.out j
            have hbo : 0 ≤ g.bo n r k j ∧ g.bo n r k j ≤ 116000000 := by unfold Gt.bo; omega
            have hbc := HBC.out j
            have CS := fun W kc c' hA' h => (CSP j W kc c' hA' h)
            have hcl : (g.clr j).itO (fun _ => 0) r n k = g.bo n r k j := rfl
            rw [hcl] at CS
            clear hl hbd hcl
            generalize g.bo n r k j = bo at *
            generalize hbe : g.bc n r k j = bc at *
            obtain ⟨bv, lv⟩ := bc
            have HBE := Lib.hid hbe
            clear hbe
            dsimp only at hbc ET EL
            go_wp2_with fail
            refine CL.mono ?_
            rintro e w3 ⟨rfl, x3⟩
            have B3 := Lib.hid (bnext HB.out x3 HB.out.size)
            have A3 := Lib.hid (hA.out.below x3 (Nat.le_refl _))
            have R3 := Lib.hid (hR.out.below x3 (Nat.le_refl _))
            have q3 := A3.out.row
            have l3 := rowAt_lt q3
            clear x3 CL hA hR z0 lA HB
            have x19 := HG.out.leaves
            have fo : Ones (c.setIfInBounds 19 (.int .u32 (bits BinOp.andNot IntKind.u32 g.l (2 ^ j % 4294967296)))) := (HG.out.clr j).ones
            have fc := Lib.hid (show IsGut (c.setIfInBounds 19 (.int .u32 (bits BinOp.andNot IntKind.u32 g.l (2 ^ j % 4294967296)))) (g.clr j) v from HG.out.clr j)
            go_wp2_with fail
            refine gen_callsW fun W hW => ?_
            have qW : rowAt W w3.heap.size = some (c.setIfInBounds 19 (.int .u32 (bits BinOp.andNot IntKind.u32 g.l (2 ^ j % 4294967296)))) := by rw [hW]; exact rowAt_alloc_at _ _ _ _ rfl
            have bW : Below w3.heap.size w3 W := by rw [hW]; exact (Below.refl _ _).alloc (Nat.le_refl _) _
            have BW := Lib.hid (bnext B3.out bW B3.out.size)
            have AW := Lib.hid (A3.out.below bW (Nat.le_refl _))
            have RW := Lib.hid (R3.out.below bW (Nat.le_refl _))
            have CSW := CS W w3.heap.size _ ⟨qW, fc.out, A3.out.pipes.below bW (Nat.le_refl _)⟩ RW.out
            clear hW bW qW q3 l3 A3 R3 B3 fo fc CS

            by_cases h1 : bv < 0
            · have d1 : decide (bv < 0) = true := by simpa using h1
              have E := Lib.hid (ET.out (.inl h1))
              clear h1
              refine CSW.mono ?_
              rintro e w4 ⟨rfl, x4⟩
              have B4 := Lib.hid (bnext BW.out x4 BW.out.size)
              have A4 := Lib.hid (AW.out.below x4 (Nat.le_refl _))
              have R4 := Lib.hid (RW.out.below x4 (Nat.le_refl _))
              clear x4 CSW AW RW BW
              go_wp2_with fail
              refine ⟨⟨j + 1, by omega, by go_num, by rw [E.out], by rw [E.out], A4, R4, B4.out⟩, by simp [intOf]; omega⟩
            · have d1 : decide (bv < 0) = false := by simpa using h1
              by_cases h2 : bo < lv
              · have d2 : decide (bo < lv) = true := by simpa using h2
                have E := Lib.hid (ET.out (.inr h2))
                clear h1 h2
                refine CSW.mono ?_
                rintro e w4 ⟨rfl, x4⟩
                have B4 := Lib.hid (bnext BW.out x4 BW.out.size)
                have A4 := Lib.hid (AW.out.below x4 (Nat.le_refl _))
                have R4 := Lib.hid (RW.out.below x4 (Nat.le_refl _))
                clear x4 CSW AW RW BW
                go_wp2_with fail
                refine ⟨⟨j + 1, by omega, by go_num, by rw [E.out], by rw [E.out], A4, R4, B4.out⟩, by simp [intOf]; omega⟩
              · have d2 : decide (bo < lv) = false := by simpa using h2
                have E := Lib.hid (EL.out (by rintro (q | q); exact h1 q; exact h2 q))
                clear h1 h2
                refine CSW.mono ?_
                rintro e w4 ⟨rfl, x4⟩
                have B4 := Lib.hid (bnext BW.out x4 BW.out.size)
                have A4 := Lib.hid (AW.out.below x4 (Nat.le_refl _))
                have R4 := Lib.hid (RW.out.below x4 (Nat.le_refl _))
                clear x4 CSW AW RW BW
                go_wp2_with fail
                refine ⟨⟨j + 1, by omega, by go_num, by rw [E.out], by rw [E.out], A4, R4, B4.out⟩, by simp [intOf]; omega⟩
        · obtain rfl : j = N := by omega
          by_cases hbn : (g.bc n r k j).1 < 0
          · obtain ⟨e1, e2⟩ := HQB.out hbn
            have E1 := Lib.hid e1
            have E2 := Lib.hid e2
            have hd : decide ((g.bc n r k j).1 < 0) = true := by simpa using hbn
            clear e1 e2 HQB HQC hbn
            generalize (g.bc n r k j).1 = q1 at *
            generalize (g.bc n r k j).2 = q2 at *
            go_wp2_with fail
            go_ret3
            exact ⟨by rw [E1.out, E2.out]; rfl, HB.out⟩
          · obtain ⟨e1, e2⟩ := HQC.out (by omega)
            have E1 := Lib.hid (congrArg Prod.fst e1)
            have E3 := Lib.hid (congrArg Prod.snd e1)
            have E2 := Lib.hid e2
            have hd : decide ((g.bc n r k j).1 < 0) = false := by simpa using hbn
            clear e1 e2 HQB HQC hbn
            generalize (g.bc n r k j).1 = q1 at *
            generalize (g.bc n r k j).2 = q2 at *
            go_wp2_with fail
            go_ret3
            exact ⟨by rw [E1.out, E3.out, E2.out]; rfl, HB.out⟩
    · replace hcode := Lib.hid hcode
      go_enter Try.func27, Try.ntmps27
      go_wp2_with fail
      refine (CR _ hA.out HR.out).mono ?_
      rintro e w1 ⟨rfl, x1⟩
      have B1 := bnext hB0 x1 hB0.size
      have A1 := Lib.hid (hA.out.below x1 (Nat.le_refl _))
      have R1 := Lib.hid (HR.out.below x1 (Nat.le_refl _))
      clear x1 CR hA HR
      go_wp2_with fail
      refine (l00In_q _ _ _ _).mono ?_
      rintro e w9 ⟨rfl, rfl⟩
      go_wp2_with fail
      refine (CA _ _ A1.out).mono ?_
      rw [hcw]
      rintro e w2 ⟨rfl, x2⟩
      have B2 := Lib.hid (bnext B1 x2 B1.size)
      have A2 := Lib.hid (A1.out.below x2 (Nat.le_refl _))
      have R2 := Lib.hid (R1.out.below x2 (Nat.le_refl _))
      clear x2 B1 A1 R1 CA
      clear hcw hrb
      have hcb : (code != 0) = true := by simpa using hz
      obtain ⟨e1, e2⟩ := Gt.bq_a (show g.ask (g.rnB n r && inB y 0 200) ≠ 0 by rw [← hcode.out]; exact hz)
      rw [← hcode.out] at e2
      have E1 := Lib.hid e1
      have E2 := Lib.hid e2
      clear e1 e2 hz hcode A2 R2
      go_wp2_with fail
      go_ret3
      exact ⟨by rw [E1.out, E2.out]; rfl, B2.out⟩
end Go.Proofs.Ytfdoehakpeddnaa

/- BestClean: the program. -/
namespace Go.Proofs.Ytfdoehakpeddnaa
open Go.RowKit

theorem isWat_zero : IsWat zeroW (fun _ => 0) := ⟨zeroW_is, fun _ _ => by simp, fun _ _ => by simp⟩
set_option maxRecDepth 100000 in
set_option maxHeartbeats 4000000 in
theorem implBestClean_any (b br n : Nat) (c : Array Value) (g : Gt) (v u : Value) (r : Nat → Int) (y : Int) (w : World) (hG : IsGut c g v) (hv : IsList w b v 2 g.m (pipeV g.p)) (hm : g.m ≤ 2000000) (hr : IsList w br u 1 n (fun i => .int .i64 (r i))) (hn : n ≤ 2000000) :
    Calls Try.prog 28 #[.agg c, u, .int .i64 y] w fun e w' => e = .returned (.tuple #[.int .i64 (g.bcV n r y).1, .int .i64 (g.bcV n r y).2, .int .i64 (g.bcC n r y)]) ∧ Below w.heap.size w w' := by
  have hB0 : Below w.heap.size w (w.alloc (.cells c 37)) := (Below.refl _ _).alloc (Nat.le_refl _) _
  have rA : rowAt (w.alloc (.cells c 37)) w.heap.size = some c := rowAt_alloc_at _ _ _ _ rfl
  have HV := Lib.hid (hv.below hB0 (Nat.le_refl _))
  have HR := Lib.hid (hr.below hB0 (Nat.le_refl _))
  have hc := hG.size
  have hco := hG.ones
  have l0 := hG.l0
  have l1 := hG.l1
  have CC := fun W h1 h2 => checkMinutes_any b br n c g v u zeroW (fun _ => 0) r y W hG h1 hm isWat_zero h2 hn
  rw [Gt.wet_zero] at CC
  have HG := Lib.hid hG
  obtain ⟨a, cap, rfl⟩ := hr.shape
  obtain ⟨code, hcode⟩ : ∃ z, z = g.ask (g.rnB n r && inB y 0 200) := ⟨_, rfl⟩
  rw [← hcode] at CC
  have hzo := zeroW_is.ones
  unfold zeroW at hzo
  clear hG hv hr
  by_cases hz : code = 0
  · rw [hz] at CC
    have hask := hcode.symm.trans hz
    obtain ⟨hok, hf⟩ := Gt.ask_of hask
    have hin : 0 ≤ y ∧ y ≤ 200 := by
      by_cases q : 0 ≤ y ∧ y ≤ 200
      · exact q
      · rw [inB_false q] at hf; simp at hf
    have hrb : g.rnB n r = true := by
      cases q : g.rnB n r with
      | true => rfl
      | false => rw [q] at hf; simp at hf
    have hrn := Gt.rnB_of hrb
    obtain ⟨k, rfl⟩ := Int.eq_ofNat_of_zero_le hin.1
    have hk : k ≤ 200 := by omega
    have ek : ((k : Int)).toNat = k := by omega
    obtain ⟨N, hN⟩ := Int.eq_ofNat_of_zero_le (show 0 ≤ g.n by have := hok.n1; omega)
    have hN17 : N ≤ 17 := by have := hok.n17; omega
    have eN : g.n.toNat = N := by omega
    have HQB := Lib.hid (fun q => Gt.bq_b (n := n) (r := r) hask q)
    have HQC := Lib.hid (fun q => Gt.bq_c (n := n) (r := r) hask q)
    rw [ek, eN] at HQB HQC
    have HNN := Lib.hid hN
    have HBO := Lib.hid (fun j => Gt.itO_bd (hok.clr ⟨l0, l1⟩ j) zero_bd hrn.1 k)
    have HBN := Lib.hid (Gt.bc_none (g := g) (n := n) (r := r) (y := k) N)
    have CHL := fun W (j : Nat) (hj : j < 32) => hasLeaves_any c g v j W HG.out hj
    have CCL := fun W (j : Nat) (hj : j < 32) h => cleaned_any b c g v j W HG.out h hj hm
    have CSH := fun W (j : Nat) a3 cap3 (h1 : IsList W 0 (.slice a3 g.m cap3) 2 g.m (pipeV g.p)) (h2 : IsList W 0 (.slice a n cap) 1 n (fun i => .int .i64 (r i))) => shower_any 0 n _ (g.clr j) (.slice a3 g.m cap3) (.slice a n cap) r W ((HG.out.clr j).setP' a3 cap3) h1 (hok.clr ⟨l0, l1⟩ j) h2
    have CMI := fun W (j : Nat) x (h : IsShw W 0 x (g.clr j) n r) => minutes_any 0 n k x (g.clr j) r (fun _ => 0) zeroW W h (show n ≤ (g.clr j).n.toNat by have h9 := hrn.2; show n ≤ g.n.toNat; omega) (hok.clr ⟨l0, l1⟩ j) zeroW_is zero_bd hrn.1 hk
    by_cases hl0 : g.l = 0
    · have hlb : (g.l == 0) = true := by simpa using hl0
      obtain ⟨e1, e2⟩ := HQB.out (HBN.out.2 fun i _ => Gt.leaf_zero hl0 i)
      have E1 := Lib.hid e1
      have E2 := Lib.hid e2
      have HL := Lib.hid hl0
      clear e1 e2 hcode hz hok hrn hask hf hin hrb eN ek hN hl0 CHL CCL CSH CMI HQB HQC HBN
      go_enter Try.func28, Try.ntmps28
      go_wp2_with fail
      refine (CC _ HV.out HR.out).mono ?_
      rintro e w2 ⟨rfl, x2⟩
      have s0 := brow x2 rA
      have B2 := Lib.hid (bnext hB0 x2 hB0.size)
      have V2 := Lib.hid (HV.out.below x2 (Nat.le_refl _))
      have R2 := Lib.hid (HR.out.below x2 (Nat.le_refl _))
      clear x2 CC HV HR rA hB0
      have z19 : w2.cell? ⟨w.heap.size, 19, none⟩ = some (.int .u32 g.l) := by rw [cell_of_rowAt s0]; exact HG.out.getL
      have lA := rowAt_lt s0
      go_wp2_with fail
      go_ret3
      exact ⟨by rw [E1.out, E2.out]; rfl, B2.out⟩
    · have hlb : (g.l == 0) = false := by simpa using hl0
      have hbn : ¬ (g.bc n r k N).1 < 0 := fun h => hl0 (Gt.leaf_none ⟨l0, l1⟩ hok.lv fun j hj => HBN.out.1 h j (by omega))
      obtain ⟨e1, e2⟩ := HQC.out hbn
      have hbp : g.bp n r k N = g.bc n r k N := if_neg hbn
      have E1 := Lib.hid (show (g.bcV n r (k : Int)).1 = (g.bp n r k N).1 by rw [e1, hbp])
      have E3 := Lib.hid (show (g.bcV n r (k : Int)).2 = (g.bp n r k N).2 by rw [e1, hbp])
      have E2 := Lib.hid e2
      clear e1 e2 hcode hz hok hrn hask hf hin hrb eN ek hN hl0 HQB HQC HBN hbn hbp
      go_enter Try.func28, Try.ntmps28
      go_wp2_with fail
      refine (CC _ HV.out HR.out).mono ?_
      rintro e w2 ⟨rfl, x2⟩
      have s0 := brow x2 rA
      have B2 := Lib.hid (bnext hB0 x2 hB0.size)
      have V2 := Lib.hid (HV.out.below x2 (Nat.le_refl _))
      have R2 := Lib.hid (HR.out.below x2 (Nat.le_refl _))
      clear x2 CC HV HR rA hB0
      have z19 : w2.cell? ⟨w.heap.size, 19, none⟩ = some (.int .u32 g.l) := by rw [cell_of_rowAt s0]; exact HG.out.getL
      have z0 : w2.cell? ⟨w.heap.size, 0, none⟩ = some (.int .i8 (N : Int)) := by rw [cell_of_rowAt s0, HG.out.get0, HNN.out]
      have lA := rowAt_lt s0
      have S0 := Lib.hid s0
      go_wp2_with fail
      clear z19 z0 lA s0
      go_loopw [10, 11, 12, 13, 14, 15, 30] (fun bv lv _ _ _ _ i V => ∃ j : Nat, j ≤ N ∧ i = .int .i64 j ∧ bv = .int .i64 (g.bp n r k j).1 ∧ lv = .int .i64 (g.bp n r k j).2 ∧ rowAt V w.heap.size = some c ∧ Hid (IsList V b v 2 g.m (pipeV g.p)) ∧ Hid (IsList V br (.slice a n cap) 1 n (fun i => .int .i64 (r i))) ∧ Hid (Below w.heap.size w V)) (fun _ _ _ _ _ _ i _ => N - (intOf i).toNat)
      case atStart => exact ⟨0, by omega, rfl, rfl, rfl, S0.out, V2, R2, B2⟩
      case round =>
        clear S0 V2 R2 B2
        obtain ⟨j, hj, rfl, rfl, rfl, q0, hV, hR, hB⟩ := hrel
        by_cases hlt : j < N
        · have j0 : 0 ≤ (j : Int) := by omega
          have j1 : (j : Int) < N := by omega
          have CL := CHL wr j (by omega)
          have lA := rowAt_lt q0
          cases hl : g.leaf j with
          | false =>
            have E := Lib.hid (Gt.bp_skip (n := n) (r := r) (y := k) hl)
            rw [hl] at CL
            clear hl
            go_wp2_with fail
            refine CL.mono ?_
            rintro e w3 ⟨rfl, x3⟩
            have Q3 := Lib.hid (brow x3 q0)
            have B3 := Lib.hid (bnext hB.out x3 hB.out.size)
            have V3 := Lib.hid (hV.out.below x3 (Nat.le_refl _))
            have R3 := Lib.hid (hR.out.below x3 (Nat.le_refl _))
            clear x3 CL q0 hV hR hB lA
            go_wp2_with fail
            refine ⟨⟨j + 1, by omega, by go_num, by rw [E.out], by rw [E.out], Q3.out, V3, R3, B3⟩, by simp [intOf]; omega⟩
          | true =>
            rw [hl] at CL
            have hbd := HBO.out j
            have hbo : 0 ≤ g.bo n r k j ∧ g.bo n r k j ≤ 116000000 := by unfold Gt.bo; omega
            have EP := Lib.hid (Gt.bp_succ (n := n) (r := r) (y := k) hl (by omega))
            have CMJ := fun W x h => CMI W j x h
            rw [show (g.clr j).itO (fun _ => 0) r n k = g.bo n r k j from rfl] at CMJ
            have CCJ := CCL
            clear hl hbd
            generalize g.bo n r k j = bo at *
            generalize hbe : g.bp n r k j = bp at *
            obtain ⟨bv, lv⟩ := bp
            have HBE := Lib.hid hbe
            clear hbe
            dsimp only at EP
            go_wp2_with fail
            refine CL.mono ?_
            rintro e w3 ⟨rfl, x3⟩
            have Q3 := brow x3 q0
            have B3 := Lib.hid (bnext hB.out x3 hB.out.size)
            have V3 := Lib.hid (hV.out.below x3 (Nat.le_refl _))
            have R3 := Lib.hid (hR.out.below x3 (Nat.le_refl _))
            have l3 := rowAt_lt Q3
            clear x3 CL q0 hV hR hB lA
            go_wp2_with fail
            refine (CCL _ j (by omega) V3.out).mono ?_
            rintro e w4 ⟨a4, cap4, rfl, l4, x4⟩
            have Q4 := Lib.hid (brow x4 Q3)
            have B4 := Lib.hid (bnext B3.out x4 B3.out.size)
            have V4 := Lib.hid (V3.out.below x4 (Nat.le_refl _))
            have R4 := Lib.hid (R3.out.below x4 (Nat.le_refl _))
            have L4 := Lib.hid l4
            clear x4 l4 Q3 B3 V3 R3 l3
            go_wp2_with fail
            refine (CSH _ j a4 cap4 (L4.out.mono (Nat.zero_le _)) (R4.out.mono (Nat.zero_le _))).mono ?_
            rintro e w5 ⟨x, rfl, hS, _, x5⟩
            have Q5 := Lib.hid (brow x5 Q4.out)
            have B5 := Lib.hid (bnext B4.out x5 B4.out.size)
            have V5 := Lib.hid (V4.out.below x5 (Nat.le_refl _))
            have R5 := Lib.hid (R4.out.below x5 (Nat.le_refl _))
            have HS := Lib.hid hS
            clear x5 hS L4 Q4 B4 V4 R4
            go_wp2_with fail
            refine (CMJ _ x HS.out).mono ?_
            rintro e w6 ⟨cur, rfl, hI, x6⟩
            have Q6 := Lib.hid (brow x6 Q5.out)
            have B6 := Lib.hid (bnext B5.out x6 B5.out.size)
            have V6 := Lib.hid (V5.out.below x6 (Nat.le_refl _))
            have R6 := Lib.hid (R5.out.below x6 (Nat.le_refl _))
            have his := hI.size
            have hio := hI.ones
            clear x6 hI HS Q5 B5 V5 R5
            generalize (g.clr j).itS (fun _ => 0) r n k = sk at *
            by_cases hov : bo < lv
            · have hd : decide (bo < lv) = true := by simpa using hov
              have E := Lib.hid (EP.out.trans (if_pos hov))
              clear hov
              go_wp2_with fail
              have bb : Below w6.heap.size w6 (w6.alloc (.cells cur 32)) := (Below.refl _ _).alloc (Nat.le_refl _) _
              refine ⟨⟨j + 1, by omega, by go_num, by rw [E.out], by rw [E.out], brow bb Q6.out, Lib.hid (V6.out.below bb (Nat.le_refl _)), Lib.hid (R6.out.below bb (Nat.le_refl _)), Lib.hid (bnext B6.out bb B6.out.size)⟩, by simp [intOf]; omega⟩
            · have hd : decide (bo < lv) = false := by simpa using hov
              have E := Lib.hid (EP.out.trans (if_neg hov))
              clear hov
              go_wp2_with fail
              have bb : Below w6.heap.size w6 (w6.alloc (.cells cur 32)) := (Below.refl _ _).alloc (Nat.le_refl _) _
              refine ⟨⟨j + 1, by omega, by go_num, by rw [E.out], by rw [E.out], brow bb Q6.out, Lib.hid (V6.out.below bb (Nat.le_refl _)), Lib.hid (R6.out.below bb (Nat.le_refl _)), Lib.hid (bnext B6.out bb B6.out.size)⟩, by simp [intOf]; omega⟩
        · obtain rfl : j = N := by omega
          generalize (g.bp n r k j).1 = q1 at *
          generalize (g.bp n r k j).2 = q2 at *
          go_wp2_with fail
          go_ret3
          exact ⟨by rw [E1.out, E3.out, E2.out]; rfl, hB.out⟩
  · replace hcode := Lib.hid hcode
    go_enter Try.func28, Try.ntmps28
    go_wp2_with fail
    refine (CC _ HV.out HR.out).mono ?_
    rintro e w2 ⟨rfl, x2⟩
    have s0 := brow x2 rA
    have B2 := Lib.hid (bnext hB0 x2 hB0.size)
    have V2 := Lib.hid (HV.out.below x2 (Nat.le_refl _))
    have R2 := Lib.hid (HR.out.below x2 (Nat.le_refl _))
    clear x2 CC HV HR rA hB0
    have hcb : (code != 0) = true := by simpa using hz
    obtain ⟨e1, e2⟩ := Gt.bq_a (show g.ask (g.rnB n r && inB y 0 200) ≠ 0 by rw [← hcode.out]; exact hz)
    rw [← hcode.out] at e2
    have E1 := Lib.hid e1
    have E2 := Lib.hid e2
    clear e1 e2 hz hcode V2 R2 s0
    go_wp2_with fail
    go_ret3
    exact ⟨by rw [E1.out, E2.out]; rfl, B2.out⟩
end Go.Proofs.Ytfdoehakpeddnaa

/- laws.FnExactBestClean returns true for every gutter, rain, number, and leaves them as they were. No condition. -/
namespace Go.Proofs.Ytfdoehakpeddnaa
open Go.RowKit

set_option maxRecDepth 100000 in
set_option maxHeartbeats 8000000 in
theorem law_walk_FnExactBestClean {w : World} {c_g : Array Value} {g_g : Gt} {v_g : Value} (hG_g : IsGut c_g g_g v_g) (hv_g : ArgPp w v_g g_g.m g_g.p) (hm_g : g_g.m ≤ maxLen) {v_r : Value} {m_r : Nat} {r : Nat → Int} (hv_r : NumsAt w v_r m_r r) (_hm_r : m_r ≤ maxLen) (_hb_r : ∀ i, i < m_r → -9223372036854775808 ≤ r i ∧ r i ≤ 9223372036854775807) {y : Int} (_hy : -9223372036854775808 ≤ y ∧ y ≤ 9223372036854775807) :
    Calls Try.prog 7 #[.agg c_g, v_r, .int .i64 y] w fun e w' => e = .returned (.bool true) ∧ Below w.heap.size w w' := by
  have PB0 := Lib.hid (show Below w.heap.size w (w.alloc (.cells c_g 28)) from (Below.refl _ _).alloc (Nat.le_refl _) _)
  have q0_g : rowAt (w.alloc (.cells c_g 28)) w.heap.size = some c_g := rowAt_alloc_at _ _ _ _ rfl
  have A_g := Lib.hid (hv_g.below PB0.out (Nat.le_refl _))
  have A_r := Lib.hid (hv_r.below PB0.out (Nat.le_refl _))
  have HG_g := Lib.hid hG_g
  have zs_g := hG_g.size
  have zo_g := hG_g.ones
  obtain ⟨av_g, cv_g, rfl⟩ := hv_g.shape
  obtain ⟨av_r, cv_r, rfl⟩ := hv_r.shape
  clear hv_g hG_g hv_r
  by_cases hl_r : m_r ≤ 1048576
  rotate_left
  · have hl1_r : (1048576 : Int) < m_r := by omega
    go_enter Try.func7, Try.ntmps7
    go_wp2_with fail
    go_ret
    exact ⟨rfl, PB0.out⟩
  have hl1_r : (m_r : Int) ≤ 1048576 := by omega
  obtain ⟨X0, hX0⟩ : ∃ X : Int, X = if (g_g.m : Int) ≤ 1048576 then (1048576 : Int) - g_g.m else (-1 : Int) := ⟨_, rfl⟩
  have HX0 := Lib.hid hX0
  by_cases hl_g : (g_g.m : Int) ≤ (1048576 : Int)
  rotate_left
  · have hx0 : decide (X0 < 0) = true := by rw [HX0.out, if_neg hl_g]; rfl
    clear hX0
    go_enter Try.func7, Try.ntmps7
    go_wp2_with fail
    refine gen_callsW fun W0 hW => ?_
    rw [← hW] at q0_g PB0 A_g A_r
    clear hW
    have H0 := Lib.hid (Below.refl W0.heap.size W0)
    refine (szGutter_any _ c_g g_g _ _ HG_g.out (A_g.out.below H0.out (Nat.le_refl _)) ⟨by omega, by omega⟩ hm_g X0 HX0.out).mono ?_
    rintro e w1 ⟨rfl, b1⟩
    have H1 := Lib.hid (bnext H0.out b1 H0.out.size)
    clear b1
    have q1_g := brow H1.out q0_g
    have n1_g := Nat.ne_of_lt (rowAt_lt q1_g)
    have l1_g := rowAt_lt q1_g
    go_wp2_with fail
    go_ret
    exact ⟨rfl, PB0.out.trans (H1.out.mono PB0.out.size)⟩
  rw [if_pos hl_g] at hX0
  have hx0 : decide (X0 < 0) = false := by simp; omega
  have hm1_g : g_g.m ≤ 1048576 := by omega
  clear hX0
  have CS := fun (W : World) (B_g B_r : Nat) (U_g U_r : Option Addr) (Y_g : Array Value) (I_g : IsGut Y_g g_g (.slice U_g g_g.m g_g.m)) (H_g : IsList W B_g (.slice U_g g_g.m g_g.m) 2 g_g.m (pipeV g_g.p)) (H_r : IsList W B_r (.slice U_r m_r m_r) 1 m_r (fun i => .int .i64 (r i))) => specBestClean_any B_g B_r m_r Y_g g_g (.slice U_g g_g.m g_g.m) (.slice U_r m_r m_r) r y W I_g H_g (by omega) H_r (by omega)
  have CI := fun (W : World) (B_g B_r : Nat) (U_g U_r : Option Addr) (Y_g : Array Value) (I_g : IsGut Y_g g_g (.slice U_g g_g.m g_g.m)) (H_g : IsList W B_g (.slice U_g g_g.m g_g.m) 2 g_g.m (pipeV g_g.p)) (H_r : IsList W B_r (.slice U_r m_r m_r) 1 m_r (fun i => .int .i64 (r i))) => implBestClean_any B_g B_r m_r Y_g g_g (.slice U_g g_g.m g_g.m) (.slice U_r m_r m_r) r y W I_g H_g (by omega) H_r (by omega)
  have hne0 : (((g_g.bcV m_r r y).1) != ((g_g.bcV m_r r y).1)) = false := by simp
  generalize ((g_g.bcV m_r r y).1) = x0 at *
  have hne1 : (((g_g.bcV m_r r y).2) != ((g_g.bcV m_r r y).2)) = false := by simp
  generalize ((g_g.bcV m_r r y).2) = x1 at *
  have hne2 : ((g_g.bcC m_r r y) != (g_g.bcC m_r r y)) = false := by simp
  generalize (g_g.bcC m_r r y) = x2 at *
  go_enter Try.func7, Try.ntmps7
  go_wp2_with fail
  refine gen_callsW fun W0 hW => ?_
  rw [← hW] at q0_g PB0 A_g A_r
  clear hW
  have H0 := Lib.hid (Below.refl W0.heap.size W0)
  refine (szGutter_any _ c_g g_g _ _ HG_g.out (A_g.out.below H0.out (Nat.le_refl _)) ⟨by omega, by omega⟩ hm_g X0 HX0.out).mono ?_
  rintro e w1 ⟨rfl, b1⟩
  have H1 := Lib.hid (bnext H0.out b1 H0.out.size)
  clear b1
  have q1_g := brow H1.out q0_g
  have n1_g := Nat.ne_of_lt (rowAt_lt q1_g)
  have l1_g := rowAt_lt q1_g
  go_wp2_with fail
  refine (toGutter_any c_g g_g _ _ HG_g.out (A_g.out.below H1.out (Nat.le_refl _)) (by omega)).mono ?_
  rintro e w2 ⟨u_sg, rfl, k_sg, b2⟩
  have H2 := Lib.hid (bnext H1.out b2 H1.out.size)
  have Lsg_2 := Lib.hid k_sg
  clear k_sg
  clear b2 H1
  clear q1_g n1_g l1_g
  have q2_g := brow H2.out q0_g
  have n2_g := Nat.ne_of_lt (rowAt_lt q2_g)
  have l2_g := rowAt_lt q2_g
  have is_sg := Lib.hid (HG_g.out.setP' u_sg g_g.m)
  obtain ⟨X_sg, hX_sg⟩ : ∃ X, setP c_g (.slice u_sg g_g.m g_g.m) = X := ⟨_, rfl⟩
  rw [hX_sg] at is_sg ⊢
  clear hX_sg
  have xs_sg := is_sg.out.size
  have xo_sg := is_sg.out.ones
  go_wp2_with fail
  refine (toInt64S_any _ m_r r _ (A_r.out.below H2.out (Nat.le_refl _)) (by omega)).mono ?_
  rintro e w3 ⟨u_sr, rfl, k_sr, b3⟩
  have H3 := Lib.hid (bnext H2.out b3 H2.out.size)
  have Lsg_3 := Lib.hid (Lsg_2.out.below b3 (Nat.le_refl _))
  have Lsr_3 := Lib.hid k_sr
  clear k_sr
  clear b3 H2 Lsg_2
  clear q2_g n2_g l2_g
  have q3_g := brow H3.out q0_g
  have n3_g := Nat.ne_of_lt (rowAt_lt q3_g)
  have l3_g := rowAt_lt q3_g
  go_wp2_with fail
  refine (CS _ _ _ _ _ _ is_sg.out Lsg_3.out Lsr_3.out).mono ?_
  rintro e w4 ⟨rfl, b4⟩
  have H4 := Lib.hid (bnext H3.out b4 H3.out.size)
  have Lsg_4 := Lib.hid (Lsg_3.out.below b4 (Nat.le_refl _))
  have Lsr_4 := Lib.hid (Lsr_3.out.below b4 (Nat.le_refl _))
  clear b4 H3 Lsg_3 Lsr_3
  clear q3_g n3_g l3_g
  have q4_g := brow H4.out q0_g
  have n4_g := Nat.ne_of_lt (rowAt_lt q4_g)
  have l4_g := rowAt_lt q4_g
  clear Lsg_4 Lsr_4
  go_wp2_with fail
  refine (toGutter_any c_g g_g _ _ HG_g.out (A_g.out.below H4.out (Nat.le_refl _)) (by omega)).mono ?_
  rintro e w5 ⟨u_ig, rfl, k_ig, b5⟩
  have H5 := Lib.hid (bnext H4.out b5 H4.out.size)
  have Lig_5 := Lib.hid k_ig
  clear k_ig
  clear b5 H4
  clear q4_g n4_g l4_g
  have q5_g := brow H5.out q0_g
  have n5_g := Nat.ne_of_lt (rowAt_lt q5_g)
  have l5_g := rowAt_lt q5_g
  have is_ig := Lib.hid (HG_g.out.setP' u_ig g_g.m)
  obtain ⟨X_ig, hX_ig⟩ : ∃ X, setP c_g (.slice u_ig g_g.m g_g.m) = X := ⟨_, rfl⟩
  rw [hX_ig] at is_ig ⊢
  clear hX_ig
  have xs_ig := is_ig.out.size
  have xo_ig := is_ig.out.ones
  go_wp2_with fail
  refine gen_callsW fun w6 hV => ?_
  have b6 : Below w5.heap.size w5 w6 := by rw [hV]; exact (Below.refl _ _).alloc (Nat.le_refl _) _
  have Rx_6 : rowAt w6 w5.heap.size = some X_ig := by rw [hV]; exact rowAt_alloc_at _ _ _ _ (by simp)
  clear hV
  have H6 := Lib.hid (bnext H5.out b6 H5.out.size)
  have Lig_6 := Lib.hid (Lig_5.out.below b6 (Nat.le_refl _))
  clear b6 H5 Lig_5
  clear q5_g n5_g l5_g
  have q6_g := brow H6.out q0_g
  have n6_g := Nat.ne_of_lt (rowAt_lt q6_g)
  have l6_g := rowAt_lt q6_g
  have n6_Rx := Nat.ne_of_lt (rowAt_lt Rx_6)
  have l6_Rx := rowAt_lt Rx_6
  refine (toInt64S_any _ m_r r _ (A_r.out.below H6.out (Nat.le_refl _)) (by omega)).mono ?_
  rintro e w7 ⟨u_ir, rfl, k_ir, b7⟩
  have H7 := Lib.hid (bnext H6.out b7 H6.out.size)
  have Lig_7 := Lib.hid (Lig_6.out.below b7 (Nat.le_refl _))
  have Rx_7 := brow b7 Rx_6
  have Lir_7 := Lib.hid k_ir
  clear k_ir
  clear b7 H6 Lig_6 Rx_6
  clear q6_g n6_g l6_g
  have q7_g := brow H7.out q0_g
  have n7_g := Nat.ne_of_lt (rowAt_lt q7_g)
  have l7_g := rowAt_lt q7_g
  have n7_Rx := Nat.ne_of_lt (rowAt_lt Rx_7)
  have l7_Rx := rowAt_lt Rx_7
  go_wp2_with fail
  refine (CI _ _ _ _ _ _ is_ig.out Lig_7.out Lir_7.out).mono ?_
  rintro e w8 ⟨rfl, b8⟩
  have H8 := Lib.hid (bnext H7.out b8 H7.out.size)
  have Lig_8 := Lib.hid (Lig_7.out.below b8 (Nat.le_refl _))
  have Lir_8 := Lib.hid (Lir_7.out.below b8 (Nat.le_refl _))
  have Rx_8 := brow b8 Rx_7
  clear b8 H7 Lig_7 Lir_7 Rx_7
  clear q7_g n7_g l7_g
  have q8_g := brow H8.out q0_g
  have n8_g := Nat.ne_of_lt (rowAt_lt q8_g)
  have l8_g := rowAt_lt q8_g
  have n8_Rx := Nat.ne_of_lt (rowAt_lt Rx_8)
  have l8_Rx := rowAt_lt Rx_8
  go_wp2_with fail
  refine gen_world fun wD hD => ?_
  have bD := below_of_eqG hD
  clear hD
  have Q_x := brow bD Rx_8
  have XD := Lib.hid (Lig_8.out.below bD (Nat.le_refl _))
  have HD := bnext H8.out bD H8.out.size
  have Q_g := brow HD q0_g
  refine wp_region_held_drew (S := fun w' => Below wD.heap.size wD w') (by kernel_rfl) ((Below.refl _ _).drew) (fun hH => ?_)
  refine wpAnyH_take (i := 0) (v := .agg X_ig) rfl (by kernel_rfl) (by kernel_rfl) (by kernel_rfl) (fun _ _ _ h => h) (Or.inl ⟨by rfl, ?_⟩) hH ?_
  · intro w1 hS; (try dsimp only at hS); have s0 := brow hS Q_x; go_simp
  (try simp only [List.getElem_toArray]); (try simp only [List.getElem_cons_succ]); (try simp only [List.getElem_cons_zero]); (try simp only [Act.put]); (try simp only [List.setIfInBounds_toArray]); (try simp only [List.set_cons_succ]); (try simp only [List.set_cons_zero])
  refine wpAnyH_take (i := 1) (v := .agg c_g) rfl (by kernel_rfl) (by kernel_rfl) (by kernel_rfl) (fun _ _ _ h => h) (Or.inl ⟨by rfl, ?_⟩) hH ?_
  · intro w1 hS; (try dsimp only at hS); have s0 := brow hS Q_g; go_simp
  (try simp only [List.getElem_toArray]); (try simp only [List.getElem_cons_succ]); (try simp only [List.getElem_cons_zero]); (try simp only [Act.put]); (try simp only [List.setIfInBounds_toArray]); (try simp only [List.set_cons_succ]); (try simp only [List.set_cons_zero])
  refine wpAnyH_ready (rs := [2]) (by kernel_rfl) (by simp) (AllReadyH.cons rfl (fun K hK => ?_) AllReadyH.nil)
  go_simp
  refine (toGutter_any c_g g_g _ _ HG_g.out (A_g.out.below (bnext HD hH HD.size) (Nat.le_refl _)) (by omega)).mono ?_
  rintro x wx ⟨u_t, rfl, l_t, bx⟩
  go_simp
  refine hK.out _ _ (bnext hH bx hH.size) (fun hG => ?_)
  clear hK K hH bx
  replace hH := hG
  clear hG
  (try simp only [List.getElem_toArray]); (try simp only [List.getElem_cons_succ]); (try simp only [List.getElem_cons_zero]); (try simp only [Act.put]); (try simp only [List.setIfInBounds_toArray]); (try simp only [List.set_cons_succ]); (try simp only [List.set_cons_zero])
  refine wpAnyH_ready (rs := [3]) (by kernel_rfl) (by simp) (AllReadyH.cons rfl (fun K hK => ?_) AllReadyH.nil)
  go_simp
  refine (eqGutter_same _ _ g_g _ _ _ _ _ is_ig.out (HG_g.out.setP' u_t g_g.m) (XD.out.below hH (Nat.le_refl _)) l_t (by omega)).mono ?_
  rintro x wx ⟨rfl, bx⟩
  go_simp
  refine hK.out _ _ (bnext hH bx hH.size) (fun hG => ?_)
  clear hK K hH bx
  replace hH := hG
  clear hG
  (try simp only [List.getElem_toArray]); (try simp only [List.getElem_cons_succ]); (try simp only [List.getElem_cons_zero]); (try simp only [Act.put]); (try simp only [List.setIfInBounds_toArray]); (try simp only [List.set_cons_succ]); (try simp only [List.set_cons_zero])
  refine wpAnyH_take (i := 4) (v := .bool false) rfl (by kernel_rfl) (by kernel_rfl) (by kernel_rfl) (fun _ _ _ h => h) (Or.inl ⟨by rfl, ?_⟩) hH ?_
  · intro w1 hS; (try dsimp only at hS); go_simp
  (try simp only [List.getElem_toArray]); (try simp only [List.getElem_cons_succ]); (try simp only [List.getElem_cons_zero]); (try simp only [Act.put]); (try simp only [List.setIfInBounds_toArray]); (try simp only [List.set_cons_succ]); (try simp only [List.set_cons_zero])
  refine wpAnyH_done (by kernel_rfl) ?_ _
  have bZ := bD.trans (hH.mono bD.size)
  clear hH bD HD XD l_t Q_x Q_g
  have H9 := Lib.hid (bnext H8.out bZ H8.out.size)
  have Lir_9 := Lib.hid (Lir_8.out.below bZ (Nat.le_refl _))
  clear bZ Lig_8 Lir_8 Rx_8
  go_wp2_with fail
  refine (toInt64S_any _ m_r r _ (A_r.out.below H9.out (Nat.le_refl _)) (by omega)).mono ?_
  rintro e wE ⟨u_e, rfl, k_e, bE⟩
  have HE := Lib.hid (bnext H9.out bE H9.out.size)
  have LE := Lib.hid (Lir_9.out.below bE (Nat.le_refl _))
  have KE := Lib.hid k_e
  clear bE k_e H9 Lir_9
  go_wp2_with fail
  refine (eqI m_r r _ _ _ _ _ LE.out KE.out (by omega)).mono ?_
  rintro e wF ⟨rfl, bF⟩
  have HF := Lib.hid (bnext HE.out bF HE.out.size)
  clear bF
  go_wp2_with fail
  go_ret
  exact ⟨rfl, PB0.out.trans (HF.out.mono PB0.out.size)⟩

namespace LFnExactBestClean
open Go.RowKit Go.ChangeShapes Go.WideShapes Go.ChangeAt
theorem own : ownKnob Try.prog.godebug = none := by kernel_rfl
theorem laidOut : laidOutB Try.prog = true := by kernel_rfl
set_option maxRecDepth 100000 in
theorem lifted (os : Os) (started : os.Started) (H : Type) (enc : TypeId × Value → H) :
    ReturnsInHanded {} Try.checked os 7 .any (Rows.fnExactBestCleanSpec.pre6 enc Try.prog Try.f7 Rows.fnExactBestCleanRow.domain false) (Rows.fnExactBestCleanSpec.post enc Try.prog Try.f7 false true false false) := by
  refine returnsInHanded_of_change (C := Try.checked) own started (by kernel_rfl) Try.func7
    (ChangeSpec.witness6 (enc := enc) (C := Try.checked) false ⟨#[], #[.agg (#[.int .i8 0, .int .i16 0] ++ Array.replicate 17 (.int .i8 0) ++ #[.int .u32 0, .slice none 0 0]), .slice none 0 0, .int .i64 0], []⟩ 8 (by kernel_rfl) (by kernel_rfl) (by kernel_rfl) (by kernel_rfl)) ?_
  intro W base args ds gs before hval0 hW hcnd _
  have hval : ∀ (j : Nat) t v, Try.f7.params[j]? = some t → args[j]? = some v → Value.okWide Try.prog W .any base t v := hval0
  have hW' := hW
  obtain ⟨p, q, hA0, hV, rfl, hfz, hnd⟩ := hW
  have hA : DataW.TrodAll enc Try.prog W 0 (fun _ => true) true Try.f7.params.toList args.toList ds p := hA0
  rw [Try.params7] at hA hval
  obtain ⟨v0, vs0, d0, ds0, p0, q0, hargs, rfl, rfl, h0, r0⟩ := trodAll_cons hA
  obtain ⟨v1, vs1, d1, ds1, p1, q1, rfl, rfl, rfl, h1, r1⟩ := trodAll_cons r0
  obtain ⟨v2, vs2, d2, ds2, p2, q2, rfl, rfl, rfl, h2, r2⟩ := trodAll_cons r1
  obtain ⟨rfl, rfl, rfl⟩ := trodAll_nil r2
  obtain rfl : args = #[v0, v1, v2] := by cases args; simp_all
  obtain ⟨rfl, rfl⟩ := trodVars_none hV
  have k0 := h0
  have lt0 : ∀ x ∈ p0, x.block < W.heap.size := by obtain ⟨m, hm⟩ := k0; exact DataW.trod_lt m _ _ _ hm
  have k1 := h1
  have lt1 : ∀ x ∈ p1, x.block < W.heap.size := by obtain ⟨m, hm⟩ := k1; exact DataW.trod_lt m _ _ _ hm
  obtain ⟨c0, f0, u0, rfl, wf0, hL0, hm0⟩ := open_gut (hval 0 28 v0 rfl rfl) h0
  obtain ⟨len1, cells1, hL1, hm1, hb1⟩ := open_nums (hval 1 30 v1 rfl rfl) h1
  obtain ⟨x2, rfl, rfl, rfl, wx2⟩ := open_int Try.underlying2 (hval 2 2 v2 rfl rfl) h2
  clear hA0 hval0
  refine (law_walk_FnExactBestClean wf0 hL0 hm0 hL1 hm1 hb1 (bounds_i64 wx2)).mono fun e W' ⟨he, bel⟩ => ?_
  subst he
  exact ⟨_, rfl, _, _, _, [], _, [], hW', trodAll_mk1 (shut_bool Try.underlying4 _), (trodAll_cons_mk (Below.trod laidOut (by kernel_rfl) (of_decide_eq_true (by kernel_rfl)) k0 bel lt0) (trodAll_cons_mk (Below.trod laidOut (by kernel_rfl) (of_decide_eq_true (by kernel_rfl)) k1 bel lt1) (trodAll_cons_mk (shut_int Try.underlying2 wx2) trodAll_mk0))), rfl, bel.frame _, fun h => by cases h⟩

theorem over : Rows.fnExactBestCleanRow.holds Try.pinned (OpenSpec.ofChange Rows.fnExactBestCleanSpec) :=
  OpenClaim.holds_of_wide_leaving 7 Try.f7 rfl rfl rfl rfl rfl rfl rfl ⟨rfl, rfl, rfl, rfl, rfl⟩ rfl rfl rfl rfl rfl (by kernel_rfl) Try.func7 (by kernel_rfl)
    (of_decide_eq_true (by kernel_rfl)) (by unfold Func.isWrapper; first | (rw [if_pos (by decide +kernel)]; kernel_rfl) | (rw [if_neg (by decide +kernel)]; exact ⟨rfl, rfl⟩))
    (fun os started H enc _ => leaving_of_handed (lifted os started H enc))

theorem proved : Rows.FnExactBestCleanSaid := over
end LFnExactBestClean


end Go.Proofs.Ytfdoehakpeddnaa
