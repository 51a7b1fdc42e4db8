import Derived.Test.YtfdoehakpeddnaaK6
import Derived.Test.YtfdoehakpeddnaaGive
import Derived.Shelf.Abstract
import Derived.Test.YtfdoehakpeddnaaGutG
import Derived.Test.YtfdoehakpeddnaaWat
import Derived.Test.YtfdoehakpeddnaaNums
import Derived.Test.YtfdoehakpeddnaaLeav
import Derived.Test.YtfdoehakpeddnaaArgN
import Derived.Test.YtfdoehakpeddnaaLs
import Derived.Test.YtfdoehakpeddnaaGutH
import Derived.Deep.RegionHeld3
import Derived.Deep.DeepCutAuto

/- The first minute in which something runs over: the model's and the program's. -/
namespace Go.Proofs.Ytfdoehakpeddnaa
open Go.RowKit

/-- Something runs over in minute j. -/
noncomputable def Gt.ovB (g : Gt) (n : Nat) (r : Nat → Int) (j : Nat) : Bool := decide (0 < g.minO (g.itT (fun _ => 0) r n j) r n)
noncomputable def Gt.ovZ (g : Gt) (n : Nat) (r : Nat → Int) : Int := firstI (g.ovB n r) 200
/-- That minute, 0 if there is none, and whether there is one. -/
noncomputable def Gt.ovV (g : Gt) (n : Nat) (r : Nat → Int) : Int := if 0 ≤ g.ovZ n r then g.ovZ n r else 0
noncomputable def Gt.ovF (g : Gt) (n : Nat) (r : Nat → Int) : Bool := decide (0 ≤ g.ovZ n r)
theorem Gt.ov_t {g : Gt} {n j : Nat} {r : Nat → Int} (h : g.ovZ n r = j) : g.ovV n r = j ∧ g.ovF n r = true := by
  unfold Gt.ovV Gt.ovF
  rw [h]
  exact ⟨if_pos (by omega), decide_eq_true (by omega)⟩
theorem Gt.ov_f {g : Gt} {n : Nat} {r : Nat → Int} (h : g.ovZ n r = -1) : g.ovV n r = 0 ∧ g.ovF n r = false := by
  unfold Gt.ovV Gt.ovF
  rw [h]
  exact ⟨if_neg (by omega), decide_eq_false (by omega)⟩
theorem zero_bd : ∀ i, i < 17 → 0 ≤ (fun _ : Nat => (0 : Int)) i ∧ (fun _ : Nat => (0 : Int)) i ≤ 1000 := fun i _ => by simp

set_option maxRecDepth 100000 in
set_option maxHeartbeats 4000000 in
theorem l06Over_any (k b br n : Nat) (c : Array Value) (g : Gt) (r : Nat → Int) (v u : Value) (w : World) (hA : GutAt w k c g v b) (hr : IsList w br u 1 n (fun i => .int .i64 (r i))) (hrn : g.Rn n r) (hok : g.Ok) (hm : g.m ≤ 2000000) :
    Calls Try.prog 54 #[.pointer (some ⟨k, 0, none⟩), u] w fun e w' => e = .returned (.int .i64 (g.ovZ n r)) ∧ Below w.heap.size w w' := by
  have hn17 : n ≤ 17 := by have := hrn.2; have := hok.n17; omega
  have HT := Lib.hid (Gt.itT_bd hok zero_bd hrn.1)
  have HAR := Lib.hid (hr.away (K := w.heap.size) (by omega))
  have HAP := Lib.hid (hA.pipes.away (K := w.heap.size) (by omega))
  have HH := Lib.hid (fun (j : Nat) (hj : j < 200) (hm : ∀ q, q < j → g.ovB n r q = false) (hd : g.ovB n r j = true) => show g.ovZ n r = j from firstI_hit hj hm hd)
  have HM := Lib.hid (fun (hm : ∀ q, q < 200 → g.ovB n r q = false) => show g.ovZ n r = -1 from firstI_miss hm)
  have hk := hA.lt
  have HA := Lib.hid hA
  have HR := Lib.hid hr
  have HRN := Lib.hid hrn.1
  have HO := Lib.hid hok
  obtain ⟨a, cap, rfl⟩ := hr.shape
  have hzo := zeroW_is.ones
  unfold zeroW at hzo
  clear hA hr hrn hok
  go_enter Try.func54, Try.ntmps54
  go_wp2_with fail
  refine gen_world fun W hW => ?_
  have q1 : rowAt W w.heap.size = some zeroW := by rw [hW]; exact rowAt_alloc_at _ _ _ _ (by simp)
  have BW : Below w.heap.size w W := by rw [hW]; exact (Below.refl _ _).alloc (Nat.le_refl _) _
  have kn : k ≠ w.heap.size := by omega
  clear hW
  go_loopw [6, 7, 8] (fun i _ _ V => ∃ (j : Nat) (cur : Array Value), j ≤ 200 ∧ i = .int .i64 j ∧ rowAt V w.heap.size = some cur ∧ Hid (IsK .i32 cur 17 (g.itT (fun _ => 0) r n j)) ∧ Hid (∀ q, q < j → g.ovB n r q = false) ∧ Below w.heap.size w V) (fun i _ _ _ => 200 - (intOf i).toNat)
  case atStart => exact ⟨0, zeroW, by omega, rfl, q1, Lib.hid zeroW_is, Lib.hid (fun q hq => by omega), BW⟩
  case round =>
    clear q1 BW
    obtain ⟨j, cur, hj, rfl, q1, hI, hF, hB⟩ := hrel
    by_cases hlt : j < 200
    · have j0 : 0 ≤ (j : Int) := by omega
      have j1 : (j : Int) < 200 := by omega
      have CMj := l06Minute_1 k b w.heap.size br n c cur g (g.itT (fun _ => 0) r n j) r v (.slice a n cap) wr (HA.out.below hB (Nat.le_refl _)) q1 hI.out (HR.out.below hB (Nat.le_refl _)) hn17 (HT.out j) HRN.out kn HAR.out HAP.out HO.out hm
      have HIT := Lib.hid (show g.itT (fun _ => 0) r n (j + 1) = g.minT (g.itT (fun _ => 0) r n j) r n from rfl)
      have HOV := Lib.hid (show g.ovB n r j = decide (0 < g.minO (g.itT (fun _ => 0) r n j) r n) from rfl)
      have HB := Lib.hid hB
      clear hB
      generalize g.minS (g.itT (fun _ => 0) r n j) r n = s1 at *
      generalize g.minO (g.itT (fun _ => 0) r n j) r n = o1 at *
      by_cases hov : 0 < o1
      · have hd : decide (0 < o1) = true := by simpa using hov
        have E := Lib.hid (HH.out j hlt hF.out (HOV.out.trans hd))
        clear hov
        go_wp2_with fail
        refine CMj.mono ?_
        rintro e w5 ⟨rfl, _, _, hL5⟩
        have B5 := Lib.hid (HB.out.trans (hL5.2 w.heap.size (Nat.le_refl _) HB.out.size))
        clear CMj hL5 q1
        go_wp2_with fail
        go_ret
        exact ⟨by rw [E.out]; rfl, B5.out⟩
      · have hd : decide (0 < o1) = false := by simpa using hov
        have E := Lib.hid (HOV.out.trans hd)
        clear hov
        go_wp2_with fail
        refine CMj.mono ?_
        rintro e w5 ⟨rfl, ⟨cur2, r5, i5⟩, _, hL5⟩
        have B5 := Lib.hid (HB.out.trans (hL5.2 w.heap.size (Nat.le_refl _) HB.out.size))
        have I5 := Lib.hid i5
        have R5 := Lib.hid r5
        clear CMj hL5 q1 i5 r5
        go_wp2_with fail
        refine ⟨⟨j + 1, cur2, by omega, by go_num, R5.out, by rw [HIT.out]; exact I5, Lib.hid fun q hq => ?_, B5.out⟩, by simp [intOf]; omega⟩
        by_cases h : q < j
        · exact hF.out q h
        · obtain rfl : q = j := by omega
          exact E.out
    · obtain rfl : j = 200 := by omega
      have hj1 : ¬ ((200 : Nat) : Int) < 200 := by omega
      have E := Lib.hid (HM.out hF.out)
      have HB := Lib.hid hB
      clear hB
      go_wp2_with fail
      go_ret
      exact ⟨by rw [E.out]; rfl, HB.out⟩

set_option maxRecDepth 100000 in
set_option maxHeartbeats 4000000 in
theorem firstOver_any (n : Nat) (x : Array Value) (g : Gt) (r : Nat → Int) (w : World) (hS : IsShw w 0 x g n r) (hrn : g.Rn n r) (hok : g.Ok) :
    Calls Try.prog 56 #[.agg x] w fun e w' => e = .returned (.tuple #[.int .i64 (g.ovV n r), .bool (g.ovF n r)]) ∧ Below w.heap.size w w' := by
  have hnN : n ≤ g.n.toNat := by have := hrn.2; omega
  have HT := Lib.hid (Gt.itT_bd hok zero_bd hrn.1)
  have HH := Lib.hid (fun (j : Nat) (hj : j < 200) (hm : ∀ q, q < j → g.ovB n r q = false) (hd : g.ovB n r j = true) => show g.ovZ n r = j from firstI_hit hj hm hd)
  have HM := Lib.hid (fun (hm : ∀ q, q < 200 → g.ovB n r q = false) => show g.ovZ n r = -1 from firstI_miss hm)
  have CM := fun W (dd : Array Value) (tt : Nat → Int) (a : IsShw W 0 x g n r) (bb : IsK .i32 dd 17 tt) (c : ∀ i, i < 17 → 0 ≤ tt i ∧ tt i ≤ 1000) => minuteW_any 0 n x g r tt dd W a hnN hok bb c hrn.1
  have xs : x.size = 4 := by obtain ⟨vo, vf, vr, rfl, _⟩ := hS; rfl
  have xo := hS.ones
  have HAW := Lib.hid (show IsShwK w (w.heap.size + 1) x g n r from by
    obtain ⟨vo, vf, vr, e, l1, l2, l3⟩ := hS
    exact ⟨vo, vf, vr, e, ⟨l1, l1.away (by omega)⟩, ⟨l2, l2.away (by omega)⟩, ⟨l3, l3.away (by omega)⟩⟩)
  have hzo := zeroW_is.ones
  unfold zeroW at hzo
  clear hS hrn hok
  go_enter Try.func56, Try.ntmps56
  go_wp2_with fail
  refine gen_world fun W hW => ?_
  have q0 : rowAt W w.heap.size = some x := by rw [hW]; exact (rowAt_alloc_past _ _ _ (by simp)).trans (rowAt_alloc_at _ _ _ _ (by simp))
  have q1 : rowAt W (w.heap.size + 1) = some zeroW := by rw [hW]; exact rowAt_alloc_at _ _ _ _ (by simp)
  have BW : Below w.heap.size w W := by rw [hW]; exact ((Below.refl _ _).alloc (Nat.le_refl _) _).alloc (by simp) _
  have SW := Lib.hid (HAW.out.below BW)
  have k01 : w.heap.size ≠ w.heap.size + 1 := by omega
  have b1 : w.heap.size ≤ w.heap.size + 1 := by omega
  clear hW HAW
  generalize w.heap.size + 1 = K1 at *
  go_loopw [5, 6, 7, 8, 9] (fun _ _ _ _ i V => ∃ (j : Nat) (cur : Array Value), j ≤ 200 ∧ i = .int .i64 j ∧ rowAt V K1 = some cur ∧ Hid (IsK .i32 cur 17 (g.itT (fun _ => 0) r n j)) ∧ rowAt V w.heap.size = some x ∧ Hid (IsShwK V K1 x g n r) ∧ Hid (∀ q, q < j → g.ovB n r q = false) ∧ Below w.heap.size w V) (fun _ _ _ _ i _ => 200 - (intOf i).toNat)
  case atStart => exact ⟨0, zeroW, by omega, rfl, q1, Lib.hid zeroW_is, q0, SW, Lib.hid (fun q hq => by omega), BW⟩
  case round =>
    clear q0 q1 SW BW
    obtain ⟨j, cur, hj, rfl, q1, hI, q0, hS, hF, hB⟩ := hrel
    by_cases hlt : j < 200
    · have j0 : 0 ≤ (j : Int) := by omega
      have j1 : (j : Int) < 200 := by omega
      have hcs := hI.out.size
      have hcu := hI.out.ones
      have CMj := CM wr cur _ hS.out.shw hI.out (HT.out j)
      have HIT := Lib.hid (show g.itT (fun _ => 0) r n (j + 1) = g.minT (g.itT (fun _ => 0) r n j) r n from rfl)
      have HOV := Lib.hid (show g.ovB n r j = decide (0 < g.minO (g.itT (fun _ => 0) r n j) r n) from rfl)
      have HB := Lib.hid hB
      clear hB
      generalize g.minS (g.itT (fun _ => 0) r n j) r n = s1 at *
      generalize g.minO (g.itT (fun _ => 0) r n j) r n = o1 at *
      by_cases hov : 0 < o1
      · have hd : decide (0 < o1) = true := by simpa using hov
        have E := Lib.hid (HH.out j hlt hF.out (HOV.out.trans hd))
        clear hov
        go_wp2_with fail
        refine CMj.mono ?_
        rintro e w5 ⟨cur2, rfl, i2, b5⟩
        have B5 := Lib.hid (bnext HB.out b5 HB.out.size)
        have c2s := i2.size
        have c2o := i2.ones
        clear CMj b5 i2
        go_wp2_with fail
        go_ret2
        refine ⟨?_, B5.out.alloc B5.out.size _⟩
        rw [(Gt.ov_t E.out).1, (Gt.ov_t E.out).2]
        rfl
      · have hd : decide (0 < o1) = false := by simpa using hov
        have E := Lib.hid (HOV.out.trans hd)
        clear hov
        go_wp2_with fail
        refine CMj.mono ?_
        rintro e w5 ⟨cur2, rfl, i2, b5⟩
        have r0 := brow b5 q0
        have r1 := brow b5 q1
        have S5 := Lib.hid (hS.out.below b5)
        have B5 := Lib.hid (bnext HB.out b5 HB.out.size)
        have c2s := i2.size
        have c2o := i2.ones
        have I2 := Lib.hid i2
        have l0 := rowAt_lt r0
        have l1 := rowAt_lt r1
        have n0 := Nat.ne_of_lt l0
        have n1 := Nat.ne_of_lt l1
        have R0 := Lib.hid r0
        clear CMj b5 q0 q1 i2 r0
        go_wp2_with fail
        refine ⟨⟨j + 1, cur2, by omega, by go_num, (rowAt_alloc_past _ _ _ (by simpa using l1)).trans (rowAt_setRow_at _ _ _ (by rw [r1]; rfl)), by rw [HIT.out]; exact I2, (rowAt_alloc_past _ _ _ (by simpa using l0)).trans ((rowAt_setRow_ne _ _ _ _ k01).trans R0.out), Lib.hid ((S5.out.setRow _).below ((Below.refl _ _).alloc (Nat.le_refl _) _)), Lib.hid fun q hq => ?_, (below_setRow B5.out b1 _).alloc (by simpa using B5.out.size) _⟩, by simp [intOf]; omega⟩
        by_cases h : q < j
        · exact hF.out q h
        · obtain rfl : q = j := by omega
          exact E.out
    · obtain rfl : j = 200 := by omega
      have hj1 : ¬ ((200 : Nat) : Int) < 200 := by omega
      have E := Lib.hid (HM.out hF.out)
      have HB := Lib.hid hB
      clear hB
      go_wp2_with fail
      go_ret2
      refine ⟨?_, HB.out⟩
      rw [(Gt.ov_f E.out).1, (Gt.ov_f E.out).2]
      rfl

/-- FirstOver's two numbers. -/
noncomputable def Gt.foC (g : Gt) (n : Nat) (r : Nat → Int) : Int := if g.ask (g.rnB n r) = 0 then (if 0 ≤ g.ovZ n r then 0 else 6) else g.ask (g.rnB n r)
noncomputable def Gt.foV (g : Gt) (n : Nat) (r : Nat → Int) : Int := if g.ask (g.rnB n r) = 0 then g.ovV n r else 0
theorem Gt.fo_a {g : Gt} {n : Nat} {r : Nat → Int} (h : g.ask (g.rnB n r) ≠ 0) : g.foV n r = 0 ∧ g.foC n r = g.ask (g.rnB n r) := ⟨if_neg h, if_neg h⟩
theorem Gt.fo_b {g : Gt} {n : Nat} {r : Nat → Int} (h : g.ask (g.rnB n r) = 0) (k : 0 ≤ g.ovZ n r) : g.foV n r = g.ovZ n r ∧ g.foC n r = 0 := by
  unfold Gt.foV Gt.foC Gt.ovV
  rw [if_pos h, if_pos h, if_pos k, if_pos k]; exact ⟨rfl, rfl⟩
theorem Gt.fo_c {g : Gt} {n : Nat} {r : Nat → Int} (h : g.ask (g.rnB n r) = 0) (k : ¬ 0 ≤ g.ovZ n r) : g.foV n r = 0 ∧ g.foC n r = 6 := by
  unfold Gt.foV Gt.foC Gt.ovV
  rw [if_pos h, if_pos h, if_neg k, if_neg k]; exact ⟨rfl, rfl⟩
theorem Gt.ask_of {g : Gt} {f : Bool} (h : g.ask f = 0) : g.Ok ∧ f = true := by
  unfold Gt.ask at h
  cases h1 : g.ok with
  | false => rw [h1] at h; simp at h
  | true =>
    cases f with
    | false => rw [h1] at h; simp at h
    | true => exact ⟨Gt.Ok_of h1, rfl⟩
theorem Gt.rnC_none {g : Gt} {n : Nat} {r f : Nat → Int} : g.rnC n r 0 f = g.ask (g.rnB n r) := by
  unfold Gt.rnC
  rw [show anyI (outs f) 0 = false from anyI_f.2 (by omega)]
  simp

set_option maxRecDepth 100000 in
set_option maxHeartbeats 4000000 in
theorem specFirstOver_any (b br n : Nat) (c : Array Value) (g : Gt) (v u : Value) (r : Nat → Int) (w : World) (hG : IsGut c g v) (hv : IsList w b v 2 g.m (pipeV g.p)) (hm : g.m ≤ 2000000) (hr : IsList w br u 1 n (fun i => .int .i64 (r i))) (hn : n ≤ 2000000) :
    Calls Try.prog 23 #[.agg c, u] w fun e w' => e = .returned (.tuple #[.int .i64 (g.foV n r), .int .i64 (g.foC n r)]) ∧ Below w.heap.size w w' := by
  have hA := Lib.hid (gutAt_box hG hv)
  have hB0 : Below w.heap.size w (w.alloc (.cells c 37)) := (Below.refl _ _).alloc (Nat.le_refl _) _
  have HR := Lib.hid (hr.below hB0 (Nat.le_refl _))
  have CR := fun W a h => l06Rain_any w.heap.size b br n c g v u r W a h hn
  have CA := fun W a => l06Asked_any w.heap.size b c g v (g.rnB n r) W a hm
  obtain ⟨a, cap, rfl⟩ := hr.shape
  have HQ := Lib.hid (fun (h : g.ask (g.rnB n r) = 0) => Gt.ask_of h)
  have HFA := Lib.hid (fun (h : g.ask (g.rnB n r) ≠ 0) => Gt.fo_a h)
  have HFB := Lib.hid (fun (h : g.ask (g.rnB n r) = 0) k => Gt.fo_b h k)
  have HFC := Lib.hid (fun (h : g.ask (g.rnB n r) = 0) k => Gt.fo_c h k)
  have CO := fun W x h (hq : g.rnB n r = true) hok => l06Over_any w.heap.size b br n c g r v (.slice a n cap) W x h (Gt.rnB_of hq) hok hm
  clear hG hv hr
  generalize g.rnB n r = fine at *
  generalize hcode : g.ask fine = code at *
  replace hcode := Lib.hid hcode
  by_cases hz : code = 0
  · subst hz
    obtain ⟨hok, hfi⟩ := HQ.out rfl
    have CP := fun W a h => CO W a h hfi hok
    have HGZ := Lib.hid (HFB.out rfl)
    have HGN := Lib.hid (HFC.out rfl)
    clear HQ HFA HFB HFC hok CO
    generalize g.ovZ n r = z at *
    subst hfi
    by_cases hzz : 0 ≤ z
    · obtain ⟨e1, e2⟩ := HGZ.out hzz
      have E1 := Lib.hid e1
      have E2 := Lib.hid e2
      have hd : decide (z < 0) = false := by simp; omega
      clear e1 e2 HGZ HGN hcode
      go_enter Try.func23, Try.ntmps23
      go_wp2_with fail
      refine (CR _ hA.out HR.out).mono ?_
      rintro e w1 ⟨rfl, b1⟩
      have B1 := bnext hB0 b1 hB0.size
      have A1 := Lib.hid (hA.out.below b1 (Nat.le_refl _))
      have R1 := Lib.hid (HR.out.below b1 (Nat.le_refl _))
      clear b1 CR hA HR
      go_wp2_with fail
      refine (CA _ A1.out).mono ?_
      rintro e w2 ⟨rfl, b2⟩
      have B2 := bnext B1 b2 B1.size
      have A2 := Lib.hid (A1.out.below b2 (Nat.le_refl _))
      have R2 := Lib.hid (R1.out.below b2 (Nat.le_refl _))
      clear b2 CA A1 R1 B1
      go_wp2_with fail
      refine (CP _ A2.out R2.out).mono ?_
      rintro e w3 ⟨rfl, b3⟩
      have B3 := bnext B2 b3 B2.size
      clear b3 CP A2 R2 B2
      go_wp2_with fail
      go_ret2
      exact ⟨by rw [E1.out, E2.out]; rfl, B3⟩
    · obtain ⟨e1, e2⟩ := HGN.out hzz
      have E1 := Lib.hid e1
      have E2 := Lib.hid e2
      have hd : decide (z < 0) = true := by simp; omega
      clear e1 e2 HGZ HGN hcode hzz
      go_enter Try.func23, Try.ntmps23
      go_wp2_with fail
      refine (CR _ hA.out HR.out).mono ?_
      rintro e w1 ⟨rfl, b1⟩
      have B1 := bnext hB0 b1 hB0.size
      have A1 := Lib.hid (hA.out.below b1 (Nat.le_refl _))
      have R1 := Lib.hid (HR.out.below b1 (Nat.le_refl _))
      clear b1 CR hA HR
      go_wp2_with fail
      refine (CA _ A1.out).mono ?_
      rintro e w2 ⟨rfl, b2⟩
      have B2 := bnext B1 b2 B1.size
      have A2 := Lib.hid (A1.out.below b2 (Nat.le_refl _))
      have R2 := Lib.hid (R1.out.below b2 (Nat.le_refl _))
      clear b2 CA A1 R1 B1
      go_wp2_with fail
      refine (CP _ A2.out R2.out).mono ?_
      rintro e w3 ⟨rfl, b3⟩
      have B3 := bnext B2 b3 B2.size
      clear b3 CP A2 R2 B2
      go_wp2_with fail
      go_ret2
      exact ⟨by rw [E1.out, E2.out]; rfl, B3⟩
  · obtain ⟨e1, e2⟩ := HFA.out hz
    have E1 := Lib.hid e1
    have E2 := Lib.hid e2
    have hcb : (code != 0) = true := by simpa using hz
    clear HQ HFA HFB HFC CO e1 e2 hz
    go_enter Try.func23, Try.ntmps23
    go_wp2_with fail
    refine (CR _ hA.out HR.out).mono ?_
    rintro e w1 ⟨rfl, b1⟩
    have B1 := bnext hB0 b1 hB0.size
    have A1 := Lib.hid (hA.out.below b1 (Nat.le_refl _))
    clear b1 CR hA HR
    go_wp2_with fail
    refine (CA _ A1.out).mono ?_
    rintro e w2 ⟨rfl, b2⟩
    have B2 := bnext B1 b2 B1.size
    clear b2 CA A1 B1
    go_wp2_with fail
    go_ret2
    exact ⟨by rw [E1.out, E2.out]; rfl, B2⟩

set_option maxRecDepth 100000 in
set_option maxHeartbeats 4000000 in
theorem implFirstOver_any (b br n : Nat) (c : Array Value) (g : Gt) (v u : Value) (r : Nat → Int) (w : World) (hG : IsGut c g v) (hv : IsList w b v 2 g.m (pipeV g.p)) (hm : g.m ≤ 2000000) (hr : IsList w br u 1 n (fun i => .int .i64 (r i))) (hn : n ≤ 2000000) :
    Calls Try.prog 24 #[.agg c, u] w fun e w' => e = .returned (.tuple #[.int .i64 (g.foV n r), .int .i64 (g.foC n r)]) ∧ Below w.heap.size w w' := by
  have hB0 : Below w.heap.size w (w.alloc (.cells c 37)) := (Below.refl _ _).alloc (Nat.le_refl _) _
  have rA : rowAt (w.alloc (.cells c 37)) w.heap.size = some c := rowAt_alloc_at _ _ _ _ rfl
  have HV := Lib.hid (hv.below hB0 (Nat.le_refl _))
  have HR := Lib.hid (hr.below hB0 (Nat.le_refl _))
  have hc := hG.size
  have hco := hG.ones
  have CC := fun W h1 h2 => checkRain_any b br 0 n 0 c g v u (.slice none 0 0) r (fun _ => 0) W hG h1 hm h2 hn (.inl ⟨rfl, _, _, rfl⟩) (by omega)
  rw [Gt.rnC_none] at CC
  obtain ⟨a, cap, rfl⟩ := hr.shape
  have CS := fun W (x : IsList W b v 2 g.m (pipeV g.p)) (z : IsList W br (.slice a n cap) 1 n (fun i => .int .i64 (r i))) (hok : g.Ok) => shower_any 0 n c g v (.slice a n cap) r W hG (x.mono (Nat.zero_le _)) hok (z.mono (Nat.zero_le _))
  have HQ := Lib.hid (fun (h : g.ask (g.rnB n r) = 0) => Gt.ask_of h)
  have HFA := Lib.hid (fun (h : g.ask (g.rnB n r) ≠ 0) => Gt.fo_a h)
  have HFB := Lib.hid (fun (h : g.ask (g.rnB n r) = 0) k => Gt.fo_b h k)
  have HFC := Lib.hid (fun (h : g.ask (g.rnB n r) = 0) k => Gt.fo_c h k)
  have CO := fun W x (hS : IsShw W 0 x g n r) (hq : g.rnB n r = true) hok => firstOver_any n x g r W hS (Gt.rnB_of hq) hok
  clear hG hv hr
  generalize g.rnB n r = fine at *
  generalize hcode : g.ask fine = code at *
  replace hcode := Lib.hid hcode
  by_cases hz : code = 0
  · subst hz
    obtain ⟨hok, hfi⟩ := HQ.out rfl
    have CO := fun W x hS => CO W x hS hfi hok
    have CS := fun W x z => CS W x z hok
    have HGZ := Lib.hid (HFB.out rfl)
    have HGN := Lib.hid (HFC.out rfl)
    clear HQ HFA HFB HFC hok
    unfold Gt.ovV Gt.ovF at CO
    generalize g.ovZ n r = z at *
    by_cases hzz : 0 ≤ z
    · obtain ⟨e1, e2⟩ := HGZ.out hzz
      have E1 := Lib.hid e1
      have E2 := Lib.hid e2
      rw [if_pos hzz, decide_eq_true hzz] at CO
      clear e1 e2 HGZ HGN hcode hfi
      go_enter Try.func24, Try.ntmps24
      go_wp2_with fail
      refine (CC _ HV.out HR.out).mono ?_
      rintro e w1 ⟨rfl, b1⟩
      have B1 := bnext hB0 b1 hB0.size
      have r1 := brow b1 rA
      have V1 := Lib.hid (HV.out.below b1 (Nat.le_refl _))
      have R1 := Lib.hid (HR.out.below b1 (Nat.le_refl _))
      have l1 := rowAt_lt r1
      clear b1 CC HV HR rA
      go_wp2_with fail
      refine (CS _ V1.out R1.out).mono ?_
      rintro e w2 ⟨x, rfl, hS, _, b2⟩
      have B2 := bnext B1 b2 B1.size
      clear b2 CS V1 R1 B1 r1 l1
      go_wp2_with fail
      refine (CO _ _ hS).mono ?_
      rintro e w3 ⟨rfl, b3⟩
      have B3 := bnext B2 b3 B2.size
      clear b3 CO B2 hS
      go_wp2_with fail
      go_ret2
      exact ⟨by rw [E1.out, E2.out]; rfl, B3⟩
    · obtain ⟨e1, e2⟩ := HGN.out hzz
      have E1 := Lib.hid e1
      have E2 := Lib.hid e2
      rw [if_neg hzz, decide_eq_false hzz] at CO
      clear e1 e2 HGZ HGN hcode hfi hzz
      go_enter Try.func24, Try.ntmps24
      go_wp2_with fail
      refine (CC _ HV.out HR.out).mono ?_
      rintro e w1 ⟨rfl, b1⟩
      have B1 := bnext hB0 b1 hB0.size
      have r1 := brow b1 rA
      have V1 := Lib.hid (HV.out.below b1 (Nat.le_refl _))
      have R1 := Lib.hid (HR.out.below b1 (Nat.le_refl _))
      have l1 := rowAt_lt r1
      clear b1 CC HV HR rA
      go_wp2_with fail
      refine (CS _ V1.out R1.out).mono ?_
      rintro e w2 ⟨x, rfl, hS, _, b2⟩
      have B2 := bnext B1 b2 B1.size
      clear b2 CS V1 R1 B1 r1 l1
      go_wp2_with fail
      refine (CO _ _ hS).mono ?_
      rintro e w3 ⟨rfl, b3⟩
      have B3 := bnext B2 b3 B2.size
      clear b3 CO B2 hS
      go_wp2_with fail
      go_ret2
      exact ⟨by rw [E1.out, E2.out]; rfl, B3⟩
  · obtain ⟨e1, e2⟩ := HFA.out hz
    have E1 := Lib.hid e1
    have E2 := Lib.hid e2
    have hcb : (code != 0) = true := by simpa using hz
    clear HQ HFA HFB HFC CO CS e1 e2 hz
    go_enter Try.func24, Try.ntmps24
    go_wp2_with fail
    refine (CC _ HV.out HR.out).mono ?_
    rintro e w1 ⟨rfl, b1⟩
    have B1 := bnext hB0 b1 hB0.size
    clear b1 CC HV HR
    go_wp2_with fail
    go_ret2
    exact ⟨by rw [E1.out, E2.out]; rfl, B1⟩
end Go.Proofs.Ytfdoehakpeddnaa

/- LeastTakes: mathematics: where a pipe takes more, no more runs over. -/
namespace Go.Proofs.Ytfdoehakpeddnaa
open Go.RowKit

/-- The gutter in which pipe q takes x. -/
def Gt.tk (g : Gt) (q : Nat) (x : Int) : Gt := { g with p := fun i => if i = q * 2 + 1 then x else g.p i }
theorem Gt.tk_at {g : Gt} {q : Nat} {x : Int} (k : Nat) : (g.tk q x).p (k * 2) = g.p (k * 2) := if_neg (by omega)
theorem Gt.tk_pipe {g : Gt} {q : Nat} {x : Int} (j : Nat) : (g.tk q x).pipe j = g.pipe j := by
  cases h : g.pipe j with
  | true =>
    simp only [Gt.pipe, decide_eq_true_eq] at h
    obtain ⟨k, h1, h2⟩ := h
    exact Gt.pipe_t ⟨k, h1, by rw [Gt.tk_at]; exact h2⟩
  | false =>
    simp only [Gt.pipe, decide_eq_false_iff_not] at h
    exact Gt.pipe_f fun k h1 h2 => h ⟨k, h1, by rw [Gt.tk_at] at h2; exact h2⟩
theorem Gt.tk_to {g : Gt} {q : Nat} {x : Int} (j : Nat) : (g.tk q x).to j = g.to j := by
  unfold Gt.to
  rw [Gt.tk_pipe]
  rfl
theorem Gt.tk_nx {g : Gt} {q : Nat} {x : Int} (j : Nat) : (g.tk q x).nx j = g.nx j := by
  unfold Gt.nx
  rw [Gt.tk_to]
theorem Gt.tk_nT {g : Gt} {q : Nat} {x : Int} {t : Nat → Int} : ∀ k, (g.tk q x).nT t k = g.nT t k
  | 0 => rfl
  | k + 1 => by
    show upd ((g.tk q x).nT t k) ((g.tk q x).nx k) ((g.tk q x).nT t k ((g.tk q x).nx k) + t k) = upd (g.nT t k) (g.nx k) (g.nT t k (g.nx k) + t k)
    rw [Gt.tk_nT k, Gt.tk_nx]
theorem Gt.tk_ok {g : Gt} (h : g.Ok) {q : Nat} {x : Int} (hx : 0 ≤ x ∧ x ≤ 1000) : (g.tk q x).Ok := by
  refine ⟨h.n1, h.n17, h.d0, h.d1, h.lv, h.m4, h.hs, fun i hi => ?_⟩
  have a := h.ps i hi
  unfold Gt.pOk at a ⊢
  rw [Gt.tk_at, Gt.tk_at]
  refine ⟨a.1, a.2.1, ?_, ?_, a.2.2.2.2⟩
  · show 0 ≤ (if i * 2 + 1 = q * 2 + 1 then x else g.p (i * 2 + 1))
    split
    · exact hx.1
    · exact a.2.2.1
  · show (if i * 2 + 1 = q * 2 + 1 then x else g.p (i * 2 + 1)) ≤ 1000
    split
    · exact hx.2
    · exact a.2.2.2.1
theorem rnT_mono {t t' r : Nat → Int} {n : Nat} (h : ∀ i, t i ≤ t' i) (i : Nat) : rnT t r n i ≤ rnT t' r n i := by
  have := h i
  unfold rnT
  split <;> omega
theorem pT_mono {p p' t t' : Nat → Int} (h : ∀ i, t i ≤ t' i) : ∀ k : Nat, (∀ q, q < k → p (q * 2) = p' (q * 2) ∧ p' (q * 2 + 1) ≤ p (q * 2 + 1)) → ∀ i, pT p t k i ≤ pT p' t' k i
  | 0, _, i => h i
  | k + 1, hq, i => by
    have a := pT_mono h k (fun q hk => hq q (by omega)) i
    obtain ⟨b, c⟩ := hq k (by omega)
    unfold pT minC
    rw [← b]
    split
    · split <;> split <;> omega
    · exact a
theorem Gt.nT_mono {g : Gt} {t t' : Nat → Int} (h : ∀ i, t i ≤ t' i) : ∀ k i, g.nT t k i ≤ g.nT t' k i
  | 0, _ => Int.le_refl _
  | k + 1, i => by
    have a := Gt.nT_mono (g := g) h k
    have b := h k
    unfold Gt.nT upd
    split
    · have := a (g.nx k); omega
    · exact a i
theorem oT_mono {dp : Int} {t t' : Nat → Int} (h : ∀ i, t i ≤ t' i) (k i : Nat) : oT dp t k i ≤ oT dp t' k i := by
  have := h i
  unfold oT
  split
  · split <;> split <;> omega
  · exact this
theorem oS_mono {dp : Int} {t t' : Nat → Int} (h : ∀ i, t i ≤ t' i) : ∀ k, oS dp t k ≤ oS dp t' k
  | 0 => Int.le_refl _
  | k + 1 => by
    have a := oS_mono (dp := dp) h k
    have b := h k
    unfold oS
    split <;> split <;> omega
theorem Gt.tk_minN {g : Gt} {q n : Nat} {x x' : Int} {t t' r : Nat → Int} (hx : x ≤ x') (h : ∀ i, t' i ≤ t i) (i : Nat) : (g.tk q x').minN t' r n i ≤ (g.tk q x).minN t r n i := by
  unfold Gt.minN
  rw [Gt.tk_nT, Gt.tk_nT]
  refine Gt.nT_mono (fun i => ?_) _ i
  refine pT_mono (rnT_mono h) g.m (fun k _ => ⟨by rw [Gt.tk_at, Gt.tk_at], ?_⟩) i
  show (if k * 2 + 1 = q * 2 + 1 then x else g.p (k * 2 + 1)) ≤ (if k * 2 + 1 = q * 2 + 1 then x' else g.p (k * 2 + 1))
  split
  · exact hx
  · exact Int.le_refl _
theorem Gt.tk_it {g : Gt} {q n : Nat} {x x' : Int} {r : Nat → Int} (hx : x ≤ x') : ∀ j i, (g.tk q x').itT (fun _ => 0) r n j i ≤ (g.tk q x).itT (fun _ => 0) r n j i
  | 0, _ => Int.le_refl _
  | j + 1, i => oT_mono (fun i => Gt.tk_minN hx (Gt.tk_it hx j) i) _ i
theorem Gt.tk_none {g : Gt} {q n : Nat} {x x' : Int} {r : Nat → Int} (hx : x ≤ x') (h : (g.tk q x).ovZ n r = -1) : (g.tk q x').ovZ n r = -1 := by
  refine firstI_miss fun j hj => ?_
  have a := firstI_of h j hj
  unfold Gt.ovB at a ⊢
  have b : (g.tk q x').minO ((g.tk q x').itT (fun _ => 0) r n j) r n ≤ (g.tk q x).minO ((g.tk q x).itT (fun _ => 0) r n j) r n := oS_mono (fun i => Gt.tk_minN hx (Gt.tk_it hx j) i) _
  have c := of_decide_eq_false a
  exact decide_eq_false (by omega)
/-- Nothing runs over where pipe q takes x. -/
noncomputable def Gt.okT (g : Gt) (q n : Nat) (r : Nat → Int) (x : Nat) : Bool := decide ((g.tk q x).ovZ n r = -1)
theorem Gt.okT_up {g : Gt} {q n : Nat} {r : Nat → Int} {x y : Nat} (h : g.okT q n r x = true) (hy : x ≤ y) : g.okT q n r y = true := decide_eq_true (Gt.tk_none (by omega) (of_decide_eq_true h))
/-- The least number that is enough, -1 if none is. -/
noncomputable def Gt.ltZ (g : Gt) (q n : Nat) (r : Nat → Int) : Int := firstI (g.okT q n r) 1001
end Go.Proofs.Ytfdoehakpeddnaa

/- The gutter in which a pipe takes another number: the program's takingAt. -/
namespace Go.Proofs.Ytfdoehakpeddnaa
open Go.RowKit

theorem IsGut.tk {c : Array Value} {g : Gt} {v : Value} (h : IsGut c g v) {q : Nat} {x : Int} (hx : 0 ≤ x ∧ x ≤ 1000) : IsGut c (g.tk q x) v :=
  ⟨h.size, h.cells, h.deep, h.heights, h.leaves, h.pipes, h.n0, h.n1, h.d0, h.d1, h.h0, h.h1, h.l0, h.l1, fun i hi => by
    have a := h.p0 i hi
    refine ⟨by rw [Gt.tk_at]; exact a.1, ?_⟩
    show -32768 ≤ (if i * 2 + 1 = q * 2 + 1 then x else g.p (i * 2 + 1)) ∧ (if i * 2 + 1 = q * 2 + 1 then x else g.p (i * 2 + 1)) ≤ 32767
    split
    · omega
    · exact a.2, h.vs⟩
/-- The list in which one number has been replaced. -/
theorem tk_cells {cur : Array Value} {g : Gt} {q : Nat} {x : Int} (hs : g.m * 2 ≤ cur.size) (hf : ∀ i, i < g.m * 2 → cur[i]? = some (pipeV g.p i)) (hq : q < g.m) : ∀ i, i < g.m * 2 → (cur.setIfInBounds (q * 2 + 1) (.int .i16 x))[i]? = some (pipeV (g.tk q x).p i) := by
  intro i hi
  by_cases h : i = q * 2 + 1
  · subst h
    rw [Array.getElem?_setIfInBounds_self_of_lt (by omega), pipeV_1]
    show _ = some (Value.int .i16 (if q * 2 + 1 = q * 2 + 1 then x else _))
    rw [if_pos rfl]
  · rw [Array.getElem?_setIfInBounds_ne (Ne.symm h), hf i hi]
    unfold pipeV
    have e : (g.tk q x).p i = g.p i := if_neg h
    rw [e]
set_option maxRecDepth 100000 in
set_option maxHeartbeats 4000000 in
theorem takingAt_any (b : Nat) (c : Array Value) (g : Gt) (v : Value) (q : Nat) (x : Int) (w : World) (hG : IsGut c g v) (hv : IsList w b v 2 g.m (pipeV g.p)) (hq : q < g.m) (hm : g.m ≤ 2000000) :
    Calls Try.prog 67 #[.agg c, .int .i64 q, .int .i16 x] w fun e w' => ∃ a cap, e = .returned (.agg (setP c (.slice a g.m cap))) ∧ IsList w' w.heap.size (.slice a g.m cap) 2 g.m (pipeV (g.tk q x).p) ∧ Below w.heap.size w w' := by
  have HG := Lib.hid hG
  have hc := hG.size
  have ho := hG.ones
  have q0' : 0 ≤ (q : Int) := by omega
  have q1' : (q : Int) < g.m := by omega
  have k20 := hG.pipes
  obtain ⟨a0, cap0, rfl⟩ := hv.shape
  have HV := Lib.hid hv
  clear hG hv
  go_enter Try.func67, Try.ntmps67
  go_wp2_with fail
  refine gen_callsW fun W hW => ?_
  have q0 : rowAt W w.heap.size = some c := by rw [hW]; exact (rowAt_alloc_past _ _ _ (by simp)).trans (rowAt_alloc_at _ _ _ _ rfl)
  obtain ⟨z, q1, hz⟩ : ∃ z : Array Value, rowAt W (w.heap.size + 1) = some z ∧ z.size = 21 := by rw [hW]; exact ⟨_, rowAt_alloc_at _ _ _ _ (by simp), by simp⟩
  have B0 : Below w.heap.size w W := by rw [hW]; exact ((Below.refl _ _).alloc (Nat.le_refl _) _).alloc (by simp) _
  clear hW
  refine (clonePp_any b g.m _ g.p W (HV.out.below B0 (Nat.le_refl _)) hm).mono ?_
  rintro e w2 ⟨a2, cap2, rfl, l2, b2⟩
  have s0 := brow b2 q0
  have s1 := brow b2 q1
  have SB := Lib.hid (bnext B0 b2 B0.size)
  have lw := rowAt_lt q1
  obtain ⟨gb, cur, rfl, hg, hr, hs, hf⟩ : ∃ gb cur, a2 = some ⟨gb, 0, none⟩ ∧ W.heap.size ≤ gb ∧ rowAt w2 gb = some cur ∧ g.m * 2 ≤ cur.size ∧ ∀ i, i < g.m * 2 → cur[i]? = some (pipeV g.p i) := by
    rcases l2 with ⟨h, _⟩ | ⟨gb, cc, cur, e, hg, hr, hs, hf⟩
    · omega
    · cases e
      exact ⟨gb, cur, rfl, hg, hr, hs, hf⟩
  have x20 : w2.cell? ⟨w.heap.size, 20, none⟩ = some (c[20]'(by omega)) := by rw [cell_of_rowAt s0, Array.getElem?_eq_getElem]
  have f0 := frozen_of_rowAt s0
  have f1 := frozen_of_rowAt hr
  have lt0 := rowAt_lt s0
  have lt1 := rowAt_lt s1
  have ltg := rowAt_lt hr
  have xg : w2.cell? ⟨gb, q * 2 + 1, none⟩ = some (.int .i16 (g.p (q * 2 + 1))) := by rw [cell_of_rowAt hr, hf _ (by omega), pipeV_1]
  have n0 : w.heap.size ≠ gb := by omega
  have n1 : w.heap.size + 1 ≠ gb := by omega
  have n01 : w.heap.size ≠ w.heap.size + 1 := by omega
  have hso : Ones (c.setIfInBounds 20 (.slice (some ⟨gb, 0, none⟩) g.m cap2)) := (HG.out.setP' _ cap2).ones
  have hss : (c.setIfInBounds 20 (.slice (some ⟨gb, 0, none⟩) g.m cap2)).size = 21 := by simpa using hc
  have HR := Lib.hid hr
  have HF := Lib.hid (tk_cells (x := x) hs hf hq)
  have S0 := Lib.hid s0
  have S1 := Lib.hid s1
  clear b2 q0 q1 B0 l2 hr hf
  go_wp2_with fail
  have RG : rowAt (w2.setCell ⟨w.heap.size, 20, none⟩ (.slice (some ⟨gb, 0, none⟩) g.m cap2)) gb = some cur := (rowAt_setCell_ne _ _ _ _ _ (Ne.symm n0)).trans HR.out
  have RG2 := rowAt_setCell_at _ gb (q * 2 + 1) (.int .i16 x) (congrArg Option.isSome RG)
  rw [RG, Option.getD_some] at RG2
  refine bodyPost_ret (v := .agg (setP c (.slice (some ⟨gb, 0, none⟩) g.m cap2))) (results_row1 rfl _ _ (w.heap.size + 1) _ rfl (rowAt_setRow_at _ _ _ (by rw [rowAt_setCell_ne _ _ _ _ _ n1, rowAt_setCell_ne _ _ _ _ _ (Ne.symm n01), S1.out]; rfl)) Try.underlying37 rfl (by kernel_rfl) hss) rfl ⟨_, cap2, rfl, ?_, below_setRow ((SB.out.setCell (p := ⟨w.heap.size, 20, none⟩) (Nat.le_refl _) _).setCell (p := ⟨gb, q * 2 + 1, none⟩) (by simp; omega) _) (by omega) _⟩
  exact .inr ⟨gb, cap2, _, rfl, by omega, (rowAt_setRow_ne _ _ _ _ (Ne.symm n1)).trans RG2, by simpa using hs, HF.out⟩
end Go.Proofs.Ytfdoehakpeddnaa

/- sort.Search over a monotonic test; LeastTakes' closure. -/
namespace Go.Proofs.Ytfdoehakpeddnaa
open Go.RowKit

/-- What sort.Search gives. -/
def schZ (P : Nat → Bool) (n : Nat) : Int := if 0 ≤ firstI P n then firstI P n else n
set_option maxRecDepth 100000 in
set_option maxHeartbeats 2000000 in
theorem search_any (fid : FuncId) (cb : Array Value) (P : Nat → Bool) (n : Nat) (w : World) (eg : ∀ args w, (callFunc fid args).run Try.prog w = .ok (.enter fid args) w) (hn : n ≤ 2000000) (hm : ∀ x y, P x = true → x ≤ y → P y = true)
    (hC : ∀ (x : Nat) (W : World), x < n → Below w.heap.size w W → Calls Try.prog fid (#[.int .i64 x] ++ cb) W fun e w' => e = .returned (.bool (P x)) ∧ Below W.heap.size W w') :
    Calls Try.prog 65 #[.int .i64 n, .func (.func fid) #[] cb] w fun e w' => e = .returned (.int .i64 (schZ P n)) ∧ Below w.heap.size w w' := by
  have HC := Lib.hid hC
  have HM := Lib.hid hm
  clear hC hm
  go_enter Try.func65, Try.ntmps65
  go_wp2_with fail
  go_loopw [5, 6, 7] (fun iv jv _ W => ∃ i j : Nat, i ≤ j ∧ j ≤ n ∧ iv = .int .i64 i ∧ jv = .int .i64 j ∧ Hid (∀ k, k < i → P k = false) ∧ Hid (j < n → P j = true) ∧ Below w.heap.size w W) (fun iv jv _ _ => (intOf jv).toNat - (intOf iv).toNat)
  case atStart => exact ⟨0, n, by omega, by omega, rfl, rfl, Lib.hid (by omega), Lib.hid (by omega), Below.refl _ _⟩
  case round =>
    obtain ⟨i, j, hij, hjn, rfl, rfl, hF, hT, hB⟩ := hrel
    have HB := Lib.hid hB
    clear hB
    by_cases hlt : i < j
    · have l0 : (i : Int) < j := by omega
      obtain ⟨h, hh⟩ : ∃ h : Nat, h = (i + j) / 2 := ⟨_, rfl⟩
      have h1 : i ≤ h := by omega
      have h2 : h < j := by omega
      have w0 : IntKind.i64.wrap ((i : Int) + j) = (i : Int) + j := by rw [IntKind.wrap_i64]; omega
      have w1 : IntKind.u64.wrap ((i : Int) + j) = (i : Int) + j := IntWalk.u64_in _ (by omega)
      have w2 : ((i : Int) + j) / 2 = (h : Int) := by omega
      have w3 : IntKind.i64.wrap (h : Int) = (h : Int) := by rw [IntKind.wrap_i64]; omega
      have w4 : IntKind.i64.wrap ((h : Int) + 1) = (h : Int) + 1 := by rw [IntKind.wrap_i64]; omega
      have CH := HC.out h wr (by omega) HB.out
      have HHH := Lib.hid hh
      clear hh
      cases hp : P h with
      | true =>
        rw [hp] at CH
        have HP := Lib.hid hp
        clear hp
        go_wp2_with fail
        refine CH.mono ?_
        rintro e w9 ⟨rfl, b9⟩
        have B9 := Lib.hid (bnext HB.out b9 HB.out.size)
        clear b9 CH
        go_wp2_with fail
        refine ⟨⟨i, h, h1, by omega, rfl, by go_num, hF, Lib.hid (fun _ => HP.out), B9.out⟩, by simp [intOf]; omega⟩
      | false =>
        rw [hp] at CH
        have HP := Lib.hid hp
        clear hp
        go_wp2_with fail
        refine CH.mono ?_
        rintro e w9 ⟨rfl, b9⟩
        have B9 := Lib.hid (bnext HB.out b9 HB.out.size)
        clear b9 CH
        go_wp2_with fail
        refine ⟨⟨h + 1, j, by omega, hjn, by go_num, rfl, Lib.hid fun k hk => ?_, hT, B9.out⟩, by simp [intOf]; omega⟩
        cases hq : P k with
        | false => rfl
        | true => exact absurd (HM.out k h hq (by omega)) (by rw [HP.out]; simp)
    · obtain rfl : i = j := by omega
      have E : schZ P n = i := by
        unfold schZ
        by_cases q : i < n
        · rw [firstI_hit q hF.out (hT.out q), if_pos (by omega)]
        · obtain rfl : i = n := by omega
          rw [firstI_miss hF.out, if_neg (by omega)]
      have EE := Lib.hid E
      clear E
      go_wp2_with fail
      go_ret
      exact ⟨by rw [EE.out]; rfl, HB.out⟩

theorem Gt.okT_ovF {g : Gt} {q n : Nat} {r : Nat → Int} {x : Nat} : g.okT q n r x = !(g.tk q x).ovF n r := by
  have b := firstI_bd ((g.tk q x).ovB n r) 200
  unfold Gt.okT Gt.ovF
  by_cases h : (g.tk q (x : Int)).ovZ n r = -1
  · rw [decide_eq_true h, h]; rfl
  · have h2 : -1 ≤ (g.tk q (x : Int)).ovZ n r := b.1
    rw [decide_eq_false h, decide_eq_true (show 0 ≤ (g.tk q (x : Int)).ovZ n r by omega)]; rfl
set_option maxRecDepth 100000 in
set_option maxHeartbeats 4000000 in
theorem ltClosure_any (b br kg kq kr n q x : Nat) (c : Array Value) (g : Gt) (v u : Value) (r : Nat → Int) (w : World) (hG : IsGut c g v) (hv : IsList w b v 2 g.m (pipeV g.p)) (hr : IsList w br u 1 n (fun i => .int .i64 (r i))) (hq : q < g.m) (hm : g.m ≤ 2000000) (hok : g.Ok) (hrn : g.Rn n r) (hx : x ≤ 1000)
    (r0 : rowAt w kg = some c) (r1 : rowAt w kq = some #[.int .i64 q]) (r2 : rowAt w kr = some #[u]) :
    Calls Try.prog 66 #[.int .i64 x, .pointer (some ⟨kg, 0, none⟩), .pointer (some ⟨kq, 0, none⟩), .pointer (some ⟨kr, 0, none⟩)] w fun e w' => e = .returned (.bool (g.okT q n r x)) ∧ Below w.heap.size w w' := by
  rw [Gt.okT_ovF]
  have hX : 0 ≤ (x : Int) ∧ (x : Int) ≤ 1000 := by omega
  have hokt : (g.tk q (x : Int)).Ok := Gt.tk_ok hok hX
  have CT := fun W h => takingAt_any b c g v q (x : Int) W hG h hq hm
  have CS := fun W a3 cap3 h1 h2 => shower_any 0 n (setP c (.slice a3 g.m cap3)) (g.tk q x) (.slice a3 g.m cap3) u r W ((hG.tk hX).setP' a3 cap3) h1 hokt h2
  have CF := fun W y h => firstOver_any n y (g.tk q x) r W h hrn hokt
  have HV := Lib.hid hv
  have HR := Lib.hid hr
  have w0 : IntKind.i16.wrap (x : Int) = (x : Int) := IntWalk.i16_in _ (by omega)
  have hcs := hG.size
  have hco := hG.ones
  obtain ⟨a, cap, rfl⟩ := hr.shape
  generalize (g.tk q (x : Int)).ovV n r = ov at *
  generalize (g.tk q (x : Int)).ovF n r = fd at *
  clear hG hv hr hok hrn hokt
  go_enter Try.func66, Try.ntmps66
  go_wp2_with fail
  refine wp_region_held_drew (S := fun w' => Below w.heap.size w w') (by kernel_rfl) ((Below.refl _ _).drew) (fun hH => ?_)
  refine wpAnyH_take (i := 0) (v := .agg c) rfl (by kernel_rfl) (by kernel_rfl) (by kernel_rfl) (fun _ _ _ h => h) (Or.inl ⟨by rfl, ?_⟩) hH ?_
  · intro w1 hS; (try dsimp only at hS); have s0 := brow hS r0; go_simp
  (try simp only [List.getElem_toArray]); (try simp only [List.getElem_cons_succ]); (try simp only [List.getElem_cons_zero]); (try simp only [Act.put]); (try simp only [List.setIfInBounds_toArray]); (try simp only [List.set_cons_succ]); (try simp only [List.set_cons_zero])
  refine wpAnyH_take (i := 1) (v := .int .i64 (q : Int)) rfl (by kernel_rfl) (by kernel_rfl) (by kernel_rfl) (fun _ _ _ h => h) (Or.inl ⟨by rfl, ?_⟩) hH ?_
  · intro w1 hS; (try dsimp only at hS); have s0 : w1.cell? ⟨kq, 0, none⟩ = some (.int .i64 (q : Int)) := (by rw [cell_of_rowAt (brow hS r1)]; rfl); go_simp
  (try simp only [List.getElem_toArray]); (try simp only [List.getElem_cons_succ]); (try simp only [List.getElem_cons_zero]); (try simp only [Act.put]); (try simp only [List.setIfInBounds_toArray]); (try simp only [List.set_cons_succ]); (try simp only [List.set_cons_zero])
  refine wpAnyH_take (i := 2) (v := .int .i64 (x : Int)) rfl (by kernel_rfl) (by kernel_rfl) (by kernel_rfl) (fun _ _ _ h => h) (Or.inl ⟨by rfl, ?_⟩) hH ?_
  · intro w1 hS; (try dsimp only at hS); go_simp
  (try simp only [List.getElem_toArray]); (try simp only [List.getElem_cons_succ]); (try simp only [List.getElem_cons_zero]); (try simp only [Act.put]); (try simp only [List.setIfInBounds_toArray]); (try simp only [List.set_cons_succ]); (try simp only [List.set_cons_zero])
  refine wpAnyH_take (i := 3) (v := .int .i16 (x : Int)) rfl (by kernel_rfl) (by kernel_rfl) (by kernel_rfl) (fun _ _ _ h => h) (Or.inl ⟨by rfl, ?_⟩) hH ?_
  · intro w1 hS; (try dsimp only at hS); go_simp
  (try simp only [List.getElem_toArray]); (try simp only [List.getElem_cons_succ]); (try simp only [List.getElem_cons_zero]); (try simp only [Act.put]); (try simp only [List.setIfInBounds_toArray]); (try simp only [List.set_cons_succ]); (try simp only [List.set_cons_zero])
  refine wpAnyH_take (i := 5) (v := .slice a n cap) rfl (by kernel_rfl) (by kernel_rfl) (by kernel_rfl) (fun _ _ _ h => h) (Or.inl ⟨by rfl, ?_⟩) hH ?_
  · intro w1 hS; (try dsimp only at hS); have s0 : w1.cell? ⟨kr, 0, none⟩ = some (.slice a n cap) := (by rw [cell_of_rowAt (brow hS r2)]; rfl); go_simp
  (try simp only [List.getElem_toArray]); (try simp only [List.getElem_cons_succ]); (try simp only [List.getElem_cons_zero]); (try simp only [Act.put]); (try simp only [List.setIfInBounds_toArray]); (try simp only [List.set_cons_succ]); (try simp only [List.set_cons_zero])
  refine wpAnyH_ready (rs := [4]) (by kernel_rfl) (by simp) (AllReadyH.cons rfl (fun K hK => ?_) AllReadyH.nil)
  go_simp
  refine (CT _ (HV.out.below hH (Nat.le_refl _))).mono ?_
  rintro x wx ⟨a3, cap3, rfl, l3, bx⟩
  have L3 := Lib.hid l3
  clear l3
  go_simp
  refine hK.out _ _ (bnext hH bx hH.size) (fun hG => ?_)
  clear hK K hH bx
  replace hH := hG
  clear hG
  (try simp only [List.getElem_toArray]); (try simp only [List.getElem_cons_succ]); (try simp only [List.getElem_cons_zero]); (try simp only [Act.put]); (try simp only [List.setIfInBounds_toArray]); (try simp only [List.set_cons_succ]); (try simp only [List.set_cons_zero])
  refine wpAnyH_ready (rs := [6]) (by kernel_rfl) (by simp) (AllReadyH.cons rfl (fun K hK => ?_) AllReadyH.nil)
  go_simp
  refine (CS _ a3 cap3 (L3.out.mono (Nat.zero_le _)) ((HR.out.below hH (Nat.le_refl _)).mono (Nat.zero_le _))).mono ?_
  rintro x wx ⟨y, rfl, hSh, _, bx⟩
  have SH := Lib.hid hSh
  clear hSh
  go_simp
  refine hK.out _ _ (bnext hH bx hH.size) (fun hG => ?_)
  clear hK K hH bx
  replace hH := hG
  clear hG
  (try simp only [List.getElem_toArray]); (try simp only [List.getElem_cons_succ]); (try simp only [List.getElem_cons_zero]); (try simp only [Act.put]); (try simp only [List.setIfInBounds_toArray]); (try simp only [List.set_cons_succ]); (try simp only [List.set_cons_zero])
  refine wpAnyH_ready (rs := [7]) (by kernel_rfl) (by simp) (AllReadyH.cons rfl (fun K hK => ?_) AllReadyH.nil)
  go_simp
  refine (CF _ y SH.out).mono ?_
  rintro x wx ⟨rfl, bx⟩
  go_simp
  refine hK.out _ _ (bnext hH bx hH.size) (fun hG => ?_)
  clear hK K hH bx
  replace hH := hG
  clear hG
  (try simp only [List.getElem_toArray]); (try simp only [List.getElem_cons_succ]); (try simp only [List.getElem_cons_zero]); (try simp only [Act.put]); (try simp only [List.setIfInBounds_toArray]); (try simp only [List.set_cons_succ]); (try simp only [List.set_cons_zero])
  refine wpAnyH_take (i := 8) (v := .tuple #[.int .i64 ov, .bool fd]) rfl (by kernel_rfl) (by kernel_rfl) (by kernel_rfl) (fun _ _ _ h => h) (Or.inl ⟨by rfl, ?_⟩) hH ?_
  · intro w1 hS; (try dsimp only at hS); go_simp
  (try simp only [List.getElem_toArray]); (try simp only [List.getElem_cons_succ]); (try simp only [List.getElem_cons_zero]); (try simp only [Act.put]); (try simp only [List.setIfInBounds_toArray]); (try simp only [List.set_cons_succ]); (try simp only [List.set_cons_zero])
  refine wpAnyH_take (i := 9) (v := .int .i64 ov) rfl (by kernel_rfl) (by kernel_rfl) (by kernel_rfl) (fun _ _ _ h => h) (Or.inl ⟨by rfl, ?_⟩) hH ?_
  · intro w1 hS; (try dsimp only at hS); go_simp
  (try simp only [List.getElem_toArray]); (try simp only [List.getElem_cons_succ]); (try simp only [List.getElem_cons_zero]); (try simp only [Act.put]); (try simp only [List.setIfInBounds_toArray]); (try simp only [List.set_cons_succ]); (try simp only [List.set_cons_zero])
  refine wpAnyH_take (i := 10) (v := .bool fd) rfl (by kernel_rfl) (by kernel_rfl) (by kernel_rfl) (fun _ _ _ h => h) (Or.inl ⟨by rfl, ?_⟩) hH ?_
  · intro w1 hS; (try dsimp only at hS); go_simp
  (try simp only [List.getElem_toArray]); (try simp only [List.getElem_cons_succ]); (try simp only [List.getElem_cons_zero]); (try simp only [Act.put]); (try simp only [List.setIfInBounds_toArray]); (try simp only [List.set_cons_succ]); (try simp only [List.set_cons_zero])
  refine wpAnyH_take (i := 11) (v := .int .i64 ov) rfl (by kernel_rfl) (by kernel_rfl) (by kernel_rfl) (fun _ _ _ h => h) (Or.inl ⟨by rfl, ?_⟩) hH ?_
  · intro w1 hS; (try dsimp only at hS); go_simp
  (try simp only [List.getElem_toArray]); (try simp only [List.getElem_cons_succ]); (try simp only [List.getElem_cons_zero]); (try simp only [Act.put]); (try simp only [List.setIfInBounds_toArray]); (try simp only [List.set_cons_succ]); (try simp only [List.set_cons_zero])
  refine wpAnyH_take (i := 12) (v := .bool fd) rfl (by kernel_rfl) (by kernel_rfl) (by kernel_rfl) (fun _ _ _ h => h) (Or.inl ⟨by rfl, ?_⟩) hH ?_
  · intro w1 hS; (try dsimp only at hS); go_simp
  (try simp only [List.getElem_toArray]); (try simp only [List.getElem_cons_succ]); (try simp only [List.getElem_cons_zero]); (try simp only [Act.put]); (try simp only [List.setIfInBounds_toArray]); (try simp only [List.set_cons_succ]); (try simp only [List.set_cons_zero])
  refine wpAnyH_done (by kernel_rfl) ?_ _
  have B9 := Lib.hid hH
  clear hH
  go_wp2_with fail
  go_ret
  exact ⟨rfl, B9.out⟩
end Go.Proofs.Ytfdoehakpeddnaa

/- BestClean: mathematics, and the model's l06Spilt. -/
namespace Go.Proofs.Ytfdoehakpeddnaa
open Go.RowKit

theorem and32_one {a : Nat} (ha : a < 2 ^ 32) : bits BinOp.and IntKind.u32 (a : Int) 1 = ((a % 2 : Nat) : Int) := by
  have h32 : IntKind.u32.bits = 32 := rfl
  unfold bits
  rw [show (1 : Int) = ((1 : Nat) : Int) from rfl]
  simp only [BitVec.ofInt_natCast, BitVec.toNat_and, BitVec.toNat_ofNat]
  rw [h32]
  rw [Nat.mod_eq_of_lt ha, Nat.mod_eq_of_lt (show 1 < 2 ^ 32 by omega), Nat.and_one_is_mod]
  exact IntWalk.u32_in _ (by omega)
theorem Gt.leaf_num {g : Gt} {L : Nat} (h : g.l = L) (hL : L < 2 ^ 32) (j : Nat) : g.leaf j = L.testBit j := by
  unfold Gt.leaf
  rw [h]
  have e : ((L : Int) / 2 ^ j) = ((L / 2 ^ j : Nat) : Int) := by rw [Int.natCast_ediv, Int.natCast_pow]; rfl
  rw [e, and32_one (Nat.lt_of_le_of_lt (Nat.div_le_self _ _) hL), Nat.testBit_eq_decide_div_mod_eq]
  by_cases q : L / 2 ^ j % 2 = 1
  · rw [q]; rfl
  · have : L / 2 ^ j % 2 = 0 := by omega
    rw [this]; rfl
theorem Gt.leaf_none {g : Gt} (h0 : 0 ≤ g.l ∧ g.l ≤ 4294967295) (hl : g.lvB = true) (ha : ∀ j : Nat, (j : Int) < g.n → g.leaf j = false) : g.l = 0 := by
  obtain ⟨L, hL⟩ := Int.eq_ofNat_of_zero_le h0.1
  have hb : L < 2 ^ 32 := by omega
  unfold Gt.lvB at hl
  rw [hL] at hl
  have hd : L / 2 ^ g.n.toNat = 0 := by
    have e : ((L : Int) / 2 ^ g.n.toNat) = ((L / 2 ^ g.n.toNat : Nat) : Int) := by rw [Int.natCast_ediv, Int.natCast_pow]; rfl
    rw [e] at hl
    have := eq_of_beq hl
    omega
  have hlt : L < 2 ^ g.n.toNat := by
    rcases Nat.lt_or_ge L (2 ^ g.n.toNat) with h | h
    · exact h
    · have := Nat.div_pos h (Nat.two_pow_pos _)
      omega
  have : L = 0 := Nat.eq_of_testBit_eq fun j => by
    rw [Nat.zero_testBit]
    by_cases hj : j < g.n.toNat
    · rw [← Gt.leaf_num hL hb]; exact ha j (by omega)
    · exact Nat.testBit_lt_two_pow (Nat.lt_of_lt_of_le hlt (Nat.pow_le_pow_right (by omega) (by omega)))
  rw [hL, this]; rfl
theorem Gt.leaf_zero {g : Gt} (h : g.l = 0) (j : Nat) : g.leaf j = false := by
  rw [Gt.leaf_num (L := 0) h (by omega), Nat.zero_testBit]
theorem Gt.clr_le {g : Gt} (h0 : 0 ≤ g.l ∧ g.l ≤ 4294967295) (j : Nat) : g.clrL j ≤ g.l := by
  obtain ⟨L, hL⟩ := Int.eq_ofNat_of_zero_le h0.1
  have hb : L < 2 ^ 32 := by omega
  unfold Gt.clrL
  rw [hL]
  generalize IntKind.u32.wrap (2 ^ j) = y
  unfold bits
  simp only [BitVec.ofInt_natCast, BitVec.toNat_and, BitVec.toNat_ofNat]
  rw [show L % 2 ^ IntKind.u32.bits = L from Nat.mod_eq_of_lt hb]
  have hle : L &&& (~~~BitVec.ofInt IntKind.u32.bits y).toNat ≤ L := Nat.and_le_left
  generalize L &&& (~~~BitVec.ofInt IntKind.u32.bits y).toNat = q at *
  have e := IntWalk.u32_in (q : Int) (by omega)
  rw [e]
  omega
theorem Gt.Ok.clr {g : Gt} (h : g.Ok) (h0 : 0 ≤ g.l ∧ g.l ≤ 4294967295) (j : Nat) : (g.clr j).Ok := by
  refine ⟨h.n1, h.n17, h.d0, h.d1, ?_, h.m4, h.hs, h.ps⟩
  have a := Gt.clr_le h0 j
  have b : 0 ≤ g.clrL j := (bits_u32 _ _ _).1
  have hl := h.lv
  unfold Gt.lvB at hl ⊢
  have e := eq_of_beq hl
  show (g.clrL j / 2 ^ g.n.toNat == 0) = true
  have p : (0 : Int) < 2 ^ g.n.toNat := Int.pow_pos (by omega)
  have h1 := Int.ediv_le_ediv p a
  have h2 := Int.ediv_nonneg b (Int.le_of_lt p)
  rw [e] at h1
  have : g.clrL j / 2 ^ g.n.toNat = 0 := by omega
  rw [this]; rfl
theorem Gt.watB_zero {g : Gt} : g.watB (fun _ => 0) = g.ok := by
  cases h : g.ok with
  | false => exact Gt.watB_f (Gt.not_of h)
  | true =>
    have o := Gt.Ok_of h
    exact Gt.watB_t o fun i _ => ⟨Int.le_refl _, o.d0, .inr rfl⟩
theorem Gt.wet_zero {g : Gt} {f : Bool} : g.wet (fun _ => 0) f = g.ask f := by
  unfold Gt.wet Gt.ask
  rw [Gt.watB_zero]

set_option maxRecDepth 100000 in
set_option maxHeartbeats 4000000 in
theorem l06Spilt_any (k b br n : Nat) (c : Array Value) (g : Gt) (r : Nat → Int) (v u : Value) (y : Nat) (w : World) (hA : GutAt w k c g v b) (hr : IsList w br u 1 n (fun i => .int .i64 (r i))) (hrn : g.Rn n r) (hok : g.Ok) (hm : g.m ≤ 2000000) (hy : y ≤ 200) :
    Calls Try.prog 61 #[.pointer (some ⟨k, 0, none⟩), u, .int .i64 y] w fun e w' => e = .returned (.int .i64 (g.itO (fun _ => 0) r n y)) ∧ Below w.heap.size w w' := by
  have hn17 : n ≤ 17 := by have := hrn.2; have := hok.n17; omega
  have HT := Lib.hid (Gt.itT_bd hok zero_bd hrn.1)
  have HOB := Lib.hid (Gt.itO_bd hok zero_bd hrn.1)
  have HAR := Lib.hid (hr.away (K := w.heap.size) (by omega))
  have HAP := Lib.hid (hA.pipes.away (K := w.heap.size) (by omega))
  have hk := hA.lt
  have HA := Lib.hid hA
  have HR := Lib.hid hr
  have HRN := Lib.hid hrn.1
  have HO := Lib.hid hok
  obtain ⟨a, cap, rfl⟩ := hr.shape
  have hzo := zeroW_is.ones
  unfold zeroW at hzo
  clear hA hr hrn hok
  go_enter Try.func61, Try.ntmps61
  go_wp2_with fail
  refine gen_world fun W hW => ?_
  have q1 : rowAt W w.heap.size = some zeroW := by rw [hW]; exact rowAt_alloc_at _ _ _ _ (by simp)
  have BW : Below w.heap.size w W := by rw [hW]; exact (Below.refl _ _).alloc (Nat.le_refl _) _
  have kn : k ≠ w.heap.size := by omega
  clear hW
  go_loopw [8, 9, 10, 11] (fun s i _ _ V => ∃ (j : Nat) (cur : Array Value), j ≤ y ∧ i = .int .i64 j ∧ s = .int .i64 (g.itO (fun _ => 0) r n j) ∧ rowAt V w.heap.size = some cur ∧ Hid (IsK .i32 cur 17 (g.itT (fun _ => 0) r n j)) ∧ Below w.heap.size w V) (fun _ i _ _ _ => y - (intOf i).toNat)
  case atStart => exact ⟨0, zeroW, by omega, rfl, rfl, q1, Lib.hid zeroW_is, BW⟩
  case round =>
    clear q1 BW
    obtain ⟨j, cur, hj, rfl, rfl, q1, hI, hB⟩ := hrel
    by_cases hlt : j < y
    · have j0 : 0 ≤ (j : Int) := by omega
      have j1 : (j : Int) < y := by omega
      have CMj := l06Minute_1 k b w.heap.size br n c cur g (g.itT (fun _ => 0) r n j) r v (.slice a n cap) wr (HA.out.below hB (Nat.le_refl _)) q1 hI.out (HR.out.below hB (Nat.le_refl _)) hn17 (HT.out j) HRN.out kn HAR.out HAP.out HO.out hm
      have HIT := Lib.hid (show g.itT (fun _ => 0) r n (j + 1) = g.minT (g.itT (fun _ => 0) r n j) r n from rfl)
      have ob := HOB.out j
      have ob' := HOB.out (j + 1)
      have eO : g.itO (fun _ => 0) r n (j + 1) = g.itO (fun _ => 0) r n j + g.minO (g.itT (fun _ => 0) r n j) r n := rfl
      have tov : 0 ≤ g.itO (fun _ => 0) r n (j + 1) ∧ g.itO (fun _ => 0) r n (j + 1) ≤ 116178000 := by omega
      have EO := Lib.hid eO
      rw [eO] at tov
      have HB := Lib.hid hB
      clear hB eO ob ob'
      generalize g.itO (fun _ => 0) r n j = o0 at *
      generalize g.minS (g.itT (fun _ => 0) r n j) r n = s1 at *
      generalize g.minO (g.itT (fun _ => 0) r n j) r n = o1 at *
      go_wp2_with fail
      refine CMj.mono ?_
      rintro e w5 ⟨rfl, ⟨cur2, r5, i5⟩, _, hL5⟩
      have B5 := Lib.hid (HB.out.trans (hL5.2 w.heap.size (Nat.le_refl _) HB.out.size))
      have I5 := Lib.hid i5
      have R5 := Lib.hid r5
      clear CMj hL5 q1 i5 r5
      go_wp2_with fail
      refine ⟨⟨j + 1, cur2, by omega, by go_num, by rw [EO.out], R5.out, by rw [HIT.out]; exact I5, B5.out⟩, by simp [intOf]; omega⟩
    · obtain rfl : j = y := by omega
      have HB := Lib.hid hB
      clear hB
      go_wp2_with fail
      go_ret
      exact ⟨rfl, HB.out⟩

/-- What runs over if a cell is cleaned; the best cell of the first j, -1 if there is none, and its number. -/
noncomputable def Gt.bo (g : Gt) (n : Nat) (r : Nat → Int) (y j : Nat) : Int := (g.clr j).itO (fun _ => 0) r n y
noncomputable def Gt.bc (g : Gt) (n : Nat) (r : Nat → Int) (y : Nat) : Nat → Int × Int
  | 0 => (-1, 0)
  | j + 1 => if g.leaf j = true ∧ ((g.bc n r y j).1 < 0 ∨ g.bo n r y j < (g.bc n r y j).2) then ((j : Int), g.bo n r y j) else g.bc n r y j
theorem Gt.bc_bd {g : Gt} {n : Nat} {r : Nat → Int} {y : Nat} : ∀ j, -1 ≤ (g.bc n r y j).1 ∧ (g.bc n r y j).1 < j
  | 0 => by unfold Gt.bc; simp
  | j + 1 => by
    have := Gt.bc_bd (g := g) (n := n) (r := r) (y := y) j
    unfold Gt.bc
    split
    · constructor
      · show (-1 : Int) ≤ (j : Int); omega
      · show (j : Int) < ((j + 1 : Nat) : Int); omega
    · omega
theorem Gt.bc_none {g : Gt} {n : Nat} {r : Nat → Int} {y : Nat} : ∀ j, ((g.bc n r y j).1 < 0 ↔ ∀ i, i < j → g.leaf i = false)
  | 0 => by unfold Gt.bc; simp
  | j + 1 => by
    have ih := Gt.bc_none (g := g) (n := n) (r := r) (y := y) j
    constructor
    · intro h i hi
      unfold Gt.bc at h
      split at h
      · have h' : (j : Int) < 0 := h
        omega
      · rename_i hc
        have hf := ih.1 h
        by_cases e : i = j
        · subst e
          cases hl : g.leaf i with
          | false => rfl
          | true => exact absurd ⟨hl, .inl h⟩ hc
        · exact hf i (by omega)
    · intro h
      have := ih.2 fun i hi => h i (by omega)
      unfold Gt.bc
      rw [if_neg (fun x => by rw [h j (by omega)] at x; cases x.1)]
      exact this
/-- The program's two numbers. -/
noncomputable def Gt.bp (g : Gt) (n : Nat) (r : Nat → Int) (y j : Nat) : Int × Int := if (g.bc n r y j).1 < 0 then (0, 9223372036854775807) else g.bc n r y j
theorem Gt.bp_succ {g : Gt} {n : Nat} {r : Nat → Int} {y j : Nat} (hl : g.leaf j = true) (hb : g.bo n r y j < 9223372036854775807) : g.bp n r y (j + 1) = if g.bo n r y j < (g.bp n r y j).2 then ((j : Int), g.bo n r y j) else g.bp n r y j := by
  unfold Gt.bp
  by_cases h : (g.bc n r y j).1 < 0
  · rw [if_pos h]
    have e : g.bc n r y (j + 1) = ((j : Int), g.bo n r y j) := by
      show (if _ then _ else _) = _
      rw [if_pos ⟨hl, .inl h⟩]
    rw [e, if_neg (show ¬ (j : Int) < 0 by omega), if_pos hb]
  · rw [if_neg h]
    by_cases q : g.bo n r y j < (g.bc n r y j).2
    · have e : g.bc n r y (j + 1) = ((j : Int), g.bo n r y j) := by
        show (if _ then _ else _) = _
        rw [if_pos ⟨hl, .inr q⟩]
      rw [e, if_neg (show ¬ (j : Int) < 0 by omega), if_pos q]
    · have e : g.bc n r y (j + 1) = g.bc n r y j := by
        show (if _ then _ else _) = _
        rw [if_neg (fun x => x.2.elim h q)]
      rw [e, if_neg h, if_neg q]
theorem Gt.bp_skip {g : Gt} {n : Nat} {r : Nat → Int} {y j : Nat} (hl : g.leaf j = false) : g.bp n r y (j + 1) = g.bp n r y j := by
  unfold Gt.bp
  have e : g.bc n r y (j + 1) = g.bc n r y j := by
    show (if _ then _ else _) = _
    rw [if_neg (fun x => by rw [hl] at x; cases x.1)]
  rw [e]
theorem Gt.bc_skip {g : Gt} {n : Nat} {r : Nat → Int} {y j : Nat} (hl : g.leaf j = false) : g.bc n r y (j + 1) = g.bc n r y j := by
  show (if _ then _ else _) = _
  rw [if_neg (fun x => by rw [hl] at x; cases x.1)]
theorem Gt.bc_take {g : Gt} {n : Nat} {r : Nat → Int} {y j : Nat} (hl : g.leaf j = true) (h : (g.bc n r y j).1 < 0 ∨ g.bo n r y j < (g.bc n r y j).2) : g.bc n r y (j + 1) = ((j : Int), g.bo n r y j) := by
  show (if _ then _ else _) = _
  rw [if_pos ⟨hl, h⟩]
theorem Gt.bc_leave {g : Gt} {n : Nat} {r : Nat → Int} {y j : Nat} (h : ¬ ((g.bc n r y j).1 < 0 ∨ g.bo n r y j < (g.bc n r y j).2)) : g.bc n r y (j + 1) = g.bc n r y j := by
  show (if _ then _ else _) = _
  rw [if_neg (fun x => h x.2)]
/-- BestClean's code and two numbers. -/
noncomputable def Gt.bcC (g : Gt) (n : Nat) (r : Nat → Int) (y : Int) : Int := if g.ask (g.rnB n r && inB y 0 200) = 0 then (if (g.bc n r y.toNat g.n.toNat).1 < 0 then 6 else 0) else g.ask (g.rnB n r && inB y 0 200)
noncomputable def Gt.bcV (g : Gt) (n : Nat) (r : Nat → Int) (y : Int) : Int × Int := if g.ask (g.rnB n r && inB y 0 200) = 0 then (if (g.bc n r y.toNat g.n.toNat).1 < 0 then (0, 0) else g.bc n r y.toNat g.n.toNat) else (0, 0)
theorem Gt.bq_a {g : Gt} {n : Nat} {r : Nat → Int} {y : Int} (h : g.ask (g.rnB n r && inB y 0 200) ≠ 0) : g.bcV n r y = (0, 0) ∧ g.bcC n r y = g.ask (g.rnB n r && inB y 0 200) := ⟨if_neg h, if_neg h⟩
theorem Gt.bq_b {g : Gt} {n : Nat} {r : Nat → Int} {y : Int} (h : g.ask (g.rnB n r && inB y 0 200) = 0) (k : (g.bc n r y.toNat g.n.toNat).1 < 0) : g.bcV n r y = (0, 0) ∧ g.bcC n r y = 6 := by
  unfold Gt.bcV Gt.bcC
  rw [if_pos h, if_pos h, if_pos k, if_pos k]; exact ⟨rfl, rfl⟩
theorem Gt.bq_c {g : Gt} {n : Nat} {r : Nat → Int} {y : Int} (h : g.ask (g.rnB n r && inB y 0 200) = 0) (k : ¬ (g.bc n r y.toNat g.n.toNat).1 < 0) : g.bcV n r y = g.bc n r y.toNat g.n.toNat ∧ g.bcC n r y = 0 := by
  unfold Gt.bcV Gt.bcC
  rw [if_pos h, if_pos h, if_neg k, if_neg k]; exact ⟨rfl, rfl⟩
end Go.Proofs.Ytfdoehakpeddnaa

/- LeastTakes: the program. -/
namespace Go.Proofs.Ytfdoehakpeddnaa
open Go.RowKit

/-- LeastTakes' number and code. -/
noncomputable def Gt.ltA (g : Gt) (n : Nat) (r : Nat → Int) (y : Int) : Int := g.ask (g.rnB n r && inB y 0 ((g.m : Int) - 1))
noncomputable def Gt.ltV (g : Gt) (n : Nat) (r : Nat → Int) (y : Int) : Int := if g.ltA n r y = 0 ∧ 0 ≤ g.ltZ y.toNat n r then g.ltZ y.toNat n r else 0
noncomputable def Gt.ltC (g : Gt) (n : Nat) (r : Nat → Int) (y : Int) : Int := if g.ltA n r y = 0 then (if 0 ≤ g.ltZ y.toNat n r then 0 else 6) else g.ltA n r y
theorem Gt.lt_a {g : Gt} {n : Nat} {r : Nat → Int} {y : Int} (h : g.ltA n r y ≠ 0) : g.ltV n r y = 0 ∧ g.ltC n r y = g.ltA n r y := ⟨if_neg fun x => h x.1, if_neg h⟩
theorem Gt.lt_b {g : Gt} {n : Nat} {r : Nat → Int} {y : Int} (h : g.ltA n r y = 0) (k : 0 ≤ g.ltZ y.toNat n r) : g.ltV n r y = g.ltZ y.toNat n r ∧ g.ltC n r y = 0 := by
  refine ⟨if_pos ⟨h, k⟩, ?_⟩
  unfold Gt.ltC
  rw [if_pos h, if_pos k]
theorem Gt.lt_c {g : Gt} {n : Nat} {r : Nat → Int} {y : Int} (h : g.ltA n r y = 0) (k : ¬ 0 ≤ g.ltZ y.toNat n r) : g.ltV n r y = 0 ∧ g.ltC n r y = 6 := by
  refine ⟨if_neg fun x => k x.2, ?_⟩
  unfold Gt.ltC
  rw [if_pos h, if_neg k]
theorem Gt.lt_of {g : Gt} {n : Nat} {r : Nat → Int} {y : Int} (h : g.ltA n r y = 0) : g.Ok ∧ g.Rn n r ∧ g.rnB n r = true ∧ 0 ≤ y ∧ y < g.m := by
  obtain ⟨hok, hf⟩ := Gt.ask_of h
  have hin : 0 ≤ y ∧ y ≤ (g.m : Int) - 1 := by
    by_cases q : 0 ≤ y ∧ y ≤ (g.m : Int) - 1
    · exact q
    · rw [inB_false q] at hf; simp at hf
  have hrb : g.rnB n r = true := by
    cases q : g.rnB n r with
    | true => rfl
    | false => rw [q] at hf; simp at hf
  exact ⟨hok, Gt.rnB_of hrb, hrb, hin.1, by omega⟩

set_option maxRecDepth 100000 in
set_option maxHeartbeats 4000000 in
theorem implLeastTakes_any (b br n : Nat) (c : Array Value) (g : Gt) (v u : Value) (r : Nat → Int) (y : Int) (w : World) (hG : IsGut c g v) (hv : IsList w b v 2 g.m (pipeV g.p)) (hm : g.m ≤ 2000000) (hr : IsList w br u 1 n (fun i => .int .i64 (r i))) (hn : n ≤ 2000000) :
    Calls Try.prog 30 #[.agg c, u, .int .i64 y] w fun e w' => e = .returned (.tuple #[.int .i64 (g.ltV n r y), .int .i64 (g.ltC n r y)]) ∧ Below w.heap.size w w' := by
  have eg : ∀ args w, (callFunc 66 args).run Try.prog w = .ok (.enter 66 args) w := enters_of Try.func66 (by kernel_rfl) rfl
  have hmf : ∀ (fn : Fn) (first cap : Array Value) (w : World), (Instr.makeFunc fn first cap).run Try.prog w = .ok (.func fn first cap) w := fun _ _ _ _ => rfl
  have hc := hG.size
  have hco := hG.ones
  have k20 := hG.pipes
  have ws : IntKind.i64.wrap ((g.m : Int) - 1) = (g.m : Int) - 1 := by rw [IntKind.wrap_i64]; omega
  have CR := fun W bk x h1 h2 h3 => checkRain_any b br bk n 1 c g v u x r (fun i => if i = 0 then y else if i = 1 then 0 else (g.m : Int) - 1) W hG h1 hm h2 hn h3 (by omega)
  unfold Gt.rnC at CR
  rw [outs_one, outB_inB, show g.ask (g.rnB n r && inB y 0 ((g.m : Int) - 1)) = g.ltA n r y from rfl] at CR
  have HG := Lib.hid hG
  have HV := Lib.hid hv
  have HR := Lib.hid hr
  obtain ⟨a, cap, rfl⟩ := hr.shape
  obtain ⟨av, cv, rfl⟩ := hv.shape
  obtain ⟨code, hcode⟩ : ∃ z, z = g.ltA n r y := ⟨_, rfl⟩
  rw [← hcode] at CR
  replace hcode := Lib.hid hcode
  clear hG hv hr
  by_cases hz : code = 0
  · have hA := hcode.out.symm.trans hz
    subst hz
    obtain ⟨hok, hrn, _, hy0, hym⟩ := Gt.lt_of hA
    obtain ⟨q, rfl⟩ := Int.eq_ofNat_of_zero_le hy0
    have eq' : ((q : Int)).toNat = q := by omega
    have hq : q < g.m := by omega
    have HOK := Lib.hid hok
    have HRN := Lib.hid hrn
    have bd := firstI_bd (g.okT q n r) 1001
    by_cases hzz : 0 ≤ g.ltZ q n r
    · obtain ⟨e1, e2⟩ := Gt.lt_b hA (by rw [eq']; exact hzz)
      rw [eq'] at e1
      have E1 := Lib.hid e1
      have E2 := Lib.hid e2
      have HSZ := Lib.hid (show schZ (g.okT q n r) 1001 = g.ltZ q n r from if_pos hzz)
      have hbd : g.ltZ q n r < 1001 := bd.2
      clear e1 e2 hA hok hrn hy0 hym bd
      generalize g.ltZ q n r = z at *
      have hd : decide (1000 < z) = false := by simp; omega
      go_enter Try.func30, Try.ntmps30
      go_wp2_with fail
      refine gen_callsW fun W hW => ?_
      have q0 : rowAt W w.heap.size = some c := by rw [hW]; exact (rowAt_alloc_past _ _ _ (by simp; try omega)).trans ((rowAt_alloc_past _ _ _ (by simp; try omega)).trans ((rowAt_alloc_past _ _ _ (by simp)).trans (rowAt_alloc_at _ _ _ _ rfl)))
      have q1 : rowAt W (w.heap.size + 1) = some #[.slice a n cap] := by rw [hW]; exact (rowAt_alloc_past _ _ _ (by simp; try omega)).trans ((rowAt_alloc_past _ _ _ (by simp)).trans (rowAt_alloc_at _ _ _ _ (by simp)))
      have q2 : rowAt W (w.heap.size + 1 + 1) = some #[.int .i64 (q : Int)] := by rw [hW]; exact (rowAt_alloc_past _ _ _ (by simp)).trans (rowAt_alloc_at _ _ _ _ (by simp))
      have qK : rowAt W (w.heap.size + 1 + 1 + 1) = some #[.int .i64 (q : Int), .int .i64 0, .int .i64 ((g.m : Int) - 1)] := by rw [hW]; exact rowAt_alloc_at _ _ _ _ (by simp)
      have BW : Below w.heap.size w W := by rw [hW]; exact ((((Below.refl _ _).alloc (Nat.le_refl _) _).alloc (by simp) _).alloc (by simp; omega) _).alloc (by simp; omega) _
      clear hW
      generalize w.heap.size + 1 + 1 + 1 = K3 at *
      generalize w.heap.size + 1 + 1 = K2 at *
      generalize w.heap.size + 1 = K1 at *
      refine (CR W 0 _ (HV.out.below BW (Nat.le_refl _)) (HR.out.below BW (Nat.le_refl _)) (IsList.lit3 qK (Nat.zero_le _))).mono ?_
      rintro e w1 ⟨rfl, x1⟩
      have s0 := brow x1 q0
      have s1 := brow x1 q1
      have s2 := brow x1 q2
      have B1 := Lib.hid (bnext BW x1 BW.size)
      clear x1 q0 q1 q2 qK BW CR
      go_wp2_with fail
      have CSE := search_any 66 #[.pointer (some ⟨w.heap.size, 0, none⟩), .pointer (some ⟨K2, 0, none⟩), .pointer (some ⟨K1, 0, none⟩)] (g.okT q n r) 1001 w1 eg (by omega) (fun x z hx hz => Gt.okT_up hx hz) (fun x W hx hB => ltClosure_any b br w.heap.size K2 K1 n q x c g _ _ r W HG.out ((HV.out.below B1.out (Nat.le_refl _)).below hB (Nat.le_refl _)) ((HR.out.below B1.out (Nat.le_refl _)).below hB (Nat.le_refl _)) hq hm HOK.out HRN.out (by omega) (brow hB s0) (brow hB s2) (brow hB s1))
      rw [HSZ.out] at CSE
      have HS1 := Lib.hid s1
      clear s0 s1 s2
      go_wp2_with fail
      refine CSE.mono ?_
      rintro e w2 ⟨rfl, x2⟩
      have B2 := Lib.hid (bnext B1.out x2 B1.out.size)
      clear x2 CSE
      go_wp2_with fail
      go_ret2
      exact ⟨by rw [E1.out, E2.out]; rfl, B2.out⟩
    · obtain ⟨e1, e2⟩ := Gt.lt_c hA (by rw [eq']; exact hzz)
      have E1 := Lib.hid e1
      have E2 := Lib.hid e2
      have HSZ := Lib.hid (show schZ (g.okT q n r) 1001 = 1001 from if_neg hzz)
      clear e1 e2 hA hok hrn hy0 hym bd hzz
      go_enter Try.func30, Try.ntmps30
      go_wp2_with fail
      refine gen_callsW fun W hW => ?_
      have q0 : rowAt W w.heap.size = some c := by rw [hW]; exact (rowAt_alloc_past _ _ _ (by simp; try omega)).trans ((rowAt_alloc_past _ _ _ (by simp; try omega)).trans ((rowAt_alloc_past _ _ _ (by simp)).trans (rowAt_alloc_at _ _ _ _ rfl)))
      have q1 : rowAt W (w.heap.size + 1) = some #[.slice a n cap] := by rw [hW]; exact (rowAt_alloc_past _ _ _ (by simp; try omega)).trans ((rowAt_alloc_past _ _ _ (by simp)).trans (rowAt_alloc_at _ _ _ _ (by simp)))
      have q2 : rowAt W (w.heap.size + 1 + 1) = some #[.int .i64 (q : Int)] := by rw [hW]; exact (rowAt_alloc_past _ _ _ (by simp)).trans (rowAt_alloc_at _ _ _ _ (by simp))
      have qK : rowAt W (w.heap.size + 1 + 1 + 1) = some #[.int .i64 (q : Int), .int .i64 0, .int .i64 ((g.m : Int) - 1)] := by rw [hW]; exact rowAt_alloc_at _ _ _ _ (by simp)
      have BW : Below w.heap.size w W := by rw [hW]; exact ((((Below.refl _ _).alloc (Nat.le_refl _) _).alloc (by simp) _).alloc (by simp; omega) _).alloc (by simp; omega) _
      clear hW
      generalize w.heap.size + 1 + 1 + 1 = K3 at *
      generalize w.heap.size + 1 + 1 = K2 at *
      generalize w.heap.size + 1 = K1 at *
      refine (CR W 0 _ (HV.out.below BW (Nat.le_refl _)) (HR.out.below BW (Nat.le_refl _)) (IsList.lit3 qK (Nat.zero_le _))).mono ?_
      rintro e w1 ⟨rfl, x1⟩
      have s0 := brow x1 q0
      have s1 := brow x1 q1
      have s2 := brow x1 q2
      have B1 := Lib.hid (bnext BW x1 BW.size)
      clear x1 q0 q1 q2 qK BW CR
      go_wp2_with fail
      have CSE := search_any 66 #[.pointer (some ⟨w.heap.size, 0, none⟩), .pointer (some ⟨K2, 0, none⟩), .pointer (some ⟨K1, 0, none⟩)] (g.okT q n r) 1001 w1 eg (by omega) (fun x z hx hz => Gt.okT_up hx hz) (fun x W hx hB => ltClosure_any b br w.heap.size K2 K1 n q x c g _ _ r W HG.out ((HV.out.below B1.out (Nat.le_refl _)).below hB (Nat.le_refl _)) ((HR.out.below B1.out (Nat.le_refl _)).below hB (Nat.le_refl _)) hq hm HOK.out HRN.out (by omega) (brow hB s0) (brow hB s2) (brow hB s1))
      rw [HSZ.out] at CSE
      have HS1 := Lib.hid s1
      clear s0 s1 s2
      go_wp2_with fail
      refine CSE.mono ?_
      rintro e w2 ⟨rfl, x2⟩
      have B2 := Lib.hid (bnext B1.out x2 B1.out.size)
      clear x2 CSE
      go_wp2_with fail
      go_ret2
      exact ⟨by rw [E1.out, E2.out]; rfl, B2.out⟩
  · obtain ⟨e1, e2⟩ := Gt.lt_a (fun h => hz (hcode.out.trans h))
    rw [← hcode.out] at e2
    have E1 := Lib.hid e1
    have E2 := Lib.hid e2
    have hcb : (code != 0) = true := by simpa using hz
    clear e1 e2 hz
    go_enter Try.func30, Try.ntmps30
    go_wp2_with fail
    refine gen_callsW fun W hW => ?_
    have q0 : rowAt W w.heap.size = some c := by rw [hW]; exact (rowAt_alloc_past _ _ _ (by simp; try omega)).trans ((rowAt_alloc_past _ _ _ (by simp; try omega)).trans ((rowAt_alloc_past _ _ _ (by simp)).trans (rowAt_alloc_at _ _ _ _ rfl)))
    have q1 : rowAt W (w.heap.size + 1) = some #[.slice a n cap] := by rw [hW]; exact (rowAt_alloc_past _ _ _ (by simp; try omega)).trans ((rowAt_alloc_past _ _ _ (by simp)).trans (rowAt_alloc_at _ _ _ _ (by simp)))
    have q2 : rowAt W (w.heap.size + 1 + 1) = some #[.int .i64 y] := by rw [hW]; exact (rowAt_alloc_past _ _ _ (by simp)).trans (rowAt_alloc_at _ _ _ _ (by simp))
    have qK : rowAt W (w.heap.size + 1 + 1 + 1) = some #[.int .i64 y, .int .i64 0, .int .i64 ((g.m : Int) - 1)] := by rw [hW]; exact rowAt_alloc_at _ _ _ _ (by simp)
    have BW : Below w.heap.size w W := by rw [hW]; exact ((((Below.refl _ _).alloc (Nat.le_refl _) _).alloc (by simp) _).alloc (by simp; omega) _).alloc (by simp; omega) _
    clear hW
    generalize w.heap.size + 1 + 1 + 1 = K3 at *
    generalize w.heap.size + 1 + 1 = K2 at *
    generalize w.heap.size + 1 = K1 at *
    refine (CR W 0 _ (HV.out.below BW (Nat.le_refl _)) (HR.out.below BW (Nat.le_refl _)) (IsList.lit3 qK (Nat.zero_le _))).mono ?_
    rintro e w1 ⟨rfl, x1⟩
    have s0 := brow x1 q0
    have s1 := brow x1 q1
    have s2 := brow x1 q2
    have B1 := Lib.hid (bnext BW x1 BW.size)
    clear x1 q0 q1 q2 qK BW CR
    go_wp2_with fail
    go_ret2
    exact ⟨by rw [E1.out, E2.out]; rfl, B1.out⟩
end Go.Proofs.Ytfdoehakpeddnaa

/- LeastTakes: the model. -/
namespace Go.Proofs.Ytfdoehakpeddnaa
open Go.RowKit

/-- The list in which one number has been replaced, whatever it was. -/
theorem tk_cells2 {cur : Array Value} {g : Gt} {q : Nat} {x : Int} (hs : g.m * 2 ≤ cur.size) (hf : ∀ i, i < g.m * 2 → i ≠ q * 2 + 1 → cur[i]? = some (pipeV g.p i)) (hq : q < g.m) : ∀ i, i < g.m * 2 → (cur.setIfInBounds (q * 2 + 1) (.int .i16 x))[i]? = some (pipeV (g.tk q x).p i) := by
  intro i hi
  by_cases h : i = q * 2 + 1
  · subst h
    rw [Array.getElem?_setIfInBounds_self_of_lt (by omega), pipeV_1]
    show _ = some (Value.int .i16 (if q * 2 + 1 = q * 2 + 1 then x else _))
    rw [if_pos rfl]
  · rw [Array.getElem?_setIfInBounds_ne (Ne.symm h), hf i hi h]
    unfold pipeV
    have e : (g.tk q x).p i = g.p i := if_neg h
    rw [e]
theorem tk_keep {g : Gt} {q i : Nat} {x : Int} (h : i ≠ q * 2 + 1) : pipeV (g.tk q x).p i = pipeV g.p i := by
  unfold pipeV
  have e : (g.tk q x).p i = g.p i := if_neg h
  rw [e]

set_option maxRecDepth 100000 in
set_option maxHeartbeats 4000000 in
theorem specLeastTakes_any (b br n : Nat) (c : Array Value) (g : Gt) (v u : Value) (r : Nat → Int) (y : Int) (w : World) (hG : IsGut c g v) (hv : IsList w b v 2 g.m (pipeV g.p)) (hm : g.m ≤ 2000000) (hr : IsList w br u 1 n (fun i => .int .i64 (r i))) (hn : n ≤ 2000000) :
    Calls Try.prog 29 #[.agg c, u, .int .i64 y] w fun e w' => e = .returned (.tuple #[.int .i64 (g.ltV n r y), .int .i64 (g.ltC n r y)]) ∧ Below w.heap.size w w' := by
  have hA0 := Lib.hid (gutAt_box hG hv)
  have hB0 : Below w.heap.size w (w.alloc (.cells c 37)) := (Below.refl _ _).alloc (Nat.le_refl _) _
  have HR := Lib.hid (hr.below hB0 (Nat.le_refl _))
  have HR0 := Lib.hid hr
  have hc := hG.size
  have hco := hG.ones
  have k20 := hG.pipes
  have ws : IntKind.i64.wrap ((g.m : Int) - 1) = (g.m : Int) - 1 := by rw [IntKind.wrap_i64]; omega
  have CR := fun W a h => l06Rain_any w.heap.size b br n c g v u r W a h hn
  have CO := fun W H => l06Own_any w.heap.size b c g v W H hm
  have HG := Lib.hid hG
  obtain ⟨a, cap, rfl⟩ := hr.shape
  obtain ⟨av, cv, rfl⟩ := hv.shape
  obtain ⟨code, hcode⟩ : ∃ z, z = g.ltA n r y := ⟨_, rfl⟩
  replace hcode := Lib.hid hcode
  have CA := fun W fine a => l06Asked_any w.heap.size b c g (.slice av g.m cv) fine W a hm
  clear hG hv hr
  cases hrb : g.rnB n r with
  | false =>
    rw [hrb] at CR
    have hz : code ≠ 0 := by
      intro h
      have := (Gt.lt_of (hcode.out.symm.trans h)).2.2.1
      rw [hrb] at this
      cases this
    have hcw : g.ask false = code := by rw [hcode.out]; unfold Gt.ltA; rw [hrb]; rfl
    go_enter Try.func29, Try.ntmps29
    go_wp2_with fail
    refine (CR _ hA0.out HR.out).mono ?_
    rintro e w1 ⟨rfl, x1⟩
    have B1 := bnext hB0 x1 hB0.size
    have A1 := Lib.hid (hA0.out.below x1 (Nat.le_refl _))
    have R1 := Lib.hid (HR.out.below x1 (Nat.le_refl _))
    have z20 : w1.cell? ⟨w.heap.size, 20, none⟩ = some (.slice av g.m cv) := by rw [cell_of_rowAt A1.out.row]; exact HG.out.getP
    have l1 := A1.out.lt
    clear x1 CR hA0 HR
    go_wp2_with fail
    refine (CA _ _ A1.out).mono ?_
    rw [hcw]
    rintro e w2 ⟨rfl, x2⟩
    have B2 := Lib.hid (bnext B1 x2 B1.size)
    have A2 := Lib.hid (A1.out.below x2 (Nat.le_refl _))
    have R2 := Lib.hid (R1.out.below x2 (Nat.le_refl _))
    clear x2 B1 A1 R1 CA z20 l1
    clear hcw hrb
    have hcb : (code != 0) = true := by simpa using hz
    obtain ⟨e1, e2⟩ := Gt.lt_a (fun h => hz (hcode.out.trans h))
    rw [← hcode.out] at e2
    have E1 := Lib.hid e1
    have E2 := Lib.hid e2
    clear e1 e2 hz A2 R2
    go_wp2_with fail
    go_ret2
    exact ⟨by rw [E1.out, E2.out]; rfl, B2.out⟩
  | true =>
    rw [hrb] at CR
    have hcw : g.ask (inB y 0 ((g.m : Int) - 1)) = code := by rw [hcode.out]; unfold Gt.ltA; rw [hrb]; rfl
    by_cases hz : code = 0
    · have hA := hcode.out.symm.trans hz
      subst hz
      obtain ⟨hok, hrn, _, hy0, hym⟩ := Gt.lt_of hA
      obtain ⟨q, rfl⟩ := Int.eq_ofNat_of_zero_le hy0
      have eq' : ((q : Int)).toNat = q := by omega
      have hq : q < g.m := by omega
      have HQB := Lib.hid (fun (j : Nat) (hj : j < 1001) (hF : ∀ k, k < j → g.okT q n r k = false) (hT : g.okT q n r j = true) => show g.ltV n r (q : Int) = j ∧ g.ltC n r (q : Int) = 0 by
        have e : g.ltZ q n r = j := firstI_hit hj hF hT
        have := Gt.lt_b hA (by rw [eq', e]; omega)
        rw [eq', e] at this
        exact this)
      have HQC := Lib.hid (fun (hF : ∀ k, k < 1001 → g.okT q n r k = false) => show g.ltV n r (q : Int) = 0 ∧ g.ltC n r (q : Int) = 6 by
        have e : g.ltZ q n r = -1 := firstI_miss hF
        exact Gt.lt_c hA (by rw [eq', e]; omega))
      have COV := fun (j : Nat) (hj : j ≤ 1000) W kc c' v' bb (hA' : GutAt W kc c' (g.tk q (j : Int)) v' bb) h => l06Over_any kc bb br n c' (g.tk q (j : Int)) r v' (.slice a n cap) W hA' h hrn (Gt.tk_ok hok (by omega)) hm
      have HOT := Lib.hid (fun (j : Nat) => (firstI_bd ((g.tk q (j : Int)).ovB n r) 200).1)
      clear hok hrn hy0 hym eq' hA hrb
      go_enter Try.func29, Try.ntmps29
      go_wp2_with fail
      refine (CR _ hA0.out HR.out).mono ?_
      rintro e w1 ⟨rfl, x1⟩
      have B1 := bnext hB0 x1 hB0.size
      have A1 := Lib.hid (hA0.out.below x1 (Nat.le_refl _))
      have R1 := Lib.hid (HR.out.below x1 (Nat.le_refl _))
      have z20 : w1.cell? ⟨w.heap.size, 20, none⟩ = some (.slice av g.m cv) := by rw [cell_of_rowAt A1.out.row]; exact HG.out.getP
      have l1 := A1.out.lt
      clear x1 CR hA0 HR
      go_wp2_with fail
      refine (l00In_q _ _ _ _).mono ?_
      rintro e w9 ⟨rfl, rfl⟩
      go_wp2_with fail
      refine (CA _ _ A1.out).mono ?_
      rw [hcw]
      rintro e w2 ⟨rfl, x2⟩
      have B2 := Lib.hid (bnext B1 x2 B1.size)
      have A2 := Lib.hid (A1.out.below x2 (Nat.le_refl _))
      have R2 := Lib.hid (R1.out.below x2 (Nat.le_refl _))
      clear x2 B1 A1 R1 CA z20 l1
      clear hcw
      go_wp2_with fail
      refine (CO _ A2.out).mono ?_
      rintro e w3 ⟨a3, cap3, rfl, l3, x3⟩
      have B3 := Lib.hid (bnext B2.out x3 B2.out.size)
      have R3 := Lib.hid (R2.out.below x3 (Nat.le_refl _))
      have lw2 := A2.out.lt
      have hI := HG.out.setP' a3 cap3
      have his := hI.size
      have hio := hI.ones
      have HI := Lib.hid hI
      obtain ⟨gb, cur, rfl, hg, hrow, hs, hf⟩ : ∃ gb cur, a3 = some ⟨gb, 0, none⟩ ∧ w2.heap.size ≤ gb ∧ rowAt w3 gb = some cur ∧ g.m * 2 ≤ cur.size ∧ ∀ i, i < g.m * 2 → cur[i]? = some (pipeV g.p i) := by
        rcases l3 with ⟨h, _⟩ | ⟨gb, cc, cur, e, hg, hr, hs, hf⟩
        · omega
        · cases e
          exact ⟨gb, cur, rfl, hg, hr, hs, hf⟩
      obtain ⟨X, hX⟩ : ∃ X, setP c (.slice (some ⟨gb, 0, none⟩) g.m cap3) = X := ⟨_, rfl⟩
      rw [hX] at hI his hio HI ⊢
      have lb3 := rowAt_lt hrow
      have HRW := Lib.hid hrow
      have HF := Lib.hid hf
      clear x3 l3 A2 R2 B2 CO hI hX hrow hf
      go_wp2_with fail
      refine gen_world fun W hW => ?_
      have q0 : rowAt W w3.heap.size = some X := by rw [hW]; simpa using rowAt_alloc_at w3 X 37 _ rfl
      have bb : Below w3.heap.size w3 W := by rw [hW]; simpa using (Below.refl w3.heap.size w3).alloc (Nat.le_refl _) (.cells X 37)
      have q1 := brow bb HRW.out
      have BW := Lib.hid (bnext B3.out bb B3.out.size)
      have RW := Lib.hid (R3.out.below bb (Nat.le_refl _))
      have nk : w3.heap.size ≠ gb := by omega
      have lwg : w.heap.size ≤ gb := by omega
      have q0n : 0 ≤ (q : Int) := by omega
      have qm : (q : Int) < g.m := by omega
      clear hW bb HRW B3 R3 lb3
      generalize w3.heap.size = KO at *
      go_loopw [10] (fun iv V => ∃ (j : Nat) (cv : Array Value), j ≤ 1001 ∧ iv = .int .i64 j ∧ rowAt V KO = some X ∧ rowAt V gb = some cv ∧ Hid (g.m * 2 ≤ cv.size ∧ ∀ i, i < g.m * 2 → i ≠ q * 2 + 1 → cv[i]? = some (pipeV g.p i)) ∧ Hid (∀ k, k < j → g.okT q n r k = false) ∧ Hid (IsList V br (.slice a n cap) 1 n (fun i => .int .i64 (r i))) ∧ Hid (Below w.heap.size w V)) (fun iv _ => 1001 - (intOf iv).toNat)
      case atStart => exact ⟨0, cur, by omega, rfl, q0, q1, Lib.hid ⟨hs, fun i hi _ => HF.out i hi⟩, Lib.hid (by omega), RW, BW⟩
      case round =>
        clear q0 q1 RW BW HF hs
        obtain ⟨j, cv, hj, rfl, q0, q1, hP, hF, hR, hB⟩ := hrel
        by_cases hlt : j < 1001
        · have j0 : 0 ≤ (j : Int) := by omega
          have j1 : (j : Int) ≤ 1000 := by omega
          have w0 : IntKind.i16.wrap (j : Int) = (j : Int) := IntWalk.i16_in _ (by omega)
          have x20 : wr.cell? ⟨KO, 20, none⟩ = some (.slice (some ⟨gb, 0, none⟩) g.m cap3) := by rw [cell_of_rowAt q0]; exact HI.out.getP
          have fr := frozen_of_rowAt q1
          have lk := rowAt_lt q0
          have lg := rowAt_lt q1
          have hqs : q * 2 + 1 < cv.size := by have := hP.out.1; omega
          have xg : wr.cell? ⟨gb, q * 2 + 1, none⟩ = some cv[q * 2 + 1] := by rw [cell_of_rowAt q1, Array.getElem?_eq_getElem hqs]
          have R9 := rowAt_setCell_at wr gb (q * 2 + 1) (.int .i16 (j : Int)) (by rw [q1]; rfl)
          rw [q1, Option.getD_some] at R9
          have HR9 := Lib.hid R9
          have HK9 := Lib.hid (show rowAt (wr.setCell ⟨gb, q * 2 + 1, none⟩ (.int .i16 (j : Int))) KO = some X from (rowAt_setCell_ne _ _ _ _ _ nk).trans q0)
          have HB9 := Lib.hid (show Below w.heap.size w (wr.setCell ⟨gb, q * 2 + 1, none⟩ (.int .i16 (j : Int))) from hB.out.setCell (by simpa using lwg) _)
          have HC9 := Lib.hid (tk_cells2 (x := (j : Int)) hP.out.1 hP.out.2 hq)
          have HP9 := Lib.hid (show g.m * 2 ≤ (cv.setIfInBounds (q * 2 + 1) (.int .i16 (j : Int))).size by simpa using hP.out.1)
          have CV := COV j (by omega)
          have ho := HOT.out j
          have HOB := Lib.hid (show g.okT q n r j = decide ((g.tk q (j : Int)).ovZ n r = -1) from rfl)
          have ho' : -1 ≤ (g.tk q (j : Int)).ovZ n r := ho
          have HGT := Lib.hid (HI.out.tk (q := q) (x := (j : Int)) (by omega))
          clear ho R9
          generalize (g.tk q (j : Int)).ovZ n r = oz at *
          clear q0 q1 hB
          by_cases ho2 : oz = -1
          · have hd : decide (oz < 0) = true := by simp; omega
            obtain ⟨e1, e2⟩ := HQB.out j hlt hF.out (HOB.out.trans (decide_eq_true ho2))
            have E1 := Lib.hid e1
            have E2 := Lib.hid e2
            clear e1 e2 ho2
            go_wp2_with fail
            refine gen_callsW fun V hV => ?_
            rw [← hV] at HR9 HK9 HB9
            clear hV
            have gA : GutAt V KO X (g.tk q (j : Int)) (.slice (some ⟨gb, 0, none⟩) g.m cap3) w.heap.size := ⟨HK9.out, HGT.out, .inr ⟨gb, cap3, _, rfl, lwg, HR9.out, HP9.out, HC9.out⟩⟩
            refine (CV V KO X _ w.heap.size gA (HR0.out.below HB9.out (Nat.le_refl _))).mono ?_
            rintro e w5 ⟨rfl, b5⟩
            have B5 := Lib.hid (bnext HB9.out b5 HB9.out.size)
            clear b5 CV gA
            go_wp2_with fail
            go_ret2
            exact ⟨by rw [E1.out, E2.out]; rfl, B5.out⟩
          · have hd : decide (oz < 0) = false := by simp; omega
            have HN := Lib.hid (HOB.out.trans (decide_eq_false ho2))
            clear ho2
            go_wp2_with fail
            refine gen_callsW fun V hV => ?_
            rw [← hV] at HR9 HK9 HB9
            clear hV
            have gA : GutAt V KO X (g.tk q (j : Int)) (.slice (some ⟨gb, 0, none⟩) g.m cap3) w.heap.size := ⟨HK9.out, HGT.out, .inr ⟨gb, cap3, _, rfl, lwg, HR9.out, HP9.out, HC9.out⟩⟩
            refine (CV V KO X _ w.heap.size gA (HR0.out.below HB9.out (Nat.le_refl _))).mono ?_
            rintro e w5 ⟨rfl, b5⟩
            have B5 := Lib.hid (bnext HB9.out b5 HB9.out.size)
            have K5 := Lib.hid (brow b5 HK9.out)
            have G5 := Lib.hid (brow b5 HR9.out)
            have R5 := Lib.hid (HR0.out.below B5.out (Nat.le_refl _))
            clear b5 CV gA
            go_wp2_with fail
            refine ⟨⟨j + 1, _, by omega, by go_num, K5.out, G5.out, Lib.hid ⟨HP9.out, fun i hi hne => (HC9.out i hi).trans (congrArg some (tk_keep hne))⟩, Lib.hid fun k hk => ?_, R5, B5⟩, by simp [intOf]; omega⟩
            by_cases h : k < j
            · exact hF.out k h
            · obtain rfl : k = j := by omega
              exact HN.out
        · obtain rfl : j = 1001 := by omega
          have hj1 : ¬ ((1001 : Nat) : Int) ≤ 1000 := by omega
          obtain ⟨e1, e2⟩ := HQC.out hF.out
          have E1 := Lib.hid e1
          have E2 := Lib.hid e2
          clear e1 e2
          go_wp2_with fail
          go_ret2
          exact ⟨by rw [E1.out, E2.out]; rfl, hB.out⟩
    · clear hrb
      go_enter Try.func29, Try.ntmps29
      go_wp2_with fail
      refine (CR _ hA0.out HR.out).mono ?_
      rintro e w1 ⟨rfl, x1⟩
      have B1 := bnext hB0 x1 hB0.size
      have A1 := Lib.hid (hA0.out.below x1 (Nat.le_refl _))
      have R1 := Lib.hid (HR.out.below x1 (Nat.le_refl _))
      have z20 : w1.cell? ⟨w.heap.size, 20, none⟩ = some (.slice av g.m cv) := by rw [cell_of_rowAt A1.out.row]; exact HG.out.getP
      have l1 := A1.out.lt
      clear x1 CR hA0 HR
      go_wp2_with fail
      refine (l00In_q _ _ _ _).mono ?_
      rintro e w9 ⟨rfl, rfl⟩
      go_wp2_with fail
      refine (CA _ _ A1.out).mono ?_
      rw [hcw]
      rintro e w2 ⟨rfl, x2⟩
      have B2 := Lib.hid (bnext B1 x2 B1.size)
      have A2 := Lib.hid (A1.out.below x2 (Nat.le_refl _))
      have R2 := Lib.hid (R1.out.below x2 (Nat.le_refl _))
      clear x2 B1 A1 R1 CA z20 l1
      clear hcw
      have hcb : (code != 0) = true := by simpa using hz
      obtain ⟨e1, e2⟩ := Gt.lt_a (fun h => hz (hcode.out.trans h))
      rw [← hcode.out] at e2
      have E1 := Lib.hid e1
      have E2 := Lib.hid e2
      clear e1 e2 hz A2 R2
      go_wp2_with fail
      go_ret2
      exact ⟨by rw [E1.out, E2.out]; rfl, B2.out⟩
end Go.Proofs.Ytfdoehakpeddnaa

/- laws.FnExactLeastTakes returns true for every gutter, rain, number, and leaves them as they were. No condition. -/
namespace Go.Proofs.Ytfdoehakpeddnaa
open Go.RowKit

set_option maxRecDepth 100000 in
set_option maxHeartbeats 8000000 in
theorem law_walk_FnExactLeastTakes {w : World} {c_g : Array Value} {g_g : Gt} {v_g : Value} (hG_g : IsGut c_g g_g v_g) (hv_g : ArgPp w v_g g_g.m g_g.p) (hm_g : g_g.m ≤ maxLen) {v_r : Value} {m_r : Nat} {r : Nat → Int} (hv_r : NumsAt w v_r m_r r) (_hm_r : m_r ≤ maxLen) (_hb_r : ∀ i, i < m_r → -9223372036854775808 ≤ r i ∧ r i ≤ 9223372036854775807) {y : Int} (_hy : -9223372036854775808 ≤ y ∧ y ≤ 9223372036854775807) :
    Calls Try.prog 8 #[.agg c_g, v_r, .int .i64 y] w fun e w' => e = .returned (.bool true) ∧ Below w.heap.size w w' := by
  have PB0 := Lib.hid (show Below w.heap.size w (w.alloc (.cells c_g 28)) from (Below.refl _ _).alloc (Nat.le_refl _) _)
  have q0_g : rowAt (w.alloc (.cells c_g 28)) w.heap.size = some c_g := rowAt_alloc_at _ _ _ _ rfl
  have A_g := Lib.hid (hv_g.below PB0.out (Nat.le_refl _))
  have A_r := Lib.hid (hv_r.below PB0.out (Nat.le_refl _))
  have HG_g := Lib.hid hG_g
  have zs_g := hG_g.size
  have zo_g := hG_g.ones
  obtain ⟨av_g, cv_g, rfl⟩ := hv_g.shape
  obtain ⟨av_r, cv_r, rfl⟩ := hv_r.shape
  clear hv_g hG_g hv_r
  by_cases hl_r : m_r ≤ 1048576
  rotate_left
  · have hl1_r : (1048576 : Int) < m_r := by omega
    go_enter Try.func8, Try.ntmps8
    go_wp2_with fail
    go_ret
    exact ⟨rfl, PB0.out⟩
  have hl1_r : (m_r : Int) ≤ 1048576 := by omega
  obtain ⟨X0, hX0⟩ : ∃ X : Int, X = if (g_g.m : Int) ≤ 1048576 then (1048576 : Int) - g_g.m else (-1 : Int) := ⟨_, rfl⟩
  have HX0 := Lib.hid hX0
  by_cases hl_g : (g_g.m : Int) ≤ (1048576 : Int)
  rotate_left
  · have hx0 : decide (X0 < 0) = true := by rw [HX0.out, if_neg hl_g]; rfl
    clear hX0
    go_enter Try.func8, Try.ntmps8
    go_wp2_with fail
    refine gen_callsW fun W0 hW => ?_
    rw [← hW] at q0_g PB0 A_g A_r
    clear hW
    have H0 := Lib.hid (Below.refl W0.heap.size W0)
    refine (szGutter_any _ c_g g_g _ _ HG_g.out (A_g.out.below H0.out (Nat.le_refl _)) ⟨by omega, by omega⟩ hm_g X0 HX0.out).mono ?_
    rintro e w1 ⟨rfl, b1⟩
    have H1 := Lib.hid (bnext H0.out b1 H0.out.size)
    clear b1
    have q1_g := brow H1.out q0_g
    have n1_g := Nat.ne_of_lt (rowAt_lt q1_g)
    have l1_g := rowAt_lt q1_g
    go_wp2_with fail
    go_ret
    exact ⟨rfl, PB0.out.trans (H1.out.mono PB0.out.size)⟩
  rw [if_pos hl_g] at hX0
  have hx0 : decide (X0 < 0) = false := by simp; omega
  have hm1_g : g_g.m ≤ 1048576 := by omega
  clear hX0
  have CS := fun (W : World) (B_g B_r : Nat) (U_g U_r : Option Addr) (Y_g : Array Value) (I_g : IsGut Y_g g_g (.slice U_g g_g.m g_g.m)) (H_g : IsList W B_g (.slice U_g g_g.m g_g.m) 2 g_g.m (pipeV g_g.p)) (H_r : IsList W B_r (.slice U_r m_r m_r) 1 m_r (fun i => .int .i64 (r i))) => specLeastTakes_any B_g B_r m_r Y_g g_g (.slice U_g g_g.m g_g.m) (.slice U_r m_r m_r) r y W I_g H_g (by omega) H_r (by omega)
  have CI := fun (W : World) (B_g B_r : Nat) (U_g U_r : Option Addr) (Y_g : Array Value) (I_g : IsGut Y_g g_g (.slice U_g g_g.m g_g.m)) (H_g : IsList W B_g (.slice U_g g_g.m g_g.m) 2 g_g.m (pipeV g_g.p)) (H_r : IsList W B_r (.slice U_r m_r m_r) 1 m_r (fun i => .int .i64 (r i))) => implLeastTakes_any B_g B_r m_r Y_g g_g (.slice U_g g_g.m g_g.m) (.slice U_r m_r m_r) r y W I_g H_g (by omega) H_r (by omega)
  have hne0 : ((g_g.ltV m_r r y) != (g_g.ltV m_r r y)) = false := by simp
  generalize (g_g.ltV m_r r y) = x0 at *
  have hne1 : ((g_g.ltC m_r r y) != (g_g.ltC m_r r y)) = false := by simp
  generalize (g_g.ltC m_r r y) = x1 at *
  go_enter Try.func8, Try.ntmps8
  go_wp2_with fail
  refine gen_callsW fun W0 hW => ?_
  rw [← hW] at q0_g PB0 A_g A_r
  clear hW
  have H0 := Lib.hid (Below.refl W0.heap.size W0)
  refine (szGutter_any _ c_g g_g _ _ HG_g.out (A_g.out.below H0.out (Nat.le_refl _)) ⟨by omega, by omega⟩ hm_g X0 HX0.out).mono ?_
  rintro e w1 ⟨rfl, b1⟩
  have H1 := Lib.hid (bnext H0.out b1 H0.out.size)
  clear b1
  have q1_g := brow H1.out q0_g
  have n1_g := Nat.ne_of_lt (rowAt_lt q1_g)
  have l1_g := rowAt_lt q1_g
  go_wp2_with fail
  refine (toGutter_any c_g g_g _ _ HG_g.out (A_g.out.below H1.out (Nat.le_refl _)) (by omega)).mono ?_
  rintro e w2 ⟨u_sg, rfl, k_sg, b2⟩
  have H2 := Lib.hid (bnext H1.out b2 H1.out.size)
  have Lsg_2 := Lib.hid k_sg
  clear k_sg
  clear b2 H1
  clear q1_g n1_g l1_g
  have q2_g := brow H2.out q0_g
  have n2_g := Nat.ne_of_lt (rowAt_lt q2_g)
  have l2_g := rowAt_lt q2_g
  have is_sg := Lib.hid (HG_g.out.setP' u_sg g_g.m)
  obtain ⟨X_sg, hX_sg⟩ : ∃ X, setP c_g (.slice u_sg g_g.m g_g.m) = X := ⟨_, rfl⟩
  rw [hX_sg] at is_sg ⊢
  clear hX_sg
  have xs_sg := is_sg.out.size
  have xo_sg := is_sg.out.ones
  go_wp2_with fail
  refine (toInt64S_any _ m_r r _ (A_r.out.below H2.out (Nat.le_refl _)) (by omega)).mono ?_
  rintro e w3 ⟨u_sr, rfl, k_sr, b3⟩
  have H3 := Lib.hid (bnext H2.out b3 H2.out.size)
  have Lsg_3 := Lib.hid (Lsg_2.out.below b3 (Nat.le_refl _))
  have Lsr_3 := Lib.hid k_sr
  clear k_sr
  clear b3 H2 Lsg_2
  clear q2_g n2_g l2_g
  have q3_g := brow H3.out q0_g
  have n3_g := Nat.ne_of_lt (rowAt_lt q3_g)
  have l3_g := rowAt_lt q3_g
  go_wp2_with fail
  refine (CS _ _ _ _ _ _ is_sg.out Lsg_3.out Lsr_3.out).mono ?_
  rintro e w4 ⟨rfl, b4⟩
  have H4 := Lib.hid (bnext H3.out b4 H3.out.size)
  have Lsg_4 := Lib.hid (Lsg_3.out.below b4 (Nat.le_refl _))
  have Lsr_4 := Lib.hid (Lsr_3.out.below b4 (Nat.le_refl _))
  clear b4 H3 Lsg_3 Lsr_3
  clear q3_g n3_g l3_g
  have q4_g := brow H4.out q0_g
  have n4_g := Nat.ne_of_lt (rowAt_lt q4_g)
  have l4_g := rowAt_lt q4_g
  clear Lsg_4 Lsr_4
  go_wp2_with fail
  refine (toGutter_any c_g g_g _ _ HG_g.out (A_g.out.below H4.out (Nat.le_refl _)) (by omega)).mono ?_
  rintro e w5 ⟨u_ig, rfl, k_ig, b5⟩
  have H5 := Lib.hid (bnext H4.out b5 H4.out.size)
  have Lig_5 := Lib.hid k_ig
  clear k_ig
  clear b5 H4
  clear q4_g n4_g l4_g
  have q5_g := brow H5.out q0_g
  have n5_g := Nat.ne_of_lt (rowAt_lt q5_g)
  have l5_g := rowAt_lt q5_g
  have is_ig := Lib.hid (HG_g.out.setP' u_ig g_g.m)
  obtain ⟨X_ig, hX_ig⟩ : ∃ X, setP c_g (.slice u_ig g_g.m g_g.m) = X := ⟨_, rfl⟩
  rw [hX_ig] at is_ig ⊢
  clear hX_ig
  have xs_ig := is_ig.out.size
  have xo_ig := is_ig.out.ones
  go_wp2_with fail
  refine gen_callsW fun w6 hV => ?_
  have b6 : Below w5.heap.size w5 w6 := by rw [hV]; exact (Below.refl _ _).alloc (Nat.le_refl _) _
  have Rx_6 : rowAt w6 w5.heap.size = some X_ig := by rw [hV]; exact rowAt_alloc_at _ _ _ _ (by simp)
  clear hV
  have H6 := Lib.hid (bnext H5.out b6 H5.out.size)
  have Lig_6 := Lib.hid (Lig_5.out.below b6 (Nat.le_refl _))
  clear b6 H5 Lig_5
  clear q5_g n5_g l5_g
  have q6_g := brow H6.out q0_g
  have n6_g := Nat.ne_of_lt (rowAt_lt q6_g)
  have l6_g := rowAt_lt q6_g
  have n6_Rx := Nat.ne_of_lt (rowAt_lt Rx_6)
  have l6_Rx := rowAt_lt Rx_6
  refine (toInt64S_any _ m_r r _ (A_r.out.below H6.out (Nat.le_refl _)) (by omega)).mono ?_
  rintro e w7 ⟨u_ir, rfl, k_ir, b7⟩
  have H7 := Lib.hid (bnext H6.out b7 H6.out.size)
  have Lig_7 := Lib.hid (Lig_6.out.below b7 (Nat.le_refl _))
  have Rx_7 := brow b7 Rx_6
  have Lir_7 := Lib.hid k_ir
  clear k_ir
  clear b7 H6 Lig_6 Rx_6
  clear q6_g n6_g l6_g
  have q7_g := brow H7.out q0_g
  have n7_g := Nat.ne_of_lt (rowAt_lt q7_g)
  have l7_g := rowAt_lt q7_g
  have n7_Rx := Nat.ne_of_lt (rowAt_lt Rx_7)
  have l7_Rx := rowAt_lt Rx_7
  go_wp2_with fail
  refine (CI _ _ _ _ _ _ is_ig.out Lig_7.out Lir_7.out).mono ?_
  rintro e w8 ⟨rfl, b8⟩
  have H8 := Lib.hid (bnext H7.out b8 H7.out.size)
  have Lig_8 := Lib.hid (Lig_7.out.below b8 (Nat.le_refl _))
  have Lir_8 := Lib.hid (Lir_7.out.below b8 (Nat.le_refl _))
  have Rx_8 := brow b8 Rx_7
  clear b8 H7 Lig_7 Lir_7 Rx_7
  clear q7_g n7_g l7_g
  have q8_g := brow H8.out q0_g
  have n8_g := Nat.ne_of_lt (rowAt_lt q8_g)
  have l8_g := rowAt_lt q8_g
  have n8_Rx := Nat.ne_of_lt (rowAt_lt Rx_8)
  have l8_Rx := rowAt_lt Rx_8
  go_wp2_with fail
  refine gen_world fun wD hD => ?_
  have bD := below_of_eqG hD
  clear hD
  have Q_x := brow bD Rx_8
  have XD := Lib.hid (Lig_8.out.below bD (Nat.le_refl _))
  have HD := bnext H8.out bD H8.out.size
  have Q_g := brow HD q0_g
  refine wp_region_held_drew (S := fun w' => Below wD.heap.size wD w') (by kernel_rfl) ((Below.refl _ _).drew) (fun hH => ?_)
  refine wpAnyH_take (i := 0) (v := .agg X_ig) rfl (by kernel_rfl) (by kernel_rfl) (by kernel_rfl) (fun _ _ _ h => h) (Or.inl ⟨by rfl, ?_⟩) hH ?_
  · intro w1 hS; (try dsimp only at hS); have s0 := brow hS Q_x; go_simp
  (try simp only [List.getElem_toArray]); (try simp only [List.getElem_cons_succ]); (try simp only [List.getElem_cons_zero]); (try simp only [Act.put]); (try simp only [List.setIfInBounds_toArray]); (try simp only [List.set_cons_succ]); (try simp only [List.set_cons_zero])
  refine wpAnyH_take (i := 1) (v := .agg c_g) rfl (by kernel_rfl) (by kernel_rfl) (by kernel_rfl) (fun _ _ _ h => h) (Or.inl ⟨by rfl, ?_⟩) hH ?_
  · intro w1 hS; (try dsimp only at hS); have s0 := brow hS Q_g; go_simp
  (try simp only [List.getElem_toArray]); (try simp only [List.getElem_cons_succ]); (try simp only [List.getElem_cons_zero]); (try simp only [Act.put]); (try simp only [List.setIfInBounds_toArray]); (try simp only [List.set_cons_succ]); (try simp only [List.set_cons_zero])
  refine wpAnyH_ready (rs := [2]) (by kernel_rfl) (by simp) (AllReadyH.cons rfl (fun K hK => ?_) AllReadyH.nil)
  go_simp
  refine (toGutter_any c_g g_g _ _ HG_g.out (A_g.out.below (bnext HD hH HD.size) (Nat.le_refl _)) (by omega)).mono ?_
  rintro x wx ⟨u_t, rfl, l_t, bx⟩
  go_simp
  refine hK.out _ _ (bnext hH bx hH.size) (fun hG => ?_)
  clear hK K hH bx
  replace hH := hG
  clear hG
  (try simp only [List.getElem_toArray]); (try simp only [List.getElem_cons_succ]); (try simp only [List.getElem_cons_zero]); (try simp only [Act.put]); (try simp only [List.setIfInBounds_toArray]); (try simp only [List.set_cons_succ]); (try simp only [List.set_cons_zero])
  refine wpAnyH_ready (rs := [3]) (by kernel_rfl) (by simp) (AllReadyH.cons rfl (fun K hK => ?_) AllReadyH.nil)
  go_simp
  refine (eqGutter_same _ _ g_g _ _ _ _ _ is_ig.out (HG_g.out.setP' u_t g_g.m) (XD.out.below hH (Nat.le_refl _)) l_t (by omega)).mono ?_
  rintro x wx ⟨rfl, bx⟩
  go_simp
  refine hK.out _ _ (bnext hH bx hH.size) (fun hG => ?_)
  clear hK K hH bx
  replace hH := hG
  clear hG
  (try simp only [List.getElem_toArray]); (try simp only [List.getElem_cons_succ]); (try simp only [List.getElem_cons_zero]); (try simp only [Act.put]); (try simp only [List.setIfInBounds_toArray]); (try simp only [List.set_cons_succ]); (try simp only [List.set_cons_zero])
  refine wpAnyH_take (i := 4) (v := .bool false) rfl (by kernel_rfl) (by kernel_rfl) (by kernel_rfl) (fun _ _ _ h => h) (Or.inl ⟨by rfl, ?_⟩) hH ?_
  · intro w1 hS; (try dsimp only at hS); go_simp
  (try simp only [List.getElem_toArray]); (try simp only [List.getElem_cons_succ]); (try simp only [List.getElem_cons_zero]); (try simp only [Act.put]); (try simp only [List.setIfInBounds_toArray]); (try simp only [List.set_cons_succ]); (try simp only [List.set_cons_zero])
  refine wpAnyH_done (by kernel_rfl) ?_ _
  have bZ := bD.trans (hH.mono bD.size)
  clear hH bD HD XD l_t Q_x Q_g
  have H9 := Lib.hid (bnext H8.out bZ H8.out.size)
  have Lir_9 := Lib.hid (Lir_8.out.below bZ (Nat.le_refl _))
  clear bZ Lig_8 Lir_8 Rx_8
  go_wp2_with fail
  refine (toInt64S_any _ m_r r _ (A_r.out.below H9.out (Nat.le_refl _)) (by omega)).mono ?_
  rintro e wE ⟨u_e, rfl, k_e, bE⟩
  have HE := Lib.hid (bnext H9.out bE H9.out.size)
  have LE := Lib.hid (Lir_9.out.below bE (Nat.le_refl _))
  have KE := Lib.hid k_e
  clear bE k_e H9 Lir_9
  go_wp2_with fail
  refine (eqI m_r r _ _ _ _ _ LE.out KE.out (by omega)).mono ?_
  rintro e wF ⟨rfl, bF⟩
  have HF := Lib.hid (bnext HE.out bF HE.out.size)
  clear bF
  go_wp2_with fail
  go_ret
  exact ⟨rfl, PB0.out.trans (HF.out.mono PB0.out.size)⟩

namespace LFnExactLeastTakes
open Go.RowKit Go.ChangeShapes Go.WideShapes Go.ChangeAt
theorem own : ownKnob Try.prog.godebug = none := by kernel_rfl
theorem laidOut : laidOutB Try.prog = true := by kernel_rfl
set_option maxRecDepth 100000 in
theorem lifted (os : Os) (started : os.Started) (H : Type) (enc : TypeId × Value → H) :
    ReturnsInHanded {} Try.checked os 8 .any (Rows.fnExactLeastTakesSpec.pre6 enc Try.prog Try.f8 Rows.fnExactLeastTakesRow.domain false) (Rows.fnExactLeastTakesSpec.post enc Try.prog Try.f8 false true false false) := by
  refine returnsInHanded_of_change (C := Try.checked) own started (by kernel_rfl) Try.func8
    (ChangeSpec.witness6 (enc := enc) (C := Try.checked) false ⟨#[], #[.agg (#[.int .i8 0, .int .i16 0] ++ Array.replicate 17 (.int .i8 0) ++ #[.int .u32 0, .slice none 0 0]), .slice none 0 0, .int .i64 0], []⟩ 8 (by kernel_rfl) (by kernel_rfl) (by kernel_rfl) (by kernel_rfl)) ?_
  intro W base args ds gs before hval0 hW hcnd _
  have hval : ∀ (j : Nat) t v, Try.f8.params[j]? = some t → args[j]? = some v → Value.okWide Try.prog W .any base t v := hval0
  have hW' := hW
  obtain ⟨p, q, hA0, hV, rfl, hfz, hnd⟩ := hW
  have hA : DataW.TrodAll enc Try.prog W 0 (fun _ => true) true Try.f8.params.toList args.toList ds p := hA0
  rw [Try.params8] at hA hval
  obtain ⟨v0, vs0, d0, ds0, p0, q0, hargs, rfl, rfl, h0, r0⟩ := trodAll_cons hA
  obtain ⟨v1, vs1, d1, ds1, p1, q1, rfl, rfl, rfl, h1, r1⟩ := trodAll_cons r0
  obtain ⟨v2, vs2, d2, ds2, p2, q2, rfl, rfl, rfl, h2, r2⟩ := trodAll_cons r1
  obtain ⟨rfl, rfl, rfl⟩ := trodAll_nil r2
  obtain rfl : args = #[v0, v1, v2] := by cases args; simp_all
  obtain ⟨rfl, rfl⟩ := trodVars_none hV
  have k0 := h0
  have lt0 : ∀ x ∈ p0, x.block < W.heap.size := by obtain ⟨m, hm⟩ := k0; exact DataW.trod_lt m _ _ _ hm
  have k1 := h1
  have lt1 : ∀ x ∈ p1, x.block < W.heap.size := by obtain ⟨m, hm⟩ := k1; exact DataW.trod_lt m _ _ _ hm
  obtain ⟨c0, f0, u0, rfl, wf0, hL0, hm0⟩ := open_gut (hval 0 28 v0 rfl rfl) h0
  obtain ⟨len1, cells1, hL1, hm1, hb1⟩ := open_nums (hval 1 30 v1 rfl rfl) h1
  obtain ⟨x2, rfl, rfl, rfl, wx2⟩ := open_int Try.underlying2 (hval 2 2 v2 rfl rfl) h2
  clear hA0 hval0
  refine (law_walk_FnExactLeastTakes wf0 hL0 hm0 hL1 hm1 hb1 (bounds_i64 wx2)).mono fun e W' ⟨he, bel⟩ => ?_
  subst he
  exact ⟨_, rfl, _, _, _, [], _, [], hW', trodAll_mk1 (shut_bool Try.underlying4 _), (trodAll_cons_mk (Below.trod laidOut (by kernel_rfl) (of_decide_eq_true (by kernel_rfl)) k0 bel lt0) (trodAll_cons_mk (Below.trod laidOut (by kernel_rfl) (of_decide_eq_true (by kernel_rfl)) k1 bel lt1) (trodAll_cons_mk (shut_int Try.underlying2 wx2) trodAll_mk0))), rfl, bel.frame _, fun h => by cases h⟩

theorem over : Rows.fnExactLeastTakesRow.holds Try.pinned (OpenSpec.ofChange Rows.fnExactLeastTakesSpec) :=
  OpenClaim.holds_of_wide_leaving 8 Try.f8 rfl rfl rfl rfl rfl rfl rfl ⟨rfl, rfl, rfl, rfl, rfl⟩ rfl rfl rfl rfl rfl (by kernel_rfl) Try.func8 (by kernel_rfl)
    (of_decide_eq_true (by kernel_rfl)) (by unfold Func.isWrapper; first | (rw [if_pos (by decide +kernel)]; kernel_rfl) | (rw [if_neg (by decide +kernel)]; exact ⟨rfl, rfl⟩))
    (fun os started H enc _ => leaving_of_handed (lifted os started H enc))

theorem proved : Rows.FnExactLeastTakesSaid := over
end LFnExactLeastTakes


end Go.Proofs.Ytfdoehakpeddnaa
