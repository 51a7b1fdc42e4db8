/- Colours read from a text: the program's side. -/
import Derived.Test.YtgdhfcpmeaeioaaTcM
import Derived.Test.YtgdhfcpmeaeioaaColX
import Derived.Test.YtgdhfcpmeaeioaaBox
import Derived.Test.YtgdhfcpmeaeioaaEnd
import Derived.Deep.RegionHeld3
namespace Go.Proofs.Ytgdhfcpmeaeioaa
open Go.RowKit Go.Shelf
attribute [local go_sem] Oper.semAt_some
theorem mkS2 {A B : Prop} (m : B → A) (h : B) : A ∧ B := ⟨m h, h⟩
theorem callB {A : Prop} {w W w1 : World} (h : A ∧ Below w.heap.size w W) (b : Below W.heap.size W w1) : Below w.heap.size w w1 := bnext h.2 b h.2.size

set_option maxRecDepth 100000 in
set_option maxHeartbeats 1000000 in
theorem rdB_any (n3 n6 : Nat) (s : ByteArray) (ww i j : Nat) (w : World) (h3 : rowAt w n3 = some #[.string s]) (h6 : rowAt w n6 = some #[.int .i64 (ww + 1)]) (hi : i < 8) (hj : j < 8) (hw : ww ≤ 8) (hlt : i * (ww + 1) + j < s.size) :
    Calls Try.prog 29 #[.agg #[.int .i8 i, .int .i8 j], .pointer (some ⟨n3, 0, none⟩), .pointer (some ⟨n6, 0, none⟩)] w fun e w' => e = .returned (.bool (txB s.data.toList ww i j)) ∧ Below w.heap.size w w' := by
  have hb : (((s[i * (ww + 1) + j]'hlt).toNat : Int) == 114) = txB s.data.toList ww i j := by
    unfold txB
    rw [List.getD_eq_getElem?_getD, List.getElem?_eq_getElem (show i * (ww + 1) + j < s.data.toList.length from hlt), Option.getD_some]
    have e : s[i * (ww + 1) + j]'hlt = s.data.toList[i * (ww + 1) + j]'hlt := rfl
    rw [e, Bool.eq_iff_iff, beq_iff_eq, decide_eq_true_eq]
    constructor
    · intro h; exact UInt8.toNat_inj.1 (by rw [show (114 : UInt8).toNat = 114 from rfl]; omega)
    · intro h; rw [h]; rfl
  generalize txB s.data.toList ww i j = b at *
  have i0 : (0 : Int) ≤ i := by omega
  have i1 : (i : Int) < 8 := by omega
  have j0 : (0 : Int) ≤ j := by omega
  have j1 : (j : Int) < 8 := by omega
  have w0 : (0 : Int) ≤ ww := by omega
  have w1 : (ww : Int) ≤ 8 := by omega
  have hm : (i : Int) * (ww + 1) = ((i * (ww + 1) : Nat) : Int) := by push_cast; rfl
  have hmb : i * (ww + 1) ≤ 7 * 9 := Nat.mul_le_mul (by omega) (by omega)
  obtain ⟨k, hk⟩ : ∃ k, i * (ww + 1) = k := ⟨_, rfl⟩
  simp only [hk] at hm hmb hlt hb
  have x0 : (0 : Int) ≤ (k : Int) + j := by omega
  have x1 : (k : Int) + j < s.size := by omega
  go_enter Try.func29, Try.ntmps29
  go_wp2_with fail
  refine gen_world fun W hW => ?_
  have p0 : rowAt W w.heap.size = some #[.int .i8 i, .int .i8 j] := by rw [hW]; exact rowAt_alloc_at _ _ _ _ rfl
  have p3 : rowAt W n3 = some #[.string s] := by rw [hW]; exact (rowAt_alloc_past _ _ _ (rowAt_lt h3)).trans h3
  have p6 : rowAt W n6 = some #[.int .i64 (ww + 1)] := by rw [hW]; exact (rowAt_alloc_past _ _ _ (rowAt_lt h6)).trans h6
  have pB : Below w.heap.size w W := by rw [hW]; exact (Below.refl _ _).alloc (Nat.le_refl _) _
  clear hW
  have c0 := cell_of_rowAt p0 0
  have c1 := cell_of_rowAt p0 1
  have c3 := cell_of_rowAt p3 0
  have c6 := cell_of_rowAt p6 0
  simp at c0 c1 c3 c6
  clear p0 p3 p6 h3 h6
  go_quiet (fail)
  go_wp2_with fail
  go_ret
  exact ⟨by rw [← hb]; rfl, below_drewN pB _⟩

set_option maxRecDepth 100000 in
set_option maxHeartbeats 4000000 in
theorem implReadColours_any (c : Array Value) (r : Rf) (s : ByteArray) (w : World) (hR : IsRoof c r) (X : Array Value) (hX : mkC (r.rcG s.data.toList) = X) :
    Calls Try.prog 13 #[.agg c, .string s] w fun e w' => e = .returned (.tuple #[.agg X, .int .i64 (r.rcC s.data.toList)]) ∧ Below w.heap.size w w' := by
  have hc := hR.size
  obtain ⟨V, hV⟩ : ∃ V, r.rcC s.data.toList = V := ⟨_, rfl⟩
  rw [hV]
  have hXs : X.size = 8 := by rw [← hX]; exact size_mkI _ _ _
  have hXo : Ones X := by rw [← hX]; exact (isK_mkI _ _ _).ones
  have hz : (#[.int .u8 0, .int .u8 0, .int .u8 0, .int .u8 0, .int .u8 0, .int .u8 0, .int .u8 0, .int .u8 0] : Array Value) = mkC (fun _ => 0) := by kernel_rfl
  have hzo : Ones (#[.int .u8 0, .int .u8 0, .int .u8 0, .int .u8 0, .int .u8 0, .int .u8 0, .int .u8 0, .int .u8 0] : Array Value) := by rw [hz]; exact (isK_mkI _ _ _).ones
  have HZ := Lib.hid hz
  clear hz
  by_cases h : r.Ok
  · obtain ⟨hh, hhe⟩ : ∃ hh : Nat, r.h = hh := Int.eq_ofNat_of_zero_le (by have := h.2.2.1; omega)
    obtain ⟨ww, hwe⟩ : ∃ ww : Nat, r.w = ww := Int.eq_ofNat_of_zero_le (by have := h.1; omega)
    have h8 : hh ≤ 8 := by have := h.2.2.2.1; omega
    have w8 : ww ≤ 8 := by have := h.2.1; omega
    have CV := fun W => implValid_t c r W hR h
    have k0 : ∀ W n, rowAt W n = some c → W.cell? ⟨n, 0, none⟩ = some (.int .i8 ww) ∧ W.cell? ⟨n, 1, none⟩ = some (.int .i8 hh) := fun W n h => by
      rw [cell_of_rowAt h, cell_of_rowAt h, Array.getElem?_eq_getElem (by omega), Array.getElem?_eq_getElem (by omega), hR.wide (by omega), hR.high (by omega), hwe, hhe]
      exact ⟨rfl, rfl⟩
    have K0 := Lib.hid k0
    clear k0
    have hm : (hh : Int) * (ww + 1) = ((hh * (ww + 1) : Nat) : Int) := by push_cast; rfl
    have hmb : hh * (ww + 1) ≤ 8 * 9 := Nat.mul_le_mul (by omega) (by omega)
    have w0 : (0 : Int) ≤ ww := by omega
    have w1 : (ww : Int) ≤ 8 := by omega
    have z0 : (0 : Int) ≤ hh := by omega
    have z1 : (hh : Int) ≤ 8 := by omega
    by_cases hl : s.size = hh * (ww + 1)
    · have hne : ((s.size : Int) != ((hh * (ww + 1) : Nat) : Int)) = false := by simp [hl]
      have hT : s.data.toList.length = s.size := rfl
      obtain ⟨Y, hY⟩ : ∃ Y, mkC (r.txG s.data.toList) = Y := ⟨_, rfl⟩
      have hYs : Y.size = 8 := by rw [← hY]; exact size_mkI _ _ _
      have hYo : Ones Y := by rw [← hY]; exact (isK_mkI _ _ _).ones
      have hYI : IsCol Y (r.txG s.data.toList) := by rw [← hY]; exact isCol_mkC fun i _ => txG_lt h i
      have hY2 : mkC (colL (txB s.data.toList ww) (plUpto hh ww (hh * ww))) = Y := by rw [← hY]; unfold Rf.txG; rw [hhe, hwe]; rfl
      have CC := fun W fa hp => colourB_any 29 #[] fa (txB s.data.toList ww) (enters_of Try.func29 (by kernel_rfl) rfl) c r hh ww hhe hwe h8 w8 W hR hp Y hY2
      have CT := fun W => implColoursText_any c Y r (r.txG s.data.toList) W hR hYI
      have hctx : r.ctx (r.txG s.data.toList) = colTx (r.txG s.data.toList) ww hh := by unfold Rf.ctx; rw [if_pos (Rf.cok_t (txG_cols h)), hwe, hhe]; rfl
      have hgd : r.goodT s.data.toList ↔ colTx (r.txG s.data.toList) ww hh = s.data.toList := by unfold Rf.goodT; rw [hwe, hhe]; exact Iff.rfl
      rw [hctx] at CT
      obtain ⟨k, hk⟩ : ∃ k, hh * (ww + 1) = k := ⟨_, rfl⟩
      have hix : Hid (∀ i j, i < hh → j < ww → i * (ww + 1) + j < s.size) := Lib.hid fun i j hi hj => by
        have := Nat.mul_le_mul_right (ww + 1) (show i + 1 ≤ hh from hi)
        rw [Nat.add_mul] at this
        omega
      simp only [hk] at hm hmb hne
      have HY := Lib.hid hY
      have hcmp : ((⟨(colTx (r.txG s.data.toList) ww hh).toArray⟩ : ByteArray).toList == s.toList) = decide (colTx (r.txG s.data.toList) ww hh = s.data.toList) := by
        rw [bytes_toList, bytes_toList, Bool.eq_iff_iff, beq_iff_eq, decide_eq_true_eq]
      have HX := Lib.hid hX
      have HCD : Hid ((r.goodT s.data.toList → r.rcC s.data.toList = 0) ∧ (¬ r.goodT s.data.toList → r.rcC s.data.toList = 5)) := Lib.hid ⟨rcC_ok h, rcC_syn h⟩
      generalize colTx (r.txG s.data.toList) ww hh = U at *
      clear hX hY hY2 hctx hl hk h hhe hwe hT hYI
      go_enter Try.func13, Try.ntmps13
      go_wp2_with fail
      refine gen_callsW fun W hW => ?_
      have p0 : rowAt W w.heap.size = some c := by rw [hW]; exact (rowAt_alloc_past _ _ _ (by simp; omega)).trans ((rowAt_alloc_past _ _ _ (by simp)).trans (rowAt_alloc_at _ _ _ _ rfl))
      have p1 : rowAt W (w.heap.size + 1) = some #[.string s] := by rw [hW]; exact (rowAt_alloc_past _ _ _ (by simp)).trans (rowAt_alloc_at _ _ _ _ (by simp))
      have p2 : rowAt W (w.heap.size + 1 + 1) = some (mkC (fun _ => 0)) := by rw [hW, ← HZ.out]; exact rowAt_alloc_at _ _ _ _ (by simp)
      have pB : Below w.heap.size w W := by rw [hW]; exact (((Below.refl _ _).alloc (Nat.le_refl _) _).alloc (by simp) _).alloc (by simp; omega) _
      clear hW
      refine (CV _).mono ?_
      rintro e w1 ⟨rfl, b1⟩
      have q0 := brow b1 p0
      have q1 := brow b1 p1
      have q2 := brow b1 p2
      have B1 := bnext pB b1 pB.size
      clear b1 p0 p1 p2 pB CV
      have l2 := rowAt_lt q2
      have m0 : w.heap.size ≠ w1.heap.size := by omega
      have m1 : w.heap.size + 1 ≠ w1.heap.size := by omega
      have m2 : w.heap.size + 1 + 1 ≠ w1.heap.size := by omega
      have c0 := (K0.out _ _ q0).1
      have a0 := fun o => (rowAt_alloc_past w1 o w.heap.size (rowAt_lt q0)).trans q0
      have a1 := fun o => (K0.out (w1.alloc o) _ (a0 o)).2
      have a2 := fun o => (cell_of_rowAt ((rowAt_alloc_past w1 o (w.heap.size + 1) (rowAt_lt q1)).trans q1) 0)
      simp at a2
      go_wp2_with fail
      refine gen_callsW fun W2 hW => ?_
      have r0 : rowAt W2 w.heap.size = some c := by rw [hW]; exact a0 _
      have r1 : rowAt W2 (w.heap.size + 1) = some #[.string s] := by rw [hW]; exact (rowAt_alloc_past _ _ _ (rowAt_lt q1)).trans q1
      have r2 : rowAt W2 (w.heap.size + 1 + 1) = some (mkC (fun _ => 0)) := by rw [hW]; exact (rowAt_alloc_past _ _ _ l2).trans q2
      have r6 : rowAt W2 w1.heap.size = some #[.int .i64 (ww + 1)] := by rw [hW]; exact rowAt_alloc_at _ _ _ _ rfl
      have rB : Below w.heap.size w W2 := by rw [hW]; exact B1.alloc B1.size _
      clear hW q0 q1 q2 B1 a0 a1 a2 c0
      have HP : PredPlB 29 #[] #[.pointer (some ⟨w.heap.size + 1, 0, none⟩), .pointer (some ⟨w1.heap.size, 0, none⟩)] hh ww (txB s.data.toList ww) W2 := fun i j W' hi hj B => by
        simpa using rdB_any (w.heap.size + 1) w1.heap.size s ww i j W' (brow B r1) (brow B r6) (by omega) (by omega) w8 (hix.out i j hi hj)
      refine (CC _ _ HP).mono ?_
      rintro e w3 ⟨rfl, b3⟩
      have s0 := brow b3 r0
      have s1 := brow b3 r1
      have s2 := brow b3 r2
      have B3 := bnext rB b3 rB.size
      clear b3 r0 r1 r2 r6 rB CC
      have l3 := rowAt_lt s2
      go_wp2_with fail
      refine gen_world fun W4 hW => ?_
      have p0 : rowAt W4 w.heap.size = some c := by rw [hW]; exact (rowAt_alloc_past _ _ _ (rowAt_lt s0)).trans s0
      have p1 : rowAt W4 (w.heap.size + 1) = some #[.string s] := by rw [hW]; exact (rowAt_alloc_past _ _ _ (rowAt_lt s1)).trans s1
      have p2 : rowAt W4 (w.heap.size + 1 + 1) = some (mkC (fun _ => 0)) := by rw [hW]; exact (rowAt_alloc_past _ _ _ l3).trans s2
      have p7 : rowAt W4 w3.heap.size = some Y := by rw [hW]; exact rowAt_alloc_at _ _ _ _ rfl
      have pB : Below w.heap.size w W4 := by rw [hW]; exact B3.alloc B3.size _
      clear hW s0 s1 s2 B3
      have HM := Lib.hid (fun W' (b : Below W4.heap.size W4 W') => (show rowAt W' w.heap.size = some c ∧ rowAt W' w3.heap.size = some Y ∧ W'.cell? ⟨w.heap.size + 1, 0, none⟩ = some (.string s) from ⟨brow b p0, brow b p7, by rw [cell_of_rowAt (brow b p1)]; rfl⟩))
      go_region_held3 (fun w' => (rowAt w' w.heap.size = some c ∧ rowAt w' w3.heap.size = some Y ∧ w'.cell? ⟨w.heap.size + 1, 0, none⟩ = some (.string s)) ∧ Below W4.heap.size W4 w')
        ((refine mkS2 (HM.out _) ?_; first | exact (Below.refl _ _).drew | exact callB (by assumption) (by assumption)))
        (first | (go_at_call 11; (with_reducible refine (CT _).mono ?_); rintro x wx ⟨rfl, bx⟩))
      rename_i g
      obtain ⟨⟨_, g7, _⟩, gB⟩ := g
      have g2 := brow gB p2
      have GB := bnext pB gB pB.size
      have zs : (mkC (fun _ => 0)).size = 8 := size_mkI _ _ _
      clear HM bx p0 p1 p2 p7 pB gB HP CT hcmp
      generalize hq : (!(U == s.toList)) = q
      by_cases hU : U = s.data.toList
      · have hcd := HCD.out.1 (hgd.2 hU)
        obtain rfl : q = false := by rw [← hq, bytes_toList, hU]; simp
        obtain rfl : X = Y := by rw [← HX.out, rcG_ok hcd]; exact HY.out
        obtain rfl : V = 0 := hV.symm.trans hcd
        clear hcd hgd hU HCD HX hV hq
        go_wp2_with fail
        refine bodyPost_ret (v := .tuple #[.agg X, .int .i64 0]) (results_row2 (m := 8) rfl _ _ (w.heap.size + 1 + 1) _ _ rfl rfl (rowAt_setRow_at _ _ _ (Option.isSome_iff_exists.2 ⟨_, g2⟩)) Try.underlying32 rfl (by kernel_rfl) hYs) rfl ⟨rfl, ?_⟩
        exact below_setRow GB (by omega) _
      · have hcd := HCD.out.2 (fun h => hU (hgd.1 h))
        obtain rfl : q = true := by rw [← hq, bytes_toList]; simpa using hU
        have hFz : (#[.int .u8 0, .int .u8 0, .int .u8 0, .int .u8 0, .int .u8 0, .int .u8 0, .int .u8 0, .int .u8 0] : Array Value) = X := by rw [HZ.out, ← HX.out, rcG_no (by rw [hcd]; decide)]
        obtain rfl : V = 5 := hV.symm.trans hcd
        have HFZ := Lib.hid hFz
        clear hcd hgd hU HCD HX hFz hV hq
        go_wp2_with fail
        rw [HFZ.out]
        refine bodyPost_ret (v := .tuple #[.agg X, .int .i64 5]) (results_row2 (m := 8) rfl _ _ (w.heap.size + 1 + 1) _ _ rfl rfl (rowAt_setRow_at _ _ _ (Option.isSome_iff_exists.2 ⟨_, g2⟩)) Try.underlying32 rfl (by kernel_rfl) hXs) rfl ⟨rfl, ?_⟩
        exact below_setRow GB (by omega) _
    · have hcd : r.rcC s.data.toList = 5 := rcC_syn h fun g => hl (by have := goodT_len g; rw [hhe, hwe] at this; simpa using this)
      have hFz : (#[.int .u8 0, .int .u8 0, .int .u8 0, .int .u8 0, .int .u8 0, .int .u8 0, .int .u8 0, .int .u8 0] : Array Value) = X := by rw [HZ.out, ← hX, rcG_no (by rw [hcd]; decide)]
      have hne : ((s.size : Int) != ((hh * (ww + 1) : Nat) : Int)) = true := by simp only [bne_iff_ne, ne_eq]; omega
      obtain rfl : V = 5 := hV.symm.trans hcd
      have HFZ := Lib.hid hFz
      obtain ⟨k, hk⟩ : ∃ k, hh * (ww + 1) = k := ⟨_, rfl⟩
      simp only [hk] at hm hmb hne
      clear hX hcd hFz hl hk h hhe hwe hV
      go_enter Try.func13, Try.ntmps13
      go_wp2_with fail
      refine gen_callsW fun W hW => ?_
      have p0 : rowAt W w.heap.size = some c := by rw [hW]; exact (rowAt_alloc_past _ _ _ (by simp; omega)).trans ((rowAt_alloc_past _ _ _ (by simp)).trans (rowAt_alloc_at _ _ _ _ rfl))
      have p1 : rowAt W (w.heap.size + 1) = some #[.string s] := by rw [hW]; exact (rowAt_alloc_past _ _ _ (by simp)).trans (rowAt_alloc_at _ _ _ _ (by simp))
      have p2 : rowAt W (w.heap.size + 1 + 1) = some (mkC (fun _ => 0)) := by rw [hW, ← HZ.out]; exact rowAt_alloc_at _ _ _ _ (by simp)
      have pB : Below w.heap.size w W := by rw [hW]; exact (((Below.refl _ _).alloc (Nat.le_refl _) _).alloc (by simp) _).alloc (by simp; omega) _
      clear hW
      refine (CV _).mono ?_
      rintro e w1 ⟨rfl, b1⟩
      have q0 := brow b1 p0
      have q1 := brow b1 p1
      have q2 := brow b1 p2
      have B1 := bnext pB b1 pB.size
      clear b1 p0 p1 p2 pB CV
      have l2 := rowAt_lt q2
      have m0 : w.heap.size ≠ w1.heap.size := by omega
      have m1 : w.heap.size + 1 ≠ w1.heap.size := by omega
      have c0 := (K0.out _ _ q0).1
      have a1 := fun o => (K0.out (w1.alloc o) _ ((rowAt_alloc_past _ _ _ (rowAt_lt q0)).trans q0)).2
      have a2 := fun o => (cell_of_rowAt ((rowAt_alloc_past w1 o (w.heap.size + 1) (rowAt_lt q1)).trans q1) 0)
      simp at a2
      have zs : (mkC (fun _ => 0)).size = 8 := size_mkI _ _ _
      have m2 : w.heap.size + 1 + 1 ≠ w1.heap.size := by omega
      have a3 := fun o => (rowAt_alloc_past w1 o (w.heap.size + 1 + 1) l2).trans q2
      go_wp2_with fail
      rw [HFZ.out]
      have lw : w.heap.size + 1 + 1 < (w1.setRow (w.heap.size + 1 + 1) X).heap.size := by simpa using l2
      refine bodyPost_ret (v := .tuple #[.agg X, .int .i64 5]) (results_row2 (m := 8) rfl _ _ (w.heap.size + 1 + 1) _ _ rfl rfl ((rowAt_alloc_past _ _ _ lw).trans (rowAt_setRow_at _ _ _ (Option.isSome_iff_exists.2 ⟨_, q2⟩))) Try.underlying32 rfl (by kernel_rfl) hXs) rfl ⟨rfl, ?_⟩
      exact (below_setRow B1 (by omega) _).alloc (by have := B1.size; simp; omega) _
  · have hcd : r.rcC s.data.toList = 1 := rcC_bad h
    have hFz : (#[.int .u8 0, .int .u8 0, .int .u8 0, .int .u8 0, .int .u8 0, .int .u8 0, .int .u8 0, .int .u8 0] : Array Value) = X := by rw [HZ.out, ← hX, rcG_no (by rw [hcd]; decide)]
    obtain rfl : V = 1 := hV.symm.trans hcd
    have HFZ := Lib.hid hFz
    have CV := fun W => implValid_f c r W hR h
    clear hX hcd hFz h hV
    go_enter Try.func13, Try.ntmps13
    go_wp2_with fail
    refine gen_callsW fun W hW => ?_
    have p2 : rowAt W (w.heap.size + 1 + 1) = some (mkC (fun _ => 0)) := by rw [hW, ← HZ.out]; exact rowAt_alloc_at _ _ _ _ (by simp)
    have pB : Below w.heap.size w W := by rw [hW]; exact (((Below.refl _ _).alloc (Nat.le_refl _) _).alloc (by simp) _).alloc (by simp; omega) _
    clear hW
    refine (CV _).mono ?_
    rintro e w1 ⟨rfl, b1⟩
    have q2 := brow b1 p2
    have B1 := bnext pB b1 pB.size
    clear b1 p2 pB CV
    have l2 := rowAt_lt q2
    have zs : (mkC (fun _ => 0)).size = 8 := size_mkI _ _ _
    go_wp2_with fail
    rw [HFZ.out]
    refine bodyPost_ret (v := .tuple #[.agg X, .int .i64 1]) (results_row2 (m := 8) rfl _ _ (w.heap.size + 1 + 1) _ _ rfl rfl (rowAt_setRow_at _ _ _ (Option.isSome_iff_exists.2 ⟨_, q2⟩)) Try.underlying32 rfl (by kernel_rfl) hXs) rfl ⟨rfl, ?_⟩
    exact below_setRow B1 (by omega) _
end Go.Proofs.Ytgdhfcpmeaeioaa
