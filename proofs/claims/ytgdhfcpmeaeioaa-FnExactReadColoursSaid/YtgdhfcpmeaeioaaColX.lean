/- The text of colours, both sides. -/
import Derived.Test.YtgdhfcpmeaeioaaColS
import Derived.Test.YtgdhfcpmeaeioaaBld
import Derived.Test.YtgdhfcpmeaeioaaTxt
import Derived.Test.YtgdhfcpmeaeioaaGive
import Derived.Deep.QuietTactic
import Derived.BigQuiet
namespace Go.Proofs.Ytgdhfcpmeaeioaa
open Go.RowKit

/-- The text of colours; none where they are not valid. -/
noncomputable def Rf.ctx (r : Rf) (g : Nat → Nat) : List UInt8 := if r.cok g = true then colTx g r.w.toNat r.h.toNat else []

set_option maxRecDepth 100000 in
set_option maxHeartbeats 2000000 in
theorem implColoursText_any (c d : Array Value) (r : Rf) (g : Nat → Nat) (w : World) (hR : IsRoof c r) (hC : IsCol d g) :
    Calls Try.prog 11 #[.agg c, .agg d] w fun e w' => e = .returned (.string ⟨(r.ctx g).toArray⟩) ∧ Below w.heap.size w w' := by
  have hc := hR.size
  have hd := hC.size
  have hd1 := hC.ones
  obtain ⟨F, hF⟩ : ∃ F, r.ctx g = F := ⟨_, rfl⟩
  rw [hF]
  have HFF := Lib.hid hF
  clear hF
  by_cases h : r.Cols g
  · have ho := h.1
    obtain ⟨ww, hwe⟩ := Int.eq_ofNat_of_zero_le (show 0 ≤ r.w by have := ho.1; omega)
    obtain ⟨hh, hhe⟩ := Int.eq_ofNat_of_zero_le (show 0 ≤ r.h by have := ho.2.2.1; omega)
    have w8 : ww ≤ 8 := by have := ho.2.1; omega
    have h8 : hh ≤ 8 := by have := ho.2.2.2.1; omega
    have HX : Hid (F = colTx g ww hh) := Lib.hid (by rw [← HFF.out]; unfold Rf.ctx; rw [if_pos (Rf.cok_t h), hwe, hhe]; rfl)
    have k0 : ∀ W n, rowAt W n = some c → W.cell? ⟨n, 0, none⟩ = some (.int .i8 ww) ∧ W.cell? ⟨n, 1, none⟩ = some (.int .i8 hh) := fun W n h => by
      rw [cell_of_rowAt h, cell_of_rowAt h, Array.getElem?_eq_getElem (by omega), Array.getElem?_eq_getElem (by omega), hR.wide (by omega), hR.high (by omega), hwe, hhe]
      exact ⟨rfl, rfl⟩
    have K0 := Lib.hid k0
    clear k0 hwe hhe
    have CV := fun W => implValidCol_t c d r g W hR hC h
    go_enter Try.func11, Try.ntmps11
    go_wp2_with fail
    refine gen_callsW fun W hW => ?_
    have p0 : rowAt W w.heap.size = some c := by rw [hW]; exact (rowAt_alloc_past _ _ _ (by simp)).trans (rowAt_alloc_at _ _ _ _ rfl)
    have p1 : rowAt W (w.heap.size + 1) = some d := by rw [hW]; exact rowAt_alloc_at _ _ _ _ (by simp)
    have pB : Below w.heap.size w W := by rw [hW]; exact ((Below.refl _ _).alloc (Nat.le_refl _) _).alloc (by simp) _
    clear hW
    refine (CV _).mono ?_
    rintro e w1 ⟨rfl, b1⟩
    have q0 := brow b1 p0
    have q1 := brow b1 p1
    have B1 := bnext pB b1 pB.size
    clear b1 p0 p1 pB CV
    have l1 := rowAt_lt q1
    have cc := fun o => (K0.out (w1.alloc o) _ ((rowAt_alloc_past _ _ _ (rowAt_lt q0)).trans q0)).2
    have i0 : (0 : Int) ≤ hh := by omega
    have i8 : (hh : Int) ≤ 8 := by omega
    go_wp2_with fail
    refine gen_world fun W2 hW => ?_
    have r0 : rowAt W2 w.heap.size = some c := by rw [hW]; exact (rowAt_alloc_past _ _ _ (rowAt_lt q0)).trans q0
    have r1 : rowAt W2 (w.heap.size + 1) = some d := by rw [hW]; exact (rowAt_alloc_past _ _ _ (rowAt_lt q1)).trans q1
    have r2 : Bld w1.heap.size w1.heap.size [] W2 := by rw [hW]; exact bld_new w1 _ (Nat.le_refl _)
    have rB : Below w.heap.size w W2 := by rw [hW]; exact B1.alloc B1.size _
    have rS : w1.heap.size ≤ W2.heap.size := by rw [hW]; simp
    clear hW q0 q1 B1 cc
    go_loopw [17] (fun i W' => ∃ n : Nat, n ≤ hh ∧ i = .int .i64 n ∧ rowAt W' w.heap.size = some c ∧ rowAt W' (w.heap.size + 1) = some d ∧ Bld w1.heap.size w1.heap.size (colTx g ww n) W' ∧ Below w.heap.size w W' ∧ w1.heap.size ≤ W'.heap.size) (fun i _ => hh - (intOf i).toNat)
    case atStart => exact ⟨0, by omega, rfl, r0, r1, r2, rB, rS⟩
    case round =>
      clear r0 r1 r2 rB rS
      obtain ⟨n, hn, rfl, r0, r1, r2, rB, rS⟩ := hrel
      by_cases hlt : n < hh
      · have c0 := (K0.out _ _ r0).1
        have cg : wr.cell? ⟨w.heap.size + 1, n, none⟩ = some (.int .u8 (g n)) := (cell_of_rowAt r1 n).trans (hC.cell (by omega))
        have g8 := hC.hi n (by omega)
        have n0 : (0 : Int) ≤ n := by omega
        have n1 : (n : Int) < hh := by omega
        go_wp2_with fail
        go_loopw [23] (fun i W' => ∃ k : Nat, k ≤ ww ∧ i = .int .i8 k ∧ rowAt W' w.heap.size = some c ∧ rowAt W' (w.heap.size + 1) = some d ∧ Bld w1.heap.size w1.heap.size (colTx g ww n ++ rowTx (g n) k) W' ∧ Below w.heap.size w W' ∧ w1.heap.size ≤ W'.heap.size) (fun i _ => ww - (intOf i).toNat)
        case atStart => exact ⟨0, by omega, rfl, r0, r1, by simpa [rowTx] using r2, rB, rS⟩
        case round =>
          clear r0 r1 r2 rB rS c0 cg
          obtain ⟨k, hk, rfl, r0, r1, r2, rB, rS⟩ := hrel
          by_cases hkl : k < ww
          · have k0 : (0 : Int) ≤ k := by omega
            have k1 : (k : Int) < ww := by omega
            have e0 : min k 8 = k := by omega
            have ha := and8_num ⟨g n, g8⟩ ⟨k, by omega⟩
            dsimp only at ha
            have hL : (colTx g ww n ++ rowTx (g n) k).length + 1 ≤ 1000000 := by
              rw [List.length_append, colTx_len, rowTx_len]
              have : n * (ww + 1) ≤ 8 * 9 := Nat.mul_le_mul (by omega) (by omega)
              omega
            have CW := writeByte_any (bitB (g n) k) r2 hL rS
            have hrx : colTx g ww n ++ rowTx (g n) k ++ [bitB (g n) k] = colTx g ww n ++ rowTx (g n) (k + 1) := by simp [rowTx]
            rw [hrx] at CW
            clear hrx hL
            cases hb : (g n).testBit k with
            | true =>
              rw [hb, if_pos rfl] at ha
              rw [show bitB (g n) k = 114 from if_pos hb] at CW
              clear hb
              go_wp2_with fail
              refine CW.mono ?_
              rintro e w2 ⟨rfl, b2, bb⟩
              have hs2 := bb.size
              clear CW
              go_wp2_with fail
              refine ⟨⟨k + 1, by omega, by go_num, brow' bb (by omega) r0, brow' bb (by omega) r1, b2, rB.trans (bb.mono (by omega)), by omega⟩, by simp [intOf]; omega⟩
            | false =>
              rw [hb, if_neg (by decide)] at ha
              rw [show bitB (g n) k = 98 from if_neg (by rw [hb]; decide)] at CW
              clear hb
              go_wp2_with fail
              refine CW.mono ?_
              rintro e w2 ⟨rfl, b2, bb⟩
              have hs2 := bb.size
              clear CW
              go_wp2_with fail
              refine ⟨⟨k + 1, by omega, by go_num, brow' bb (by omega) r0, brow' bb (by omega) r1, b2, rB.trans (bb.mono (by omega)), by omega⟩, by simp [intOf]; omega⟩
          · obtain rfl : k = ww := by omega
            have hL : (colTx g k n ++ rowTx (g n) k).length + (⟨#[10]⟩ : ByteArray).size ≤ 1000000 := by
              rw [List.length_append, colTx_len, rowTx_len]
              have : n * (k + 1) ≤ 8 * 9 := Nat.mul_le_mul (by omega) (by omega)
              have : (⟨#[10]⟩ : ByteArray).size = 1 := rfl
              omega
            have CW := writeString_any ⟨#[10]⟩ r2 hL rS
            have hrx : colTx g k n ++ rowTx (g n) k ++ (⟨#[10]⟩ : ByteArray).data.toList = colTx g k (n + 1) := by simp [colTx]
            rw [hrx] at CW
            clear hrx hL
            go_wp2_with fail
            refine CW.mono ?_
            rintro e w2 ⟨rfl, b2, bb⟩
            have hs2 := bb.size
            clear CW
            go_wp2_with fail
            refine ⟨⟨n + 1, by omega, by go_num, brow' bb (by omega) r0, brow' bb (by omega) r1, b2, rB.trans (bb.mono (by omega)), by omega⟩, by simp [intOf]; omega⟩
      · obtain rfl : n = hh := by omega
        have CS := string_any r2 rS
        rw [← HX.out] at CS
        go_wp2_with fail
        refine CS.mono ?_
        rintro e w2 ⟨rfl, bb⟩
        go_wp2_with fail
        go_ret
        exact ⟨rfl, rB.trans (bb.mono (by omega))⟩
  · have HX : Hid (F = []) := Lib.hid (by rw [← HFF.out]; unfold Rf.ctx; rw [if_neg (by rw [Rf.cok_f h]; decide)])
    have CV := fun W => implValidCol_f c d r g W hR hC h
    go_enter Try.func11, Try.ntmps11
    go_wp2_with fail
    refine gen_callsW fun W hW => ?_
    have pB : Below w.heap.size w W := by rw [hW]; exact ((Below.refl _ _).alloc (Nat.le_refl _) _).alloc (by simp) _
    clear hW
    refine (CV _).mono ?_
    rintro e w1 ⟨rfl, b1⟩
    have B1 := bnext pB b1 pB.size
    go_wp2_with fail
    go_ret
    exact ⟨by rw [HX.out]; rfl, B1⟩

set_option maxRecDepth 100000 in
set_option maxHeartbeats 2000000 in
theorem l07Text_any (n0 m0 : Nat) (c d : Array Value) (r : Rf) (g : Nat → Nat) (w : World) (hr : rowAt w n0 = some c) (hR : IsRoof c r) (hd : rowAt w m0 = some d) (hC : IsCol d g) (h : r.Cols g) :
    Calls Try.prog 24 #[.pointer (some ⟨n0, 0, none⟩), .pointer (some ⟨m0, 0, none⟩)] w fun e w' => e = .returned (.string ⟨(r.ctx g).toArray⟩) ∧ w' = w := by
  have hc := hR.size
  obtain ⟨F, hF⟩ : ∃ F, r.ctx g = F := ⟨_, rfl⟩
  rw [hF]
  have HFF := Lib.hid hF
  clear hF
  have ho := h.1
  obtain ⟨ww, hwe⟩ := Int.eq_ofNat_of_zero_le (show 0 ≤ r.w by have := ho.1; omega)
  obtain ⟨hh, hhe⟩ := Int.eq_ofNat_of_zero_le (show 0 ≤ r.h by have := ho.2.2.1; omega)
  have w8 : ww ≤ 8 := by have := ho.2.1; omega
  have h8 : hh ≤ 8 := by have := ho.2.2.2.1; omega
  have HX : Hid (F = colTx g ww hh) := Lib.hid (by rw [← HFF.out]; unfold Rf.ctx; rw [if_pos (Rf.cok_t h), hwe, hhe]; rfl)
  have c0 : w.cell? ⟨n0, 0, none⟩ = some (.int .i8 ww) := by rw [cell_of_rowAt hr, Array.getElem?_eq_getElem (by omega), hR.wide (by omega), hwe]
  have c1 : w.cell? ⟨n0, 1, none⟩ = some (.int .i8 hh) := by rw [cell_of_rowAt hr, Array.getElem?_eq_getElem (by omega), hR.high (by omega), hhe]
  clear hwe hhe
  go_enter Try.func24, Try.ntmps24
  go_wp2_with fail
  go_loop [5, 6] (fun s i => ∃ n : Nat, n ≤ hh ∧ i = .int .i64 n ∧ s = .string ⟨(colTx g ww n).toArray⟩) (fun _ i => hh - (intOf i).toNat)
  case atStart => exact ⟨0, by omega, rfl, rfl⟩
  case round =>
    obtain ⟨n, hn, rfl, rfl⟩ := hrel
    by_cases hlt : n < hh
    · have cg : w.cell? ⟨m0, n, none⟩ = some (.int .u8 (g n)) := (cell_of_rowAt hd n).trans (hC.cell (by omega))
      have g8 := hC.hi n (by omega)
      have z0 : (0 : Int) ≤ n := by omega
      have z1 : (n : Int) < hh := by omega
      go_wp2_with fail
      go_loop [5, 7] (fun s i => ∃ k : Nat, k ≤ ww ∧ i = .int .i8 k ∧ s = .string ⟨(colTx g ww n ++ rowTx (g n) k).toArray⟩) (fun _ i => ww - (intOf i).toNat)
      case atStart => exact ⟨0, by omega, rfl, by simp [rowTx]⟩
      case round =>
        obtain ⟨k, hk, rfl, rfl⟩ := hrel
        by_cases hkl : k < ww
        · have k0 : (0 : Int) ≤ k := by omega
          have k1 : (k : Int) < ww := by omega
          have e0 : min k 8 = k := by omega
          have hbm := bit_tm (g n) k
          have hL : (colTx g ww n ++ rowTx (g n) k).length ≤ 1000 := by
            rw [List.length_append, colTx_len, rowTx_len]
            have : n * (ww + 1) ≤ 8 * 9 := Nat.mul_le_mul (by omega) (by omega)
            omega
          have hrx : colTx g ww n ++ rowTx (g n) k ++ [bitB (g n) k] = colTx g ww n ++ rowTx (g n) (k + 1) := by simp [rowTx]
          have HR := Lib.hid hrx
          have SA := fun (b : UInt8) W => add_one (W := W) (colTx g ww n ++ rowTx (g n) k) b (by omega)
          generalize colTx g ww n ++ rowTx (g n) k = T at *
          clear hrx hL
          cases hb : (g n).testBit k with
          | true =>
            rw [hb] at hbm
            rw [show bitB (g n) k = 114 from if_pos hb] at HR
            clear hb
            go_wp2_with fail
            refine ⟨⟨k + 1, by omega, by go_num, by rw [HR.out]⟩, by simp [intOf]; omega⟩
          | false =>
            rw [hb] at hbm
            rw [show bitB (g n) k = 98 from if_neg (by rw [hb]; decide)] at HR
            clear hb
            go_wp2_with fail
            refine ⟨⟨k + 1, by omega, by go_num, by rw [HR.out]⟩, by simp [intOf]; omega⟩
        · obtain rfl : k = ww := by omega
          have hL : (colTx g k n ++ rowTx (g n) k).length ≤ 1000 := by
            rw [List.length_append, colTx_len, rowTx_len]
            have : n * (k + 1) ≤ 8 * 9 := Nat.mul_le_mul (by omega) (by omega)
            omega
          have SA := fun W => add_one (W := W) (colTx g k n ++ rowTx (g n) k) 10 (by omega)
          have HR := Lib.hid (show colTx g k n ++ rowTx (g n) k ++ [10] = colTx g k (n + 1) from rfl)
          generalize colTx g k n ++ rowTx (g n) k = T at *
          clear hL
          go_wp2_with fail
          refine ⟨⟨n + 1, by omega, by go_num, by rw [HR.out]⟩, by simp [intOf]; omega⟩
    · obtain rfl : n = hh := by omega
      go_wp2_with fail
      go_ret
      exact ⟨by rw [HX.out]; rfl, rfl⟩

set_option maxRecDepth 100000 in
set_option maxHeartbeats 2000000 in
theorem specColoursText_any (c d : Array Value) (r : Rf) (g : Nat → Nat) (w : World) (hR : IsRoof c r) (hC : IsCol d g) :
    Calls Try.prog 9 #[.agg c, .agg d] w fun e w' => e = .returned (.string ⟨(r.ctx g).toArray⟩) ∧ Below w.heap.size w w' := by
  have hc := hR.size
  have hd := hC.size
  by_cases h : r.Cols g
  · have CV := fun W H0 H1 => l07Colours_t w.heap.size (w.heap.size + 1) c d r g W H0 hR H1 hC h
    have CT := fun W H0 H1 => l07Text_any w.heap.size (w.heap.size + 1) c d r g W H0 hR H1 hC h
    generalize (⟨(r.ctx g).toArray⟩ : ByteArray) = S at *
    go_enter Try.func9, Try.ntmps9
    go_wp2_with fail
    refine gen_callsW fun W hW => ?_
    have p0 : rowAt W w.heap.size = some c := by rw [hW]; exact (rowAt_alloc_past _ _ _ (by simp)).trans (rowAt_alloc_at _ _ _ _ rfl)
    have p1 : rowAt W (w.heap.size + 1) = some d := by rw [hW]; exact rowAt_alloc_at _ _ _ _ (by simp)
    have pB : Below w.heap.size w W := by rw [hW]; exact ((Below.refl _ _).alloc (Nat.le_refl _) _).alloc (by simp) _
    clear hW
    refine (CV _ p0 p1).mono ?_
    rintro e w1 ⟨rfl, b1⟩
    have q0 := brow b1 p0
    have q1 := brow b1 p1
    have B1 := bnext pB b1 pB.size
    clear b1 p0 p1 pB CV
    go_wp2_with fail
    refine (CT _ q0 q1).mono ?_
    rintro e w2 ⟨rfl, rfl⟩
    go_wp2_with fail
    go_ret
    exact ⟨rfl, B1⟩
  · have hx : r.ctx g = [] := by unfold Rf.ctx; rw [if_neg (by rw [Rf.cok_f h]; decide)]
    rw [hx]
    have CV := fun W H0 H1 => l07Colours_f w.heap.size (w.heap.size + 1) c d r g W H0 hR H1 hC h
    go_enter Try.func9, Try.ntmps9
    go_wp2_with fail
    refine gen_callsW fun W hW => ?_
    have p0 : rowAt W w.heap.size = some c := by rw [hW]; exact (rowAt_alloc_past _ _ _ (by simp)).trans (rowAt_alloc_at _ _ _ _ rfl)
    have p1 : rowAt W (w.heap.size + 1) = some d := by rw [hW]; exact rowAt_alloc_at _ _ _ _ (by simp)
    have pB : Below w.heap.size w W := by rw [hW]; exact ((Below.refl _ _).alloc (Nat.le_refl _) _).alloc (by simp) _
    clear hW
    refine (CV _ p0 p1).mono ?_
    rintro e w1 ⟨rfl, b1⟩
    have B1 := bnext pB b1 pB.size
    go_wp2_with fail
    go_ret
    exact ⟨rfl, B1⟩
end Go.Proofs.Ytgdhfcpmeaeioaa
