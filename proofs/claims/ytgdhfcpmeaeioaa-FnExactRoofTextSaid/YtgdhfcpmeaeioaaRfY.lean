/- The text of a roof: the model's side. -/
import Derived.Test.YtgdhfcpmeaeioaaRfX
namespace Go.Proofs.Ytgdhfcpmeaeioaa
open Go.RowKit

theorem conv_new (w : World) (x : Int) : (convert 45 9 (.slice (some ⟨w.heap.size, 0, none⟩) 1 1)).run Try.prog (w.alloc (.cells #[.int .u8 x] 5)) = .ok (.string ⟨#[UInt8.ofNat x.toNat]⟩) (w.alloc (.cells #[.int .u8 x] 5)) := by
  rw [run_convert_bytes_string _ 45 9 5 _ 1 1 Try.underlying45 Try.underlying5 Try.underlying9]
  have hl := run_loadCells_list (P := Try.prog) (w.alloc (.cells #[.int .u8 x] 5)) ⟨w.heap.size, 0, none⟩ [.int .u8 x] (cell_one_new _ _ _)
  rw [run_bytesToString _ ⟨w.heap.size, 0, none⟩ 1 1 [x] hl]
  rfl

set_option maxRecDepth 100000 in
set_option maxHeartbeats 2000000 in
theorem l01Text_any (n0 : Nat) (c : Array Value) (r : Rf) (w : World) (hr : rowAt w n0 = some c) (hR : IsRoof c r) (ho : r.Ok) :
    Calls Try.prog 16 #[.pointer (some ⟨n0, 0, none⟩)] w fun e w' => e = .returned (.string ⟨r.text.toArray⟩) ∧ Below w.heap.size w w' := by
  have hc := hR.size
  obtain ⟨F, hF⟩ : ∃ F, r.text = F := ⟨_, rfl⟩
  rw [hF]
  have HFF := Lib.hid hF
  clear hF
  obtain ⟨ww, hwe⟩ := Int.eq_ofNat_of_zero_le (show 0 ≤ r.w by have := ho.1; omega)
  obtain ⟨hh, hhe⟩ := Int.eq_ofNat_of_zero_le (show 0 ≤ r.h by have := ho.2.2.1; omega)
  have w8 : ww ≤ 8 := by have := ho.2.1; omega
  have h8 : hh ≤ 8 := by have := ho.2.2.2.1; omega
  have HX : Hid (F = r.rows ww hh) := Lib.hid (by rw [← HFF.out]; unfold Rf.text; rw [if_pos (Rf.ok_true ho), hwe, hhe]; rfl)
  have k0 : ∀ W, rowAt W n0 = some c → W.cell? ⟨n0, 0, none⟩ = some (.int .i8 ww) ∧ W.cell? ⟨n0, 1, none⟩ = some (.int .i8 hh) := fun W h => by
    rw [cell_of_rowAt h, cell_of_rowAt h, Array.getElem?_eq_getElem (by omega), Array.getElem?_eq_getElem (by omega), hR.wide (by omega), hR.high (by omega), hwe, hhe]
    exact ⟨rfl, rfl⟩
  have K0 := Lib.hid k0
  clear k0 hwe hhe
  go_enter Try.func16, Try.ntmps16
  go_wp2_with fail
  go_loopw [3, 4] (fun s i W' => ∃ n : Nat, n ≤ hh ∧ i = .int .i64 n ∧ s = .string ⟨(r.rows ww n).toArray⟩ ∧ Below w.heap.size w W') (fun _ i _ => hh - (intOf i).toNat)
  case atStart => exact ⟨0, by omega, rfl, rfl, Below.refl _ _⟩
  case round =>
    obtain ⟨n, hn, rfl, rfl, hB⟩ := hrel
    have r0 := brow hB hr
    have c1 := (K0.out _ r0).2
    by_cases hlt : n < hh
    · have z0 : (0 : Int) ≤ n := by omega
      have z1 : (n : Int) < hh := by omega
      have CB := fun W h => l01By_any n0 c r n W h hR (by omega)
      have by01 := r.by_bd n
      have HRr := Lib.hid (show r.rows ww (n + 1) = r.rows ww n ++ r.pre n ++ kindTx (r.kd n) ww ++ r.post n ++ [10] from rfl)
      have hN := r.rows_len ww n
      have hNb : n * (ww + 2) ≤ 8 * 10 := Nat.mul_le_mul (by omega) (by omega)
      obtain ⟨A, hA⟩ : ∃ A, r.rows ww n = A := ⟨_, rfl⟩
      rw [hA] at hN HRr
      rw [hA]
      clear hA
      have hpre : Hid (∀ x, (r.by n == 1) = x → r.pre n = if x then [45] else []) := Lib.hid fun x h => by unfold Rf.pre; rw [h]
      have hpost : Hid (∀ x, (r.by n == 1) = x → r.post n = if x then [] else [45]) := Lib.hid fun x h => by unfold Rf.post; rw [h]
      generalize r.by n = b at *
      rcases (show b = 0 ∨ b = 1 by omega) with rfl | rfl
      · have hp := hpre.out false rfl
        have hq := hpost.out false rfl
        simp only [hp, hq, Bool.false_eq_true, if_false, List.append_nil] at HRr
        clear hp hq hpre hpost by01
        go_wp2_with fail
        refine (CB _ r0).mono ?_
        rintro e w1 ⟨rfl, rfl⟩
        go_wp2_with fail
        go_loopw [3, 6] (fun s i W' => ∃ k : Nat, k ≤ ww ∧ i = .int .i8 k ∧ s = .string ⟨(A ++ kindTx (r.kd n) k).toArray⟩ ∧ Below w.heap.size w W') (fun _ i _ => ww - (intOf i).toNat)
        case atStart => exact ⟨0, by omega, rfl, by simp [kindTx], hB⟩
        case round =>
          clear hB r0 c1
          obtain ⟨k, hk, rfl, rfl, hB⟩ := hrel
          have r0 := brow hB hr
          have c0 := (K0.out _ r0).1
          by_cases hkl : k < ww
          · have y0 : (0 : Int) ≤ k := by omega
            have y1 : (k : Int) < ww := by omega
            have y8 : (k : Int) < 8 := by omega
            have z8 : (n : Int) < 8 := by omega
            have hkd := Rf.kd_eq hR ho (i := n) (j := k) (by omega) (by omega)
            have ck : wr.cell? ⟨n0, 3 + n * 8 + k, none⟩ = some (.int .u8 (r.kd n k)) := (cell_of_rowAt r0 _).trans hkd.1
            have hT := kindTx_len (r.kd n) k
            have HT := Lib.hid (show A ++ kindTx (r.kd n) (k + 1) = A ++ kindTx (r.kd n) k ++ [mark (r.kd n k)] by simp [kindTx])
            have cv := fun x => conv_new wr x
            have hlen : (A ++ kindTx (r.kd n) k).length ≤ 1000 := by simp only [List.length_append, hT, hN]; omega
            generalize A ++ kindTx (r.kd n) k = T at *
            have SA := fun (b : UInt8) W => add_one (W := W) T b (by omega)
            rcases mark_cases hkd.2 with ⟨e1, e2⟩ | ⟨e1, e2⟩ | ⟨e1, e2⟩ | ⟨e1, e2⟩
            all_goals
              rw [e1] at ck
              rw [e2] at HT
              clear e1 e2 hkd r0 hT
              go_wp2_with fail
              refine ⟨⟨k + 1, by omega, by go_num, ?_, hB.alloc hB.size _⟩, by simp [intOf]; omega⟩
              rw [HT.out]
              rfl
          · obtain rfl : k = ww := by omega
            have hT := kindTx_len (r.kd n) k
            have hlen : (A ++ kindTx (r.kd n) k).length ≤ 1000 := by simp only [List.length_append, hT, hN]; omega
            generalize A ++ kindTx (r.kd n) k = T at *
            have SA := fun W => add_one (W := W) T 45 (by omega)
            have SB := fun W => add_one (W := W) (T ++ [45]) 10 (by simp; omega)
            go_wp2_with fail
            refine ⟨⟨n + 1, by omega, by go_num, by rw [HRr.out]; simp, hB⟩, by simp [intOf]; omega⟩
      · have hp := hpre.out true rfl
        have hq := hpost.out true rfl
        simp only [hp, hq, if_true, List.append_nil] at HRr
        clear hp hq hpre hpost by01
        have SA := fun W => add_one (W := W) A 45 (by omega)
        go_wp2_with fail
        refine (CB _ r0).mono ?_
        rintro e w1 ⟨rfl, rfl⟩
        go_wp2_with fail
        clear SA
        go_loopw [3, 6] (fun s i W' => ∃ k : Nat, k ≤ ww ∧ i = .int .i8 k ∧ s = .string ⟨((A ++ [45]) ++ kindTx (r.kd n) k).toArray⟩ ∧ Below w.heap.size w W') (fun _ i _ => ww - (intOf i).toNat)
        case atStart => exact ⟨0, by omega, rfl, by simp [kindTx], hB⟩
        case round =>
          clear hB r0 c1
          obtain ⟨k, hk, rfl, rfl, hB⟩ := hrel
          have r0 := brow hB hr
          have c0 := (K0.out _ r0).1
          by_cases hkl : k < ww
          · have y0 : (0 : Int) ≤ k := by omega
            have y1 : (k : Int) < ww := by omega
            have y8 : (k : Int) < 8 := by omega
            have z8 : (n : Int) < 8 := by omega
            have hkd := Rf.kd_eq hR ho (i := n) (j := k) (by omega) (by omega)
            have ck : wr.cell? ⟨n0, 3 + n * 8 + k, none⟩ = some (.int .u8 (r.kd n k)) := (cell_of_rowAt r0 _).trans hkd.1
            have hT := kindTx_len (r.kd n) k
            have HT := Lib.hid (show (A ++ [45]) ++ kindTx (r.kd n) (k + 1) = (A ++ [45]) ++ kindTx (r.kd n) k ++ [mark (r.kd n k)] by simp [kindTx])
            have cv := fun x => conv_new wr x
            have hlen : ((A ++ [45]) ++ kindTx (r.kd n) k).length ≤ 1000 := by simp only [List.length_append, List.length_singleton, hT, hN]; omega
            generalize (A ++ [45]) ++ kindTx (r.kd n) k = T at *
            have SA := fun (b : UInt8) W => add_one (W := W) T b (by omega)
            rcases mark_cases hkd.2 with ⟨e1, e2⟩ | ⟨e1, e2⟩ | ⟨e1, e2⟩ | ⟨e1, e2⟩
            all_goals
              rw [e1] at ck
              rw [e2] at HT
              clear e1 e2 hkd r0 hT
              go_wp2_with fail
              refine ⟨⟨k + 1, by omega, by go_num, ?_, hB.alloc hB.size _⟩, by simp [intOf]; omega⟩
              rw [HT.out]
              rfl
          · obtain rfl : k = ww := by omega
            have hT := kindTx_len (r.kd n) k
            have hlen : ((A ++ [45]) ++ kindTx (r.kd n) k).length ≤ 1000 := by simp only [List.length_append, List.length_singleton, hT, hN]; omega
            generalize (A ++ [45]) ++ kindTx (r.kd n) k = T at *
            have SB := fun W => add_one (W := W) T 10 (by omega)
            go_wp2_with fail
            refine ⟨⟨n + 1, by omega, by go_num, by rw [HRr.out], hB⟩, by simp [intOf]; omega⟩
    · obtain rfl : n = hh := by omega
      go_wp2_with fail
      go_ret
      exact ⟨by rw [HX.out]; rfl, hB⟩

set_option maxRecDepth 100000 in
set_option maxHeartbeats 2000000 in
theorem specRoofText_any (c : Array Value) (r : Rf) (w : World) (hR : IsRoof c r) :
    Calls Try.prog 6 #[.agg c] w fun e w' => e = .returned (.string ⟨r.text.toArray⟩) ∧ Below w.heap.size w w' := by
  have hc := hR.size
  have CV := fun W H0 => l01Ok_any w.heap.size c r W H0 hR
  by_cases ho : r.Ok
  · have CT := fun W H0 => l01Text_any w.heap.size c r W H0 hR ho
    generalize (⟨r.text.toArray⟩ : ByteArray) = S at *
    rw [Rf.ok_true ho] at CV
    go_enter Try.func6, Try.ntmps6
    go_wp2_with fail
    refine gen_callsW fun W hW => ?_
    have p0 : rowAt W w.heap.size = some c := by rw [hW]; exact rowAt_alloc_at _ _ _ _ rfl
    have pB : Below w.heap.size w W := by rw [hW]; exact (Below.refl _ _).alloc (Nat.le_refl _) _
    clear hW
    refine (CV _ p0).mono ?_
    rintro e w1 ⟨rfl, b1⟩
    have q0 := brow b1 p0
    have B1 := bnext pB b1 pB.size
    go_wp2_with fail
    refine (CT _ q0).mono ?_
    rintro e w2 ⟨rfl, b2⟩
    go_wp2_with fail
    go_ret
    exact ⟨rfl, bnext B1 b2 B1.size⟩
  · have hx : r.text = [] := by unfold Rf.text; rw [if_neg (by rw [Rf.ok_false ho]; decide)]
    rw [hx]
    rw [Rf.ok_false ho] at CV
    go_enter Try.func6, Try.ntmps6
    go_wp2_with fail
    refine gen_callsW fun W hW => ?_
    have p0 : rowAt W w.heap.size = some c := by rw [hW]; exact rowAt_alloc_at _ _ _ _ rfl
    have pB : Below w.heap.size w W := by rw [hW]; exact (Below.refl _ _).alloc (Nat.le_refl _) _
    clear hW
    refine (CV _ p0).mono ?_
    rintro e w1 ⟨rfl, b1⟩
    go_wp2_with fail
    go_ret
    exact ⟨rfl, bnext pB b1 pB.size⟩
end Go.Proofs.Ytgdhfcpmeaeioaa
