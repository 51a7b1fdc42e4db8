/- Even rain: contracts of both sides. -/
import Derived.Test.YtcopdilmkfmpiaaRainV
import Derived.Test.YtcopdilmkfmpiaaEnd
namespace Go.Proofs.Ytcopdilmkfmpiaa
open Go.RowKit

theorem zero17 : (#[.int .i16 0, .int .i16 0, .int .i16 0, .int .i16 0, .int .i16 0, .int .i16 0, .int .i16 0, .int .i16 0, .int .i16 0, .int .i16 0, .int .i16 0, .int .i16 0, .int .i16 0, .int .i16 0, .int .i16 0, .int .i16 0, .int .i16 0] : Array Value) = mkI .i16 17 fun _ => 0 := by kernel_rfl
theorem ones17 : Ones (#[.int .i16 0, .int .i16 0, .int .i16 0, .int .i16 0, .int .i16 0, .int .i16 0, .int .i16 0, .int .i16 0, .int .i16 0, .int .i16 0, .int .i16 0, .int .i16 0, .int .i16 0, .int .i16 0, .int .i16 0, .int .i16 0, .int .i16 0] : Array Value) := by rw [zero17]; exact (isK_mkI _ _ _).ones

def evT (q : Nat) (a : Int) (i : Nat) : Int := if i < q then a else 0
noncomputable def Rf.evF (r : Rf) (a : Int) : Nat → Int := if r.told (inB a 0 1000) = 0 then evT (2 * r.w + 1).toNat a else fun _ => 0
theorem evT_succ {q : Nat} {a : Int} : ∀ i, i < 17 → upd (evT q a) q a i = evT (q + 1) a i := fun i _ => by
  unfold evT
  by_cases h : i = q
  · subst h; rw [upd_at, if_pos (by omega)]
  · rw [upd_ne _ _ h]
    by_cases h1 : i < q
    · rw [if_pos h1, if_pos (by omega)]
    · rw [if_neg h1, if_neg (by omega)]

set_option maxRecDepth 100000 in
set_option maxHeartbeats 1000000 in
theorem evenRain_any (c : Array Value) (r : Rf) (a : Int) (w : World) (hR : IsRoof c r) (ho : r.Ok) (a0 : 0 ≤ a) (a1 : a ≤ 1000) :
    Calls Try.prog 50 #[.agg c, .int .i64 a] w fun e w' => e = .returned (.agg (mkI .i16 17 (evT (2 * r.w + 1).toNat a))) ∧ Below w.heap.size w w' := by
  have hc := hR.size
  have hw1 := ho.1
  have hw8 := ho.2.1
  obtain ⟨q, hq⟩ := Int.eq_ofNat_of_zero_le (show 0 ≤ 2 * r.w + 1 by omega)
  have q17 : q ≤ 17 := by omega
  have CA := fun w => across_any c r w hR
  rw [hq] at CA
  rw [hq, show (q : Int).toNat = q from rfl]
  clear hq
  go_enter Try.func50, Try.ntmps50
  go_wp2_with fail
  refine (CA _).mono ?_
  rintro e w1 ⟨rfl, b1⟩
  have z2 : rowAt w1 (w.heap.size + 1) = some (mkI .i16 17 fun _ => 0) := by
    refine (brow b1 ((rowAt_alloc_past _ _ _ (by simp)).trans (rowAt_alloc_at _ _ _ _ (by simp)))).trans ?_
    kernel_rfl
  have z3 : rowAt w1 (w.heap.size + 1 + 1) = some (mkI .i16 17 fun _ => 0) := by
    refine (brow b1 (rowAt_alloc_at _ _ _ _ (by simp))).trans ?_
    kernel_rfl
  have B1 : Below w.heap.size w w1 := ((((Below.refl _ _).alloc (Nat.le_refl _) _).alloc (by simp) _).alloc (by simp; omega) _).trans (b1.mono (by simp; omega))
  have Z2 := Lib.hid z2
  have Z3 := Lib.hid z3
  clear b1 z2 z3 CA
  go_wp2_with fail
  go_loopw [9] (fun i W => ∃ k : Nat, k ≤ q ∧ i = .int .i64 k ∧ rowAt W (w.heap.size + 1 + 1) = some (mkI .i16 17 (evT k a)) ∧ rowAt W (w.heap.size + 1) = some (mkI .i16 17 fun _ => 0) ∧ Below w.heap.size w W) (fun i _ => q - (intOf i).toNat)
  case atStart => exact ⟨0, by omega, rfl, Z3.out.trans (congrArg some (mkI_congr fun i _ => by unfold evT; rw [if_neg (by omega)])), Z2.out, B1⟩
  case round =>
    obtain ⟨k, hk, rfl, r3, r2, hB⟩ := hrel
    clear B1
    by_cases hlt : k < q
    · have c3 : wr.cell? ⟨w.heap.size + 1 + 1, k, none⟩ = some (.int .i16 (evT k a k)) := by rw [cell_of_rowAt r3]; exact (isK_mkI _ _ _).get (by omega)
      have f3 := frozen_of_rowAt r3
      have R3 := Lib.hid r3
      have R2 := Lib.hid r2
      have k0 : (0 : Int) ≤ k := by omega
      have k1 : (k : Int) < 17 := by omega
      clear r3 r2
      go_wp2_with fail
      refine ⟨⟨k + 1, by omega, by go_num, ?_, (rowAt_setCell_ne _ _ _ _ _ (by omega)).trans R2.out, hB.setCell (p := ⟨_, k, none⟩) (by simp; omega) _⟩, by simp [intOf]; omega⟩
      rw [rowAt_setCell_at _ _ _ _ (by rw [R3.out]; rfl), R3.out, Option.getD_some]
      exact congrArg some (((isK_mkI _ _ _).set k a).congr evT_succ).eq
    · obtain rfl : k = q := by omega
      have hs := size_mkI .i16 17 (evT k a)
      have hs2 := size_mkI .i16 17 (fun _ => 0)
      have ho1 := (isK_mkI .i16 17 (evT k a)).ones
      generalize hX : mkI .i16 17 (evT k a) = X at *
      have HX := Lib.hid hX
      clear hX
      have hne : w.heap.size + 1 + 1 ≠ w.heap.size + 1 := by omega
      go_wp2_with fail
      refine bodyPost_ret (v := .agg X) (results_row1 rfl _ _ (w.heap.size + 1) X rfl (by simp [go_sem, r2]) Try.underlying69 rfl (by kernel_rfl) hs) rfl ⟨by rw [HX.out], ?_⟩
      exact below_setRow hB (by omega) _

set_option maxRecDepth 100000 in
set_option maxHeartbeats 1000000 in
theorem l02Even_any (n : Nat) (c : Array Value) (r : Rf) (a : Int) (w : World) (hr : rowAt w n = some c) (hR : IsRoof c r) (ho : r.Ok) (a0 : 0 ≤ a) (a1 : a ≤ 1000) :
    Calls Try.prog 43 #[.pointer (some ⟨n, 0, none⟩), .int .i64 a] w fun e w' => e = .returned (.agg (mkI .i16 17 (evT (2 * r.w + 1).toNat a))) ∧ Below w.heap.size w w' := by
  have hn := rowAt_lt hr
  have hw1 := ho.1
  have hw8 := ho.2.1
  obtain ⟨q, hq⟩ := Int.eq_ofNat_of_zero_le (show 0 ≤ 2 * r.w + 1 by omega)
  have q17 : q ≤ 17 := by omega
  have HQ := Lib.hid hq
  rw [hq, show (q : Int).toNat = q from rfl]
  have o17 := ones17
  clear hq
  go_enter Try.func43, Try.ntmps43
  go_wp2_with fail
  refine gen_world fun W hW => ?_
  have z2 : rowAt W w.heap.size = some (mkI .i16 17 fun _ => 0) := by
    rw [hW, rowAt_alloc_past _ _ _ (by simp), rowAt_alloc_at _ _ _ _ rfl]; kernel_rfl
  have z3 : rowAt W (w.heap.size + 1) = some (mkI .i16 17 fun _ => 0) := by
    rw [hW, rowAt_alloc_at _ _ _ _ (by simp)]; kernel_rfl
  have B1 : Below w.heap.size w W := by rw [hW]; exact ((Below.refl _ _).alloc (Nat.le_refl _) _).alloc (by simp) _
  clear hW
  go_loopw [6] (fun i W => ∃ k : Nat, k ≤ q ∧ i = .int .i64 k ∧ rowAt W (w.heap.size + 1) = some (mkI .i16 17 (evT k a)) ∧ rowAt W w.heap.size = some (mkI .i16 17 fun _ => 0) ∧ Below w.heap.size w W) (fun i _ => q - (intOf i).toNat)
  case atStart => exact ⟨0, by omega, rfl, z3.trans (congrArg some (mkI_congr fun i _ => by unfold evT; rw [if_neg (by omega)])), z2, B1⟩
  case round =>
    obtain ⟨k, hk, rfl, r3, r2, hB⟩ := hrel
    clear B1 z2 z3
    have rN := brow' hB hn hr
    by_cases hlt : k < q
    · have c3 : wr.cell? ⟨w.heap.size + 1, k, none⟩ = some (.int .i16 (evT k a k)) := by rw [cell_of_rowAt r3]; exact (isK_mkI _ _ _).get (by omega)
      have f3 := frozen_of_rowAt r3
      have R3 := Lib.hid r3
      have R2 := Lib.hid r2
      have k0 : (0 : Int) ≤ k := by omega
      have k1 : (k : Int) < 17 := by omega
      clear r3 r2
      go_wp2_with fail
      refine (l01Cells_any n c r _ rN hR).mono ?_
      rw [HQ.out]
      rintro e w2 ⟨rfl, rfl⟩
      go_wp2_with fail
      refine ⟨⟨k + 1, by omega, by go_num, ?_, (rowAt_setCell_ne _ _ _ _ _ (by omega)).trans R2.out, hB.setCell (p := ⟨_, k, none⟩) (by simp) _⟩, by simp [intOf]; omega⟩
      rw [rowAt_setCell_at _ _ _ _ (by rw [R3.out]; rfl), R3.out, Option.getD_some]
      exact congrArg some (((isK_mkI _ _ _).set k a).congr evT_succ).eq
    · obtain rfl : k = q := by omega
      have hs := size_mkI .i16 17 (evT k a)
      have hs2 := size_mkI .i16 17 (fun _ => 0)
      have ho1 := (isK_mkI .i16 17 (evT k a)).ones
      generalize hX : mkI .i16 17 (evT k a) = X at *
      have HX := Lib.hid hX
      clear hX
      have hne : w.heap.size + 1 ≠ w.heap.size := by omega
      go_wp2_with fail
      refine (l01Cells_any n c r _ rN hR).mono ?_
      rw [HQ.out]
      rintro e w2 ⟨rfl, rfl⟩
      go_wp2_with fail
      refine bodyPost_ret (v := .agg X) (results_row1 rfl _ _ w.heap.size X rfl (by simp [go_sem, r2]) Try.underlying69 rfl (by kernel_rfl) hs) rfl ⟨by rw [HX.out], ?_⟩
      exact below_setRow hB (by omega) _

noncomputable def Rf.evA (r : Rf) (a : Int) : Array Value := mkI .i16 17 (r.evF a)
theorem Rf.evA_t {r : Rf} {a : Int} (h : r.told (inB a 0 1000) = 0) : r.evA a = mkI .i16 17 (evT (2 * r.w + 1).toNat a) := by unfold Rf.evA Rf.evF; rw [if_pos h]
theorem Rf.evA_f {r : Rf} {a : Int} (h : r.told (inB a 0 1000) ≠ 0) : r.evA a = mkI .i16 17 fun _ => 0 := by unfold Rf.evA Rf.evF; rw [if_neg h]

end Go.Proofs.Ytcopdilmkfmpiaa
