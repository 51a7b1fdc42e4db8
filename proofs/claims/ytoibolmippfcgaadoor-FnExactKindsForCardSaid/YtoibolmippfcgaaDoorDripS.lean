/- The sum of all drips: contracts of both sides. -/
import Derived.Test.YtoibolmippfcgaaDoorRunL
import Derived.Test.YtoibolmippfcgaaDoorRunDown
namespace Go.Proofs.YtoibolmippfcgaaDoor
open Go.RowKit

/-- An array out of an array of arrays. -/
theorem run_index_agg {P : Program} {ty e : TypeId} {d : TypeDesc} {n m : Nat} (hu : P.underlying ty = some (.array n e)) (he : P.underlying e = some d) (hd : (match d with | .struct _ | .array _ _ => true | _ => false) = true) (hi : (P.info? e).map (·.size) = some m)
    (cs : Array Value) (w : World) (i : Int) (h0 : 0 ≤ i) (h1 : i < n) (_hm : cs.size = n * m) :
    (indexWhole ty (.agg cs) (.int .i64 i)).run P w = .ok (.agg (cs.extract (i.toNat * m) (i.toNat * m + m))) w := by
  show (Instr.index ty (.agg cs) (.int .i64 i)).run P w = _
  obtain ⟨k, rfl⟩ := Int.eq_ofNat_of_zero_le h0
  have hkn : k < n := by omega
  have hagg : (isAgg e).run P w = .ok true w := by
    unfold isAgg
    rw [Sem.run_bind, run_underlying he w]
    cases d <;> simp_all
  cases hq : P.info? e with
  | none => simp [hq] at hi
  | some j =>
    have hsz : j.size = m := by simpa [hq] using hi
    have hu' := run_underlying hu w
    simp [Instr.index, asIntOf, Sem.run_bind, hu', hkn, part, hagg, sizeOf, typeInfo, hq, hsz]

/-- An array out of a struct. -/
theorem run_field_agg {P : Program} {ty e : TypeId} {fs : Array Field} {d : TypeDesc} {i m o : Nat} (hu : P.underlying ty = some (.struct fs)) (hf : (fs[i]?).map (fun f => (f.type, f.offset)) = some (e, o)) (he : P.underlying e = some d) (hd : (match d with | .struct _ | .array _ _ => true | _ => false) = true) (hi : (P.info? e).map (·.size) = some m)
    (cs : Array Value) (w : World) : (Instr.field ty (.agg cs) i).run P w = .ok (.agg (cs.extract o (o + m))) w := by
  have hagg : (isAgg e).run P w = .ok true w := by
    unfold isAgg
    rw [Sem.run_bind, run_underlying he w]
    cases d <;> simp_all
  cases hq : P.info? e with
  | none => simp [hq] at hi
  | some j =>
    have hsz : j.size = m := by simpa [hq] using hi
    have hu' := run_underlying hu w
    cases hfi : fs[i]? with
    | none => simp [hfi] at hf
    | some f =>
      simp [hfi] at hf
      simp [Instr.field, asAgg, Sem.run_bind, hu', hfi, hf.1, hf.2, part, hagg, sizeOf, typeInfo, hq, hsz]
set_option maxRecDepth 100000 in
@[go_sem] theorem field_flow1 (cs : Array Value) (w : World) : (Instr.field 87 (.agg cs) 1).run Tryd.prog w = .ok (.agg (cs.extract 153 289)) w :=
  run_field_agg (o := 153) (m := 136) Tryd.underlying87 (by kernel_rfl) Tryd.underlying47 rfl (by kernel_rfl) cs w

@[go_sem ↓] theorem index_drips (v i : Value) : Instr.index 47 v i = indexWhole 47 v i := rfl
@[go_sem] theorem run_index_drips (cs : Array Value) (w : World) (i : Int) (h0 : 0 ≤ i) (h1 : i < (8 : Nat)) (hm : cs.size = 8 * 17) :
    (indexWhole 47 (.agg cs) (.int .i64 i)).run Tryd.prog w = .ok (.agg (cs.extract (i.toNat * 17) (i.toNat * 17 + 17))) w := run_index_agg Tryd.underlying47 Tryd.underlying44 rfl (by kernel_rfl) cs w i h0 h1 hm

set_option maxRecDepth 100000 in
set_option maxHeartbeats 1000000 in
theorem dsum_any (X : Array Value) (D : Nat → Int) (w : World) (hX : IsK .i32 X 136 D) (hb : ∀ i, i < 136 → 0 ≤ D i ∧ D i ≤ 1000) :
    Calls Tryd.prog 77 #[.agg X] w fun e w' => e = .returned (.int .i64 (sumTo D 136)) ∧ Below w.heap.size w w' := by
  have hd := hX.size
  have hd' : X.size = 8 * 17 := by omega
  have h1 := hX.ones
  have HB := Lib.hid hb; clear hb
  go_enter Tryd.func77, Tryd.ntmps77
  go_wp2_with fail
  go_loopw [3, 9] (fun s i W => ∃ k : Nat, k ≤ 8 ∧ i = .int .i64 k ∧ s = .int .i64 (sumTo D (k * 17)) ∧ Below w.heap.size w W) (fun _ i _ => 8 - (intOf i).toNat)
  case atStart => exact ⟨0, by omega, rfl, rfl, (Below.refl _ _).alloc (Nat.le_refl _) _⟩
  case round =>
    obtain ⟨k, hk, rfl, rfl, hB⟩ := hrel
    by_cases hlt : k < 8
    · have hs8 : (X.extract (k * 17) (k * 17 + 17)).size = 17 := by simp; omega
      have ho8 : Ones (X.extract (k * 17) (k * 17 + 17)) := h1.extract _ _
      have hrow := hX.extract (k * 17) 17 (by omega)
      have k0 : (0 : Int) ≤ k := by omega
      have k1 : (k : Int) < 8 := by omega
      go_wp2_with fail
      go_loop [3, 13] (fun s i => ∃ j : Nat, j ≤ 17 ∧ i = .int .i64 j ∧ s = .int .i64 (sumTo D (k * 17 + j))) (fun _ i => 17 - (intOf i).toNat)
      case atStart => exact ⟨0, by omega, rfl, rfl⟩
      case round =>
        obtain ⟨j, hj, rfl, rfl⟩ := hrel
        by_cases hjl : j < 17
        · have hj1 : j < (X.extract (k * 17) (k * 17 + 17)).size := by omega
          have h0 := hrow.cell j hj1
          have x0 := HB.out (k * 17 + j) (by omega)
          have x1 := sumTo_bd (t := D) (n := k * 17 + j) fun i hi => HB.out i (by omega)
          have x2 : sumTo D (k * 17 + j) + D (k * 17 + j) = sumTo D (k * 17 + j + 1) := rfl
          have HX := Lib.hid x2; clear x2
          go_wp2_with fail
          refine ⟨⟨j + 1, by omega, by go_num, by rw [HX.out]; rfl⟩, by simp [intOf]; omega⟩
        · obtain rfl : j = 17 := by omega
          have hkk : k * 17 + 17 = (k + 1) * 17 := by omega
          have HK := Lib.hid hkk
          clear hkk
          go_wp2_with fail
          refine ⟨⟨k + 1, by omega, by go_num, by rw [HK.out], hB.alloc hB.size _⟩, by simp [intOf]; omega⟩
    · obtain rfl : k = 8 := by omega
      go_wp2_with fail
      go_ret
      exact ⟨rfl, hB⟩

/-- Two arrays in two new blocks. -/
theorem specRun2 (w1 : World) (X Y : Array Value) (t1 t2 : TypeId) : rowAt ((w1.alloc (.cells X t1)).alloc (.cells Y t2)) w1.heap.size = some X :=
  (rowAt_alloc_past _ _ _ (by simp)).trans (rowAt_alloc_at _ _ _ _ rfl)

set_option maxRecDepth 100000 in
set_option maxHeartbeats 1000000 in
theorem l02Sum_any (n m : Nat) (c d : Array Value) (r : Rf) (t : Nat → Int) (w : World) (hr : rowAt w n = some c) (hR : IsRoof c r) (hdd : rowAt w m = some d) (hT : IsRain d t) (ho : r.Rains t) :
    Calls Tryd.prog 45 #[.pointer (some ⟨n, 0, none⟩), .pointer (some ⟨m, 0, none⟩)] w fun e w' => e = .returned (.int .i64 (sumTo (r.drips t) 136)) ∧ Below w.heap.size w w' := by
  have hz : Tryd.zeroCells47 = mkI .i32 136 (fun _ => 0) := by kernel_rfl
  have hzs : Tryd.zeroCells47.size = 136 := by rw [hz]; simp
  have hzo : Ones Tryd.zeroCells47 := by rw [hz]; exact (isK_mkI _ _ _).ones
  have HB := Lib.hid fun i (_ : i < 136) => ho.drips_bd i
  clear hz
  go_enter Tryd.func45, Tryd.ntmps45
  go_wp2_with fail
  refine (l02Run_any n m c d r t _ hr hR hdd hT ho).mono ?_
  rintro e w1 ⟨v, rfl, hl, b1⟩
  have z2 : (mkI .i32 136 (r.drips t)).size = 136 := by simp
  have z3 : (mkI .i32 136 (r.comeAll t)).size = 136 := by simp
  have o2 := (isK_mkI .i32 136 (r.drips t)).ones
  have o3 := (isK_mkI .i32 136 (r.comeAll t)).ones
  have hX := isK_mkI .i32 136 (r.drips t)
  generalize mkI .i32 136 (r.drips t) = X at *
  generalize mkI .i32 136 (r.comeAll t) = Y at *
  clear hl
  go_wp2_with fail
  refine gen_world fun W hW => ?_
  have p0 : rowAt W w1.heap.size = some X := by rw [hW]; exact specRun2 _ _ _ _ _
  have pB : Below w.heap.size w W := by rw [hW]; exact (b1.alloc b1.size _).alloc (by have := b1.size; simp; omega) _
  have HC := Lib.hid (cell_of_rowAt p0)
  clear hW b1 p0 o2 o3 z2 z3 hzs hzo
  go_loop [8, 9] (fun s i => ∃ k : Nat, k ≤ 8 ∧ i = .int .i64 k ∧ s = .int .i64 (sumTo (r.drips t) (k * 17))) (fun _ i => 8 - (intOf i).toNat)
  case atStart => exact ⟨0, by omega, rfl, rfl⟩
  case round =>
    obtain ⟨k, hk, rfl, rfl⟩ := hrel
    by_cases hlt : k < 8
    · have k0 : (0 : Int) ≤ k := by omega
      have k1 : (k : Int) < 8 := by omega
      go_wp2_with fail
      go_loop [8, 10] (fun s i => ∃ j : Nat, j ≤ 17 ∧ i = .int .i64 j ∧ s = .int .i64 (sumTo (r.drips t) (k * 17 + j))) (fun _ i => 17 - (intOf i).toNat)
      case atStart => exact ⟨0, by omega, rfl, rfl⟩
      case round =>
        obtain ⟨j, hj, rfl, rfl⟩ := hrel
        by_cases hjl : j < 17
        · have h0 : W.cell? ⟨w1.heap.size, k * 17 + j, none⟩ = some (.int .i32 (r.drips t (k * 17 + j))) := (HC.out _).trans (hX.get (by omega))
          have j0 : (0 : Int) ≤ j := by omega
          have j1 : (j : Int) < 17 := by omega
          have x0 := HB.out (k * 17 + j) (by omega)
          have x1 := sumTo_bd (t := r.drips t) (n := k * 17 + j) fun i hi => HB.out i (by omega)
          have x2 : sumTo (r.drips t) (k * 17 + j) + r.drips t (k * 17 + j) = sumTo (r.drips t) (k * 17 + j + 1) := rfl
          have HX := Lib.hid x2; clear x2
          go_wp2_with fail
          refine ⟨⟨j + 1, by omega, by go_num, by rw [HX.out]; rfl⟩, by simp [intOf]; omega⟩
        · obtain rfl : j = 17 := by omega
          have hkk : k * 17 + 17 = (k + 1) * 17 := by omega
          have HK := Lib.hid hkk
          clear hkk
          go_wp2_with fail
          refine ⟨⟨k + 1, by omega, by go_num, by rw [HK.out]⟩, by simp [intOf]; omega⟩
    · obtain rfl : k = 8 := by omega
      go_wp2_with fail
      go_ret
      exact ⟨rfl, pB⟩

set_option maxRecDepth 100000 in
set_option maxHeartbeats 1000000 in
theorem dripSum_any (c d : Array Value) (r : Rf) (t : Nat → Int) (w : World) (hR : IsRoof c r) (hT : IsRain d t) (ho : r.Rains t) :
    Calls Tryd.prog 51 #[.agg c, .agg d] w fun e w' => e = .returned (.int .i64 (sumTo (r.drips t) 136)) ∧ Below w.heap.size w w' := by
  have hc := hR.size
  have hd := hT.size
  obtain ⟨p0, p1, pB⟩ := two_boxes w c d 33 35
  go_enter Tryd.func51, Tryd.ntmps51
  go_wp2_with fail
  refine (runDown_any c d r t _ hR hT ho).mono ?_
  rintro e w1 ⟨rfl, b1⟩
  have B1 := bnext pB b1 pB.size
  have hF := (isFlow_mkF (r.comes t) (r.drips t)).size
  have hE := (isFlow_mkF (r.comes t) (r.drips t)).dripsK
  clear b1 p0 p1 pB
  generalize mkF (r.comes t) (r.drips t) = F at *
  go_wp2_with fail
  refine (dsum_any _ (r.drips t) _ (isK_mkI _ _ _) (fun i _ => ho.drips_bd i)).mono ?_
  rintro e w2 ⟨rfl, b2⟩
  have B2 := bnext B1 b2 B1.size
  clear b2
  go_wp2_with fail
  go_ret
  exact ⟨rfl, B2⟩

end Go.Proofs.YtoibolmippfcgaaDoor
