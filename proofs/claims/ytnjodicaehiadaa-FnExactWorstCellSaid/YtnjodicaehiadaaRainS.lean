/- The sum of rain, and even rain: contracts of both sides. -/
import Derived.Test.YtnjodicaehiadaaRainV
namespace Go.Proofs.Ytnjodicaehiadaa
open Go.RowKit

noncomputable def Rf.rcode (r : Rf) (t : Nat → Int) : Int := if r.rok t = true then 0 else 1
noncomputable def Rf.rval (r : Rf) (t : Nat → Int) (x : Int) : Int := if r.rok t = true then x else 0
theorem Rf.rcode_t {r : Rf} {t : Nat → Int} (h : r.Rains t) : r.rcode t = 0 := if_pos (Rf.rok_true h)
theorem Rf.rcode_f {r : Rf} {t : Nat → Int} (h : ¬ r.Rains t) : r.rcode t = 1 := by simp [Rf.rcode, Rf.rok_false h]
theorem Rf.rval_t {r : Rf} {t : Nat → Int} (h : r.Rains t) (x : Int) : r.rval t x = x := if_pos (Rf.rok_true h)
theorem Rf.rval_f {r : Rf} {t : Nat → Int} (h : ¬ r.Rains t) (x : Int) : r.rval t x = 0 := by simp [Rf.rval, Rf.rok_false h]
theorem Rf.Rains.bd {r : Rf} {t : Nat → Int} (h : r.Rains t) : ∀ i, i < 17 → 0 ≤ t i ∧ t i ≤ 1000 := fun i hi => (h.2 i hi).1

set_option maxRecDepth 100000 in
set_option maxHeartbeats 1000000 in
theorem rsum_any (d : Array Value) (t : Nat → Int) (w : World) (hT : IsRain d t) (hb : ∀ i, i < 17 → 0 ≤ t i ∧ t i ≤ 1000) :
    Calls Try.prog 58 #[.agg d] w fun e w' => e = .returned (.int .i64 (sumTo t 17)) ∧ Below w.heap.size w w' := by
  have hd := hT.size
  have HB := Lib.hid hb; clear hb
  go_enter Try.func58, Try.ntmps58
  go_wp2_with fail
  go_loop [3, 7] (fun s i => ∃ k : Nat, k ≤ 17 ∧ i = .int .i64 k ∧ s = .int .i64 (sumTo t k)) (fun _ i => 17 - (intOf i).toNat)
  case atStart => exact ⟨0, by omega, rfl, rfl⟩
  case round =>
    obtain ⟨k, hk, rfl, rfl⟩ := hrel
    by_cases hlt : k < 17
    · have hk1 : k < d.size := by omega
      have h0 := hT.isK.cell k hk1
      have x0 := HB.out k hlt
      have x1 := sumTo_bd (t := t) (n := k) fun i hi => HB.out i (by omega)
      have x2 : sumTo t k + t k = sumTo t (k + 1) := rfl
      have HX := Lib.hid x2; clear x2
      go_wp2_with fail
      refine ⟨⟨k + 1, by omega, by go_num, by rw [HX.out]⟩, by simp [intOf]; omega⟩
    · obtain rfl : k = 17 := by omega
      go_wp2_with fail
      go_ret
      exact ⟨rfl, (Below.refl _ _).alloc (Nat.le_refl _) _⟩

set_option maxRecDepth 100000 in
set_option maxHeartbeats 1000000 in
theorem implRainSum_any (c d : Array Value) (r : Rf) (t : Nat → Int) (w : World) (hR : IsRoof c r) (hT : IsRain d t) :
    Calls Try.prog 23 #[.agg c, .agg d] w fun e w' => e = .returned (.tuple #[.int .i64 (r.rval t (sumTo t 17)), .int .i64 (r.rcode t)]) ∧ Below w.heap.size w w' := by
  have hc := hR.size
  have hd := hT.size
  obtain ⟨p0, p1, pB⟩ := two_boxes w c d 30 32
  by_cases ho : r.Rains t
  · rw [Rf.rcode_t ho, Rf.rval_t ho]
    go_enter Try.func23, Try.ntmps23
    go_wp2_with fail
    refine (implValidRain_t c d r t _ hR hT ho).mono ?_
    rintro e w1 ⟨rfl, b1⟩
    have q1 := brow b1 p1
    have B1 := bnext pB b1 pB.size
    clear b1 p0 p1 pB
    go_wp2_with fail
    refine (rsum_any d t _ hT ho.bd).mono ?_
    rintro e w2 ⟨rfl, b2⟩
    have B2 := bnext B1 b2 B1.size
    clear b2
    go_wp2_with fail
    go_ret2
    exact ⟨rfl, B2⟩
  · rw [Rf.rcode_f ho, Rf.rval_f ho]
    go_enter Try.func23, Try.ntmps23
    go_wp2_with fail
    refine (implValidRain_f c d r t _ hR hT ho).mono ?_
    rintro e w1 ⟨rfl, b1⟩
    have B1 := bnext pB b1 pB.size
    clear b1 p0 p1 pB
    go_wp2_with fail
    go_ret2
    exact ⟨rfl, B1⟩

set_option maxRecDepth 100000 in
set_option maxHeartbeats 1000000 in
theorem specRainSum_any (c d : Array Value) (r : Rf) (t : Nat → Int) (w : World) (hR : IsRoof c r) (hT : IsRain d t) :
    Calls Try.prog 22 #[.agg c, .agg d] w fun e w' => e = .returned (.tuple #[.int .i64 (r.rval t (sumTo t 17)), .int .i64 (r.rcode t)]) ∧ Below w.heap.size w w' := by
  obtain ⟨p0, p1, pB⟩ := two_boxes w c d 30 32
  by_cases ho : r.Rains t
  · rw [Rf.rcode_t ho, Rf.rval_t ho]
    have HB := Lib.hid ho.bd
    go_enter Try.func22, Try.ntmps22
    go_wp2_with fail
    refine (l02Ok_t w.heap.size (w.heap.size + 1) c d r t _ p0 hR p1 hT ho).mono ?_
    rintro e w1 ⟨rfl, b1⟩
    have q1 := brow b1 p1
    have B1 := bnext pB b1 pB.size
    have HC := Lib.hid (cell_of_rowAt q1)
    clear b1 p0 p1 pB
    go_wp2_with fail
    go_loop [6, 7] (fun s i => ∃ k : Nat, k ≤ 17 ∧ i = .int .i64 k ∧ s = .int .i64 (sumTo t k)) (fun _ i => 17 - (intOf i).toNat)
    case atStart => exact ⟨0, by omega, rfl, rfl⟩
    case round =>
      obtain ⟨k, hk, rfl, rfl⟩ := hrel
      by_cases hlt : k < 17
      · have h0 : w1.cell? ⟨w.heap.size + 1, k, none⟩ = some (.int .i16 (t k)) := (HC.out k).trans (hT.isK.get hlt)
        have x0 := HB.out k hlt
        have x1 := sumTo_bd (t := t) (n := k) fun i hi => HB.out i (by omega)
        have x2 : sumTo t k + t k = sumTo t (k + 1) := rfl
        have HX := Lib.hid x2; clear x2
        go_wp2_with fail
        refine ⟨⟨k + 1, by omega, by go_num, by rw [HX.out]⟩, by simp [intOf]; omega⟩
      · obtain rfl : k = 17 := by omega
        go_wp2_with fail
        go_ret2
        exact ⟨rfl, B1⟩
  · rw [Rf.rcode_f ho, Rf.rval_f ho]
    go_enter Try.func22, Try.ntmps22
    go_wp2_with fail
    refine (l02Ok_f w.heap.size (w.heap.size + 1) c d r t _ p0 hR p1 hT ho).mono ?_
    rintro e w1 ⟨rfl, b1⟩
    have B1 := bnext pB b1 pB.size
    clear b1 p0 p1 pB
    go_wp2_with fail
    go_ret2
    exact ⟨rfl, B1⟩
end Go.Proofs.Ytnjodicaehiadaa
