/- WetTiles, DryTiles: both sides. -/
import Derived.Test.YtoibolmippfcgaaL02Wet
import Derived.Test.YtoibolmippfcgaaTiles
import Derived.Test.YtoibolmippfcgaaRainV
namespace Go.Proofs.Ytoibolmippfcgaa
open Go.RowKit

noncomputable def Rf.wtL (r : Rf) (t : Nat → Int) (b : Bool) : List (Pl r.h.toNat r.w.toNat) := if r.rok t = true then r.wetL t b r.all else []
theorem Rf.wtL_t {r : Rf} {t : Nat → Int} {b : Bool} (h : r.Rains t) : r.wtL t b = r.wetL t b r.all := if_pos (Rf.rok_true h)
theorem Rf.wtL_f {r : Rf} {t : Nat → Int} {b : Bool} (h : ¬ r.Rains t) : r.wtL t b = [] := by unfold Rf.wtL; rw [Rf.rok_false h]; rfl
theorem Rf.wtL_le (r : Rf) (t : Nat → Int) (b : Bool) : (r.wtL t b).length ≤ 64 := by
  by_cases h : r.Rains t
  · rw [Rf.wtL_t h]; exact Nat.le_trans (Rf.wetL_len _) (Rf.all_le h.1)
  · rw [Rf.wtL_f h]; simp
theorem placesThat_ok (c d : Array Value) (r : Rf) (t : Nat → Int) (b : Bool) (w : World) (hR : IsRoof c r) (hT : IsRain d t) (ho : r.Rains t) :
    Calls Try.prog 58 #[.agg c, .agg d, .bool b] w (GivesP w (r.wetL t b r.all)) :=
  placesThat_any c d r t b r.h.toNat r.w.toNat (by have := ho.1.2.2.1; omega) (by have := ho.1.1; omega) (by have := ho.1.2.2.2.1; omega) (by have := ho.1.2.1; omega) w hR hT ho
theorem l02Wet_ok (n m : Nat) (c d : Array Value) (r : Rf) (t : Nat → Int) (b : Bool) (w : World) (hr : rowAt w n = some c) (hR : IsRoof c r) (hdd : rowAt w m = some d) (hT : IsRain d t) (ho : r.Rains t) :
    Calls Try.prog 56 #[.pointer (some ⟨n, 0, none⟩), .pointer (some ⟨m, 0, none⟩), .bool b] w (GivesP w (r.wetL t b r.all)) :=
  l02Wet_any n m c d r t b r.h.toNat r.w.toNat (by have := ho.1.2.2.1; omega) (by have := ho.1.1; omega) (by have := ho.1.2.2.2.1; omega) (by have := ho.1.2.1; omega) w hr hR hdd hT ho

set_option maxRecDepth 100000 in
set_option maxHeartbeats 1000000 in
theorem specWetTiles_any (c d : Array Value) (r : Rf) (t : Nat → Int) (w : World) (hR : IsRoof c r) (hT : IsRain d t) :
    Calls Try.prog 25 #[.agg c, .agg d] w (GivesPs w (r.wtL t true) (r.rcode t)) := by
  obtain ⟨p0, p1, pB⟩ := two_boxes w c d 29 46
  by_cases ho : r.Rains t
  · rw [Rf.rcode_t ho, Rf.wtL_t ho]
    go_enter Try.func25, Try.ntmps25
    go_wp2_with fail
    refine (l02Ok_t w.heap.size (w.heap.size + 1) c d r t _ p0 hR p1 hT ho).mono ?_
    rintro e w1 ⟨rfl, b1⟩
    have q0 := brow b1 p0
    have q1 := brow b1 p1
    have B1 := bnext pB b1 pB.size
    clear b1 p0 p1 pB
    go_wp2_with fail
    refine (l02Wet_ok w.heap.size (w.heap.size + 1) c d r t true _ q0 hR q1 hT ho).mono ?_
    rintro e w2 ⟨v, rfl, l2, b2⟩
    have B2 := bnext B1 b2 B1.size
    replace l2 := l2.mono B1.size
    clear b2
    go_wp2_with fail
    go_ret2
    exact ⟨_, rfl, l2, B2⟩
  · rw [Rf.rcode_f ho, Rf.wtL_f ho]
    go_enter Try.func25, Try.ntmps25
    go_wp2_with fail
    refine (l02Ok_f w.heap.size (w.heap.size + 1) c d r t _ p0 hR p1 hT ho).mono ?_
    rintro e w1 ⟨rfl, b1⟩
    have B1 := bnext pB b1 pB.size
    clear b1 p0 p1 pB
    go_wp2_with fail
    go_ret2
    exact ⟨_, rfl, .inl ⟨rfl, _, _, rfl⟩, B1.alloc B1.size _⟩

set_option maxRecDepth 100000 in
set_option maxHeartbeats 1000000 in
theorem implWetTiles_any (c d : Array Value) (r : Rf) (t : Nat → Int) (w : World) (hR : IsRoof c r) (hT : IsRain d t) :
    Calls Try.prog 27 #[.agg c, .agg d] w (GivesPs w (r.wtL t true) (r.rcode t)) := by
  have hc := hR.size
  have hd := hT.size
  obtain ⟨p0, p1, pB⟩ := two_boxes w c d 29 46
  by_cases ho : r.Rains t
  · rw [Rf.rcode_t ho, Rf.wtL_t ho]
    go_enter Try.func27, Try.ntmps27
    go_wp2_with fail
    refine (implValidRain_t c d r t _ hR hT ho).mono ?_
    rintro e w1 ⟨rfl, b1⟩
    have q0 := brow b1 p0
    have q1 := brow b1 p1
    have B1 := bnext pB b1 pB.size
    clear b1 p0 p1 pB
    go_wp2_with fail
    refine (placesThat_ok c d r t true _ hR hT ho).mono ?_
    rintro e w2 ⟨v, rfl, l2, b2⟩
    have B2 := bnext B1 b2 B1.size
    replace l2 := l2.mono B1.size
    clear b2
    go_wp2_with fail
    go_ret2
    exact ⟨_, rfl, l2, B2⟩
  · rw [Rf.rcode_f ho, Rf.wtL_f ho]
    go_enter Try.func27, Try.ntmps27
    go_wp2_with fail
    refine (implValidRain_f c d r t _ hR hT ho).mono ?_
    rintro e w1 ⟨rfl, b1⟩
    have B1 := bnext pB b1 pB.size
    clear b1 p0 p1 pB
    go_wp2_with fail
    go_ret2
    exact ⟨_, rfl, .inl ⟨rfl, _, _, rfl⟩, B1⟩

set_option maxRecDepth 100000 in
set_option maxHeartbeats 1000000 in
theorem specDryTiles_any (c d : Array Value) (r : Rf) (t : Nat → Int) (w : World) (hR : IsRoof c r) (hT : IsRain d t) :
    Calls Try.prog 28 #[.agg c, .agg d] w (GivesPs w (r.wtL t false) (r.rcode t)) := by
  obtain ⟨p0, p1, pB⟩ := two_boxes w c d 29 46
  by_cases ho : r.Rains t
  · rw [Rf.rcode_t ho, Rf.wtL_t ho]
    go_enter Try.func28, Try.ntmps28
    go_wp2_with fail
    refine (l02Ok_t w.heap.size (w.heap.size + 1) c d r t _ p0 hR p1 hT ho).mono ?_
    rintro e w1 ⟨rfl, b1⟩
    have q0 := brow b1 p0
    have q1 := brow b1 p1
    have B1 := bnext pB b1 pB.size
    clear b1 p0 p1 pB
    go_wp2_with fail
    refine (l02Wet_ok w.heap.size (w.heap.size + 1) c d r t false _ q0 hR q1 hT ho).mono ?_
    rintro e w2 ⟨v, rfl, l2, b2⟩
    have B2 := bnext B1 b2 B1.size
    replace l2 := l2.mono B1.size
    clear b2
    go_wp2_with fail
    go_ret2
    exact ⟨_, rfl, l2, B2⟩
  · rw [Rf.rcode_f ho, Rf.wtL_f ho]
    go_enter Try.func28, Try.ntmps28
    go_wp2_with fail
    refine (l02Ok_f w.heap.size (w.heap.size + 1) c d r t _ p0 hR p1 hT ho).mono ?_
    rintro e w1 ⟨rfl, b1⟩
    have B1 := bnext pB b1 pB.size
    clear b1 p0 p1 pB
    go_wp2_with fail
    go_ret2
    exact ⟨_, rfl, .inl ⟨rfl, _, _, rfl⟩, B1.alloc B1.size _⟩

set_option maxRecDepth 100000 in
set_option maxHeartbeats 1000000 in
theorem implDryTiles_any (c d : Array Value) (r : Rf) (t : Nat → Int) (w : World) (hR : IsRoof c r) (hT : IsRain d t) :
    Calls Try.prog 29 #[.agg c, .agg d] w (GivesPs w (r.wtL t false) (r.rcode t)) := by
  have hc := hR.size
  have hd := hT.size
  obtain ⟨p0, p1, pB⟩ := two_boxes w c d 29 46
  by_cases ho : r.Rains t
  · rw [Rf.rcode_t ho, Rf.wtL_t ho]
    go_enter Try.func29, Try.ntmps29
    go_wp2_with fail
    refine (implValidRain_t c d r t _ hR hT ho).mono ?_
    rintro e w1 ⟨rfl, b1⟩
    have q0 := brow b1 p0
    have q1 := brow b1 p1
    have B1 := bnext pB b1 pB.size
    clear b1 p0 p1 pB
    go_wp2_with fail
    refine (placesThat_ok c d r t false _ hR hT ho).mono ?_
    rintro e w2 ⟨v, rfl, l2, b2⟩
    have B2 := bnext B1 b2 B1.size
    replace l2 := l2.mono B1.size
    clear b2
    go_wp2_with fail
    go_ret2
    exact ⟨_, rfl, l2, B2⟩
  · rw [Rf.rcode_f ho, Rf.wtL_f ho]
    go_enter Try.func29, Try.ntmps29
    go_wp2_with fail
    refine (implValidRain_f c d r t _ hR hT ho).mono ?_
    rintro e w1 ⟨rfl, b1⟩
    have B1 := bnext pB b1 pB.size
    clear b1 p0 p1 pB
    go_wp2_with fail
    go_ret2
    exact ⟨_, rfl, .inl ⟨rfl, _, _, rfl⟩, B1⟩
end Go.Proofs.Ytoibolmippfcgaa
