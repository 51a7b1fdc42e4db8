/- TilesOf, CountKind: both sides. -/
import Derived.Test.YtoibolmippfcgaaAll
import Derived.Test.YtoibolmippfcgaaStA
namespace Go.Proofs.Ytoibolmippfcgaa
open Go.RowKit

/-- All places of a roof. -/
def Rf.all (r : Rf) : List (Pl r.h.toNat r.w.toNat) := plUpto r.h.toNat r.w.toNat (r.h.toNat * r.w.toNat)
noncomputable def Rf.tkL (r : Rf) (k : Int) : List (Pl r.h.toNat r.w.toNat) := if r.told (inB k 0 3) = 0 then r.ofKind k r.all else []
theorem Rf.all_le {r : Rf} (ho : r.Ok) : r.all.length ≤ 64 := by
  have := plUpto_len r.h.toNat r.w.toNat (r.h.toNat * r.w.toNat)
  have h2 : r.h.toNat * r.w.toNat ≤ 8 * 8 := Nat.mul_le_mul (by have := ho.2.2.2.1; omega) (by have := ho.2.1; omega)
  unfold Rf.all
  omega
theorem Rf.tkL_le (r : Rf) (k : Int) : (r.tkL k).length ≤ 64 := by
  unfold Rf.tkL
  split
  · rename_i h
    exact Nat.le_trans (r.ofKind_len _) (Rf.all_le (Rf.told_zero h).1)
  · simp
theorem placesOf_ok (c : Array Value) (r : Rf) (k : Int) (w : World) (hR : IsRoof c r) (ho : r.Ok) :
    Calls Try.prog 44 #[.agg c, .int .i64 k] w (GivesP w (r.ofKind k r.all)) :=
  placesOf_any c r k r.h.toNat r.w.toNat (by have := ho.2.2.1; omega) (by have := ho.1; omega) (by have := ho.2.2.2.1; omega) (by have := ho.2.1; omega) w hR
theorem l01Tiles_ok (n : Nat) (c : Array Value) (r : Rf) (k : Int) (w : World) (hr : rowAt w n = some c) (hR : IsRoof c r) (ho : r.Ok) :
    Calls Try.prog 41 #[.pointer (some ⟨n, 0, none⟩), .int .i64 k] w (GivesP w (r.ofKind k r.all)) :=
  l01Tiles_any n c r k r.h.toNat r.w.toNat (by have := ho.2.2.1; omega) (by have := ho.1; omega) (by have := ho.2.2.2.1; omega) (by have := ho.2.1; omega) w hr hR

def GivesPs (w : World) {h ww : Nat} (l : List (Pl h ww)) (code : Int) (e : Ending) (w' : World) : Prop :=
  ∃ v, e = .returned (.tuple #[v, .int .i64 code]) ∧ IsList w' w.heap.size v 2 l.length (fun i => .int .i8 (plAt l i)) ∧ Below w.heap.size w w'

set_option maxHeartbeats 1000000 in
theorem specTilesOf_any (c : Array Value) (r : Rf) (k : Int) (w : World) (hR : IsRoof c r) :
    Calls Try.prog 15 #[.agg c, .int .i64 k] w (GivesPs w (r.tkL k) (r.told (inB k 0 3))) := by
  have p0 := rowAt_alloc_at w c 29 w.heap.size rfl
  have pB : Below w.heap.size w (w.alloc (.cells c 29)) := (Below.refl _ _).alloc (Nat.le_refl _) _
  by_cases hk : r.told (inB k 0 3) = 0
  · have ho := (Rf.told_zero hk).1
    have hb : (r.told (inB k 0 3) != 0) = false := by simp [hk]
    have e : r.tkL k = r.ofKind k r.all := if_pos hk
    rw [e]
    have HK := Lib.hid hk
    clear hk e
    go_enter Try.func15, Try.ntmps15
    go_wp2_with fail
    refine (l01Kind_any k _).mono ?_
    rintro e w0 ⟨rfl, rfl⟩
    go_wp2_with fail
    refine (l01Told_any w.heap.size c r _ _ p0 hR).mono ?_
    rintro e w1 ⟨rfl, b1⟩
    have q0 := brow b1 p0
    have B1 := bnext pB b1 pB.size
    clear b1 p0 pB
    go_wp2_with fail
    refine (l01Tiles_ok w.heap.size c r k _ q0 hR ho).mono ?_
    rintro e w2 ⟨v, rfl, l2, b2⟩
    have B2 := bnext B1 b2 B1.size
    replace l2 := l2.mono B1.size
    clear b2 q0 B1
    go_wp2_with fail
    go_ret2
    rw [HK.out]
    exact ⟨_, rfl, l2, B2⟩
  · have hb : (r.told (inB k 0 3) != 0) = true := by simp [hk]
    have e : r.tkL k = [] := if_neg hk
    rw [e]
    clear hk e
    go_enter Try.func15, Try.ntmps15
    go_wp2_with fail
    refine (l01Kind_any k _).mono ?_
    rintro e w0 ⟨rfl, rfl⟩
    go_wp2_with fail
    refine (l01Told_any w.heap.size c r _ _ p0 hR).mono ?_
    rintro e w1 ⟨rfl, b1⟩
    have B1 := bnext pB b1 pB.size
    clear b1 p0 pB
    go_wp2_with fail
    go_ret2
    exact ⟨_, rfl, .inl ⟨rfl, _, _, rfl⟩, B1.alloc B1.size _⟩

set_option maxHeartbeats 1000000 in
theorem implTilesOf_any (c : Array Value) (r : Rf) (k : Int) (w : World) (hR : IsRoof c r) :
    Calls Try.prog 16 #[.agg c, .int .i64 k] w (GivesPs w (r.tkL k) (r.told (inB k 0 3))) := by
  have hc := hR.size
  have p0 := rowAt_alloc_at w c 29 w.heap.size rfl
  have pB : Below w.heap.size w (w.alloc (.cells c 29)) := (Below.refl _ _).alloc (Nat.le_refl _) _
  by_cases hk : r.told (inB k 0 3) = 0
  · have ho := (Rf.told_zero hk).1
    have hb : (r.told (inB k 0 3) != 0) = false := by simp [hk]
    have e : r.tkL k = r.ofKind k r.all := if_pos hk
    rw [e]
    have HK := Lib.hid hk
    clear hk e
    go_enter Try.func16, Try.ntmps16
    go_wp2_with fail
    refine (checkKind_any c r k _ hR).mono ?_
    rintro e w1 ⟨rfl, b1⟩
    have q0 := brow b1 p0
    have B1 := bnext pB b1 pB.size
    clear b1 p0 pB
    go_wp2_with fail
    refine (placesOf_ok c r k _ hR ho).mono ?_
    rintro e w2 ⟨v, rfl, l2, b2⟩
    have B2 := bnext B1 b2 B1.size
    replace l2 := l2.mono B1.size
    clear b2 q0 B1
    go_wp2_with fail
    go_ret2
    rw [HK.out]
    exact ⟨_, rfl, l2, B2⟩
  · have hb : (r.told (inB k 0 3) != 0) = true := by simp [hk]
    have e : r.tkL k = [] := if_neg hk
    rw [e]
    clear hk e
    go_enter Try.func16, Try.ntmps16
    go_wp2_with fail
    refine (checkKind_any c r k _ hR).mono ?_
    rintro e w1 ⟨rfl, b1⟩
    have B1 := bnext pB b1 pB.size
    clear b1 p0 pB
    go_wp2_with fail
    go_ret2
    exact ⟨_, rfl, .inl ⟨rfl, _, _, rfl⟩, B1⟩

set_option maxHeartbeats 1000000 in
theorem specCountKind_any (c : Array Value) (r : Rf) (k : Int) (w : World) (hR : IsRoof c r) :
    Calls Try.prog 12 #[.agg c, .int .i64 k] w fun e w' => e = .returned (.tuple #[.int .i64 ((r.tkL k).length : Int), .int .i64 (r.told (inB k 0 3))]) ∧ Below w.heap.size w w' := by
  have p0 := rowAt_alloc_at w c 29 w.heap.size rfl
  have pB : Below w.heap.size w (w.alloc (.cells c 29)) := (Below.refl _ _).alloc (Nat.le_refl _) _
  by_cases hk : r.told (inB k 0 3) = 0
  · have ho := (Rf.told_zero hk).1
    have hb : (r.told (inB k 0 3) != 0) = false := by simp [hk]
    have e : r.tkL k = r.ofKind k r.all := if_pos hk
    have hle := r.tkL_le k
    rw [e] at hle ⊢
    have HK := Lib.hid hk
    clear hk e
    go_enter Try.func12, Try.ntmps12
    go_wp2_with fail
    refine (l01Kind_any k _).mono ?_
    rintro e w0 ⟨rfl, rfl⟩
    go_wp2_with fail
    refine (l01Told_any w.heap.size c r _ _ p0 hR).mono ?_
    rintro e w1 ⟨rfl, b1⟩
    have q0 := brow b1 p0
    have B1 := bnext pB b1 pB.size
    clear b1 p0 pB
    go_wp2_with fail
    refine (l01Tiles_ok w.heap.size c r k _ q0 hR ho).mono ?_
    rintro e w2 ⟨v, rfl, l2, b2⟩
    obtain ⟨a, cap, rfl⟩ := l2.shape
    have B2 := bnext B1 b2 B1.size
    clear b2 q0 B1 l2
    go_wp2_with fail
    go_ret2
    rw [HK.out]
    exact ⟨rfl, B2⟩
  · have hb : (r.told (inB k 0 3) != 0) = true := by simp [hk]
    have e : r.tkL k = [] := if_neg hk
    rw [e]
    clear hk e
    go_enter Try.func12, Try.ntmps12
    go_wp2_with fail
    refine (l01Kind_any k _).mono ?_
    rintro e w0 ⟨rfl, rfl⟩
    go_wp2_with fail
    refine (l01Told_any w.heap.size c r _ _ p0 hR).mono ?_
    rintro e w1 ⟨rfl, b1⟩
    have B1 := bnext pB b1 pB.size
    clear b1 p0 pB
    go_wp2_with fail
    go_ret2
    exact ⟨rfl, B1⟩

set_option maxHeartbeats 1000000 in
theorem implCountKind_any (c : Array Value) (r : Rf) (k : Int) (w : World) (hR : IsRoof c r) :
    Calls Try.prog 14 #[.agg c, .int .i64 k] w fun e w' => e = .returned (.tuple #[.int .i64 ((r.tkL k).length : Int), .int .i64 (r.told (inB k 0 3))]) ∧ Below w.heap.size w w' := by
  have hc := hR.size
  have p0 := rowAt_alloc_at w c 29 w.heap.size rfl
  have pB : Below w.heap.size w (w.alloc (.cells c 29)) := (Below.refl _ _).alloc (Nat.le_refl _) _
  by_cases hk : r.told (inB k 0 3) = 0
  · have ho := (Rf.told_zero hk).1
    have hb : (r.told (inB k 0 3) != 0) = false := by simp [hk]
    have e : r.tkL k = r.ofKind k r.all := if_pos hk
    have hle := r.tkL_le k
    rw [e] at hle ⊢
    have HK := Lib.hid hk
    clear hk e
    go_enter Try.func14, Try.ntmps14
    go_wp2_with fail
    refine (checkKind_any c r k _ hR).mono ?_
    rintro e w1 ⟨rfl, b1⟩
    have q0 := brow b1 p0
    have B1 := bnext pB b1 pB.size
    clear b1 p0 pB
    go_wp2_with fail
    refine (placesOf_ok c r k _ hR ho).mono ?_
    rintro e w2 ⟨v, rfl, l2, b2⟩
    obtain ⟨a, cap, rfl⟩ := l2.shape
    have B2 := bnext B1 b2 B1.size
    clear b2 q0 B1 l2
    go_wp2_with fail
    go_ret2
    rw [HK.out]
    exact ⟨rfl, B2⟩
  · have hb : (r.told (inB k 0 3) != 0) = true := by simp [hk]
    have e : r.tkL k = [] := if_neg hk
    rw [e]
    clear hk e
    go_enter Try.func14, Try.ntmps14
    go_wp2_with fail
    refine (checkKind_any c r k _ hR).mono ?_
    rintro e w1 ⟨rfl, b1⟩
    have B1 := bnext pB b1 pB.size
    clear b1 p0 pB
    go_wp2_with fail
    go_ret2
    exact ⟨rfl, B1⟩
end Go.Proofs.Ytoibolmippfcgaa
