/- Contracts of the model's small functions over roofs: codes, kinds, cells. -/
import Derived.Test.YtppohghejhcilaaSpecA
namespace Go.Proofs.Ytppohghejhcilaa
open Go.RowKit

/-- The code of a roof and a place. -/
noncomputable def Rf.ask (r : Rf) (a b : Int) (fine : Bool) : Int := if r.ok = true then (if r.isB a b = true ∧ fine = true then 0 else 2) else 1
theorem Rf.ask_no {r : Rf} {a b : Int} {fine : Bool} (h : ¬ r.Ok) : r.ask a b fine = 1 := by simp [Rf.ask, Rf.ok_false h]
theorem Rf.ask_out {r : Rf} {a b : Int} {fine : Bool} (h : r.Ok) (hp : ¬ (r.isB a b = true ∧ fine = true)) : r.ask a b fine = 2 := by
  rw [Rf.ask, if_pos (Rf.ok_true h), if_neg hp]
theorem Rf.ask_in {r : Rf} {a b : Int} {fine : Bool} (h : r.Ok) (hp : r.isB a b = true) (hf : fine = true) : r.ask a b fine = 0 := by
  rw [Rf.ask, if_pos (Rf.ok_true h), if_pos ⟨hp, hf⟩]
theorem Rf.isB_iff {r : Rf} {a b : Int} : r.isB a b = true ↔ 0 ≤ a ∧ a < r.h ∧ 0 ≤ b ∧ b < r.w := by simp [Rf.isB]
theorem Rf.ask_zero {r : Rf} {a b : Int} {fine : Bool} (h : r.ask a b fine = 0) : r.Ok ∧ (0 ≤ a ∧ a < r.h ∧ 0 ≤ b ∧ b < r.w) ∧ fine = true := by
  unfold Rf.ask at h
  split at h
  · rename_i ho
    split at h
    · rename_i hp
      exact ⟨Rf.Ok_of ho, Rf.isB_iff.1 hp.1, hp.2⟩
    · simp at h
  · simp at h

theorem l01Ok_t (n : Nat) (c : Array Value) (r : Rf) (w : World) (hr : rowAt w n = some c) (hR : IsRoof c r) (h : r.Ok) :
    Calls Try.prog 58 #[.pointer (some ⟨n, 0, none⟩)] w fun e w' => e = .returned (.bool true) ∧ Below w.heap.size w w' := by
  have := l01Ok_any n c r w hr hR; rwa [Rf.ok_true h] at this
theorem l01Ok_f (n : Nat) (c : Array Value) (r : Rf) (w : World) (hr : rowAt w n = some c) (hR : IsRoof c r) (h : ¬ r.Ok) :
    Calls Try.prog 58 #[.pointer (some ⟨n, 0, none⟩)] w fun e w' => e = .returned (.bool false) ∧ Below w.heap.size w w' := by
  have := l01Ok_any n c r w hr hR; rwa [Rf.ok_false h] at this

set_option maxHeartbeats 400000 in
theorem l01Asked_any (n : Nat) (c : Array Value) (r : Rf) (a b : Int) (fine : Bool) (w : World) (hr : rowAt w n = some c) (hR : IsRoof c r) (ha : -128 ≤ a ∧ a ≤ 127) (hb : -128 ≤ b ∧ b ≤ 127) :
    Calls Try.prog 30 #[.pointer (some ⟨n, 0, none⟩), .agg #[.int .i8 a, .int .i8 b], .bool fine] w fun e w' => e = .returned (.int .i64 (r.ask a b fine)) ∧ Below w.heap.size w w' := by
  have hn := rowAt_lt hr
  by_cases ho : r.Ok
  · by_cases hp : 0 ≤ a ∧ a < r.h ∧ 0 ≤ b ∧ b < r.w
    · cases fine with
      | true =>
        rw [Rf.ask_in ho (Rf.isB_true hp) rfl]
        go_enter Try.func30, Try.ntmps30
        go_wp2_with fail
        refine (l01Ok_t n c r _ ((rowAt_alloc_past _ _ _ hn).trans hr) hR ho).mono ?_
        rintro e w1 ⟨rfl, b1⟩
        have q1 := brow b1 ((rowAt_alloc_past w (.cells #[.int .i8 a, .int .i8 b] 35) _ hn).trans hr)
        obtain ⟨v1, v2, v3, v4⟩ := bview b1
        have B1 : Below w.heap.size w w1 := ((Below.refl _ _).alloc (Nat.le_refl _) _).trans (b1.mono (by simp))
        clear b1
        go_wp2_with fail
        refine (l01Is_t n c r a b _ q1 hR ha hb hp).mono ?_
        rintro e w2 ⟨rfl, b2⟩
        have B2 := bnext B1 b2 B1.size
        clear b2 v1 v2 v3 v4
        go_wp2_with fail
        go_ret
        exact ⟨rfl, B2⟩
      | false =>
        rw [Rf.ask_out ho (by simp)]
        go_enter Try.func30, Try.ntmps30
        go_wp2_with fail
        refine (l01Ok_t n c r _ ((rowAt_alloc_past _ _ _ hn).trans hr) hR ho).mono ?_
        rintro e w1 ⟨rfl, b1⟩
        have q1 := brow b1 ((rowAt_alloc_past w (.cells #[.int .i8 a, .int .i8 b] 35) _ hn).trans hr)
        obtain ⟨v1, v2, v3, v4⟩ := bview b1
        have B1 : Below w.heap.size w w1 := ((Below.refl _ _).alloc (Nat.le_refl _) _).trans (b1.mono (by simp))
        clear b1
        go_wp2_with fail
        refine (l01Is_t n c r a b _ q1 hR ha hb hp).mono ?_
        rintro e w2 ⟨rfl, b2⟩
        have B2 := bnext B1 b2 B1.size
        clear b2 v1 v2 v3 v4
        go_wp2_with fail
        go_ret
        exact ⟨rfl, B2⟩
    · rw [Rf.ask_out ho (fun h => hp (Rf.isB_iff.1 h.1))]
      go_enter Try.func30, Try.ntmps30
      go_wp2_with fail
      refine (l01Ok_t n c r _ ((rowAt_alloc_past _ _ _ hn).trans hr) hR ho).mono ?_
      rintro e w1 ⟨rfl, b1⟩
      have q1 := brow b1 ((rowAt_alloc_past w (.cells #[.int .i8 a, .int .i8 b] 35) _ hn).trans hr)
      obtain ⟨v1, v2, v3, v4⟩ := bview b1
      have B1 : Below w.heap.size w w1 := ((Below.refl _ _).alloc (Nat.le_refl _) _).trans (b1.mono (by simp))
      clear b1
      go_wp2_with fail
      refine (l01Is_f n c r a b _ q1 hR ha hb hp).mono ?_
      rintro e w2 ⟨rfl, b2⟩
      have B2 := bnext B1 b2 B1.size
      clear b2 v1 v2 v3 v4
      go_wp2_with fail
      go_ret
      exact ⟨rfl, B2⟩
  · rw [Rf.ask_no ho]
    go_enter Try.func30, Try.ntmps30
    go_wp2_with fail
    refine (l01Ok_f n c r _ ((rowAt_alloc_past _ _ _ hn).trans hr) hR ho).mono ?_
    rintro e w1 ⟨rfl, b1⟩
    have B1 : Below w.heap.size w w1 := ((Below.refl _ _).alloc (Nat.le_refl _) _).trans (b1.mono (by simp))
    clear b1
    go_wp2_with fail
    go_ret
    exact ⟨rfl, B1⟩

theorem tile_cell {w : World} {n : Nat} {c : Array Value} {r : Rf} (hr : rowAt w n = some c) (hR : IsRoof c r) (i j : Nat) (hi : i < 8) (hj : j < 8) :
    w.cell? ⟨n, 3 + i * 8 + j, none⟩ = some (.int .u8 (r.t (i * 8 + j))) ∧ 0 ≤ r.t (i * 8 + j) ∧ r.t (i * 8 + j) ≤ 255 := by
  have hc := hR.size
  have h := hR.tile (3 + i * 8 + j) (by omega) (by omega)
  rw [show 3 + i * 8 + j - 3 = i * 8 + j from by omega] at h
  exact ⟨by rw [cell_of_rowAt hr, Array.getElem?_eq_getElem (by omega), h], hR.tiles.lo _ (by omega), hR.tiles.hi _ (by omega)⟩

set_option maxHeartbeats 400000 in
theorem l01At_any (n : Nat) (c : Array Value) (r : Rf) (i j : Nat) (w : World) (hr : rowAt w n = some c) (hR : IsRoof c r) (hi : i < 8) (hj : j < 8) :
    Calls Try.prog 54 #[.pointer (some ⟨n, 0, none⟩), .agg #[.int .i8 i, .int .i8 j]] w fun e w' => e = .returned (.int .i64 (r.t (i * 8 + j))) ∧ Below w.heap.size w w' := by
  have hn := rowAt_lt hr
  obtain ⟨hcell, t0, t1⟩ := tile_cell hr hR i j hi hj
  have i0 : 0 ≤ (i : Int) := by omega
  have i1 : (i : Int) < 8 := by omega
  have j0 : 0 ≤ (j : Int) := by omega
  have j1 : (j : Int) < 8 := by omega
  go_enter Try.func54, Try.ntmps54
  go_wp2_with fail
  go_quiet (fail)
  go_wp2_with fail
  go_ret
  exact ⟨rfl, below_drewN ((Below.refl _ _).alloc (Nat.le_refl _) _) _⟩
end Go.Proofs.Ytppohghejhcilaa
