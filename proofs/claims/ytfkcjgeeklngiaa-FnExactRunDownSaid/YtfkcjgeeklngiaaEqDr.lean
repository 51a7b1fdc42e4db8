/- Drips compared with themselves; lists among the boxes. -/
import Derived.Test.YtfkcjgeeklngiaaRHeld
import Derived.Test.YtfkcjgeeklngiaaFlow
import Derived.Test.YtfkcjgeeklngiaaBox
import Derived.StillTailTactics
namespace Go.Proofs.Ytfkcjgeeklngiaa
open Go.RowKit

set_option maxRecDepth 100000 in
set_option maxHeartbeats 400000 in
theorem eqI17_same (X : Array Value) (f : Nat → Int) (w : World) (hX : IsK .i32 X 17 f) :
    Calls Try.prog 62 #[.agg X, .agg X] w fun e w' => e = .returned (.bool true) ∧ Below w.heap.size w w' := by
  obtain ⟨p0, p1, pB⟩ := two_boxes w X X 40 40
  go_enter Try.func62, Try.ntmps62
  go_wp2_with fail
  refine gen_world fun W hW => ?_
  rw [← hW] at p0 p1 pB
  clear hW
  have P0 := Lib.hid p0
  have P1 := Lib.hid p1
  clear p0 p1
  go_loopw [5] (fun i W' => ∃ k : Nat, k ≤ 17 ∧ i = .int .i64 k ∧ Below W.heap.size W W') (fun i _ => 17 - (intOf i).toNat)
  case atStart => exact ⟨0, by omega, rfl, Below.refl _ _⟩
  case round =>
    obtain ⟨k, hk, rfl, hB⟩ := hrel
    by_cases hlt : k < 17
    · have c0 : wr.cell? ⟨w.heap.size, k, none⟩ = some (.int .i32 (f k)) := (cell_of_rowAt (brow hB P0.out) k).trans (hX.get hlt)
      have c1 : wr.cell? ⟨w.heap.size + 1, k, none⟩ = some (.int .i32 (f k)) := (cell_of_rowAt (brow hB P1.out) k).trans (hX.get hlt)
      have hff : (f k != f k) = false := by simp
      have k0 : (0 : Int) ≤ k := by omega
      have k1 : (k : Int) < 17 := by omega
      go_wp2_with fail
      go_quiet (fail)
      go_wp2_with fail
      refine ⟨⟨k + 1, by omega, by go_num, below_drewN hB _⟩, by simp [intOf]; omega⟩
    · go_wp2_with fail
      go_ret
      exact ⟨rfl, bnext pB hB pB.size⟩

set_option maxRecDepth 100000 in
set_option maxHeartbeats 400000 in
theorem eqDrips_same (X : Array Value) (f : Nat → Int) (w : World) (hX : IsK .i32 X 136 f) :
    Calls Try.prog 22 #[.agg X, .agg X] w fun e w' => e = .returned (.bool true) ∧ Below w.heap.size w w' := by
  obtain ⟨p0, p1, pB⟩ := two_boxes w X X 42 42
  have hx := hX.size
  have H := Lib.hid hX; clear hX
  go_enter Try.func22, Try.ntmps22
  go_wp2_with fail
  refine gen_world fun W hW => ?_
  rw [← hW] at p0 p1 pB
  clear hW
  go_loopw [5] (fun i W' => ∃ k : Nat, k ≤ 8 ∧ i = .int .i64 k ∧ rowAt W' w.heap.size = some X ∧ rowAt W' (w.heap.size + 1) = some X ∧ Below W.heap.size W W') (fun i _ => 8 - (intOf i).toNat)
  case atStart => exact ⟨0, by omega, rfl, p0, p1, Below.refl _ _⟩
  case round =>
    clear p0 p1
    obtain ⟨k, hk, rfl, r0, r1, hB⟩ := hrel
    by_cases hlt : k < 8
    · have hk8 : k * 17 + 17 ≤ 136 := by omega
      have hi0 : 0 ≤ (k : Int) := by omega
      have hi1 : (k : Int) < 8 := by omega
      go_wp2_with fail
      go_still_tail 6, (by kernel_rfl)
      change wpList _ _ _ _ _ wr.drew
      go_wp2_with fail
      refine (eqI17_same _ _ _ (H.out.extract (k * 17) 17 hk8)).mono ?_
      rintro e w1 ⟨rfl, hb⟩
      have q0 := brow hb r0
      have q1 := brow hb r1
      have hB1 := (hB.drew).trans (hb.mono hB.size)
      clear hb r0 r1
      go_wp2_with fail
      refine ⟨⟨k + 1, by omega, by go_num, q0, q1, hB1⟩, by simp [intOf]; omega⟩
    · go_wp2_with fail
      go_ret
      exact ⟨rfl, bnext pB hB pB.size⟩

/-- A list's block as a box: what holds of its row holds of the list. -/
theorem IsList.box {w : World} {b sz n : Nat} {v : Value} {f : Nat → Value} (h : IsList w b v sz n f) :
    ∃ L : List (Nat × Array Value), (∀ p, p ∈ L → rowAt w p.1 = some p.2) ∧ ∀ W, (∀ p, p ∈ L → rowAt W p.1 = some p.2) → IsList W 0 v sz n f := by
  rcases h with h | ⟨g, cap, cur, rfl, hg, hr, hs, hf⟩
  · exact ⟨[], by simp, fun W _ => .inl h⟩
  · exact ⟨[(g, cur)], fun p hp => by obtain rfl := List.mem_singleton.1 hp; exact hr, fun W hW => .inr ⟨g, cap, cur, rfl, Nat.zero_le _, hW (g, cur) (by simp), hs, hf⟩⟩
theorem Boxes.app {N : Nat} {w W : World} {L L1 : List (Nat × Array Value)} (h : Boxes N w L W) (h1 : ∀ p, p ∈ L1 → rowAt W p.1 = some p.2) : Boxes W.heap.size w (L1 ++ L) W :=
  ⟨fun p hp => by
    rcases List.mem_append.1 hp with hp | hp
    · exact h1 p hp
    · exact h.rows p hp, h.bel, h.bel.size, Nat.le_refl _, fun p hp => by
    rcases List.mem_append.1 hp with hp | hp
    · exact rowAt_lt (h1 p hp)
    · exact Nat.lt_of_lt_of_le (h.low p hp) h.size⟩
theorem Boxes.belowN {N M : Nat} {w W W' : World} {L : List (Nat × Array Value)} (h : Boxes N w L W) (b : Below M W W') (hM : N ≤ M) : Boxes N w L W' :=
  ⟨fun p hp => (rowAt_below b p.1 (Nat.lt_of_lt_of_le (h.low p hp) hM)).trans (h.rows p hp), h.bel.trans (b.mono (Nat.le_trans h.base hM)), h.base, Nat.le_trans h.size b.size, h.low⟩
theorem Boxes.sub {N : Nat} {w W : World} {L L1 : List (Nat × Array Value)} (h : Boxes N w L W) (hs : ∀ p, p ∈ L1 → p ∈ L) : Boxes N w L1 W :=
  ⟨fun p hp => h.rows p (hs p hp), h.bel, h.base, h.size, fun p hp => h.low p (hs p hp)⟩
end Go.Proofs.Ytfkcjgeeklngiaa
