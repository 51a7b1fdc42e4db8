/- How many tiles are not of one colour: both sides. -/
import Derived.Test.YtcdobpnejbfbpabColO
import Derived.Test.YtcdobpnejbfbpabColS
namespace Go.Proofs.Ytcdobpnejbfbpab
open Go.RowKit

/-- How many bits of n bytes are set, and how many are not the same. -/
def popsTo (g : Nat → Nat) (n : Nat) : Int := sumTo (fun i => (pop (g i) 8 : Int)) n
theorem popsTo_bd (g : Nat → Nat) (n : Nat) : 0 ≤ popsTo g n ∧ popsTo g n ≤ n * 8 := sumTo_bd fun i _ => by have := pop_le (g i) 8; omega
theorem popsTo_succ (g : Nat → Nat) (n : Nat) : popsTo g n + (pop (g n) 8 : Int) = popsTo g (n + 1) := rfl
def offs (a b : Nat → Nat) : Nat → Nat := fun i => a i ^^^ b i
theorem offs_lt {a b : Nat → Nat} {i : Nat} (ha : a i < 256) (hb : b i < 256) : offs a b i < 256 := Nat.xor_lt_two_pow (n := 8) ha hb

set_option maxRecDepth 100000 in
set_option maxHeartbeats 1000000 in
theorem offBy_any (c d : Array Value) (a b : Nat → Nat) (w : World) (hA : IsCol c a) (hB : IsCol d b) :
    Calls Try.prog 25 #[.agg c, .agg d] w fun e w' => e = .returned (.int .i64 (popsTo (offs a b) 8)) ∧ Below w.heap.size w w' := by
  obtain ⟨p0, p1, pB⟩ := two_boxes w c d 30 30
  have hc := hA.size
  have hd := hB.size
  go_enter Try.func25, Try.ntmps25
  go_wp2_with fail
  refine gen_world fun W hW => ?_
  rw [← hW] at p0 p1 pB
  clear hW
  have P1 := Lib.hid (cell_of_rowAt p1)
  go_loop [5, 9] (fun s i => ∃ k : Nat, k ≤ 8 ∧ i = .int .i64 k ∧ s = .int .i64 (popsTo (offs a b) k)) (fun _ i => 8 - (intOf i).toNat)
  case atStart => exact ⟨0, by omega, rfl, rfl⟩
  case round =>
    obtain ⟨k, hk, rfl, rfl⟩ := hrel
    by_cases hlt : k < 8
    · have hk1 : k < c.size := by omega
      have h0 := hA.isK.cell k hk1
      have h1 : W.cell? ⟨w.heap.size + 1, k, none⟩ = some (.int .u8 (b k)) := (P1.out k).trans (hB.cell hlt)
      have a8 := hA.hi k hlt
      have b8 := hB.hi k hlt
      have hx := xor8_num a8 b8
      have x0 := popsTo_bd (offs a b) k
      have x1 := pop_le (offs a b k) 8
      have x2 := popsTo_succ (offs a b) k
      have CO := fun W => ones8_any (offs a b k) W (offs_lt a8 b8)
      rw [show a k ^^^ b k = offs a b k from rfl] at hx
      generalize hs : popsTo (offs a b) k = s at *
      clear hs
      generalize (pop (offs a b k) 8) = z at *
      have HX := Lib.hid x2; clear x2
      go_wp2_with fail
      refine (CO _).mono ?_
      rintro e w1 ⟨rfl, rfl⟩
      clear CO
      go_wp2_with fail
      refine ⟨⟨k + 1, by omega, by go_num, by rw [HX.out]⟩, by simp [intOf]; omega⟩
    · obtain rfl : k = 8 := by omega
      go_wp2_with fail
      go_ret
      exact ⟨rfl, pB⟩

set_option maxRecDepth 100000 in
set_option maxHeartbeats 1000000 in
theorem l07Count_any (m : Nat) (d : Array Value) (g : Nat → Nat) (w : World) (hd : rowAt w m = some d) (hC : IsCol d g) :
    Calls Try.prog 23 #[.pointer (some ⟨m, 0, none⟩)] w fun e w' => e = .returned (.int .i64 (popsTo g 8)) ∧ w = w' := by
  have HC := Lib.hid (cell_of_rowAt hd)
  go_enter Try.func23, Try.ntmps23
  go_wp2_with fail
  go_loop [3, 4] (fun s i => ∃ k : Nat, k ≤ 8 ∧ i = .int .i64 k ∧ s = .int .i64 (popsTo g k)) (fun _ i => 8 - (intOf i).toNat)
  case atStart => exact ⟨0, by omega, rfl, rfl⟩
  case round =>
    obtain ⟨k, hk, rfl, rfl⟩ := hrel
    by_cases hlt : k < 8
    · have h0 : w.cell? ⟨m, k, none⟩ = some (.int .u8 (g k)) := (HC.out k).trans (hC.cell hlt)
      have g8 := hC.hi k hlt
      have x0 := popsTo_bd g k
      have x2 := Lib.hid (popsTo_succ g k)
      generalize popsTo g k = s at *
      generalize g k = n at *
      go_wp2_with fail
      go_loop [3, 5] (fun s' i => ∃ j : Nat, j ≤ 8 ∧ i = .int .i64 j ∧ s' = .int .i64 (s + (pop n j : Int))) (fun _ i => 8 - (intOf i).toNat)
      case atStart => exact ⟨0, by omega, rfl, by simp [pop]⟩
      case round =>
        obtain ⟨j, hj, rfl, rfl⟩ := hrel
        have y0 := pop_le n j
        by_cases hjl : j < 8
        · have y1 : pop n (j + 1) = pop n j + n / 2 ^ j % 2 := rfl
          have y2 : n / 2 ^ j ≤ n := Nat.div_le_self _ _
          have y3 : ((n : Int) / 2 ^ j) = ((n / 2 ^ j : Nat) : Int) := by simp
          generalize n / 2 ^ j = q at *
          have HY := Lib.hid y1; clear y1
          generalize pop n j = z at *
          go_wp2_with fail
          refine ⟨⟨j + 1, by omega, by go_num, ?_⟩, by simp [intOf]; omega⟩
          rw [HY.out]
          congr 1
          omega
        · obtain rfl : j = 8 := by omega
          go_wp2_with fail
          refine ⟨⟨k + 1, by omega, by go_num, by rw [x2.out]⟩, by simp [intOf]; omega⟩
    · obtain rfl : k = 8 := by omega
      go_wp2_with fail
      go_ret
      exact ⟨rfl, rfl⟩
end Go.Proofs.Ytcdobpnejbfbpab
