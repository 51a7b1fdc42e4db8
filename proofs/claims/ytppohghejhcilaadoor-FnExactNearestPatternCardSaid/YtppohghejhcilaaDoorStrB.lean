/- Lists of texts in the laws: their size, and that they are the same. -/
import Derived.Test.YtppohghejhcilaaDoorStrA
import Derived.StillTactics
namespace Go.Proofs.YtppohghejhcilaaDoor
open Go.RowKit

set_option maxHeartbeats 1000000 in
theorem szStringS_any (v : Value) (n : Nat) (f : Nat → ByteArray) (w : World) (hv : StrsAt w v n f) (hn : n ≤ maxLen) (hs : ∀ i, i < n → (f i).size ≤ maxLen) :
    Calls Tryd.prog 28 #[v, .int .i64 1048576] w fun e w' => (∃ z : Int, e = .returned (.int .i64 z) ∧ (0 ≤ z → n ≤ 1048576)) ∧ Below w.heap.size w w' := by
  have HS := Lib.hid hs
  clear hs
  have HV := Lib.hid hv
  obtain ⟨a, cap, rfl⟩ := hv.shape
  clear hv
  have hM : maxLen = 9223372036854775807 := by unfold maxLen; rfl
  by_cases hbig : 1048576 < n
  · go_enter Tryd.func28, Tryd.ntmps28
    go_wp2_with fail
    go_ret
    exact ⟨⟨_, rfl, by omega⟩, Below.refl _ _⟩
  have hn2 : n ≤ 1048576 := by omega
  clear hbig
  go_enter Tryd.func28, Tryd.ntmps28
  go_wp2_with fail
  go_loopg [1, 5] n (fun gg l i W => ∃ (k : Nat) (z : Int), k ≤ n ∧ n - k ≤ gg ∧ i = .int .i64 k ∧ l = .int .i64 z ∧ 0 ≤ z ∧ z ≤ 1048576 ∧ Below w.heap.size w W)
  case atStart => exact ⟨0, _, by omega, by omega, rfl, by go_num, by omega, by omega, Below.refl _ _⟩
  case round =>
    obtain ⟨k, z, hk, hg, rfl, rfl, hz0, hz1, hB⟩ := hrel
    by_cases hlt : k < n
    · obtain ⟨b, o, rfl, cc⟩ := (HV.out.below hB (Nat.le_refl _)).at hlt
      have hi0 : 0 ≤ (k : Int) := by omega
      have hi1 : (k : Int) < n := by omega
      have hsz := HS.out k hlt
      have HB := Lib.hid hB
      clear hB
      by_cases hneg : z - ((f k).size : Int) < 0
      · go_wp2_with fail
        go_ret
        exact ⟨⟨_, rfl, fun h => hn2⟩, HB.out⟩
      · go_wp2_with fail
        go_roundg (n - (k + 1))
        case measure => omega
        case rel => exact ⟨k + 1, z - ((f k).size : Int), by omega, by omega, by go_num, by go_num, by omega, by omega, HB.out⟩
    · obtain rfl : k = n := by omega
      go_wp2_with fail
      go_ret
      exact ⟨⟨_, rfl, fun _ => hn2⟩, hB⟩
set_option maxRecDepth 100000 in
set_option maxHeartbeats 4000000 in
theorem eqStringS_same (v v' : Value) (n : Nat) (f : Nat → ByteArray) (w : World) (hv : StrsAt w v n f) (hv' : StrsAt w v' n f) (hn : n ≤ 1048576) :
    Calls Tryd.prog 34 #[v, v'] w fun e w' => e = .returned (.bool true) ∧ Below w.heap.size w w' := by
  have HV := Lib.hid hv
  have HV' := Lib.hid hv'
  obtain ⟨a, cap, rfl⟩ := hv.shape
  obtain ⟨a', cap', rfl⟩ := hv'.shape
  clear hv hv'
  go_enter Tryd.func34, Tryd.ntmps34
  go_wp2_with fail
  go_loopg [5] n (fun gg i W => ∃ (k : Nat), k ≤ n ∧ n - k ≤ gg ∧ i = .int .i64 k ∧ Below w.heap.size w W)
  case atStart => exact ⟨0, by omega, by omega, rfl, Below.refl _ _⟩
  case round =>
    obtain ⟨k, hk, hg, rfl, hB⟩ := hrel
    by_cases hlt : k < n
    · obtain ⟨b, o, rfl, cc⟩ := (HV.out.below hB (Nat.le_refl _)).at hlt
      obtain ⟨b', o', rfl, cc'⟩ := (HV'.out.below hB (Nat.le_refl _)).at hlt
      have hi0 : 0 ≤ (k : Int) := by omega
      have hi1 : (k : Int) < n := by omega
      have HB := Lib.hid hB
      clear hB
      go_wp2_with fail
      go_still (by kernel_rfl)
      go_wp2_with fail
      go_roundg (n - (k + 1))
      case measure => omega
      case rel => exact ⟨k + 1, by omega, by omega, by go_num, HB.out.drew⟩
    · obtain rfl : k = n := by omega
      go_wp2_with fail
      go_ret
      exact ⟨rfl, hB⟩
end Go.Proofs.YtppohghejhcilaaDoor
