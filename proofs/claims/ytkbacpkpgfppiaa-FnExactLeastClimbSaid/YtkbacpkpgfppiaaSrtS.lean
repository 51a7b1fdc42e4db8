/- Sorted places: the model's l04Sorted. -/
import Derived.Test.YtkbacpkpgfppiaaSrtI
import Derived.Test.YtkbacpkpgfppiaaGive
namespace Go.Proofs.Ytkbacpkpgfppiaa
open Go.RowKit

set_option maxRecDepth 100000 in
set_option maxHeartbeats 4000000 in
theorem less1_any (g o1 o2 c1 c2 : Nat) (x0 x1 y0 y1 : Int) (w : World) (a0 : w.cell? ⟨g, o1, none⟩ = some (.int .i8 x0)) (a1 : w.cell? ⟨g, o1 + 1, none⟩ = some (.int .i8 x1)) (b0 : w.cell? ⟨g, o2, none⟩ = some (.int .i8 y0)) (b1 : w.cell? ⟨g, o2 + 1, none⟩ = some (.int .i8 y1)) :
    Calls Try.prog 87 #[.slice (some ⟨g, o1, none⟩) 1 c1, .slice (some ⟨g, o2, none⟩) 1 c2] w fun e w' => ∃ z, e = .returned (.bool z) ∧ (z = true ↔ (x0 < y0 ∨ x0 = y0 ∧ x1 < y1)) ∧ Below w.heap.size w w' := by
  by_cases h1 : x0 < y0
  · have d0 : decide (x0 < y0) = true := by simpa using h1
    have n0 : (x0 == y0) = false := by simp; omega
    have HH := Lib.hid h1
    clear h1
    go_enter Try.func87, Try.ntmps87
    go_wp2_with fail
    go_loopw [5] (fun i W => (i = .int .i64 0) ∧ Hid (Below w.heap.size w W) ∧ W.cell? ⟨g, o1, none⟩ = some (.int .i8 x0) ∧ W.cell? ⟨g, o1 + 1, none⟩ = some (.int .i8 x1) ∧ W.cell? ⟨g, o2, none⟩ = some (.int .i8 y0) ∧ W.cell? ⟨g, o2 + 1, none⟩ = some (.int .i8 y1)) (fun i _ => 1 - (intOf i).toNat)
    case atStart => exact ⟨rfl, Lib.hid (Below.refl _ _), a0, a1, b0, b1⟩
    case round =>
      clear a0 a1 b0 b1
      obtain ⟨hi, hB, a0, a1, b0, b1⟩ := hrel
      subst hi
      go_wp2_with fail
      go_quiet (fail)
      go_wp2_with fail
      go_quiet (fail)
      go_wp2_with fail
      go_ret
      exact ⟨true, rfl, iff_of_true rfl (by have h9 := HH.out; first | omega | (simp; omega) | simpa using h9), below_drewN (below_drewN hB.out _) _⟩
  · by_cases h2 : x0 = y0
    · subst h2
      by_cases h3 : x1 < y1
      · have d0 : decide (x0 < x0) = false := by simp
        have n0 : (x0 == x0) = true := by simp
        have n1 : (x1 == y1) = false := by simp; omega
        have d1 : decide (x1 < y1) = true := by simpa using h3
        have HH := Lib.hid h3
        clear h3 h1
        go_enter Try.func87, Try.ntmps87
        go_wp2_with fail
        go_loopw [5] (fun i W => (i = .int .i64 0) ∧ Hid (Below w.heap.size w W) ∧ W.cell? ⟨g, o1, none⟩ = some (.int .i8 x0) ∧ W.cell? ⟨g, o1 + 1, none⟩ = some (.int .i8 x1) ∧ W.cell? ⟨g, o2, none⟩ = some (.int .i8 x0) ∧ W.cell? ⟨g, o2 + 1, none⟩ = some (.int .i8 y1)) (fun i _ => 1 - (intOf i).toNat)
        case atStart => exact ⟨rfl, Lib.hid (Below.refl _ _), a0, a1, b0, b1⟩
        case round =>
          clear a0 a1 b0 b1
          obtain ⟨hi, hB, a0, a1, b0, b1⟩ := hrel
          subst hi
          go_wp2_with fail
          go_quiet (fail)
          go_wp2_with fail
          go_quiet (fail)
          go_wp2_with fail
          go_ret
          exact ⟨true, rfl, iff_of_true rfl (by have h9 := HH.out; first | omega | (simp; omega) | simpa using h9), below_drewN (below_drewN hB.out _) _⟩
      · by_cases h4 : x1 = y1
        · subst h4
          have n0 : (x0 == x0) = true := by simp
          have n1 : (x1 == x1) = true := by simp
          clear h3 h1
          go_enter Try.func87, Try.ntmps87
          go_wp2_with fail
          go_loopw [5] (fun i W => (i = .int .i64 0 ∨ i = .int .i64 1) ∧ Hid (Below w.heap.size w W) ∧ W.cell? ⟨g, o1, none⟩ = some (.int .i8 x0) ∧ W.cell? ⟨g, o1 + 1, none⟩ = some (.int .i8 x1) ∧ W.cell? ⟨g, o2, none⟩ = some (.int .i8 x0) ∧ W.cell? ⟨g, o2 + 1, none⟩ = some (.int .i8 x1)) (fun i _ => 1 - (intOf i).toNat)
          case atStart => exact ⟨.inl rfl, Lib.hid (Below.refl _ _), a0, a1, b0, b1⟩
          case round =>
            clear a0 a1 b0 b1
            obtain ⟨hi, hB, a0, a1, b0, b1⟩ := hrel
            rcases hi with rfl | rfl
            · go_wp2_with fail
              go_quiet (fail)
              go_wp2_with fail
              exact ⟨⟨.inr rfl, Lib.hid (below_drewN hB.out _), a0, a1, b0, b1⟩, by simp [intOf]⟩
            · go_wp2_with fail
              go_ret
              exact ⟨false, rfl, by simp, hB.out⟩
        · have d0 : decide (x0 < x0) = false := by simp
          have n0 : (x0 == x0) = true := by simp
          have n1 : (x1 == y1) = false := by simp; omega
          have d1 : decide (x1 < y1) = false := by simpa using h3
          have HH := Lib.hid h3
          have H4 := Lib.hid h4
          clear h3 h1 h4
          go_enter Try.func87, Try.ntmps87
          go_wp2_with fail
          go_loopw [5] (fun i W => (i = .int .i64 0) ∧ Hid (Below w.heap.size w W) ∧ W.cell? ⟨g, o1, none⟩ = some (.int .i8 x0) ∧ W.cell? ⟨g, o1 + 1, none⟩ = some (.int .i8 x1) ∧ W.cell? ⟨g, o2, none⟩ = some (.int .i8 x0) ∧ W.cell? ⟨g, o2 + 1, none⟩ = some (.int .i8 y1)) (fun i _ => 1 - (intOf i).toNat)
          case atStart => exact ⟨rfl, Lib.hid (Below.refl _ _), a0, a1, b0, b1⟩
          case round =>
            clear a0 a1 b0 b1
            obtain ⟨hi, hB, a0, a1, b0, b1⟩ := hrel
            subst hi
            go_wp2_with fail
            go_quiet (fail)
            go_wp2_with fail
            go_quiet (fail)
            go_wp2_with fail
            go_ret
            exact ⟨false, rfl, iff_of_false (by simp) (by have h9 := HH.out; have h8 := H4.out; first | omega | (simp; omega)), below_drewN (below_drewN hB.out _) _⟩
    · have d0 : decide (x0 < y0) = false := by simpa using h1
      have n0 : (x0 == y0) = false := by simp; omega
      have H1 := Lib.hid h1
      have H2 := Lib.hid h2
      clear h1 h2
      go_enter Try.func87, Try.ntmps87
      go_wp2_with fail
      go_loopw [5] (fun i W => (i = .int .i64 0) ∧ Hid (Below w.heap.size w W) ∧ W.cell? ⟨g, o1, none⟩ = some (.int .i8 x0) ∧ W.cell? ⟨g, o1 + 1, none⟩ = some (.int .i8 x1) ∧ W.cell? ⟨g, o2, none⟩ = some (.int .i8 y0) ∧ W.cell? ⟨g, o2 + 1, none⟩ = some (.int .i8 y1)) (fun i _ => 1 - (intOf i).toNat)
      case atStart => exact ⟨rfl, Lib.hid (Below.refl _ _), a0, a1, b0, b1⟩
      case round =>
        clear a0 a1 b0 b1
        obtain ⟨hi, hB, a0, a1, b0, b1⟩ := hrel
        subst hi
        go_wp2_with fail
        go_quiet (fail)
        go_wp2_with fail
        go_quiet (fail)
        go_wp2_with fail
        go_ret
        exact ⟨false, rfl, iff_of_false (by simp) (by have h9 := H1.out; have h8 := H2.out; omega), below_drewN (below_drewN hB.out _) _⟩
end Go.Proofs.Ytkbacpkpgfppiaa
