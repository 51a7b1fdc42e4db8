/- Water: what came in, and the laws' helpers over it. -/
import Derived.Test.YtfdoehakpeddnaaGutH
namespace Go.Proofs.Ytfdoehakpeddnaa
open Go.RowKit Go.ChangeShapes Go.WideShapes
/-- The cells of water. -/
structure IsWat (c : Array Value) (t : Nat → Int) : Prop where
  isK : IsK .i32 c 17 t
  lo : ∀ i, i < 17 → -2147483648 ≤ t i
  hi : ∀ i, i < 17 → t i ≤ 2147483647
theorem IsWat.size {c : Array Value} {t : Nat → Int} (h : IsWat c t) : c.size = 17 := h.isK.size
theorem IsWat.ones {c : Array Value} {t : Nat → Int} (h : IsWat c t) : Ones c := h.isK.ones
section
variable {H : Type} {enc : TypeId × Value → H} {w : World} {base b0 : Nat} {spare : Nat → Bool} {held : Bool} {r : Reach}
set_option maxRecDepth 100000 in
/-- Water that came in. -/
theorem open_wat {v : Value} {d : DataW H} {p : List MemPlace} (hv : Value.okWide Try.prog w r b0 29 v) (h : DataW.Trod enc Try.prog w base spare held 29 v d p) :
    ∃ (c : Array Value) (t : Nat → Int), v = .agg c ∧ IsWat c t := by
  obtain ⟨c, rfl, hsz⟩ := okWide_arr Try.underlying29 hv
  obtain ⟨fuel, hf⟩ := h
  have hc : c.size = 17 := hsz.trans (by kernel_rfl)
  obtain ⟨t, ht⟩ := trod_ints Try.underlying29 Try.underlying21 (by kernel_rfl) hf
  refine ⟨c, t, rfl, IsK.of_get hc fun i hi => ?_, fun i hi => (bounds_i32 (ht i hi).2).1, fun i hi => (bounds_i32 (ht i hi).2).2⟩
  rw [← Array.getElem?_toList]
  exact (ht i hi).1
end

set_option maxRecDepth 100000 in
set_option maxHeartbeats 400000 in
theorem toWater_any (xs : Array Value) (t : Nat → Int) (w : World) (hX : IsWat xs t) :
    Calls Try.prog 15 #[.agg xs] w fun e w' => e = .returned (.agg xs) ∧ Below w.heap.size w w' := by
  have hx := hX.size
  have h1 := hX.ones
  have H := Lib.hid hX; clear hX
  go_enter Try.func15, Try.ntmps15
  go_wp2
  go_loopw [4] (fun i W => ∃ (k : Nat) (ys : Array Value), k ≤ 17 ∧ i = .int .i64 k ∧ ys.size = 17 ∧ Hid (∀ j, j < k → ys[j]? = xs[j]?) ∧ (∃ ws : Array Value, ws.size = 17 ∧ W = ((w.alloc (.cells xs 29)).alloc (.cells ws 32)).alloc (.cells ys 32))) (fun i _ => 17 - (intOf i).toNat)
  case atStart => exact ⟨0, _, by omega, rfl, rfl, Lib.hid (by omega), _, rfl, rfl⟩
  case round =>
    obtain ⟨k, ys, hk, rfl, hy, he, ws, hws, rfl⟩ := hrel
    by_cases hlt : k < 17
    · have hk1 : k < xs.size := by omega
      have hk2 : k < ys.size := by omega
      have h0 := H.out.isK.cell k hk1
      go_wp2
      go_roundw
      case rel => exact ⟨k + 1, _, by omega, by go_num, by simpa using hy, Lib.hid (by
        intro j hj
        by_cases hjk : j = k
        · subst hjk; simp [hk2, hk1, h0]
        · rw [← he.out j (by omega)]; simp [Ne.symm hjk]), _, hws, rfl⟩
      case measure => simp [intOf]; omega
    · obtain rfl : k = 17 := by omega
      have hxy : ys = xs := by
        apply Array.ext_getElem?; intro i; by_cases hi : i < 17
        · exact he.out i hi
        · simp [hy, hx, hi]
      clear he; subst hxy
      go_wp2
      refine bodyPost_ret (v := .agg ys) (results_row1 rfl _ _ (w.heap.size + 1) ys rfl (by simp [go_sem]) Try.underlying32 rfl (by kernel_rfl) hy) rfl ⟨rfl, ?_⟩
      exact (((Below.refl _ _).alloc (Nat.le_refl _) _).alloc (by simp) _).alloc (by simp; omega) _
set_option maxRecDepth 100000 in
set_option maxHeartbeats 400000 in
theorem eqWater_same (xs : Array Value) (t : Nat → Int) (w : World) (hX : IsK .i32 xs 17 t) :
    Calls Try.prog 18 #[.agg xs, .agg xs] w fun e w' => e = .returned (.bool true) ∧ Below w.heap.size w w' := by
  have hx := hX.size
  have H := Lib.hid hX; clear hX
  go_enter Try.func18, Try.ntmps18
  go_wp2
  go_loopw [5] (fun i W => ∃ k : Nat, k ≤ 17 ∧ i = .int .i64 k ∧ rowAt W w.heap.size = some xs ∧ rowAt W (w.heap.size + 1) = some xs ∧ Below w.heap.size w W) (fun i _ => 17 - (intOf i).toNat)
  case atStart => exact ⟨0, by omega, rfl, (rowAt_alloc_past _ _ _ (by simp)).trans (rowAt_alloc_at _ _ _ _ rfl), rowAt_alloc_at _ _ _ _ (by simp), ((Below.refl _ _).alloc (Nat.le_refl _) _).alloc (by simp) _⟩
  case round =>
    obtain ⟨k, hk, rfl, r0, r1, hB⟩ := hrel
    by_cases hlt : k < 17
    · have hk1 : k < xs.size := by omega
      have h0 := H.out.cell k hk1
      have c0 : wr.cell? ⟨w.heap.size, k, none⟩ = some (.int .i32 (t k)) := by rw [cell_of_rowAt r0, Array.getElem?_eq_getElem hk1, h0]
      have c1 : wr.cell? ⟨w.heap.size + 1, k, none⟩ = some (.int .i32 (t k)) := by rw [cell_of_rowAt r1, Array.getElem?_eq_getElem hk1, h0]
      have hi0 : 0 ≤ (k : Int) := by omega
      have hi1 : (k : Int) < 17 := by omega
      go_wp2
      go_quiet (fail)
      go_wp2
      refine ⟨⟨k + 1, by omega, by go_num, r0, r1, below_drewN hB _⟩, by simp [intOf]; omega⟩
    · go_wp2
      go_ret
      exact ⟨rfl, hB⟩

end Go.Proofs.Ytfdoehakpeddnaa
