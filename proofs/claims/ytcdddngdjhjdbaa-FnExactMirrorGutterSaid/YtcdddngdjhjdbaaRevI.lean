/- slices.Reverse at a part of an array of small numbers, in place. -/
import Derived.Test.YtcdddngdjhjdbaaHelp
import Derived.Test.YtcdddngdjhjdbaaAgg
import Derived.BigRegion
namespace Go.Proofs.Ytcdddngdjhjdbaa
open Go.RowKit

/-- Of the blocks of w only g may have changed. -/
structure LeK (g : Nat) (w W : World) : Prop where
  size : w.heap.size ≤ W.heap.size
  bel : ∀ B, B ≤ g → B ≤ w.heap.size → Below B w W
  other : ∀ k, k ≠ g → k < w.heap.size → rowAt W k = rowAt w k
theorem LeK.refl (g : Nat) (w : World) : LeK g w w := ⟨Nat.le_refl _, fun _ _ _ => Below.refl _ _, fun _ _ _ => rfl⟩
theorem LeK.setC {g : Nat} {w W : World} (h : LeK g w W) (o : Nat) (u : Value) : LeK g w (W.setCell ⟨g, o, none⟩ u) :=
  ⟨by simpa using h.size, fun B b1 b2 => (h.bel B b1 b2).setCell (by simpa using b1) _, fun k h1 h2 => (rowAt_setCell_ne _ _ _ _ _ h1).trans (h.other k h1 h2)⟩
theorem LeK.drew {g : Nat} {w W : World} (h : LeK g w W) : LeK g w W.drew := ⟨h.size, fun B b1 b2 => (h.bel B b1 b2).drew, fun k h1 h2 => h.other k h1 h2⟩

def revT (h : Nat → Int) (n k r q : Nat) : Int := if q < k ∨ r < q then h (n - 1 - q) else h q
theorem revT_next {h : Nat → Int} {n k r : Nat} (hn : k + r + 1 = n) (hk : k < r) {o : Nat} {cu : Array Value} (hs : o + n ≤ cu.size) (hc : ∀ q, q < n → cu[o + q]? = some (.int .i8 (revT h n k r q))) :
    ∀ q, q < n → ((cu.setIfInBounds (o + k) (.int .i8 (h r))).setIfInBounds (o + r) (.int .i8 (h k)))[o + q]? = some (.int .i8 (revT h n (k + 1) (r - 1) q)) := fun q hq => by
  unfold revT
  by_cases h1 : q = r
  · subst h1
    rw [Array.getElem?_setIfInBounds_self_of_lt (by simp; omega), if_pos (by omega), show n - 1 - q = k by omega]
  · rw [Array.getElem?_setIfInBounds_ne (by omega)]
    by_cases h2 : q = k
    · subst h2
      rw [Array.getElem?_setIfInBounds_self_of_lt (by omega), if_pos (by omega), show n - 1 - q = r by omega]
    · rw [Array.getElem?_setIfInBounds_ne (by omega), hc q hq]
      unfold revT
      by_cases h3 : q < k ∨ r < q
      · rw [if_pos h3, if_pos (by omega)]
      · rw [if_neg h3, if_neg (by omega)]

set_option maxRecDepth 100000 in
set_option maxHeartbeats 4000000 in
theorem revI8_any (K o n cap : Nat) (c : Array Value) (h : Nat → Int) (w : World) (hr : rowAt w K = some c) (hs : o + n ≤ c.size) (hc : ∀ q, q < n → c[o + q]? = some (.int .i8 (h q))) (hn : 1 ≤ n ∧ n ≤ 1000) (_hcap : n ≤ cap) :
    Calls Try.prog 50 #[.slice (some ⟨K, o, none⟩) n cap] w fun e w' => e = .returned (.tuple #[]) ∧ (∃ c', rowAt w' K = some c' ∧ c'.size = c.size ∧ (∀ q, q < n → c'[o + q]? = some (.int .i8 (h (n - 1 - q)))) ∧ ∀ j, (j < o ∨ o + n ≤ j) → c'[j]? = c[j]?) ∧ LeK K w w' := by
  have HC := Lib.hid (show ∀ q, q < n → c[o + q]? = some (.int .i8 (revT h n 0 (n - 1) q)) from fun q hq => by rw [hc q hq]; unfold revT; rw [if_neg (by omega)])
  have HS := Lib.hid hs
  clear hc hs
  have e0 : (n : Int) - 1 = ((n - 1 : Nat) : Int) := by omega
  go_enter Try.func50, Try.ntmps50
  go_wp2_with fail
  go_loopw [2, 3] (fun i j W => ∃ (k r : Nat) (cu : Array Value), k + r + 1 = n ∧ k ≤ r + 1 ∧ i = .int .i64 k ∧ j = .int .i64 r ∧ rowAt W K = some cu ∧ cu.size = c.size ∧ Hid (∀ q, q < n → cu[o + q]? = some (.int .i8 (revT h n k r q))) ∧ Hid (∀ j, (j < o ∨ o + n ≤ j) → cu[j]? = c[j]?) ∧ Hid (LeK K w W)) (fun i _ _ => n - (intOf i).toNat)
  case atStart => exact ⟨0, n - 1, c, by omega, by omega, by first | rfl | go_num, by first | rfl | go_num, hr, rfl, HC, Lib.hid (fun _ _ => rfl), Lib.hid (LeK.refl _ _)⟩
  case round =>
    clear hr HC
    obtain ⟨k, r, cu, hkr, hle, rfl, rfl, hr, hcs, hC, hO, hL⟩ := hrel
    have k0 : 0 ≤ (k : Int) := by omega
    have r0 : 0 ≤ (r : Int) := by omega
    by_cases hlt : k < r
    · have k2 : (k : Int) < n := by omega
      have r2 : (r : Int) < n := by omega
      have kr : (k : Int) < r := by omega
      have c1 : wr.cell? ⟨K, o + k, none⟩ = some (.int .i8 (h k)) := (cell_of_rowAt hr _).trans ((hC.out k (by omega)).trans (by unfold revT; rw [if_neg (by omega)]))
      have c2 : wr.cell? ⟨K, o + r, none⟩ = some (.int .i8 (h r)) := (cell_of_rowAt hr _).trans ((hC.out r (by omega)).trans (by unfold revT; rw [if_neg (by omega)]))
      have f1 := frozen_of_rowAt hr (o + k)
      have f2 := frozen_of_rowAt hr (o + r)
      have lk := rowAt_lt hr
      have nkr : o + k ≠ o + r := by omega
      have nrk : o + r ≠ o + k := by omega
      have HN := Lib.hid (revT_next hkr hlt (by have := HS.out; omega) hC.out)
      have HR := Lib.hid hr
      clear hr
      generalize h k = x at *
      generalize h r = z at *
      go_wp2_with fail
      go_region
      go_wp2_with fail
      have R1 := rowAt_setCell_at wr K (o + k) (.int .i8 z) (by rw [HR.out]; rfl)
      rw [HR.out, Option.getD_some] at R1
      have R2 := rowAt_setCell_at (wr.setCell ⟨K, o + k, none⟩ (.int .i8 z)) K (o + r) (.int .i8 x) (by rw [R1]; rfl)
      rw [R1, Option.getD_some] at R2
      refine ⟨⟨k + 1, r - 1, _, by omega, by omega, by go_num, ?_, R2, by simpa using hcs, HN, Lib.hid fun j hj => ?_, Lib.hid ((hL.out.setC _ _).setC _ _).drew⟩, by simp [intOf]; omega⟩
      · rw [show ((r - 1 : Nat) : Int) = (r : Int) - 1 by omega]
      · rw [Array.getElem?_setIfInBounds_ne (by omega), Array.getElem?_setIfInBounds_ne (by omega)]
        exact hO.out j hj
    · go_wp2_with fail
      go_end0
      refine ⟨rfl, ⟨cu, hr, hcs, fun q hq => (hC.out q hq).trans ?_, hO.out⟩, hL.out⟩
      unfold revT
      by_cases h3 : q < k ∨ r < q
      · rw [if_pos h3]
      · rw [if_neg h3, show n - 1 - q = q by omega]
end Go.Proofs.Ytcdddngdjhjdbaa
