/- Numbers and their bounds: the program's own check. -/
import Derived.Test.YtcdddngdjhjdbaaAnyI
import Derived.Test.YtcdddngdjhjdbaaList
import Derived.Deep.LoopGhost
import Derived.Deep.Draws
import Derived.Shelf.Abstract
namespace Go.Proofs.Ytcdddngdjhjdbaa
open Go.RowKit

/-- A number outside its bounds. -/
def outB (x lo hi : Int) : Bool := decide (x < lo ∨ hi < x)
theorem isOutside_any (x lo hi : Int) (w : World) :
    Calls Try.prog 74 #[.agg #[.int .i64 x, .int .i64 lo, .int .i64 hi]] w fun e w' => e = .returned (.bool (outB x lo hi)) ∧ Below w.heap.size w w' := by
  by_cases h1 : x < lo
  · have hd : decide (x < lo) = true := by simp [h1]
    have hV : outB x lo hi = true := by simp [outB, h1]
    rw [hV]
    clear hV
    go_enter Try.func74, Try.ntmps74
    go_wp2_with fail
    go_ret
    exact ⟨rfl, (Below.refl _ _).alloc (Nat.le_refl _) _⟩
  · by_cases h2 : hi < x
    · have hV : outB x lo hi = true := by simp [outB, h2]
      rw [hV]
      clear hV
      go_enter Try.func74, Try.ntmps74
      go_wp2_with fail
      go_ret
      exact ⟨rfl, (Below.refl _ _).alloc (Nat.le_refl _) _⟩
    · have hV : outB x lo hi = false := by simp [outB]; omega
      rw [hV]
      clear hV
      go_enter Try.func74, Try.ntmps74
      go_wp2_with fail
      go_ret
      exact ⟨rfl, (Below.refl _ _).alloc (Nat.le_refl _) _⟩

/-- Which of k bounded numbers is outside. -/
def outs (h : Nat → Int) (i : Nat) : Bool := outB (h (i * 3)) (h (i * 3 + 1)) (h (i * 3 + 2))
theorem IsList.bnd {w : World} {base n : Nat} {a : Option Addr} {cap : Nat} {f : Nat → Int} (h : IsList w base (.slice a n cap) 3 n (fun i => .int .i64 (f i))) {k : Nat} (hk : k < n) :
    ∃ g, a = some ⟨g, 0, none⟩ ∧ w.cell? ⟨g, k * 3, none⟩ = some (.int .i64 (f (k * 3))) ∧ w.cell? ⟨g, k * 3 + 1, none⟩ = some (.int .i64 (f (k * 3 + 1))) ∧ w.cell? ⟨g, k * 3 + 2, none⟩ = some (.int .i64 (f (k * 3 + 2))) := by
  rcases h with ⟨h0, _⟩ | ⟨g, cap', cur, e, hg, hr, hs, hf⟩
  · omega
  · cases e
    exact ⟨g, rfl, by rw [cell_of_rowAt hr]; exact hf _ (by omega), by rw [cell_of_rowAt hr]; exact hf _ (by omega), by rw [cell_of_rowAt hr]; exact hf _ (by omega)⟩

set_option maxHeartbeats 1000000 in
theorem idxOut_any (b n : Nat) (v : Value) (f : Nat → Int) (w : World) (hv : IsList w b v 3 n (fun i => .int .i64 (f i))) (hn : n ≤ 2000000) :
    Calls Try.prog 141 #[v, .func (.func 74) #[] #[]] w fun e w' => e = .returned (.int .i64 (firstI (outs f) n)) ∧ Below w.heap.size w w' := by
  have HV := Lib.hid hv
  obtain ⟨a, cap, rfl⟩ := hv.shape
  clear hv
  go_enter Try.func141, Try.ntmps141
  go_wp2_with fail
  go_loopg [5, 8] n (fun gg _ i W => ∃ k : Nat, k ≤ n ∧ n - k ≤ gg ∧ i = .int .i64 k ∧ Hid (∀ j, j < k → outs f j = false) ∧ Below w.heap.size w W)
  case atStart => exact ⟨0, by omega, by omega, rfl, Lib.hid (by omega), Below.refl _ _⟩
  case round =>
    obtain ⟨k, hk, hg, rfl, hF, hB⟩ := hrel
    by_cases hlt : k < n
    · obtain ⟨b', rfl, c0, c1, c2⟩ := (HV.out.below hB (Nat.le_refl _)).bnd hlt
      have hi0 : 0 ≤ (k : Int) := by omega
      have hi1 : (k : Int) < n := by omega
      have HB := Lib.hid hB
      clear hB
      have hcall := fun W => isOutside_any (f (k * 3)) (f (k * 3 + 1)) (f (k * 3 + 2)) W
      cases hq : outB (f (k * 3)) (f (k * 3 + 1)) (f (k * 3 + 2)) with
      | true =>
        rw [hq] at hcall
        have HQ : Hid (outs f k = true) := Lib.hid hq
        clear hq
        go_wp2_with fail
        refine (hcall _).mono ?_
        rintro e w' ⟨rfl, b'⟩
        have B2 := bnext HB.out b' HB.out.size
        clear hcall b' c0 c1 c2
        go_wp2_with fail
        go_ret
        exact ⟨by rw [firstI_hit hlt hF.out HQ.out]; rfl, B2⟩
      | false =>
        rw [hq] at hcall
        have HQ : Hid (outs f k = false) := Lib.hid hq
        clear hq
        go_wp2_with fail
        refine (hcall _).mono ?_
        rintro e w' ⟨rfl, b'⟩
        have B2 := bnext HB.out b' HB.out.size
        clear hcall b' c0 c1 c2
        go_wp2_with fail
        go_roundg (n - (k + 1))
        case measure => omega
        case rel => exact ⟨k + 1, by omega, by omega, by go_num, Lib.hid (fun j hj => by
          by_cases e : j = k
          · subst e; exact HQ.out
          · exact hF.out j (by omega)), B2⟩
    · obtain rfl : k = n := by omega
      go_wp2_with fail
      go_ret
      exact ⟨by rw [firstI_miss hF.out]; rfl, hB⟩
theorem hasOut_any (b n : Nat) (v : Value) (f : Nat → Int) (w : World) (hv : IsList w b v 3 n (fun i => .int .i64 (f i))) (hn : n ≤ 2000000) :
    Calls Try.prog 124 #[v, .func (.func 74) #[] #[]] w fun e w' => e = .returned (.bool (anyI (outs f) n)) ∧ Below w.heap.size w w' := by
  have hbd := firstI_bd (outs f) n
  have CX := idxOut_any b n v f w hv hn
  obtain ⟨a, cap, rfl⟩ := hv.shape
  unfold anyI
  generalize firstI (outs f) n = z at *
  clear hv
  by_cases hz : 0 ≤ z
  · have hd : decide (0 ≤ z) = true := by simp [hz]
    rw [hd]
    go_enter Try.func124, Try.ntmps124
    go_wp2_with fail
    refine CX.mono ?_
    rintro e w1 ⟨rfl, b1⟩
    go_wp2_with fail
    go_ret
    exact ⟨rfl, b1⟩
  · have hd : decide (0 ≤ z) = false := by simp; omega
    rw [hd]
    go_enter Try.func124, Try.ntmps124
    go_wp2_with fail
    refine CX.mono ?_
    rintro e w1 ⟨rfl, b1⟩
    go_wp2_with fail
    go_ret
    exact ⟨rfl, b1⟩

/-- Numbers that all are as told. -/
def fineB (h : Nat → Int) (k : Nat) : Bool := !(anyI (outs h) k)

end Go.Proofs.Ytcdddngdjhjdbaa
