/- Chapter 4: the program's checks of a roof, cells, places and numbers. -/
import Derived.Test.YtkimngffbioeeaaClimb
import Derived.Test.YtkimngffbioeeaaArgN
import Derived.Deep.LoopGhost
import Derived.Deep.Draws
import Derived.Shelf.Abstract
namespace Go.Proofs.Ytkimngffbioeeaa
open Go.RowKit

/-- The first k below n of which p holds, or -1. -/
def firstI (p : Nat → Bool) : Nat → Int
  | 0 => -1
  | n + 1 => if 0 ≤ firstI p n then firstI p n else if p n then n else -1
theorem firstI_miss {p : Nat → Bool} : ∀ {n : Nat}, (∀ j, j < n → p j = false) → firstI p n = -1
  | 0, _ => rfl
  | n + 1, h => by
    have := firstI_miss (n := n) fun j hj => h j (by omega)
    unfold firstI
    rw [this, if_neg (by omega), h n (by omega)]
    rfl
theorem firstI_hit {p : Nat → Bool} : ∀ {n k : Nat}, k < n → (∀ j, j < k → p j = false) → p k = true → firstI p n = k
  | 0, k, hk, _, _ => by omega
  | n + 1, k, hk, h, hp => by
    unfold firstI
    by_cases e : k = n
    · subst e
      rw [firstI_miss h, if_neg (by omega), hp]; rfl
    · rw [firstI_hit (n := n) (by omega) h hp, if_pos (by omega)]
theorem firstI_bd (p : Nat → Bool) : ∀ n : Nat, -1 ≤ firstI p n ∧ firstI p n < n
  | 0 => by simp [firstI]
  | n + 1 => by
    have := firstI_bd p n
    unfold firstI
    split
    · omega
    · split <;> omega
theorem firstI_of {p : Nat → Bool} {n : Nat} (h : firstI p n = -1) : ∀ j, j < n → p j = false := by
  induction n with
  | zero => intro j hj; omega
  | succ n ih =>
    intro j hj
    unfold firstI at h
    split at h
    · omega
    · rename_i h1
      have h2 : firstI p n = -1 := by have := firstI_bd p n; omega
      split at h
      · omega
      · rename_i h3
        by_cases e : j = n
        · subst e; simpa using h3
        · exact ih h2 j (by omega)
theorem firstI_congr {p q : Nat → Bool} : ∀ {n : Nat}, (∀ j, j < n → p j = q j) → firstI p n = firstI q n
  | 0, _ => rfl
  | n + 1, h => by unfold firstI; rw [firstI_congr fun j hj => h j (by omega), h n (by omega)]
/-- Some k below n of which p holds. -/
def anyI (p : Nat → Bool) (n : Nat) : Bool := decide (0 ≤ firstI p n)
theorem anyI_f {p : Nat → Bool} {n : Nat} : anyI p n = false ↔ ∀ j, j < n → p j = false := by
  unfold anyI
  constructor
  · intro h
    have := firstI_bd p n
    exact firstI_of (by simp at h; omega)
  · intro h
    rw [firstI_miss h]; rfl

/-- A number outside its bounds. -/
def outB (x lo hi : Int) : Bool := decide (x < lo ∨ hi < x)
theorem isOutside_any (x lo hi : Int) (w : World) :
    Calls Try.prog 113 #[.agg #[.int .i64 x, .int .i64 lo, .int .i64 hi]] w fun e w' => e = .returned (.bool (outB x lo hi)) ∧ Below w.heap.size w w' := by
  by_cases h1 : x < lo
  · have hd : decide (x < lo) = true := by simp [h1]
    have hV : outB x lo hi = true := by simp [outB, h1]
    rw [hV]
    clear hV
    go_enter Try.func113, Try.ntmps113
    go_wp2_with fail
    go_ret
    exact ⟨rfl, (Below.refl _ _).alloc (Nat.le_refl _) _⟩
  · by_cases h2 : hi < x
    · have hV : outB x lo hi = true := by simp [outB, h2]
      rw [hV]
      clear hV
      go_enter Try.func113, Try.ntmps113
      go_wp2_with fail
      go_ret
      exact ⟨rfl, (Below.refl _ _).alloc (Nat.le_refl _) _⟩
    · have hV : outB x lo hi = false := by simp [outB]; omega
      rw [hV]
      clear hV
      go_enter Try.func113, Try.ntmps113
      go_wp2_with fail
      go_ret
      exact ⟨rfl, (Below.refl _ _).alloc (Nat.le_refl _) _⟩

/-- A predicate on numbers as a function value: what it answers in every later world; it changes nothing old. -/
def PredI (g : FuncId) (lb : Array Value) (p : Int → Bool) (w : World) : Prop :=
  ∀ x W, Below w.heap.size w W → Calls Try.prog g (#[.int .i64 x] ++ lb) W fun e w' => e = .returned (.bool (p x)) ∧ Below W.heap.size W w'
theorem PredI.later {g : FuncId} {lb : Array Value} {p : Int → Bool} {w w' : World} (h : PredI g lb p w) (b : Below w.heap.size w w') : PredI g lb p w' :=
  fun x W B => h x W (bnext b B b.size)
set_option maxHeartbeats 1000000 in
theorem idxFuncI_any (g : FuncId) (lb : Array Value) (p : Int → Bool) (eg : ∀ args w, (callFunc g args).run Try.prog w = .ok (.enter g args) w) (v : Value) (n : Nat) (f : Nat → Int) (w : World) (hp : PredI g lb p w) (hv : NumsAt w v n f) (hn : n ≤ 2000000) :
    Calls Try.prog 105 #[v, .func (.func g) #[] lb] w fun e w' => e = .returned (.int .i64 (firstI (fun i => p (f i)) n)) ∧ Below w.heap.size w w' := by
  have HP := Lib.hid hp
  have HV := Lib.hid hv
  obtain ⟨a, cap, rfl⟩ := hv.shape
  clear hp hv
  go_enter Try.func105, Try.ntmps105
  go_wp2_with fail
  go_loopg [5, 8] n (fun gg _ i W => ∃ k : Nat, k ≤ n ∧ n - k ≤ gg ∧ i = .int .i64 k ∧ Hid (∀ j, j < k → p (f j) = false) ∧ Below w.heap.size w W)
  case atStart => exact ⟨0, by omega, by omega, rfl, Lib.hid (by omega), Below.refl _ _⟩
  case round =>
    obtain ⟨k, hk, hg, rfl, hF, hB⟩ := hrel
    by_cases hlt : k < n
    · obtain ⟨b, o, rfl, cc⟩ := (HV.out.below hB (Nat.le_refl _)).at hlt
      have hi0 : 0 ≤ (k : Int) := by omega
      have hi1 : (k : Int) < n := by omega
      have hcall := HP.out (f k) _ hB
      have HB := Lib.hid hB
      clear hB
      cases hq : p (f k) with
      | true =>
        rw [hq] at hcall
        have HQ := Lib.hid hq
        clear hq
        go_wp2_with (go_at_fn g; refine (hcall).mono ?_; rintro e w' ⟨rfl, b'⟩)
        have B2 := bnext HB.out b' HB.out.size
        clear hcall
        go_ret
        exact ⟨by rw [firstI_hit hlt hF.out HQ.out]; rfl, B2⟩
      | false =>
        rw [hq] at hcall
        have HQ := Lib.hid hq
        clear hq
        go_wp2_with (go_at_fn g; refine (hcall).mono ?_; rintro e w' ⟨rfl, b'⟩)
        have B2 := bnext HB.out b' HB.out.size
        clear hcall
        go_roundg (n - (k + 1))
        case measure => omega
        case rel => exact ⟨k + 1, by omega, by omega, by go_num, Lib.hid (fun j hj => by
          by_cases e : j = k
          · subst e; exact HQ.out
          · exact hF.out j (by omega)), B2⟩
    · obtain rfl : k = n := by omega
      go_wp2_with fail
      go_ret
      exact ⟨by rw [firstI_miss hF.out]; rfl, hB⟩
theorem hasFuncI_any (g : FuncId) (lb : Array Value) (p : Int → Bool) (eg : ∀ args w, (callFunc g args).run Try.prog w = .ok (.enter g args) w) (v : Value) (n : Nat) (f : Nat → Int) (w : World) (hp : PredI g lb p w) (hv : NumsAt w v n f) (hn : n ≤ 2000000) :
    Calls Try.prog 100 #[v, .func (.func g) #[] lb] w fun e w' => e = .returned (.bool (anyI (fun i => p (f i)) n)) ∧ Below w.heap.size w w' := by
  have hbd := firstI_bd (fun i => p (f i)) n
  have CX := idxFuncI_any g lb p eg v n f w hp hv hn
  obtain ⟨a, cap, rfl⟩ := hv.shape
  unfold anyI
  generalize firstI (fun i => p (f i)) n = z at *
  clear hp hv
  by_cases hz : 0 ≤ z
  · have hd : decide (0 ≤ z) = true := by simp [hz]
    rw [hd]
    go_enter Try.func100, Try.ntmps100
    go_wp2_with fail
    refine CX.mono ?_
    rintro e w1 ⟨rfl, b1⟩
    go_wp2_with fail
    go_ret
    exact ⟨rfl, b1⟩
  · have hd : decide (0 ≤ z) = false := by simp; omega
    rw [hd]
    go_enter Try.func100, Try.ntmps100
    go_wp2_with fail
    refine CX.mono ?_
    rintro e w1 ⟨rfl, b1⟩
    go_wp2_with fail
    go_ret
    exact ⟨rfl, b1⟩
end Go.Proofs.Ytkimngffbioeeaa
