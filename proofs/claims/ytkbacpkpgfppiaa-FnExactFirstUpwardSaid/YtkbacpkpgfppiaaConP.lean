/- slices.Index, Contains, IndexFunc, ContainsFunc at places. -/
import Derived.Test.YtkbacpkpgfppiaaHasP
namespace Go.Proofs.Ytkbacpkpgfppiaa
open Go.RowKit

set_option maxRecDepth 100000 in
set_option maxHeartbeats 1000000 in
theorem indexP_any (B n : Nat) (v : Value) (f : Nat → Int) (a b : Int) (w : World) (hv : IsList w B v 2 n (fun i => .int .i8 (f i))) (hn : n ≤ 2000000) :
    Calls Try.prog 156 #[v, .agg #[.int .i8 a, .int .i8 b]] w fun e w' => e = .returned (.int .i64 (firstI (fun q => decide (f (q * 2) = a ∧ f (q * 2 + 1) = b)) n)) ∧ Below w.heap.size w w' := by
  obtain ⟨av, cv, rfl⟩ := hv.shape
  go_enter Try.func156, Try.ntmps156
  go_wp2_with fail
  refine gen_world fun W0 hW => ?_
  have pB : Hid (Below w.heap.size w W0) := Lib.hid (by rw [hW]; exact (Below.refl _ _).alloc (Nat.le_refl _) _)
  have pX : Hid (rowAt W0 w.heap.size = some #[.int .i8 a, .int .i8 b]) := Lib.hid (by rw [hW]; exact rowAt_alloc_at _ _ _ _ rfl)
  have HV := Lib.hid (hv.below pB.out (Nat.le_refl _))
  clear hW hv
  go_loopg [5, 8] n (fun gg _ i' W => ∃ k : Nat, k ≤ n ∧ n - k ≤ gg ∧ i' = .int .i64 k ∧ Hid (∀ q, q < k → decide (f (q * 2) = a ∧ f (q * 2 + 1) = b) = false) ∧ Below W0.heap.size W0 W)
  case atStart => exact ⟨0, by omega, by omega, rfl, Lib.hid (by omega), Below.refl _ _⟩
  case round =>
    obtain ⟨k, hk, hg, rfl, hF, hB⟩ := hrel
    by_cases hlt : k < n
    · obtain ⟨gg, rfl, c0, c1⟩ := (HV.out.below hB (Nat.le_refl _)).pl hlt
      have x0 := cell_of_rowAt (brow hB pX.out) 0
      have x1 := cell_of_rowAt (brow hB pX.out) 1
      have hi0 : 0 ≤ (k : Int) := by omega
      have hi1 : (k : Int) < n := by omega
      have HB := Lib.hid hB
      clear hB
      by_cases hx : f (k * 2) = a ∧ f (k * 2 + 1) = b
      · have HX : Hid (decide (f (k * 2) = a ∧ f (k * 2 + 1) = b) = true) := Lib.hid (by simp [hx.1, hx.2])
        obtain ⟨h0, h1⟩ := hx
        have e0 : (a == f (k * 2)) = true := by simp [h0]
        have e1 : (b == f (k * 2 + 1)) = true := by simp [h1]
        clear h0 h1
        go_wp2_with fail
        go_quiet (fail)
        go_wp2_with fail
        go_ret
        exact ⟨by rw [firstI_hit hlt hF.out HX.out]; rfl, below_drewN (pB.out.trans (HB.out.mono pB.out.size)) _⟩
      · have HX : Hid (decide (f (k * 2) = a ∧ f (k * 2 + 1) = b) = false) := Lib.hid (decide_eq_false hx)
        by_cases h0 : f (k * 2) = a
        · have h1 : ¬ f (k * 2 + 1) = b := fun e => hx ⟨h0, e⟩
          have e0 : (a == f (k * 2)) = true := by simp [h0]
          have e1 : (b == f (k * 2 + 1)) = false := by simp [Ne.symm h1]
          clear h0 h1 hx
          go_wp2_with fail
          go_quiet (fail)
          go_wp2_with fail
          go_roundg (n - (k + 1))
          case measure => omega
          case rel =>
            refine ⟨k + 1, by omega, by omega, by go_num, Lib.hid (fun q hq => ?_), below_drewN HB.out _⟩
            by_cases e : q = k
            · subst e; exact HX.out
            · exact hF.out q (by omega)
        · have e0 : (a == f (k * 2)) = false := by simp [Ne.symm h0]
          clear h0 hx
          go_wp2_with fail
          go_quiet (fail)
          go_wp2_with fail
          go_roundg (n - (k + 1))
          case measure => omega
          case rel =>
            refine ⟨k + 1, by omega, by omega, by go_num, Lib.hid (fun q hq => ?_), below_drewN HB.out _⟩
            by_cases e : q = k
            · subst e; exact HX.out
            · exact hF.out q (by omega)
    · obtain rfl : k = n := by omega
      go_wp2_with fail
      go_ret
      exact ⟨by rw [firstI_miss hF.out]; rfl, pB.out.trans (hB.mono pB.out.size)⟩
set_option maxRecDepth 100000 in
theorem containsP_any (B n : Nat) (v : Value) (f : Nat → Int) (a b : Int) (w : World) (hv : IsList w B v 2 n (fun i => .int .i8 (f i))) (hn : n ≤ 2000000) :
    Calls Try.prog 122 #[v, .agg #[.int .i8 a, .int .i8 b]] w fun e w' => e = .returned (.bool (hasP f n a b)) ∧ Below w.heap.size w w' := by
  have hbd := firstI_bd (fun q => decide (f (q * 2) = a ∧ f (q * 2 + 1) = b)) n
  have HV := Lib.hid (hv.below ((Below.refl w.heap.size w).alloc (Nat.le_refl _) (.cells #[.int .i8 a, .int .i8 b] 58)) (Nat.le_refl _))
  obtain ⟨av, cv, rfl⟩ := hv.shape
  have CX := fun W H => indexP_any B n (.slice av n cv) f a b W H hn
  unfold hasP anyI
  generalize firstI (fun q => decide (f (q * 2) = a ∧ f (q * 2 + 1) = b)) n = z at *
  clear hv
  by_cases hz : 0 ≤ z
  · have hd : decide (0 ≤ z) = true := by simp [hz]
    rw [hd]
    go_enter Try.func122, Try.ntmps122
    go_wp2_with fail
    refine (CX _ HV.out).mono ?_
    rintro e w1 ⟨rfl, b1⟩
    go_wp2_with fail
    go_ret
    exact ⟨rfl, ((Below.refl _ _).alloc (Nat.le_refl _) _).trans (b1.mono (by simp))⟩
  · have hd : decide (0 ≤ z) = false := by simp; omega
    rw [hd]
    go_enter Try.func122, Try.ntmps122
    go_wp2_with fail
    refine (CX _ HV.out).mono ?_
    rintro e w1 ⟨rfl, b1⟩
    go_wp2_with fail
    go_ret
    exact ⟨rfl, ((Below.refl _ _).alloc (Nat.le_refl _) _).trans (b1.mono (by simp))⟩

/-- A predicate on places as a function value. -/
def PredP (g : FuncId) (lb : Array Value) (p : Int → Int → Bool) (w : World) : Prop :=
  ∀ a b W, Below w.heap.size w W → Calls Try.prog g (#[.agg #[.int .i8 a, .int .i8 b]] ++ lb) W fun e w' => e = .returned (.bool (p a b)) ∧ Below W.heap.size W w'

set_option maxRecDepth 100000 in
set_option maxHeartbeats 1000000 in
theorem idxFuncP_any (g : FuncId) (lb : Array Value) (p : Int → Int → Bool) (eg : ∀ args w, (callFunc g args).run Try.prog w = .ok (.enter g args) w) (B n : Nat) (v : Value) (f : Nat → Int) (w : World) (hp : PredP g lb p w) (hv : IsList w B v 2 n (fun i => .int .i8 (f i))) (hn : n ≤ 2000000) :
    Calls Try.prog 103 #[v, .func (.func g) #[] lb] w fun e w' => e = .returned (.int .i64 (firstI (fun i => p (f (i * 2)) (f (i * 2 + 1))) n)) ∧ Below w.heap.size w w' := by
  have HP := Lib.hid hp
  have HV := Lib.hid hv
  obtain ⟨a, cap, rfl⟩ := hv.shape
  clear hp hv
  go_enter Try.func103, Try.ntmps103
  go_wp2_with fail
  go_loopg [5, 8] n (fun gg _ i W => ∃ k : Nat, k ≤ n ∧ n - k ≤ gg ∧ i = .int .i64 k ∧ Hid (∀ j, j < k → p (f (j * 2)) (f (j * 2 + 1)) = false) ∧ Below w.heap.size w W)
  case atStart => exact ⟨0, by omega, by omega, rfl, Lib.hid (by omega), Below.refl _ _⟩
  case round =>
    obtain ⟨k, hk, hg, rfl, hF, hB⟩ := hrel
    by_cases hlt : k < n
    · obtain ⟨b, rfl, c0, c1⟩ := (HV.out.below hB (Nat.le_refl _)).pl hlt
      have hi0 : 0 ≤ (k : Int) := by omega
      have hi1 : (k : Int) < n := by omega
      have hcall := HP.out (f (k * 2)) (f (k * 2 + 1)) _ hB
      have HB := Lib.hid hB
      clear hB
      cases hq : p (f (k * 2)) (f (k * 2 + 1)) with
      | true =>
        rw [hq] at hcall
        have HQ := Lib.hid hq
        clear hq
        go_wp2_with (go_at_fn g; refine (hcall).mono ?_; rintro e w' ⟨rfl, b'⟩)
        have B2 := bnext HB.out b' HB.out.size
        clear hcall
        go_ret
        exact ⟨by rw [firstI_hit hlt hF.out HQ.out]; rfl, B2⟩
      | false =>
        rw [hq] at hcall
        have HQ := Lib.hid hq
        clear hq
        go_wp2_with (go_at_fn g; refine (hcall).mono ?_; rintro e w' ⟨rfl, b'⟩)
        have B2 := bnext HB.out b' HB.out.size
        clear hcall
        go_roundg (n - (k + 1))
        case measure => omega
        case rel => exact ⟨k + 1, by omega, by omega, by go_num, Lib.hid (fun j hj => by
          by_cases e : j = k
          · subst e; exact HQ.out
          · exact hF.out j (by omega)), B2⟩
    · obtain rfl : k = n := by omega
      go_wp2_with fail
      go_ret
      exact ⟨by rw [firstI_miss hF.out]; rfl, hB⟩
set_option maxRecDepth 100000 in
theorem hasFuncP_any (g : FuncId) (lb : Array Value) (p : Int → Int → Bool) (eg : ∀ args w, (callFunc g args).run Try.prog w = .ok (.enter g args) w) (B n : Nat) (v : Value) (f : Nat → Int) (w : World) (hp : PredP g lb p w) (hv : IsList w B v 2 n (fun i => .int .i8 (f i))) (hn : n ≤ 2000000) :
    Calls Try.prog 148 #[v, .func (.func g) #[] lb] w fun e w' => e = .returned (.bool (anyI (fun i => p (f (i * 2)) (f (i * 2 + 1))) n)) ∧ Below w.heap.size w w' := by
  have hbd := firstI_bd (fun i => p (f (i * 2)) (f (i * 2 + 1))) n
  have CX := idxFuncP_any g lb p eg B n v f w hp hv hn
  obtain ⟨a, cap, rfl⟩ := hv.shape
  unfold anyI
  generalize firstI (fun i => p (f (i * 2)) (f (i * 2 + 1))) n = z at *
  clear hp hv
  by_cases hz : 0 ≤ z
  · have hd : decide (0 ≤ z) = true := by simp [hz]
    rw [hd]
    go_enter Try.func148, Try.ntmps148
    go_wp2_with fail
    refine CX.mono ?_
    rintro e w1 ⟨rfl, b1⟩
    go_wp2_with fail
    go_ret
    exact ⟨rfl, b1⟩
  · have hd : decide (0 ≤ z) = false := by simp; omega
    rw [hd]
    go_enter Try.func148, Try.ntmps148
    go_wp2_with fail
    refine CX.mono ?_
    rintro e w1 ⟨rfl, b1⟩
    go_wp2_with fail
    go_ret
    exact ⟨rfl, b1⟩
end Go.Proofs.Ytkbacpkpgfppiaa
