/- slices.IndexFunc, ContainsFunc at spans. -/
import Derived.Test.YtdegfcgknppcoaaArgSp
import Derived.Test.YtdegfcgknppcoaaAnyI
import Derived.Deep.LoopGhost
import Derived.Deep.Draws
import Derived.Shelf.Abstract
namespace Go.Proofs.Ytdegfcgknppcoaa
open Go.RowKit

/-- The cells of place k of a list of a call's own. -/
theorem IsList.sp {w : World} {base n : Nat} {a : Option Addr} {cap : Nat} {f : Nat → Int} (h : IsList w base (.slice a n cap) 2 n (fun i => .int .i16 (f i))) {k : Nat} (hk : k < n) :
    ∃ g, a = some ⟨g, 0, none⟩ ∧ w.cell? ⟨g, k * 2, none⟩ = some (.int .i16 (f (k * 2))) ∧ w.cell? ⟨g, k * 2 + 1, none⟩ = some (.int .i16 (f (k * 2 + 1))) := by
  rcases h with ⟨h0, _⟩ | ⟨g, cap', cur, e, hg, hr, hs, hf⟩
  · omega
  · cases e
    exact ⟨g, rfl, by rw [cell_of_rowAt hr]; exact hf _ (by omega), by rw [cell_of_rowAt hr]; exact hf _ (by omega)⟩
/-- A predicate on places as a function value. -/
def PredSp (g : FuncId) (lb : Array Value) (p : Int → Int → Bool) (w : World) : Prop :=
  ∀ a b W, Below w.heap.size w W → Calls Try.prog g (#[.agg #[.int .i16 a, .int .i16 b]] ++ lb) W fun e w' => e = .returned (.bool (p a b)) ∧ Below W.heap.size W w'

set_option maxRecDepth 100000 in
set_option maxHeartbeats 1000000 in
theorem idxFuncSp_any (g : FuncId) (lb : Array Value) (p : Int → Int → Bool) (eg : ∀ args w, (callFunc g args).run Try.prog w = .ok (.enter g args) w) (B n : Nat) (v : Value) (f : Nat → Int) (w : World) (hp : PredSp g lb p w) (hv : IsList w B v 2 n (fun i => .int .i16 (f i))) (hn : n ≤ 2000000) :
    Calls Try.prog 79 #[v, .func (.func g) #[] lb] w fun e w' => e = .returned (.int .i64 (firstI (fun i => p (f (i * 2)) (f (i * 2 + 1))) n)) ∧ Below w.heap.size w w' := by
  have HP := Lib.hid hp
  have HV := Lib.hid hv
  obtain ⟨a, cap, rfl⟩ := hv.shape
  clear hp hv
  go_enter Try.func79, Try.ntmps79
  go_wp2_with fail
  go_loopg [5, 8] n (fun gg _ i W => ∃ k : Nat, k ≤ n ∧ n - k ≤ gg ∧ i = .int .i64 k ∧ Hid (∀ j, j < k → p (f (j * 2)) (f (j * 2 + 1)) = false) ∧ Below w.heap.size w W)
  case atStart => exact ⟨0, by omega, by omega, rfl, Lib.hid (by omega), Below.refl _ _⟩
  case round =>
    obtain ⟨k, hk, hg, rfl, hF, hB⟩ := hrel
    by_cases hlt : k < n
    · obtain ⟨b, rfl, c0, c1⟩ := (HV.out.below hB (Nat.le_refl _)).sp hlt
      have hi0 : 0 ≤ (k : Int) := by omega
      have hi1 : (k : Int) < n := by omega
      have hcall := HP.out (f (k * 2)) (f (k * 2 + 1)) _ hB
      have HB := Lib.hid hB
      clear hB
      cases hq : p (f (k * 2)) (f (k * 2 + 1)) with
      | true =>
        rw [hq] at hcall
        have HQ := Lib.hid hq
        clear hq
        go_wp2_with (go_at_fn g; refine (hcall).mono ?_; rintro e w' ⟨rfl, b'⟩)
        have B2 := bnext HB.out b' HB.out.size
        clear hcall
        go_ret
        exact ⟨by rw [firstI_hit hlt hF.out HQ.out]; rfl, B2⟩
      | false =>
        rw [hq] at hcall
        have HQ := Lib.hid hq
        clear hq
        go_wp2_with (go_at_fn g; refine (hcall).mono ?_; rintro e w' ⟨rfl, b'⟩)
        have B2 := bnext HB.out b' HB.out.size
        clear hcall
        go_roundg (n - (k + 1))
        case measure => omega
        case rel => exact ⟨k + 1, by omega, by omega, by go_num, Lib.hid (fun j hj => by
          by_cases e : j = k
          · subst e; exact HQ.out
          · exact hF.out j (by omega)), B2⟩
    · obtain rfl : k = n := by omega
      go_wp2_with fail
      go_ret
      exact ⟨by rw [firstI_miss hF.out]; rfl, hB⟩
set_option maxRecDepth 100000 in
theorem hasFuncSp_any (g : FuncId) (lb : Array Value) (p : Int → Int → Bool) (eg : ∀ args w, (callFunc g args).run Try.prog w = .ok (.enter g args) w) (B n : Nat) (v : Value) (f : Nat → Int) (w : World) (hp : PredSp g lb p w) (hv : IsList w B v 2 n (fun i => .int .i16 (f i))) (hn : n ≤ 2000000) :
    Calls Try.prog 50 #[v, .func (.func g) #[] lb] w fun e w' => e = .returned (.bool (anyI (fun i => p (f (i * 2)) (f (i * 2 + 1))) n)) ∧ Below w.heap.size w w' := by
  have hbd := firstI_bd (fun i => p (f (i * 2)) (f (i * 2 + 1))) n
  have CX := idxFuncSp_any g lb p eg B n v f w hp hv hn
  obtain ⟨a, cap, rfl⟩ := hv.shape
  unfold anyI
  generalize firstI (fun i => p (f (i * 2)) (f (i * 2 + 1))) n = z at *
  clear hp hv
  by_cases hz : 0 ≤ z
  · have hd : decide (0 ≤ z) = true := by simp [hz]
    rw [hd]
    go_enter Try.func50, Try.ntmps50
    go_wp2_with fail
    refine CX.mono ?_
    rintro e w1 ⟨rfl, b1⟩
    go_wp2_with fail
    go_ret
    exact ⟨rfl, b1⟩
  · have hd : decide (0 ≤ z) = false := by simp; omega
    rw [hd]
    go_enter Try.func50, Try.ntmps50
    go_wp2_with fail
    refine CX.mono ?_
    rintro e w1 ⟨rfl, b1⟩
    go_wp2_with fail
    go_ret
    exact ⟨rfl, b1⟩
end Go.Proofs.Ytdegfcgknppcoaa
