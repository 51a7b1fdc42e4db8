/- firstUpward: its closure, and slices.IndexFunc where the predicate asks something of the places. -/
import Derived.Test.YtkbacpkpgfppiaaOverI
import Derived.Test.YtkbacpkpgfppiaaUpM
import Derived.Test.YtkbacpkpgfppiaaGive
namespace Go.Proofs.Ytkbacpkpgfppiaa
open Go.RowKit

theorem IsList.argU {w : World} {B n cap : Nat} {a : Option Addr} {f : Nat → Int} (h : IsList w B (.slice a n cap) 2 n (fun i => .int .i8 (f i))) : ArgL w (.slice a n cap) n f := by
  rcases h with ⟨h0, _⟩ | ⟨g, cap', cur, e, hg, hr, hs, hf⟩
  · exact ⟨a, cap, rfl, .inl h0⟩
  · cases e
    exact ⟨_, cap, rfl, .inr ⟨g, 0, rfl, fun i hi => by rw [Nat.zero_add, cell_of_rowAt hr]; exact hf i hi⟩⟩

/-- A predicate on places that have Q, as a function value. -/
def PredQ (Q : Int → Int → Prop) (g : FuncId) (lb : Array Value) (p : Int → Int → Bool) (w : World) : Prop :=
  ∀ a b W, Q a b → Below w.heap.size w W → Calls Try.prog g (#[.agg #[.int .i8 a, .int .i8 b]] ++ lb) W fun e w' => e = .returned (.bool (p a b)) ∧ Below W.heap.size W w'

set_option maxRecDepth 100000 in
set_option maxHeartbeats 1000000 in
theorem idxFuncQ_any (Q : Int → Int → Prop) (g : FuncId) (lb : Array Value) (p : Int → Int → Bool) (eg : ∀ args w, (callFunc g args).run Try.prog w = .ok (.enter g args) w) (B n : Nat) (v : Value) (f : Nat → Int) (w : World) (hp : PredQ Q g lb p w) (hQ : AllE Q n f) (hv : IsList w B v 2 n (fun i => .int .i8 (f i))) (hn : n ≤ 2000000) :
    Calls Try.prog 103 #[v, .func (.func g) #[] lb] w fun e w' => e = .returned (.int .i64 (firstI (fun i => p (f (i * 2)) (f (i * 2 + 1))) n)) ∧ Below w.heap.size w w' := by
  have HP := Lib.hid hp
  have HQ := Lib.hid hQ
  have HV := Lib.hid hv
  obtain ⟨a, cap, rfl⟩ := hv.shape
  clear hp hv hQ
  go_enter Try.func103, Try.ntmps103
  go_wp2_with fail
  go_loopg [5, 8] n (fun gg _ i W => ∃ k : Nat, k ≤ n ∧ n - k ≤ gg ∧ i = .int .i64 k ∧ Hid (∀ j, j < k → p (f (j * 2)) (f (j * 2 + 1)) = false) ∧ Below w.heap.size w W)
  case atStart => exact ⟨0, by omega, by omega, rfl, Lib.hid (by omega), Below.refl _ _⟩
  case round =>
    obtain ⟨k, hk, hg, rfl, hF, hB⟩ := hrel
    by_cases hlt : k < n
    · obtain ⟨b, rfl, c0, c1⟩ := (HV.out.below hB (Nat.le_refl _)).pl hlt
      have hi0 : 0 ≤ (k : Int) := by omega
      have hi1 : (k : Int) < n := by omega
      have hcall := HP.out (f (k * 2)) (f (k * 2 + 1)) _ (HQ.out k hlt) hB
      have HB := Lib.hid hB
      clear hB
      cases hq : p (f (k * 2)) (f (k * 2 + 1)) with
      | true =>
        rw [hq] at hcall
        have HK := Lib.hid hq
        clear hq
        go_wp2_with (go_at_fn g; refine (hcall).mono ?_; rintro e w' ⟨rfl, b'⟩)
        have B2 := bnext HB.out b' HB.out.size
        clear hcall
        go_ret
        exact ⟨by rw [firstI_hit hlt hF.out HK.out]; rfl, B2⟩
      | false =>
        rw [hq] at hcall
        have HK := Lib.hid hq
        clear hq
        go_wp2_with (go_at_fn g; refine (hcall).mono ?_; rintro e w' ⟨rfl, b'⟩)
        have B2 := bnext HB.out b' HB.out.size
        clear hcall
        go_roundg (n - (k + 1))
        case measure => omega
        case rel => exact ⟨k + 1, by omega, by omega, by go_num, Lib.hid (fun j hj => by
          by_cases e : j = k
          · subst e; exact HK.out
          · exact hF.out j (by omega)), B2⟩
    · obtain rfl : k = n := by omega
      go_wp2_with fail
      go_ret
      exact ⟨by rw [firstI_miss hF.out]; rfl, hB⟩

/-- Places of a roof. -/
def OnR (r : Rf) (a b : Int) : Prop := ∃ i j : Nat, a = i ∧ b = j ∧ i < 8 ∧ j < 8 ∧ (j : Int) < r.w
set_option maxRecDepth 100000 in
set_option maxHeartbeats 1000000 in
theorem upFree_any (n0 nl n : Nat) (c : Array Value) (r : Rf) (v : Value) (f : Nat → Int) (w : World) (h0 : rowAt w n0 = some c) (hl : rowAt w nl = some #[v]) (hR : IsRoof c r) (ho : r.Ok) (hv : ArgL w v n f) (hn : n ≤ 2000000) :
    PredQ (OnR r) 104 #[.pointer (some ⟨n0, 0, none⟩), .pointer (some ⟨nl, 0, none⟩)] (fun a b => !r.lapsOver a b f n) w := by
  rintro a b W ⟨i, j, rfl, rfl, i8, j8, hjw⟩ hB
  have hc := hR.size
  have HV := Lib.hid (hv.below hB (Nat.le_refl _))
  obtain ⟨av, cv, rfl⟩ := hv.shape
  have a0 := (rowAt_alloc_past W (.cells #[.int .i8 i, .int .i8 j] 58) n0 (rowAt_lt (brow hB h0))).trans (brow hB h0)
  have q0 : (W.alloc (.cells #[.int .i8 i, .int .i8 j] 58)).cell? ⟨nl, 0, none⟩ = some (.slice av n cv) := (cell_of_rowAt ((rowAt_alloc_past _ _ _ (rowAt_lt (brow hB hl))).trans (brow hB hl)) 0).trans rfl
  have pB := Lib.hid (show Below W.heap.size W (W.alloc (.cells #[.int .i8 i, .int .i8 j] 58)) from (Below.refl _ _).alloc (Nat.le_refl _) _)
  clear hv hl h0 hB
  show Calls Try.prog 104 #[.agg #[.int .i8 i, .int .i8 j], .pointer (some ⟨n0, 0, none⟩), .pointer (some ⟨nl, 0, none⟩)] W _
  go_enter Try.func104, Try.ntmps104
  go_wp2_with fail
  refine (lapsOverSome_any n c r i j (.slice av n cv) f _ hR ho i8 j8 hjw (HV.out.below pB.out (Nat.le_refl _)) hn).mono ?_
  rintro e w1 ⟨rfl, b1⟩
  have B1 := Lib.hid (bnext pB.out b1 pB.out.size)
  clear b1 a0 q0
  go_wp2_with fail
  go_ret
  exact ⟨rfl, B1.out⟩
end Go.Proofs.Ytkbacpkpgfppiaa
