/- hasAll: whether there are all places of a list. -/
import Derived.Test.YtkbacpkpgfppiaaInP
import Derived.Test.YtkbacpkpgfppiaaImplB
import Derived.Test.YtkbacpkpgfppiaaNums
import Derived.Deep.LoopGhost
namespace Go.Proofs.Ytkbacpkpgfppiaa
open Go.RowKit

set_option maxRecDepth 100000 in
set_option maxHeartbeats 1000000 in
theorem hasAll_any (b n : Nat) (c : Array Value) (r : Rf) (v : Value) (f : Nat → Int) (w : World) (hR : IsRoof c r) (hv : IsList w b v 2 n (fun i => .int .i8 (f i))) (hn : n ≤ 2000000) :
    Calls Try.prog 95 #[.agg c, v] w fun e w' => e = .returned (.bool (r.okB f n)) ∧ Below w.heap.size w w' := by
  have hc := hR.size
  have HV := Lib.hid hv
  obtain ⟨a, cap, rfl⟩ := hv.shape
  clear hv
  go_enter Try.func95, Try.ntmps95
  go_wp2_with fail
  refine gen_world fun W0 hW => ?_
  have p0 : Hid (rowAt W0 w.heap.size = some c) := Lib.hid (by rw [hW]; exact rowAt_alloc_at _ _ _ _ rfl)
  have pB : Hid (Below w.heap.size w W0) := Lib.hid (by rw [hW]; exact (Below.refl _ _).alloc (Nat.le_refl _) _)
  have HV0 := Lib.hid (HV.out.below pB.out (Nat.le_refl _))
  clear hW HV
  go_loopg [9] n (fun gg i W => ∃ k : Nat, k ≤ n ∧ n - k ≤ gg ∧ i = .int .i64 k ∧ Hid (r.okP f k) ∧ Below W0.heap.size W0 W)
  case atStart => exact ⟨0, by omega, by omega, rfl, Lib.hid (r.okP_zero f), Below.refl _ _⟩
  case round =>
    obtain ⟨k, hk, hg, rfl, hF, hB⟩ := hrel
    by_cases hlt : k < n
    · obtain ⟨b', rfl, c0, c1⟩ := (HV0.out.below hB (Nat.le_refl _)).pl hlt
      have hi0 : 0 ≤ (k : Int) := by omega
      have hi1 : (k : Int) < n := by omega
      have r0 := brow hB p0.out
      have lt0 := rowAt_lt r0
      have HB := Lib.hid (bnext pB.out hB pB.out.size)
      have HB0 := Lib.hid hB
      clear hB
      by_cases hin : r.inP f k
      · have HI := Lib.hid hin
        clear hin
        go_wp2_with fail
        refine (has_t c r _ _ _ hR HI.out).mono ?_
        rintro e w1 ⟨rfl, b1⟩
        have B2 := Lib.hid (HB0.out.trans ((((Below.refl wr.heap.size wr).alloc (Nat.le_refl _) _).trans (b1.mono (by simp))).mono HB0.out.size))
        clear b1 c0 c1 r0
        go_wp2_with fail
        go_roundg (n - (k + 1))
        case measure => omega
        case rel => exact ⟨k + 1, by omega, by omega, by go_num, Lib.hid (Rf.okP_succ.2 ⟨hF.out, HI.out⟩), B2.out⟩
      · have HI := Lib.hid hin
        clear hin
        go_wp2_with fail
        refine (has_f c r _ _ _ hR HI.out).mono ?_
        rintro e w1 ⟨rfl, b1⟩
        have B2 := Lib.hid (HB.out.trans ((((Below.refl wr.heap.size wr).alloc (Nat.le_refl _) _).trans (b1.mono (by simp))).mono HB.out.size))
        clear b1 c0 c1 r0
        go_wp2_with fail
        go_ret
        exact ⟨by rw [Rf.okB_f (fun h => HI.out (h k hlt))]; rfl, B2.out⟩
    · obtain rfl : k = n := by omega
      have HB := Lib.hid (bnext pB.out hB pB.out.size)
      clear hB
      go_wp2_with fail
      go_ret
      exact ⟨by rw [Rf.okB_t hF.out]; rfl, HB.out⟩
end Go.Proofs.Ytkbacpkpgfppiaa
