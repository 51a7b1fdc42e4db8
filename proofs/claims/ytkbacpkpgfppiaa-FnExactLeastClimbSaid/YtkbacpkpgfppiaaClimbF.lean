/- ClimbsFor: contracts of both sides. -/
import Derived.Test.YtkbacpkpgfppiaaClimbI
import Derived.Test.YtkbacpkpgfppiaaAskC
import Derived.Test.YtkbacpkpgfppiaaLadA
namespace Go.Proofs.Ytkbacpkpgfppiaa
open Go.RowKit

/-- What is climbed for the places, and the code. -/
noncomputable def Rf.clbC (r : Rf) (f : Nat → Int) (n : Nat) (y : Int) : Int := r.wcode (fun _ => 0) 0 f n (inB y 1 20)
noncomputable def Rf.clbV (r : Rf) (f : Nat → Int) (n : Nat) (y : Int) : Int := if r.clbC f n y = 0 then tot r.h f y.toNat n else 0
theorem Rf.clb_in {r : Rf} {f : Nat → Int} {n : Nat} {y : Int} (h : r.clbC f n y = 0) : r.Ok ∧ (1 ≤ y ∧ y ≤ 20) ∧ r.okP f n ∧ n ≤ 8 := by
  obtain ⟨ho, hf, _, hp, _, hn⟩ := Rf.wcode_zero h
  exact ⟨ho, by simpa [inB] using hf, hp, hn⟩

theorem carried_any (y : Int) (w : World) :
    Calls Try.prog 47 #[.int .i64 y] w fun e w' => e = .returned (.agg #[.int .i64 y, .int .i64 1, .int .i64 20]) ∧ Below w.heap.size w w' := by
  go_enter Try.func47, Try.ntmps47
  go_wp2
  refine bodyPost_ret (v := .agg #[.int .i64 y, .int .i64 1, .int .i64 20]) (by simp [results, Try.results47, go_sem]) rfl ⟨rfl, ?_⟩
  exact (Below.refl _ _).alloc (Nat.le_refl _) _

end Go.Proofs.Ytkbacpkpgfppiaa
