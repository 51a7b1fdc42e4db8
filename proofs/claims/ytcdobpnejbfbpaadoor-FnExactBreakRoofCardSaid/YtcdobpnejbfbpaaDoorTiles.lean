/- TilesOf, CountKind: both sides. -/
import Derived.Test.YtcdobpnejbfbpaaDoorAll
import Derived.Test.YtcdobpnejbfbpaaDoorStA
namespace Go.Proofs.YtcdobpnejbfbpaaDoor
open Go.RowKit

/-- All places of a roof. -/
def Rf.all (r : Rf) : List (Pl r.h.toNat r.w.toNat) := plUpto r.h.toNat r.w.toNat (r.h.toNat * r.w.toNat)
noncomputable def Rf.tkL (r : Rf) (k : Int) : List (Pl r.h.toNat r.w.toNat) := if r.told (inB k 0 3) = 0 then r.ofKind k r.all else []
theorem Rf.all_le {r : Rf} (ho : r.Ok) : r.all.length ≤ 64 := by
  have := plUpto_len r.h.toNat r.w.toNat (r.h.toNat * r.w.toNat)
  have h2 : r.h.toNat * r.w.toNat ≤ 8 * 8 := Nat.mul_le_mul (by have := ho.2.2.2.1; omega) (by have := ho.2.1; omega)
  unfold Rf.all
  omega
theorem Rf.tkL_le (r : Rf) (k : Int) : (r.tkL k).length ≤ 64 := by
  unfold Rf.tkL
  split
  · rename_i h
    exact Nat.le_trans (r.ofKind_len _) (Rf.all_le (Rf.told_zero h).1)
  · simp
def GivesPs (w : World) {h ww : Nat} (l : List (Pl h ww)) (code : Int) (e : Ending) (w' : World) : Prop :=
  ∃ v, e = .returned (.tuple #[v, .int .i64 code]) ∧ IsList w' w.heap.size v 2 l.length (fun i => .int .i8 (plAt l i)) ∧ Below w.heap.size w w'

end Go.Proofs.YtcdobpnejbfbpaaDoor
