/- DripAfter: contracts of both sides. -/
import Derived.Test.YtdpnmaodagmpkaaDoorMendI
namespace Go.Proofs.YtdpnmaodagmpkaaDoor
open Go.RowKit

theorem neqNilE (a : Addr) (w : World) : (binOp .neq 85 (errV a) .nilIface).run Tryd.prog w = .ok (.bool true) w := run_neq_iface_nil (P := Tryd.prog) (w := w) 85 (by kernel_rfl) _ _
theorem neqNil0 (w : World) : (binOp .neq 85 .nilIface .nilIface).run Tryd.prog w = .ok (.bool false) w := run_neq_nil_nil_at (P := Tryd.prog) (w := w) 85 (by kernel_rfl)

/-- What DripAfter answers. -/
noncomputable def Rf.dV (r : Rf) (t f : Nat → Int) (n : Nat) : Int := if r.pcode t f n true = 0 then r.aft t f n else 0
theorem Rf.pcode_zero {r : Rf} {t f : Nat → Int} {n : Nat} {fine : Bool} (h : r.pcode t f n fine = 0) : r.Rains t ∧ r.okP f n ∧ fine = true := by
  unfold Rf.pcode at h
  split at h
  · rename_i h1
    split at h
    · rename_i h2
      rw [Bool.and_eq_true] at h2
      exact ⟨Rf.Rains_of h1, Rf.okB_of h2.2, h2.1⟩
    · omega
  · omega
theorem Rf.pcode_cases (r : Rf) (t f : Nat → Int) (n : Nat) (fine : Bool) : r.pcode t f n fine = 0 ∨ r.pcode t f n fine = 1 ∨ r.pcode t f n fine = 2 := by
  unfold Rf.pcode
  split
  · split <;> simp
  · simp

end Go.Proofs.YtdpnmaodagmpkaaDoor
