/- What a row that lists errors.errorType gives a walk. -/
import Derived.Test.YtppohghejhcilaaDoorAsW
import Derived.Test.YtppohghejhcilaaDoorRows
import Derived.LaidHandle
import Derived.Stop.Joined
namespace Go.Proofs.YtppohghejhcilaaDoor
open Go.RowKit

theorem asEt : Tryd.prog.globalNamed "errors.errorType" = some 0 := by kernel_rfl
theorem asRt : (Tryd.prog.cutTypes.find? (·.1 == "internal/reflectlite.rtype")).map (·.2) = some 181 := by kernel_rfl
theorem asOneRow : ((List.range 244).filter fun t => Tryd.prog.rowNamed t [101, 114, 114, 111, 114]) = [76] := by kernel_rfl
theorem asSize : Tryd.prog.types.size = 244 := by kernel_rfl
/-- What the condition gives a walk: the variable's one cell. -/
theorem errT_of {W : World} (h : laidMetH Tryd.prog [("errors.errorType", Rows.laid_errors_errorType)] W) : ErrT W := by
  have h' : laidMet Tryd.prog [] W ∧ handlesMet Tryd.prog [("errors.errorType", Rows.laid_errors_errorType)] W := h
  obtain ⟨name, u, ty, e1, e2, e3, e4, e5⟩ := h'.2 _ (List.mem_singleton.2 rfl)
  have en : name = [101, 114, 114, 111, 114] := (Option.some.inj e1).symm
  subst en
  obtain rfl := Option.some.inj (asRt.symm.trans e2)
  have hm : ty ∈ (List.range 244).filter fun t => Tryd.prog.rowNamed t [101, 114, 114, 111, 114] := List.mem_filter.2 ⟨List.mem_range.2 (by rw [← asSize]; exact e3), e4⟩
  rw [asOneRow] at hm
  obtain rfl := List.mem_singleton.1 hm
  have hh : typeHandle Tryd.prog 76 = .pointer (some ⟨4, 76, none⟩) := by kernel_rfl
  rw [hh] at e5
  have := World.var?_cell asEt e5 0
  unfold ErrT
  simpa using this
end Go.Proofs.YtppohghejhcilaaDoor
