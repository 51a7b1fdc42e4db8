/- What a row that lists errors.errorType among tables gives a walk. -/
import Derived.Test.YtppohghejhcilaaDoorLaidA
import Derived.Lay
namespace Go.Proofs.YtppohghejhcilaaDoor
open Go.RowKit

theorem errT_ofB {W : World} (h : laidMetH Tryd.prog [("unicode/utf8.acceptRanges", Rows.laid_unicode_utf8_acceptRanges), ("errors.errorType", Rows.laid_errors_errorType), ("unicode/utf8.first", Rows.laid_unicode_utf8_first)] W) : ErrT W := by
  have h2 : handlesMet Tryd.prog [("errors.errorType", Rows.laid_errors_errorType)] W := h.2
  exact errT_of (W := W) ⟨⟨[], rfl, List.nodup_nil, fun _ _ h => by cases h⟩, h2⟩
/-- Tables laid over any world. -/
theorem laidMet_over {P : Program} {w0 : World} {l : List (String × DataW Unit)} (args : Array Value) (hf : w0.layFits P l [] = true) (hi : w0.layIfaces P l (w0.layVars P l) = true) :
    laidMet P l ((w0.layVars P l).forCall (fun _ _ => 0) ⟨#[], args, []⟩).memory := by
  have e1 : (l.filter fun x => (l.map (·.1)).contains x.1) = l := List.filter_eq_self.2 fun x hx => List.contains_iff_mem.2 (List.mem_map.2 ⟨x, hx, rfl⟩)
  have e2 : (l.filter fun x => !(l.map (·.1)).contains x.1) = [] := List.filter_eq_nil_iff.2 fun x hx => by rw [List.contains_iff_mem.2 (List.mem_map.2 ⟨x, hx, rfl⟩)]; simp
  have h : laidMet P l (w0.layVars P l) := laidMet_layVars (w0 := w0) (l.map (·.1)) [] (by rw [e1]) (by rw [e1]; exact hf) (by rw [e1]; exact hi) (by rw [e2]; exact LaidIn.none)
  exact h.of_heap (by simp [World.memory, World.forCall, Input.heap])
/-- The plain ones of a row's list laid over the world that the door lays. -/
noncomputable def doorOver (l : List (String × DataW Unit)) (os : Os) : World := (World.doorLaid Tryd.prog 400 os).layVars Tryd.prog (l.filter fun x => x.2.handleName?.isNone)
theorem doorOver_os (l : List (String × DataW Unit)) (os : Os) : (doorOver l os).os = os := World.layVars_os _ _ _
end Go.Proofs.YtppohghejhcilaaDoor
