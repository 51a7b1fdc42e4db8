/- The builtin copy between rows whose elements are s cells each, and a slice of an array of such elements. Nothing here names a program. -/
import Derived.Test.YtnhoclplledlfaaCopy
namespace Go.Proofs.Ytnhoclplledlfaa
open Go.RowKit

theorem run_copy_rowsN {P : Program} (w : World) (dT sT ty elem : TypeId) (g o dLen dCap g' o' sLen sCap m s : Nat) (cur src : Array Value)
    (hu : P.underlying dT = some (.slice elem)) (hs : (P.info? elem).map (·.size) = some s) (hg : rowAt w g = some cur) (hg' : rowAt w g' = some src)
    (hm : m = Nat.min sLen dLen) (hsrc : o' + m * s ≤ src.size) (hfit : o + m * s ≤ cur.size) (h1 : Ones src) :
    (Builtin.copy_ #[dT, sT] ty #[.slice (some ⟨g, o, none⟩) dLen dCap, .slice (some ⟨g', o', none⟩) sLen sCap]).run P w =
      .ok (.int .i64 m) (w.setRow g (splice cur o (src.extract o' (o' + m * s)))) := by
  obtain ⟨t, ht⟩ := rowAt_some hg
  have hlen : (src.extract o' (o' + m * s)).toList.length = m * s := by simp; omega
  have hl := run_loadCells_list (P := P) w ⟨g', o', none⟩ (src.extract o' (o' + m * s)).toList (fun j v hj => by
    have hjm : j < m * s := by have := (List.getElem?_eq_some_iff.1 hj).1; omega
    have hadd : (⟨g', o', none⟩ : Addr).add j = ⟨g', o' + j, none⟩ := by unfold Addr.add; split <;> simp_all
    rw [hadd, cell_of_rowAt hg', ← get_extract src o' (o' + m * s) j (by omega) hsrc, ← Array.getElem?_toList]; exact hj)
  have hst := run_storeCells_at P g o t (src.extract o' (o' + m * s)).toList 0 cur w ht (by rw [hlen]; simpa using hfit) (fun v hv => h1.extract o' (o' + m * s) v (Array.mem_toList_iff.1 hv))
  rw [hlen] at hl
  have hz : (src.extract o' (o' + m * s)).size = m * s := by simp; omega
  cases hq : P.info? elem with
  | none => simp [hq] at hs
  | some i =>
    have hi : i.size = s := by simpa [hq] using hs
    generalize src.extract o' (o' + m * s) = X at *
    simp [Builtin.copy_, run_underlying hu, Builtin.lenOf, Builtin.firstCells, sizeOf, typeInfo, hq, hi, ← hm, hl, hst, goInt, splice, hz, Nat.mul_comm]
end Go.Proofs.Ytnhoclplledlfaa
