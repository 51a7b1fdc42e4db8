/- The builtin copy between rows whose elements are one cell each. Nothing here names a program. -/
import Derived.Test.YtcdddngdjhjdbaaDoorNums
import Derived.Laws.CopyRow
namespace Go.Proofs.YtcdddngdjhjdbaaDoor
open Go.RowKit

theorem run_copy_rows {P : Program} (w : World) (dT sT ty elem : TypeId) (g o dLen dCap g' o' sLen sCap m : Nat) (cur src : Array Value)
    (hu : P.underlying dT = some (.slice elem)) (hs : (P.info? elem).map (·.size) = some 1) (hg : rowAt w g = some cur) (hg' : rowAt w g' = some src)
    (hm : m = Nat.min sLen dLen) (hsrc : o' + m ≤ src.size) (hfit : o + m ≤ cur.size) (h1 : Ones src) :
    (Builtin.copy_ #[dT, sT] ty #[.slice (some ⟨g, o, none⟩) dLen dCap, .slice (some ⟨g', o', none⟩) sLen sCap]).run P w =
      .ok (.int .i64 m) (w.setRow g (splice cur o (src.extract o' (o' + m)))) := by
  obtain ⟨t, ht⟩ := rowAt_some hg
  have hl : (src.extract o' (o' + m)).toList.length = m := by simp; omega
  have := run_copy_row (P := P) w dT sT ty elem g o dLen dCap ⟨g', o', none⟩ sLen sCap cur t (src.extract o' (o' + m)).toList hu hs ht (by rw [hl]; exact hm) (fun j v hj => by
      have hjm : j < m := by have := (List.getElem?_eq_some_iff.1 hj).1; omega
      have hadd : (⟨g', o', none⟩ : Addr).add j = ⟨g', o' + j, none⟩ := by unfold Addr.add; split <;> simp_all
      rw [hadd, cell_of_rowAt hg', ← get_extract src o' (o' + m) j (by omega) hsrc, ← Array.getElem?_toList]; exact hj)
    (by rw [hl]; exact hfit) (fun v hv => h1.extract o' (o' + m) v (Array.mem_toList_iff.1 hv))
  rw [this, hl]
  have hz : (src.extract o' (o' + m)).size = m := by simp; omega
  simp only [goInt, splice, hz]
end Go.Proofs.YtcdddngdjhjdbaaDoor
