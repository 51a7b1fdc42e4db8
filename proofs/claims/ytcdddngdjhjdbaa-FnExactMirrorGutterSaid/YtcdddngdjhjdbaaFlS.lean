/- FlowsTo: both sides. -/
import Derived.Test.YtcdddngdjhjdbaaToS
import Derived.Test.YtcdddngdjhjdbaaIntsV
import Derived.Test.YtcdddngdjhjdbaaAll
namespace Go.Proofs.Ytcdddngdjhjdbaa
open Go.RowKit

noncomputable def Gt.fN (g : Gt) : Nat := if g.ok = true then g.n.toNat else 0
noncomputable def Gt.cd (g : Gt) : Int := if g.ok = true then 0 else 1
theorem Gt.fN_t {g : Gt} (h : g.ok = true) : g.fN = g.n.toNat := if_pos h
theorem Gt.fN_f {g : Gt} (h : g.ok = false) : g.fN = 0 := if_neg (by simp [h])
theorem Gt.cd_t {g : Gt} (h : g.ok = true) : g.cd = 0 := if_pos h
theorem Gt.cd_f {g : Gt} (h : g.ok = false) : g.cd = 1 := if_neg (by simp [h])
theorem Gt.fN_le (g : Gt) : g.fN ≤ 2000000 := by
  cases h : g.ok with
  | true => have := (Gt.Ok_of h).n17; rw [Gt.fN_t h]; omega
  | false => rw [Gt.fN_f h]; omega
theorem own_start (c : Array Value) (w : World) : ((w.alloc (.cells c 54)).alloc (.cells #[] 2)).ownsRow (w.heap.size + 1) 2 1 (.slice (some ⟨w.heap.size + 1, 0, none⟩) 0 0) 0 [] := by
  have := owns_empty (w.alloc (.cells c 54)) 2 1
  simpa using this

end Go.Proofs.Ytcdddngdjhjdbaa
