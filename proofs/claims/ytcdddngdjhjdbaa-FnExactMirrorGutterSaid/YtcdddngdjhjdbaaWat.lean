/- Water: what came in, and the laws' helpers over it. -/
import Derived.Test.YtcdddngdjhjdbaaGutH
namespace Go.Proofs.Ytcdddngdjhjdbaa
open Go.RowKit Go.ChangeShapes Go.WideShapes
/-- The cells of water. -/
structure IsWat (c : Array Value) (t : Nat → Int) : Prop where
  isK : IsK .i32 c 17 t
  lo : ∀ i, i < 17 → -2147483648 ≤ t i
  hi : ∀ i, i < 17 → t i ≤ 2147483647
theorem IsWat.size {c : Array Value} {t : Nat → Int} (h : IsWat c t) : c.size = 17 := h.isK.size
theorem IsWat.ones {c : Array Value} {t : Nat → Int} (h : IsWat c t) : Ones c := h.isK.ones
section
variable {H : Type} {enc : TypeId × Value → H} {w : World} {base b0 : Nat} {spare : Nat → Bool} {held : Bool} {r : Reach}
end

end Go.Proofs.Ytcdddngdjhjdbaa
