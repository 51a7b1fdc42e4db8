/- Whether a list has a place: both sides. -/
import Derived.Test.YtoibolmippfcgaaOrder
import Derived.Laws.StructEq
namespace Go.Proofs.Ytoibolmippfcgaa
open Go.RowKit

theorem hasP_hit {f : Nat → Int} {n k : Nat} {a b : Int} (hk : k < n) (h : f (k * 2) = a ∧ f (k * 2 + 1) = b) : hasP f n a b = true := anyI_t hk (by simp [h.1, h.2])
theorem hasP_miss {f : Nat → Int} {n : Nat} {a b : Int} (h : ∀ k, k < n → ¬ (f (k * 2) = a ∧ f (k * 2 + 1) = b)) : hasP f n a b = false := anyI_f.2 fun k hk => by simpa using h k hk

end Go.Proofs.Ytoibolmippfcgaa
