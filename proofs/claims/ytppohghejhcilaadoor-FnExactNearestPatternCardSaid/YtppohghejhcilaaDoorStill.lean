/- A region that ends in a store within a round of a range over a function. Laws over any program. -/
import Derived.Test.YtppohghejhcilaaDoorLift
import Derived.StillTailTactics
namespace Go.Proofs.YtppohghejhcilaaDoor
open Go.RowKit

/-- A region whose operations only read, but for those behind the first n, within a round. -/
theorem wpIn_still_tail {m k id : Nat} {P : Program} {Q : Exit → Act → World → Prop} {a : Act} {w : World} {ls : List Oper} (n : Nat) (hm : P.follows .mixedOrders = true) (hd : calmB ls.toArray = true) (hB : Region.lexTailB .any ls.toArray n = true)
    (h : wpStill P ls.toArray w.drew (fun a' => wpList P ls.toArray (OnlyN Q) (ls.drop n) a' w.drew) (ls.take n) a) : (Code.region id ls.toArray true).wpIn (Fence.wide.inRound m) k P Q a w := by
  obtain ⟨⟨⟨⟨b1, b2⟩, b3⟩, b4⟩, b5⟩ : (((Region.noSelect ls.toArray = true ∧ n < ls.toArray.size) ∧ Region.sinkB .any ls.toArray n = true) ∧ Region.chainB .any ls.toArray n = true) ∧ Region.lexHead .any ls.toArray (ls.toArray.size - n) n 0 (Array.replicate ls.toArray.size false) = true := by
    simpa only [Region.lexTailB, Bool.and_eq_true, decide_eq_true_eq] using hB
  have hn : n < ls.length := by simpa using b2
  have l1 : (ls.take n).length = n := by simp; omega
  have l2 : (ls.drop n).length = ls.toArray.size - n := by simp
  have inv : HeadInv .any ls.toArray n (Array.replicate ls.toArray.size false) :=
    ⟨by simp, fun j oj _ hl => (by rw [getD_replicate_false] at hl; cases hl), fun t _ ht => getD_in (by simpa using ht) (getD_replicate_false _ _)⟩
  have head := wpAnyL_lex (md := .any) (g := ls.toArray.size - n) b1 b3 b4 b2 (ls.take n) 0 _ a
    (fun j hj => by rw [l1] at hj; simp [hj]) (by simpa using l1) inv (by rw [l1]; exact b5) h
  have all := wpAny_of_head (Q' := OnlyN Q) (g := ls.toArray.size - n) (fun listed a' hL => by
    have := wpAny_of_seq (md := .any) (Q' := OnlyN Q) (ls.drop n) n listed a' w.drew (fun j => by simp [List.getElem?_drop]) (by rw [l2]; exact hL.1) hL.2
    rwa [l2] at this) _ _ _ head
  rw [l1, show n + (ls.toArray.size - n) = ls.toArray.size by omega] at all
  exact wpIn_region_any hm (wpAny_in hd _ _ _ _ all)

end Go.Proofs.YtppohghejhcilaaDoor
