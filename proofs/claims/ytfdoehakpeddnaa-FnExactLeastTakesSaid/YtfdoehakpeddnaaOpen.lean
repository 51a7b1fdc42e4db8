/- Arguments opened: roofs and places that came in. -/
import Derived.Test.YtfdoehakpeddnaaTy
import Derived.Test.YtfdoehakpeddnaaRoof
import Derived.ProofKit
import Derived.OpenShut
import Derived.ChangeOld
import Derived.Below
import Derived.Lib.SmallJoins
namespace Go.Proofs.Ytfdoehakpeddnaa
open Go.RowKit Go.ChangeShapes Go.WideShapes

section
variable {H : Type} {enc : TypeId × Value → H} {P : Program} {w : World} {base : Nat} {spare : Nat → Bool} {held : Bool}

/-- An array of integers. -/
theorem trod_ints {fuel n : Nat} {t e : TypeId} {k : IntKind} {cs : List Value} {x : DataW H × List MemPlace} (ht : P.underlying t = some (.array n e)) (he : P.underlying e = some (.int k)) (hce : P.cellsOf e = 1)
    (h : DataW.trod enc P w base spare held fuel t cs = some x) : ∃ f : Nat → Int, ∀ i, i < n → cs[i]? = some (.int k (f i)) ∧ (Lit.int k (f i)).wf = true := by
  obtain ⟨xs, m, rfl, hx, hlen, hxl, hi⟩ := DataW.trod_array ht h
  have key : ∀ i, ∃ z : Int, i < n → cs[i]? = some (.int k z) ∧ (Lit.int k z).wf = true := by
    intro i
    by_cases hin : i < n
    · have h1 := hi i hin
      rw [hce, Nat.mul_one, List.getElem?_eq_getElem (by omega)] at h1
      obtain ⟨z, hd, _, hwf⟩ := DataW.trod_int he h1
      refine ⟨z, fun _ => ⟨?_, hwf⟩⟩
      have := congrArg (fun l : List Value => l[0]?) hd
      simpa using this
    · exact ⟨0, fun h => absurd h hin⟩
  exact ⟨fun i => (key i).choose, fun i hi => (key i).choose_spec hi⟩

/-- An array of arrays of integers. -/
theorem trod_rows {fuel n m : Nat} {t e b : TypeId} {k : IntKind} {cs : List Value} {x : DataW H × List MemPlace} (ht : P.underlying t = some (.array n e)) (he : P.underlying e = some (.array m b)) (hce : P.cellsOf e = m) (hb : P.underlying b = some (.int k)) (hcb : P.cellsOf b = 1)
    (h : DataW.trod enc P w base spare held fuel t cs = some x) : ∃ f : Nat → Int, ∀ i, i < n * m → cs[i]? = some (.int k (f i)) ∧ (Lit.int k (f i)).wf = true := by
  obtain ⟨xs, fu, rfl, hx, hlen, hxl, hi⟩ := DataW.trod_array ht h
  have key : ∀ i, ∃ f : Nat → Int, i < n → ∀ j, j < m → cs[i * m + j]? = some (.int k (f j)) ∧ (Lit.int k (f j)).wf = true := by
    intro i
    by_cases hin : i < n
    · have h1 := hi i hin
      rw [hce, List.getElem?_eq_getElem (by omega)] at h1
      obtain ⟨f, hf⟩ := trod_ints he hb hcb h1
      refine ⟨f, fun _ j hj => ?_⟩
      have := hf j hj
      rwa [List.getElem?_take, if_pos hj, List.getElem?_drop] at this
    · exact ⟨fun _ => 0, fun h => absurd h hin⟩
  refine ⟨fun i => (key (i / m)).choose (i % m), fun i hi => ?_⟩
  have hm : 0 < m := Nat.pos_of_ne_zero (fun h0 => by subst h0; simp at hi)
  have hdiv : i / m < n := Nat.div_lt_of_lt_mul (by rw [Nat.mul_comm]; exact hi)
  have := (key (i / m)).choose_spec hdiv (i % m) (Nat.mod_lt _ hm)
  rwa [show i / m * m + i % m = i from Nat.div_add_mod' i m] at this
end

section
variable {H : Type} {enc : TypeId × Value → H} {w : World} {base b0 : Nat} {spare : Nat → Bool} {held : Bool} {r : Reach}
end
end Go.Proofs.Ytfdoehakpeddnaa
