/- Arguments opened: roofs and places that came in. -/
import Derived.Test.YtppohghejhcilaaDoorTy
import Derived.Test.YtppohghejhcilaaDoorRoof
import Derived.ProofKit
import Derived.OpenShut
import Derived.ChangeOld
import Derived.Below
import Derived.Lib.SmallJoins
namespace Go.Proofs.YtppohghejhcilaaDoor
open Go.RowKit Go.ChangeShapes Go.WideShapes

section
variable {H : Type} {enc : TypeId × Value → H} {P : Program} {w : World} {base : Nat} {spare : Nat → Bool} {held : Bool}

/-- An array of integers. -/
theorem trod_ints {fuel n : Nat} {t e : TypeId} {k : IntKind} {cs : List Value} {x : DataW H × List MemPlace} (ht : P.underlying t = some (.array n e)) (he : P.underlying e = some (.int k)) (hce : P.cellsOf e = 1)
    (h : DataW.trod enc P w base spare held fuel t cs = some x) : ∃ f : Nat → Int, ∀ i, i < n → cs[i]? = some (.int k (f i)) ∧ (Lit.int k (f i)).wf = true := by
  obtain ⟨xs, m, rfl, hx, hlen, hxl, hi⟩ := DataW.trod_array ht h
  have key : ∀ i, ∃ z : Int, i < n → cs[i]? = some (.int k z) ∧ (Lit.int k z).wf = true := by
    intro i
    by_cases hin : i < n
    · have h1 := hi i hin
      rw [hce, Nat.mul_one, List.getElem?_eq_getElem (by omega)] at h1
      obtain ⟨z, hd, _, hwf⟩ := DataW.trod_int he h1
      refine ⟨z, fun _ => ⟨?_, hwf⟩⟩
      have := congrArg (fun l : List Value => l[0]?) hd
      simpa using this
    · exact ⟨0, fun h => absurd h hin⟩
  exact ⟨fun i => (key i).choose, fun i hi => (key i).choose_spec hi⟩

/-- An array of arrays of integers. -/
theorem trod_rows {fuel n m : Nat} {t e b : TypeId} {k : IntKind} {cs : List Value} {x : DataW H × List MemPlace} (ht : P.underlying t = some (.array n e)) (he : P.underlying e = some (.array m b)) (hce : P.cellsOf e = m) (hb : P.underlying b = some (.int k)) (hcb : P.cellsOf b = 1)
    (h : DataW.trod enc P w base spare held fuel t cs = some x) : ∃ f : Nat → Int, ∀ i, i < n * m → cs[i]? = some (.int k (f i)) ∧ (Lit.int k (f i)).wf = true := by
  obtain ⟨xs, fu, rfl, hx, hlen, hxl, hi⟩ := DataW.trod_array ht h
  have key : ∀ i, ∃ f : Nat → Int, i < n → ∀ j, j < m → cs[i * m + j]? = some (.int k (f j)) ∧ (Lit.int k (f j)).wf = true := by
    intro i
    by_cases hin : i < n
    · have h1 := hi i hin
      rw [hce, List.getElem?_eq_getElem (by omega)] at h1
      obtain ⟨f, hf⟩ := trod_ints he hb hcb h1
      refine ⟨f, fun _ j hj => ?_⟩
      have := hf j hj
      rwa [List.getElem?_take, if_pos hj, List.getElem?_drop] at this
    · exact ⟨fun _ => 0, fun h => absurd h hin⟩
  refine ⟨fun i => (key (i / m)).choose (i % m), fun i hi => ?_⟩
  have hm : 0 < m := Nat.pos_of_ne_zero (fun h0 => by subst h0; simp at hi)
  have hdiv : i / m < n := Nat.div_lt_of_lt_mul (by rw [Nat.mul_comm]; exact hi)
  have := (key (i / m)).choose_spec hdiv (i % m) (Nat.mod_lt _ hm)
  rwa [show i / m * m + i % m = i from Nat.div_add_mod' i m] at this
end

section
variable {H : Type} {enc : TypeId × Value → H} {w : World} {base b0 : Nat} {spare : Nat → Bool} {held : Bool} {r : Reach}
set_option maxRecDepth 100000 in
/-- A roof that came in. -/
theorem open_roof {v : Value} {d : DataW H} {p : List MemPlace} (hv : Value.okWide Tryd.prog w r b0 56 v) (h : DataW.Trod enc Tryd.prog w base spare held 56 v d p) :
    ∃ (c : Array Value) (f : Rf), v = .agg c ∧ IsRoof c f := by
  obtain ⟨c, rfl, hsz⟩ := okWide_struct Tryd.underlying56 hv
  obtain ⟨fuel, hf⟩ := h
  obtain ⟨xs, n, _, _, hlen, hxl, hg⟩ := DataW.trod_struct Tryd.underlying56 hf
  have hc : c.size = 67 := hsz.trans (by kernel_rfl)
  have hcl : c.toList.length = 67 := by simpa using hc
  have c22 : Tryd.prog.cellsOf 24 = 1 := by kernel_rfl
  have c5 : Tryd.prog.cellsOf 5 = 1 := by kernel_rfl
  have c23 : Tryd.prog.cellsOf 25 = 8 := by kernel_rfl
  have c24 : Tryd.prog.cellsOf 26 = 64 := by kernel_rfl
  have hx4 : xs.length = 4 := hxl
  have g0 := hg 0 _ rfl
  have g1 := hg 1 _ rfl
  have g2 := hg 2 _ rfl
  have g3 := hg 3 _ rfl
  simp only [Value.cells] at g0 g1 g2 g3
  rw [List.getElem?_eq_getElem (by omega)] at g0 g1 g2 g3
  obtain ⟨a0, q0, _, wf0⟩ := DataW.trod_int Tryd.underlying24 g0
  obtain ⟨a1, q1, _, wf1⟩ := DataW.trod_int Tryd.underlying24 g1
  obtain ⟨a2, q2, _, wf2⟩ := DataW.trod_int Tryd.underlying5 g2
  obtain ⟨t, ht⟩ := trod_rows Tryd.underlying26 Tryd.underlying25 c23 Tryd.underlying5 c5 g3
  have e0 := congrArg (fun l : List Value => l[0]?) q0
  have e1 := congrArg (fun l : List Value => l[0]?) q1
  have e2 := congrArg (fun l : List Value => l[0]?) q2
  simp [c22, c5] at e0 e1 e2
  have bw := bounds_i8 wf0
  have bh := bounds_i8 wf1
  have bs := bounds_u8 wf2
  refine ⟨c, ⟨a0, a1, a2, t⟩, rfl, hc, fun h => ?_, fun h => ?_, fun h => ?_, ⟨by simp; omega, fun i hi => ?_, fun i hi => (bounds_u8 (ht i hi).2).1, fun i hi => (bounds_u8 (ht i hi).2).2⟩, bw.1, bw.2, bh.1, bh.2, bs.1, bs.2⟩
  · rw [Array.getElem?_eq_getElem h] at e0; exact Option.some.inj e0
  · rw [Array.getElem?_eq_getElem h] at e1; exact Option.some.inj e1
  · rw [Array.getElem?_eq_getElem h] at e2; exact Option.some.inj e2
  · have hi' : i < 64 := by simp at hi; omega
    have := (ht i hi').1
    simp [c24, hi'] at this
    rw [Array.getElem?_eq_getElem (by omega)] at this
    rw [Array.getElem_extract]
    exact Option.some.inj this

end
end Go.Proofs.YtppohghejhcilaaDoor
