/- Colours: isRed; colour: the bytes of those places for which a function value answers true. -/
import Derived.Test.YtppohghejhcilaaDoorColM
import Derived.Test.YtppohghejhcilaaDoorStill
import Derived.Test.YtppohghejhcilaaDoorHelp
import Derived.Test.YtppohghejhcilaaDoorGive
import Derived.Deep.QuietTactic
import Derived.BigQuiet
namespace Go.Proofs.YtppohghejhcilaaDoor
open Go.RowKit Go.Shelf
attribute [local go_sem] Oper.semAt_some

/-- A predicate on places as a function value: what it answers in every later world; it changes nothing old. la: what is bound first; lb: what is captured. -/
def PredPl (g : FuncId) (la lb : Array Value) (p : Nat → Nat → Bool) (w : World) : Prop :=
  ∀ (i j : Nat) W, i < 8 → j < 8 → Below w.heap.size w W → Calls Tryd.prog g (la ++ #[.agg #[.int .i8 i, .int .i8 j]] ++ lb) W fun e w' => e = .returned (.bool (p i j)) ∧ Below W.heap.size W w'
theorem PredPl.later {g : FuncId} {la lb : Array Value} {p : Nat → Nat → Bool} {w w' : World} (h : PredPl g la lb p w) (b : Below w.heap.size w w') : PredPl g la lb p w' :=
  fun i j W hi hj B => h i j W hi hj (bnext b B b.size)

set_option maxRecDepth 100000 in
set_option maxHeartbeats 1000000 in
theorem isRed_any (c : Array Value) (g : Nat → Nat) (i j : Nat) (w : World) (hC : IsCol c g) (hi : i < 8) (hj : j < 8) :
    Calls Tryd.prog 98 #[.agg c, .agg #[.int .i8 i, .int .i8 j]] w fun e w' => e = .returned (.bool ((g i).testBit j)) ∧ Below w.heap.size w w' := by
  obtain ⟨p0, p1, pB⟩ := two_boxes w c #[.int .i8 i, .int .i8 j] 62 37
  have hb := bit8_num ⟨g i, hC.hi i hi⟩ ⟨j, hj⟩
  dsimp only at hb
  generalize (g i).testBit j = b at *
  have i0 : (0 : Int) ≤ i := by omega
  have i1 : (i : Int) < 8 := by omega
  have j0 : (0 : Int) ≤ j := by omega
  have j1 : (j : Int) < 8 := by omega
  go_enter Tryd.func98, Tryd.ntmps98
  go_wp2_with fail
  refine gen_world fun W hW => ?_
  rw [← hW] at p0 p1 pB
  clear hW
  have c0 : W.cell? ⟨w.heap.size, i, none⟩ = some (.int .u8 (g i)) := (cell_of_rowAt p0 i).trans (hC.cell hi)
  have c1 := cell_of_rowAt p1 0
  have c2 := cell_of_rowAt p1 1
  simp at c1 c2
  clear p0 p1
  go_quiet (fail)
  go_wp2_with fail
  go_ret
  exact ⟨rfl, below_drewN pB _⟩
end Go.Proofs.YtppohghejhcilaaDoor
