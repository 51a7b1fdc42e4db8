/- r.places(): the iterator over all places of a roof, course by course. -/
import Derived.RangeFuncNested
import Derived.RangeFuncBound
import Derived.RangeFuncCalls
import Derived.RangeFuncLeaves
import Derived.Shelf.Abstract
import Derived.Shelf.RegionOpen
import Derived.WalkKit
import Derived.OwnWalkIn
import Derived.TacticsInMore
import Derived.LoopNIn
import Derived.LoopIn
import Derived.Maps.AppendAt
import Derived.Test.YtfdoehakpeddnaaImplB
namespace Go.Proofs.Ytfdoehakpeddnaa
open Go.RowKit Go.Shelf
attribute [local go_sem] Oper.semAt_some

/-- A place of h courses of w tiles. -/
abbrev Pl (h w : Nat) := { p : Nat × Nat // p.1 < h ∧ p.2 < w }
def Pl.enc {h w : Nat} (x : Pl h w) : Value := .agg #[.int .i8 (x.1.1 : Int), .int .i8 (x.1.2 : Int)]
/-- The first k places. -/
def plUpto (h w : Nat) : Nat → List (Pl h w)
  | 0 => []
  | k + 1 => plUpto h w k ++ (if q : k / w < h ∧ k % w < w then [⟨(k / w, k % w), q⟩] else [])
theorem pl_div {c j w : Nat} (hj : j < w) : (c * w + j) / w = c := by
  rw [Nat.mul_comm, Nat.mul_add_div (by omega), Nat.div_eq_of_lt hj, Nat.add_zero]
theorem pl_mod {c j w : Nat} (hj : j < w) : (c * w + j) % w = j := by
  rw [Nat.mul_comm, Nat.mul_add_mod, Nat.mod_eq_of_lt hj]
theorem plUpto_succ {h w c j : Nat} (hc : c < h) (hj : j < w) : plUpto h w (c * w + j + 1) = plUpto h w (c * w + j) ++ [⟨(c, j), hc, hj⟩] := by
  have e1 := pl_div (c := c) hj
  have e2 := pl_mod (c := c) hj
  simp only [plUpto, e1, e2]
  rw [dif_pos ⟨hc, hj⟩]
theorem plUpto_len (h w : Nat) : ∀ k, (plUpto h w k).length ≤ k
  | 0 => Nat.le_refl _
  | k + 1 => by
    have := plUpto_len h w k
    simp only [plUpto, List.length_append]
    split <;> simp <;> omega

/-- What a round that goes on keeps: the blocks below n, and the roof's box. -/
def KpR (n B : Nat) (W W' : World) : Prop := Below n W W' ∧ ∀ c, rowAt W B = some c → rowAt W' B = some c
theorem KpR.refl (n B : Nat) (W : World) : KpR n B W W := ⟨Below.refl _ _, fun _ h => h⟩
theorem KpR.trans {n B : Nat} {A C D : World} (h : KpR n B A C) (k : KpR n B C D) : KpR n B A D := ⟨h.1.trans k.1, fun c x => k.2 c (h.2 c x)⟩
theorem KpR.put {n B : Nat} {w : World} (hn : n ≤ w.heap.size) (hB : B < w.heap.size) : ∀ (W : World) (l : Nat) (o o' : Obj), w.heap.size ≤ l → W.heap[l]? = some o → o.isCells = false → o.isWalk = false → KpR n B W (W.putObj l o') :=
  fun W l o o' hl ho hc hw => ⟨belowK_b (w := w) hn W l o o' hl ho hc hw, fun c h => by
    obtain ⟨t, ht⟩ := rowAt_some h
    exact rowAt_of_heap (t := t) ((World.putObj_heap_other (by omega)).trans ht)⟩

end Go.Proofs.Ytfdoehakpeddnaa
