import Derived.RangeFuncNested
import Derived.RangeFuncBound
import Derived.RangeFuncCalls
import Derived.RangeFuncLeaves
import Derived.Shelf.Abstract
import Derived.Shelf.RegionOpen
import Derived.WalkKit
import Derived.OwnWalkIn
import Derived.TacticsInMore
import Derived.LoopNIn
import Derived.LoopIn
import Derived.Maps.AppendAt
import Derived.Test.YtppohghejhcilaaImplB
import Derived.RangeFuncBox
import Derived.Laws.AppendOwn
import Derived.Test.YtppohghejhcilaaList
import Derived.Deep.RegionHeld3
import Derived.OrdersIn
import Derived.AtR
import Derived.Test.YtppohghejhcilaaNums
import Derived.Test.YtppohghejhcilaaSpecB
import Derived.Deep.QuietTactic
import Derived.BigQuiet
import Derived.Test.YtppohghejhcilaaTy
import Derived.Test.YtppohghejhcilaaRoof
import Derived.Test.YtppohghejhcilaaSrc
import Derived.StillTailTactics
import Derived.ProofKit
import Derived.OpenShut
import Derived.ChangeOld
import Derived.Below
import Derived.Lib.SmallJoins
import Derived.Test.YtppohghejhcilaaHelp
import Derived.Deep.SlicePairs
import Derived.OwnWalk
import Derived.Laws.MakeOwn
import Derived.Deep.LoopGhost
import Derived.Deep.Draws
import Derived.ChangeSlices
import Derived.Maps.OwnOps
import Derived.Maps.Views
import Derived.Maps.OwnSet
import Derived.DeepKeys4
import Derived.Laws.StructEq
import Derived.Test.YtppohghejhcilaaEq
import Derived.Laws.CopyOwn
import Derived.Deep.RegionLaw
import Derived.OrdersHeld
import Derived.Test.YtppohghejhcilaaAgg

/- r.places(): the iterator over all places of a roof, course by course. -/
namespace Go.Proofs.Ytppohghejhcilaa
open Go.RowKit Go.Shelf
attribute [local go_sem] Oper.semAt_some

/-- A place of h courses of w tiles. -/
abbrev Pl (h w : Nat) := { p : Nat × Nat // p.1 < h ∧ p.2 < w }
def Pl.enc {h w : Nat} (x : Pl h w) : Value := .agg #[.int .i8 (x.1.1 : Int), .int .i8 (x.1.2 : Int)]
/-- The first k places. -/
def plUpto (h w : Nat) : Nat → List (Pl h w)
  | 0 => []
  | k + 1 => plUpto h w k ++ (if q : k / w < h ∧ k % w < w then [⟨(k / w, k % w), q⟩] else [])
theorem pl_div {c j w : Nat} (hj : j < w) : (c * w + j) / w = c := by
  rw [Nat.mul_comm, Nat.mul_add_div (by omega), Nat.div_eq_of_lt hj, Nat.add_zero]
theorem pl_mod {c j w : Nat} (hj : j < w) : (c * w + j) % w = j := by
  rw [Nat.mul_comm, Nat.mul_add_mod, Nat.mod_eq_of_lt hj]
theorem plUpto_succ {h w c j : Nat} (hc : c < h) (hj : j < w) : plUpto h w (c * w + j + 1) = plUpto h w (c * w + j) ++ [⟨(c, j), hc, hj⟩] := by
  have e1 := pl_div (c := c) hj
  have e2 := pl_mod (c := c) hj
  simp only [plUpto, e1, e2]
  rw [dif_pos ⟨hc, hj⟩]
theorem plUpto_len (h w : Nat) : ∀ k, (plUpto h w k).length ≤ k
  | 0 => Nat.le_refl _
  | k + 1 => by
    have := plUpto_len h w k
    simp only [plUpto, List.length_append]
    split <;> simp <;> omega

/-- What a round that goes on keeps: the blocks below n, and the roof's box. -/
def KpR (n B : Nat) (W W' : World) : Prop := Below n W W' ∧ ∀ c, rowAt W B = some c → rowAt W' B = some c
theorem KpR.refl (n B : Nat) (W : World) : KpR n B W W := ⟨Below.refl _ _, fun _ h => h⟩
theorem KpR.trans {n B : Nat} {A C D : World} (h : KpR n B A C) (k : KpR n B C D) : KpR n B A D := ⟨h.1.trans k.1, fun c x => k.2 c (h.2 c x)⟩
theorem KpR.put {n B : Nat} {w : World} (hn : n ≤ w.heap.size) (hB : B < w.heap.size) : ∀ (W : World) (l : Nat) (o o' : Obj), w.heap.size ≤ l → W.heap[l]? = some o → o.isCells = false → o.isWalk = false → KpR n B W (W.putObj l o') :=
  fun W l o o' hl ho hc hw => ⟨belowK_b (w := w) hn W l o o' hl ho hc hw, fun c h => by
    obtain ⟨t, ht⟩ := rowAt_some h
    exact rowAt_of_heap (t := t) ((World.putObj_heap_other (by omega)).trans ht)⟩

set_option maxRecDepth 100000 in
set_option maxHeartbeats 2000000 in
theorem places1_in (n : Nat) (hn : 1 ≤ n) (l Bn n0 : Nat) (c : Array Value) (r : Rf) (hh ww : Nat) (hhe : r.h = hh) (hwe : r.w = ww) (h8 : hh ≤ 8) (w8 : ww ≤ 8) (hR : IsRoof c r) (J Jx : List (Pl hh ww) → World → Prop)
    (hY : ∀ (pre : List (Pl hh ww)) (x : Pl hh ww) (W : World), J pre W → pre.length < hh * ww → YieldAt Fence.wide (n - 1) Try.prog l #[x.enc] W fun e W' =>
      (e = .returned (.bool true) ∧ J (pre ++ [x]) W' ∧ KpR n0 Bn W W') ∨ (e = .returned (.bool false) ∧ Jx (pre ++ [x]) W'))
    (W : World) (hr : rowAt W Bn = some c) (h0 : J [] W) :
    CallsIn Fence.wide n Try.prog 64 #[.func (.yield l) #[] #[], .pointer (some ⟨Bn, 0, none⟩)] W fun e W' => (∃ v, e = .returned v) ∧
      ((∃ ys, ys = plUpto hh ww (hh * ww) ∧ J ys W') ∨ (∃ pre, True ∧ Jx pre W')) := by
  have hc := hR.size
  have k0 : ∀ W, rowAt W Bn = some c → W.cell? ⟨Bn, 0, none⟩ = some (.int .i8 ww) := fun W h => by
    rw [cell_of_rowAt h, Array.getElem?_eq_getElem (by omega), hR.wide (by omega), hwe]
  have k1 : ∀ W, rowAt W Bn = some c → W.cell? ⟨Bn, 1, none⟩ = some (.int .i8 hh) := fun W h => by
    rw [cell_of_rowAt h, Array.getElem?_eq_getElem (by omega), hR.high (by omega), hhe]
  have K0 := Lib.hid k0
  have K1 := Lib.hid k1
  have HY := Lib.hid hY
  clear k0 k1 hY hhe hwe
  have c1 := K1.out W hr
  refine callsIn_of_wp Try.func64 rfl trivial ?_ rfl
  simp only [Try.ntmps64, List.size_toArray, List.length_cons, List.length_nil, Nat.reduceAdd, Nat.reduceSub, Array.replicate_succ, Array.replicate_zero, List.push_toArray, List.append_toArray, List.nil_append, List.cons_append]
  gi_wp2
  gi_loopw [7] (fun i wr => ∃ k : Nat, k ≤ hh ∧ i = .int .i8 k ∧ J (plUpto hh ww (k * ww)) wr ∧ rowAt wr Bn = some c) (fun i _ => hh - (intOf i).toNat)
  case atStart => exact ⟨0, by omega, rfl, by rw [Nat.zero_mul]; exact h0, hr⟩
  case round =>
    clear c1 h0 hr
    obtain ⟨k, hk, rfl, hJ, hrow⟩ := hrel
    obtain ⟨wo, rfl⟩ : ∃ wo : World, wo = wr := ⟨_, rfl⟩
    by_cases hlt : k < hh
    · have c0 := K0.out _ hrow
      gi_wp2
      gi_loopw [12] (fun i wr => ∃ m : Nat, m ≤ ww ∧ i = .int .i8 m ∧ J (plUpto hh ww (k * ww + m)) wr ∧ rowAt wr Bn = some c) (fun i _ => ww - (intOf i).toNat)
      case atStart => exact ⟨0, by omega, rfl, hJ, hrow⟩
      case round =>
        clear c0 hJ hrow
        obtain ⟨m, hm, rfl, hJ, hrow⟩ := hrel
        by_cases hml : m < ww
        · obtain ⟨fn, tmps, assign, body, hy, hR⟩ := HY.out _ ⟨(k, m), hlt, hml⟩ _ hJ (by
            have h1 := plUpto_len hh ww (k * ww + m)
            have h2 : (k + 1) * ww ≤ hh * ww := Nat.mul_le_mul_right ww hlt
            rw [Nat.succ_mul] at h2
            omega)
          dsimp only [Pl.enc] at hy
          gi_wp2
          refine hR.mono ?_
          rintro e W3 (⟨rfl, hJ3, hk3⟩ | ⟨rfl, hJx3⟩)
          · rw [← plUpto_succ hlt hml] at hJ3
            have hr3 := hk3.2 c hrow
            clear hy hR hJ hrow hk3
            gi_wp2
            go_roundw
            case rel => exact ⟨m + 1, by omega, by go_num, hJ3, hr3⟩
            case measure => simp [intOf]; omega
          · clear hy hR hJ hrow
            gi_wp2
            refine bodyPost_ret (results_none rfl _ _ _) rfl ?_
            exact ⟨⟨_, rfl⟩, .inr ⟨_, trivial, hJx3⟩⟩
        · obtain rfl : m = ww := by omega
          rw [← Nat.succ_mul] at hJ
          gi_wp2
          go_roundw
          case rel => exact ⟨k + 1, by omega, by go_num, hJ, hrow⟩
          case measure => simp [intOf]; omega
    · obtain rfl : k = hh := by omega
      gi_wp2
      go_end0
      exact ⟨⟨_, rfl⟩, .inl ⟨_, rfl, hJ⟩⟩

/-- **r.places() hands back a value that gives all places, in their order.** -/
theorem places_stops (n : Nat) (hn : 1 ≤ n) (Bn n0 : Nat) (c : Array Value) (r : Rf) (hh ww : Nat) (hhe : r.h = hh) (hwe : r.w = ww) (h8 : hh ≤ 8) (w8 : ww ≤ 8) (hR : IsRoof c r) (w : World) (hr : rowAt w Bn = some c) :
    SeqStopsK Fence.wide n Try.prog 64 #[.pointer (some ⟨Bn, 0, none⟩)] (fun x : Pl hh ww => #[x.enc]) (KpR n0 Bn) (fun ys => ys = plUpto hh ww (hh * ww)) (fun _ => True) (hh * ww) w :=
  fun l J Jx W hW _ _ hY h0 => places1_in n hn l Bn n0 c r hh ww hhe hwe h8 w8 hR J Jx hY W (brow hW hr) h0

set_option maxHeartbeats 1000000 in
/-- **r.places()**: the receiver is boxed; the function value captures the box. -/
theorem places_any (c : Array Value) (w : World) :
    Calls Try.prog 63 #[.agg c] w fun e w' => e = .returned (.func (.func 64) #[] #[.pointer (some ⟨w.heap.size, 0, none⟩)]) ∧ w' = w.alloc (.cells c 28) := by
  go_enter Try.func63, Try.ntmps63
  go_wp2
  go_ret
  exact ⟨rfl, rfl⟩
end Go.Proofs.Ytppohghejhcilaa

/- Rows with their types: what a loop over an iterator keeps; lists of places. Laws over any program. -/
namespace Go.Proofs.Ytppohghejhcilaa
open Go.RowKit

def RowT (W : World) (B : Nat) (t : TypeId) (c : Array Value) : Prop := W.heap[B]? = some (.cells c t (0, 0))
section
variable {W W' : World} {B B' : Nat} {t e : TypeId} {c : Array Value} {u : Value}
theorem RowT.row (h : RowT W B t c) : rowAt W B = some c := rowAt_of_heap h
theorem RowT.lt (h : RowT W B t c) : B < W.heap.size := (Array.getElem?_eq_some_iff.1 h).1
theorem RowT.below (h : RowT W B t c) (b : Below W.heap.size W W') : RowT W' B t c := (b.block B h.lt).trans h
theorem RowT.drew (h : RowT W B t c) : RowT W.drew B t c := h
theorem RowT.alloc (h : RowT W B t c) (x : Obj) : RowT (W.alloc x) B t c := (Below.heap_alloc W x B h.lt).trans h
theorem RowT.new (W : World) (t : TypeId) (c : Array Value) : RowT (W.alloc (.cells c t)) W.heap.size t c := World.alloc_heap_new W _
theorem RowT.kept {row : Option Nat} (h : RowT W B t c) (hg : W.grownBy W' row) (hne : some B ≠ row) : RowT W' B t c := (hg.block B h.lt hne).trans h
theorem RowT.not_row (h : RowT W B t c) (hte : t ≠ e) {base size k : Nat} {v : Value} {xs : List Value} (hr : W.ownsRow base e size v k xs) : some B ≠ v.ownBlock := by
  rcases hr.2 with ⟨rfl, _⟩ | ⟨g, cap, cur, rfl, _, hgb, _⟩
  · simp [Value.ownBlock]
  · intro e'
    obtain rfl : B = g := by simpa [Value.ownBlock] using e'
    have := (show W.heap[B]? = _ from h).symm.trans hgb
    simp at this
    exact hte this.2
theorem RowT.other {o : Nat} (h : RowT W B t c) (hne : B ≠ B') (u : Value) : RowT (W.setCell ⟨B', o, none⟩ u) B t c := (heap_setCell_other W ⟨B', o, none⟩ B u hne).trans h
theorem RowT.set {o : Nat} (h : RowT W B t c) (u : Value) : RowT (W.setCell ⟨B, o, none⟩ u) B t (c.setIfInBounds o u) := heap_setCell_same W B o c t u h
theorem RowT.own {β : Type} (B : Nat) (t : TypeId) (f : β → Array Value) : Own (fun (s : β) W => RowT W B t (f s)) := fun s X Y row hs hg hrow =>
  RowT.kept hs hg (fun e' => by obtain ⟨_, ho, hc⟩ := hrow B e'.symm; rw [show X.heap[B]? = _ from hs] at ho; cases ho; cases hc)
theorem RowT.put (h : RowT W B t c) {l : Nat} {x : Obj} (x' : Obj) (hl : W.heap[l]? = some x) (hx : x.isCells = false) : RowT (W.putObj l x') B t c :=
  RowT.kept h (grownBy_putObj' W l x') (fun e' => by cases e'; rw [show W.heap[B]? = _ from h] at hl; cases hl; cases hx)
/-- 'out = append(out, ..)' behind a region: another row stays. -/
theorem RowT.appended {W w1 : World} {tmp : Obj} {base size k : Nat} {v : Value} {xs : List Value} (h : RowT W B t c) (hte : t ≠ e) (hr : W.ownsRow base e size v k xs) (hgrow : (W.alloc tmp).grownBy w1 v.ownBlock) : RowT w1 B t c :=
  RowT.kept (h.alloc tmp) hgrow (h.not_row hte hr)
end
theorem owns_below {w w' : World} {base : Nat} {e : TypeId} {size : Nat} {v : Value} {n : Nat} {xs : List Value} (h : w.ownsRow base e size v n xs) (b : Below w.heap.size w w') : w'.ownsRow base e size v n xs := by
  obtain ⟨hl, h | ⟨g, cap, cur, rfl, hg, hh, hr⟩⟩ := h
  · exact ⟨hl, .inl h⟩
  · exact ⟨hl, .inr ⟨g, cap, cur, rfl, hg, (b.block g (Array.getElem?_eq_some_iff.1 hh).1).trans hh, hr⟩⟩
theorem keeps_of_below {W W' : World} (b : Below W.heap.size W W') : KeepsOthers W W' := ⟨b.size, fun k _ hk _ => (b.block k (Array.getElem?_eq_some_iff.1 hk).1).trans hk⟩

/-- The cells of a list of places, and the list's cells as a function. -/
def plCells {h w : Nat} (l : List (Pl h w)) : List Value := l.flatMap fun x => [.int .i8 (x.1.1 : Int), .int .i8 (x.1.2 : Int)]
def plAt {h w : Nat} (l : List (Pl h w)) (i : Nat) : Int := match l[i / 2]? with | some x => if i % 2 = 0 then (x.1.1 : Int) else (x.1.2 : Int) | none => 0
theorem plCells_len {h w : Nat} (l : List (Pl h w)) : (plCells l).length = l.length * 2 := by
  induction l with
  | nil => rfl
  | cons x l ih => simp only [plCells, List.flatMap_cons, List.length_append, List.length_cons, List.length_nil] at *; omega
theorem plCells_at {h w : Nat} : ∀ (l : List (Pl h w)) (i : Nat), i < l.length * 2 → (plCells l)[i]? = some (.int .i8 (plAt l i))
  | [], i, hi => by simp at hi
  | x :: l, 0, _ => by simp [plCells, plAt]
  | x :: l, 1, _ => by simp [plCells, plAt]
  | x :: l, i + 2, hi => by
    have := plCells_at l i (by simp at hi; omega)
    have e1 : (i + 2) / 2 = i / 2 + 1 := by omega
    have e2 : (i + 2) % 2 = i % 2 := by omega
    simp only [plCells, List.flatMap_cons, plAt, e1, e2, List.getElem?_cons_succ] at *
    simpa using this
theorem plCells_snoc {h w : Nat} (l : List (Pl h w)) (x : Pl h w) : plCells (l ++ [x]) = plCells l ++ [.int .i8 (x.1.1 : Int), .int .i8 (x.1.2 : Int)] := by simp [plCells]
/-- A list of places that a call made. -/
theorem IsList.of_pls {w : World} {base : Nat} {e : TypeId} {v : Value} {h w' : Nat} {l : List (Pl h w')} (o : w.ownsRow base e 2 v l.length (plCells l)) : IsList w base v 2 l.length (fun i => .int .i8 (plAt l i)) := by
  obtain ⟨hl, h | ⟨g, cap, cur, rfl, hg, hh, hn, hm, hs, ht⟩⟩ := o
  · exact .inl ⟨h.2, none, 0, h.1⟩
  · refine .inr ⟨g, cap, cur, rfl, hg, rowAt_of_heap hh, ?_, fun i hi => ?_⟩
    · rw [hs]; exact Nat.mul_le_mul_right 2 hn
    · have h1 : cur[i]? = (cur.toList.take (l.length * 2))[i]? := by rw [List.getElem?_take, if_pos hi, Array.getElem?_toList]
      rw [h1, ht]
      exact plCells_at l i hi
def GivesP (w : World) {h ww : Nat} (l : List (Pl h ww)) (e : Ending) (w' : World) : Prop :=
  ∃ v, e = .returned v ∧ IsList w' w.heap.size v 2 l.length (fun i => .int .i8 (plAt l i)) ∧ Below w.heap.size w w'
end Go.Proofs.Ytppohghejhcilaa

/- A region that draws its order, within a round of a range over a function: by the walk of 'OrdersHeld'. Laws over any program. -/
namespace Go.Proofs.Ytppohghejhcilaa
open Go.RowKit

/-- Q at the region's end alone. -/
def OnlyN (Q : Exit → Act → World → Prop) : Exit → Act → World → Prop
  | .normal, a, w => Q .normal a w
  | _, _, _ => False

/-- No operation of the region is a defer statement. -/
def calmB (ops : Array Oper) : Bool := ops.toList.all fun o => match o.op with | .defer _ => false | _ => true
theorem calm_of {ops : Array Oper} (h : calmB ops = true) {i : Nat} {o : Oper} (ho : ops[i]? = some o) : ∀ c, o.op ≠ .defer c := fun c hc => by
  have hm : o ∈ ops.toList := by
    have := (Array.getElem?_eq_some_iff.1 ho)
    obtain ⟨hi, rfl⟩ := this
    exact Array.getElem_mem_toList hi
  have := List.all_eq_true.1 h o hm
  rw [hc] at this
  exact absurd this (by simp)

theorem rows_in {n l : Nat} {P : Program} {row : String} {args : Array Value} {w : World} {R : Value → World → Prop} (h : Rows P row args w R) : RowsIn (Fence.wide.inRound l) n P row args w R :=
  fun c cs _ => let ⟨v, w', r, s⟩ := h c cs; ⟨v, w', r, stepsIn_wide.2 s⟩

theorem wpOp_in {l n : Nat} {P : Program} {ops : Array Oper} {Q : Exit → Act → World → Prop} {i : Nat} {K K' : Act → World → Prop} {a : Act} {w : World} (hd : calmB ops = true) (hK : ∀ a w, K a w → K' a w)
    (h : wpOp P ops (OnlyN Q) i K a w) : wpOpIn (Fence.wide.inRound l) n P ops Q i K' a w := by
  unfold wpOp at h
  unfold wpOpIn
  cases ho : ops[i]? with
  | none => simp only [ho] at h; exact hK _ _ h
  | some o =>
    simp only [ho] at h ⊢
    by_cases hw : Region.wanted o (yielded ops a.tmps) = true
    · rw [if_pos hw] at h ⊢
      rcases h with h | ⟨_, _, _, h⟩
      · refine ⟨fun _ _ => trivial, ?_⟩
        rw [Oper.semAt_eq _ _ _ (calm_of hd ho)]
        unfold Oper.wp at h
        generalize (execOp a.eval o).run P w = r at *
        cases r with
        | ok x w' =>
          cases x <;> simp only [Oper.upon, Oper.uponIn] at h ⊢
          case value v => exact hK _ _ h
          case skip => exact hK _ _ h
          case defer d => exact hK _ _ h
          case enter f args =>
            refine ⟨fun h => by simp [Fence.wide] at h, ?_⟩
            refine CallsIn.inRound l (callsIn_wide.2 (Calls.mono h fun e w'' he => ?_))
            cases e with
            | returned v => exact hK _ _ he
            | panicked c => exact (he : False).elim
            | outgrown => obtain ⟨_, _, h⟩ := he; exact (h : False).elim
          case row row args => exact ⟨fun h => by simp [Fence.wide] at h, rows_in (Rows.mono h fun _ _ he => hK _ _ he)⟩
          all_goals exact (h : False).elim
        | halt x w' => cases x <;> simp only [Oper.upon] at h <;> exact (h : False).elim
      · exact (h : False).elim
    · rw [if_neg hw] at h ⊢
      exact ⟨fun _ _ => trivial, hK _ _ h⟩

theorem wpAny_in {l n : Nat} {P : Program} {ops : Array Oper} {Q : Exit → Act → World → Prop} {md : Region.Mode} (hd : calmB ops = true) :
    ∀ (fuel : Nat) (listed : Array Bool) (a : Act) (w : World), wpAny P md ops (OnlyN Q) fuel listed a w → wpAnyIn (Fence.wide.inRound l) n P md ops Q fuel listed a w
  | 0, _, _, _, h => h
  | fuel + 1, _, _, _, h => ⟨h.1, fun i hi => wpOp_in hd (fun a' w' h' => wpAny_in hd fuel _ a' w' h') (h.2 i hi)⟩

/-- The beginning of the walk, within a round. -/
theorem wpIn_region_held {l n : Nat} {P : Program} {id : Nat} {ops : Array Oper} {Q : Exit → Act → World → Prop} {S : World → Prop} {a : Act} {w : World} (hm : P.follows .mixedOrders = true) (hd : calmB ops = true) (hS : S w.drew)
    (h : S w.drew → wpAnyH P .any ops (OnlyN Q) S ops.size (Array.replicate ops.size false) a w.drew) : (Code.region id ops true).wpIn (Fence.wide.inRound l) n P Q a w :=
  wpIn_region_any hm (wpAny_in hd _ _ _ _ (wpAny_of_held _ _ _ _ (h hS)))
end Go.Proofs.Ytppohghejhcilaa

/- Lists of a call's own by their block: one is written, the others stay. The laws' helpers that mark and hold, from any number on. -/
namespace Go.Proofs.Ytppohghejhcilaa
open Go.RowKit

/-- v is a list of n elements of sz cells each; its block is g. -/
def Ls (w : World) (g : Nat) (v : Value) (sz n : Nat) (f : Nat → Value) : Prop :=
  (n = 0 ∧ ∃ a cap, v = .slice a 0 cap) ∨ ∃ cap cur, v = .slice (some ⟨g, 0, none⟩) n cap ∧ rowAt w g = some cur ∧ n * sz ≤ cur.size ∧ ∀ i, i < n * sz → cur[i]? = some (f i)
/-- Of the blocks of w only g has changed. -/
structure Only (g : Nat) (w W : World) : Prop where
  below : Below g w W
  size : W.heap.size = w.heap.size
  other : ∀ k, k ≠ g → W.heap[k]? = w.heap[k]?
theorem Only.refl (g : Nat) (w : World) : Only g w w := ⟨Below.refl _ _, rfl, fun _ _ => rfl⟩
theorem Only.set {g : Nat} {w W : World} (h : Only g w W) (o : Nat) (v : Value) : Only g w (W.setCell ⟨g, o, none⟩ v) :=
  ⟨h.below.setCell (p := ⟨g, o, none⟩) (Nat.le_refl _) v, by simpa using h.size, fun k hk => (heap_setCell_other W ⟨g, o, none⟩ k v hk).trans (h.other k hk)⟩
theorem Only.row {g : Nat} {w W : World} (h : Only g w W) {k : Nat} (hk : k ≠ g) : rowAt W k = rowAt w k := by simp [rowAt, h.other k hk]

theorem Ls.shape {w : World} {g : Nat} {v : Value} {sz n : Nat} {f : Nat → Value} (h : Ls w g v sz n f) : ∃ a cap, v = .slice a n cap := by
  rcases h with ⟨rfl, a, cap, rfl⟩ | ⟨cap, cur, rfl, _⟩
  · exact ⟨a, cap, rfl⟩
  · exact ⟨_, cap, rfl⟩
theorem IsList.ls {w : World} {base : Nat} {v : Value} {sz n : Nat} {f : Nat → Value} (h : IsList w base v sz n f) : ∃ g, base ≤ g ∧ Ls w g v sz n f := by
  rcases h with ⟨rfl, a, cap, rfl⟩ | ⟨g, cap, cur, rfl, hg, hr, hs, hf⟩
  · exact ⟨base, Nat.le_refl _, .inl ⟨rfl, a, cap, rfl⟩⟩
  · exact ⟨g, hg, .inr ⟨cap, cur, rfl, hr, hs, hf⟩⟩
theorem Ls.list {w : World} {g : Nat} {v : Value} {sz n : Nat} {f : Nat → Value} (h : Ls w g v sz n f) : IsList w 0 v sz n f := by
  rcases h with h | ⟨cap, cur, rfl, hr, hs, hf⟩
  · exact .inl h
  · exact .inr ⟨g, cap, cur, rfl, Nat.zero_le _, hr, hs, hf⟩
theorem Ls.lt {w : World} {g : Nat} {v : Value} {sz n : Nat} {f : Nat → Value} (h : Ls w g v sz n f) : n = 0 ∨ g < w.heap.size := by
  rcases h with ⟨h, _⟩ | ⟨cap, cur, rfl, hr, hs, hf⟩
  · exact .inl h
  · exact .inr (rowAt_lt hr)
/-- An older list lies in another block than a newer one. -/
theorem Ls.ne {w : World} {g : Nat} {v : Value} {sz n : Nat} {f : Nat → Value} (h : Ls w g v sz n f) {k : Nat} (hk : w.heap.size ≤ k) : n = 0 ∨ g ≠ k := h.lt.imp id fun x => by omega
theorem Ls.below {w w' : World} {g B : Nat} {v : Value} {sz n : Nat} {f : Nat → Value} (h : Ls w g v sz n f) (b : Below B w w') (hB : w.heap.size ≤ B) : Ls w' g v sz n f := by
  rcases h with h | ⟨cap, cur, rfl, hr, hs, hf⟩
  · exact .inl h
  · exact .inr ⟨cap, cur, rfl, (rowAt_below b g (Nat.lt_of_lt_of_le (rowAt_lt hr) hB)).trans hr, hs, hf⟩
theorem Ls.only {w w' : World} {g k : Nat} {v : Value} {sz n : Nat} {f : Nat → Value} (h : Ls w g v sz n f) (b : Only k w w') (hk : n = 0 ∨ g ≠ k) : Ls w' g v sz n f := by
  rcases h with h | ⟨cap, cur, rfl, hr, hs, hf⟩
  · exact .inl h
  · rcases hk with rfl | hk
    · exact .inl ⟨rfl, _, cap, rfl⟩
    · exact .inr ⟨cap, cur, rfl, (b.row hk).trans hr, hs, hf⟩

theorem Ls.only_later {w w' : World} {g k nk : Nat} {v : Value} {sz n : Nat} {f : Nat → Value} (h : Ls w g v sz n f) (b : Only k w w') (z : nk = 0 → w' = w) (hk : nk = 0 ∨ k ≠ g) : Ls w' g v sz n f := by
  rcases hk with hk | hk
  · rw [z hk]; exact h
  · exact h.only b (.inr (Ne.symm hk))

/-- The list's row, its first k cells as F tells. -/
def RowUp (av : Option Addr) (W : World) (g n k : Nat) (F : Nat → Value) : Prop := n = 0 ∨ ∃ cur, av = some ⟨g, 0, none⟩ ∧ rowAt W g = some cur ∧ n ≤ cur.size ∧ ∀ i, i < k → cur[i]? = some (F i)

end Go.Proofs.Ytppohghejhcilaa

/- What a call ends with that makes a list and tells some numbers beside. -/
namespace Go.Proofs.Ytppohghejhcilaa
open Go.RowKit
def GivesT (w : World) (sz : Nat) (k : IntKind) (n : Nat) (f : Nat → Int) (rest : List Value) (e : Ending) (w' : World) : Prop :=
  ∃ v, e = .returned (.tuple (v :: rest).toArray) ∧ IsList w' w.heap.size v sz n (fun i => .int k (f i)) ∧ Below w.heap.size w w'
theorem gen_callsW {P : Program} {f : FuncId} {args : Array Value} {Q : Ending → World → Prop} {w : World} (h : ∀ W, W = w → Calls P f args W Q) : Calls P f args w Q := h w rfl
end Go.Proofs.Ytppohghejhcilaa

/- placesWhere: the places of a roof for which a function value answers true. -/
namespace Go.Proofs.Ytppohghejhcilaa
open Go.RowKit Go.Shelf
attribute [local go_sem] Oper.semAt_some

theorem A_infoPw : (Try.prog.info? 35).map (fun i => (i.zero, i.size, i.bytes)) = some (some (.agg #[.int .i8 0, .int .i8 0]), 2, 2) := by kernel_rfl
/-- Of some places those that are as told. -/
def fltW (p : Nat → Nat → Bool) {h w : Nat} (l : List (Pl h w)) : List (Pl h w) := l.filter fun x => p x.1.1 x.1.2
theorem fltW_hit {p : Nat → Nat → Bool} {h w : Nat} {l : List (Pl h w)} {x : Pl h w} (e : p x.1.1 x.1.2 = true) : fltW p (l ++ [x]) = fltW p l ++ [x] := by simp [fltW, e]
theorem fltW_miss {p : Nat → Nat → Bool} {h w : Nat} {l : List (Pl h w)} {x : Pl h w} (e : p x.1.1 x.1.2 = false) : fltW p (l ++ [x]) = fltW p l := by simp [fltW, e]
theorem fltW_len {p : Nat → Nat → Bool} {h w : Nat} (l : List (Pl h w)) : (fltW p l).length ≤ l.length := List.length_filter_le _ _
/-- A predicate on places as a function value, within h courses of w tiles. -/
def PredW (g : FuncId) (la lb : Array Value) (p : Nat → Nat → Bool) (w : World) : Prop :=
  ∀ (i j : Nat) W, i < 8 → j < 8 → Below w.heap.size w W → Calls Try.prog g (la ++ #[.agg #[.int .i8 i, .int .i8 j]] ++ lb) W fun e w' => e = .returned (.bool (p i j)) ∧ Below W.heap.size W w'
theorem PredW.later {g : FuncId} {la lb : Array Value} {p : Nat → Nat → Bool} {w w' : World} (h : PredW g la lb p w) (b : Below w.heap.size w w') : PredW g la lb p w' :=
  fun i j W hi hj B => h i j W hi hj (bnext b B b.size)
/-- A list's room. -/
def CapW (v : Value) (n : Nat) : Prop := ∃ a cap, v = .slice a n cap ∧ n ≤ cap ∧ cap ≤ maxLen
theorem CapW.of_pls {w : World} {base : Nat} {e : TypeId} {v : Value} {n : Nat} {xs : List Value} (o : w.ownsRow base e 2 v n xs) : CapW v n := by
  obtain ⟨hl, h | ⟨g, cap, cur, rfl, hg, hh, hn, hm, hs, ht⟩⟩ := o
  · exact ⟨none, 0, by rw [h.1, h.2], by omega, by unfold maxLen; omega⟩
  · exact ⟨_, cap, rfl, hn, hm⟩
def GivesW (w : World) {h ww : Nat} (l : List (Pl h ww)) (e : Ending) (w' : World) : Prop :=
  ∃ v, e = .returned v ∧ IsList w' w.heap.size v 2 l.length (fun i => .int .i8 (plAt l i)) ∧ Below w.heap.size w w' ∧ CapW v l.length
theorem GivesW.gives {w : World} {h ww : Nat} {l : List (Pl h ww)} {e : Ending} {w' : World} (g : GivesW w l e w') : GivesP w l e w' := let ⟨v, h1, h2, h3, _⟩ := g; ⟨v, h1, h2, h3⟩

set_option maxRecDepth 100000 in
set_option maxHeartbeats 4000000 in
theorem placesWhere_any (fg : FuncId) (la lb : Array Value) (p : Nat → Nat → Bool) (eg : ∀ args w, (callFunc fg args).run Try.prog w = .ok (.enter fg args) w) (c : Array Value) (r : Rf) (hh ww : Nat) (hhe : r.h = hh) (hwe : r.w = ww) (h8 : hh ≤ 8) (w8 : ww ≤ 8) (w : World) (hR : IsRoof c r) (hp : PredW fg la lb p w) :
    Calls Try.prog 51 #[.agg c, .func (.func fg) la lb] w (GivesW w (fltW p (plUpto hh ww (hh * ww)))) := by
  have hc := hR.size
  obtain ⟨i0, hi0, hz0, hz1, hz2⟩ := info_parts A_infoPw
  have HP := Lib.hid hp
  clear hp
  refine (callsIn_wide (n := 3)).1 ?_
  refine callsIn_of_wp_marks Try.func51 rfl trivial ?_ rfl
  simp only [Try.ntmps51, List.size_toArray, List.length_cons, List.length_nil, Nat.reduceAdd, Nat.reduceSub, Array.replicate_succ, Array.replicate_zero, List.push_toArray, List.append_toArray, List.nil_append, List.cons_append]
  gi_wp2_with (refine ⟨trivial, ?_⟩; gi_at_call 63; refine (callsIn_wide.2 (places_any c _)).mono ?_; rintro e w' ⟨rfl, rfl⟩)
  obtain ⟨W0, hW0⟩ : ∃ W0, ((((w.alloc (.cells c 28)).alloc (.cells #[.func (.func fg) la lb] 78)).alloc (.cells #[.slice none 0 0] 30)).alloc (.cells c 28)) = W0 := ⟨_, rfl⟩
  have hsz : W0.heap.size = w.heap.size + 4 := by rw [← hW0]; simp
  have rA : RowT W0 (w.heap.size) 28 c := by
    have := (((RowT.new w 28 c).alloc (.cells #[.func (.func fg) la lb] 78)).alloc (.cells #[.slice none 0 0] 30)).alloc (.cells c 28)
    rw [hW0] at this; simpa using this
  have rF : RowT W0 (w.heap.size + 1) 78 #[.func (.func fg) la lb] := by
    have := ((RowT.new (w.alloc (.cells c 28)) 78 #[.func (.func fg) la lb]).alloc (.cells #[.slice none 0 0] 30)).alloc (.cells c 28)
    rw [hW0] at this; simpa using this
  have rC0 : RowT W0 (w.heap.size + 1 + 1) 30 #[.slice none 0 0] := by
    have := (RowT.new ((w.alloc (.cells c 28)).alloc (.cells #[.func (.func fg) la lb] 78)) 30 #[.slice none 0 0]).alloc (.cells c 28)
    rw [hW0] at this; simpa using this
  have rD : RowT W0 (w.heap.size + 1 + 1 + 1) 28 c := by
    have := RowT.new (((w.alloc (.cells c 28)).alloc (.cells #[.func (.func fg) la lb] 78)).alloc (.cells #[.slice none 0 0] 30)) 28 c
    rw [hW0] at this; simpa using this
  have rC : Boxed W0 (w.heap.size + 1 + 1) 30 (.slice none 0 0) := rC0
  have hB0 : Below w.heap.size w W0 := by rw [← hW0]; exact ((((Below.refl _ w).alloc (Nat.le_refl _) _).alloc (by simp) _).alloc (by simp <;> omega) _).alloc (by simp <;> omega) _
  rw [hW0]
  clear hW0
  refine wpIn_rangeFunc_ownH rfl (by omega) (gf := 64) (lb := #[.pointer (some ⟨w.heap.size + 1 + 1 + 1, 0, none⟩)]) rfl trivial (enters_of Try.func64 (by kernel_rfl) rfl)
    (places_stops 2 (by omega) (w.heap.size + 1 + 1 + 1) w.heap.size c r hh ww hhe hwe h8 w8 hR W0 rD.row) KpR.trans (KpR.put (by omega) (by omega)) (Below.refl _ _) (fun _ => rfl)
    (fun pre W => ((RowT W w.heap.size 28 c ∧ RowT W (w.heap.size + 1) 78 #[.func (.func fg) la lb] ∧ RowT W (w.heap.size + 1 + 1 + 1) 28 c) ∧ (∃ v, Boxed W (w.heap.size + 1 + 1) 30 v ∧ W.ownsRow w.heap.size 35 2 v (fltW p pre).length (plCells (fltW p pre)) ∧ True)) ∧ Below w.heap.size w W)
    (fun _ _ _ => False)
    (OwnFrom.and (OwnFrom.and (OwnFrom.and (Own.from (RowT.own _ _ _) _) (OwnFrom.and (Own.from (RowT.own _ _ _) _) (Own.from (RowT.own _ _ _) _))) (Own.from (holdsRow_own w.heap.size (w.heap.size + 1 + 1) 30 35 2 (fun pre => (fltW p pre).length) (fun pre => plCells (fltW p pre)) (fun _ _ => True)) _)) (ownFrom_below (Nat.le_refl _) (by omega)))
    (fun _ _ _ _ _ hs _ _ => hs)
    ⟨⟨⟨rA, rF, rD⟩, ⟨_, rC, World.ownsRow_nil _ _ _ _, trivial⟩⟩, hB0⟩
    (fun x a' W => ∃ Bx, w.heap.size + 1 + 1 + 1 < Bx ∧ RowT W Bx 35 #[.int .i8 (x.1.1 : Int), .int .i8 (x.1.2 : Int)] ∧ a' = { tmps := #[.agg c, .func (.func fg) la lb, .pointer (some ⟨w.heap.size, 0, none⟩), .pointer (some ⟨w.heap.size + 1, 0, none⟩), .slice none 0 0, .pointer (some ⟨w.heap.size + 1 + 1, 0, none⟩), .pointer (some ⟨Bx, 0, none⟩), .agg c, .func (.func 64) #[] #[.pointer (some ⟨w.heap.size + 1 + 1 + 1, 0, none⟩)], x.enc, undef, undef, undef, undef, undef, undef, undef, undef], defers := [] })
    (fun x a' _ X Y row hs hg hr => by obtain ⟨Bx, h1, h2, h3⟩ := hs; exact ⟨Bx, h1, RowT.own Bx 35 (fun (_ : Unit) => #[Value.int .i8 (x.1.1 : Int), .int .i8 (x.1.2 : Int)]) () X Y row h2 hg (fun r e => (hr r e).2), h3⟩)
    ?assign ?body ?done ?stop
  case assign =>
    rintro l pre x W K ⟨⟨⟨gA, gF, gD⟩, v, gv, gl, _⟩, hB1⟩ hK
    dsimp only [Pl.enc]
    gi_wp2
    refine hK _ _ ((KeepsOthers.alloc _ _).from _) ⟨(Below.refl _ W).alloc hB1.size _, fun c' h => (rowAt_alloc_past _ _ _ (rowAt_lt h)).trans h⟩ ⟨⟨⟨gA.alloc _, gF.alloc _, gD.alloc _⟩, v, gv.alloc _, gl.alloc _, trivial⟩, hB1.alloc hB1.size _⟩ ⟨W.heap.size, gD.lt, RowT.new W 35 _, rfl⟩
  case body =>
    rintro l pre x a' W hl ⟨rr, hrr⟩ ⟨⟨⟨gA, gF, gD⟩, v, gv, gl, _⟩, hB1⟩ ⟨Bx, hBx, gX, rfl⟩ hlt
    have hpl := fltW_len (p := p) pre
    have x8 : x.1.1 < 8 := by have := x.2.1; omega
    have y8 : x.1.2 < 8 := by have := x.2.2; omega
    have hpre : pre.length < 64 := by
      have : hh * ww ≤ 8 * 8 := Nat.mul_le_mul h8 w8
      omega
    have CK := HP.out x.1.1 x.1.2 W x8 y8 hB1
    have kx0 := cell_of_rowAt gX.row 0
    have kx1 := cell_of_rowAt gX.row 1
    have kf := cell_of_rowAt gF.row 0
    simp at kx0 kx1 kf
    cases hx : p x.1.1 x.1.2 with
    | true =>
      rw [hx] at CK
      have HX := Lib.hid hx
      clear hx
      gi_wp2
      refine ⟨trivial, (CallsIn.inRound l (callsIn_wide.2 CK)).mono ?_⟩
      rintro e wx ⟨rfl, bx⟩
      obtain ⟨W2, hW2⟩ : ∃ W2, W2 = wx := ⟨_, rfl⟩
      rw [← hW2] at bx ⊢
      have bW := bx
      have hb2 : Below w.heap.size w W2 := hB1.trans (bW.mono hB1.size)
      have gA2 := gA.below bW
      have gF2 := gF.below bW
      have gD2 := gD.below bW
      have gX2 := gX.below bW
      have hv : Boxed W2 (w.heap.size + 1 + 1) 30 v := RowT.below gv bW
      have hrow := owns_below gl bW
      clear hW2 bx CK kx0 kx1 kf eg
      have hc := hv.cell
      have kx0 := cell_of_rowAt gX2.row 0
      have kx1 := cell_of_rowAt gX2.row 1
      simp at kx0 kx1
      gi_wp2_with (gi_at_builtin; refine wpListIn_append_own _ rfl _ _ 30 rfl w.heap.size 35 i0 (.agg #[.int .i8 0, .int .i8 0]) 2 2 Try.underlying30 hi0 hz0 hz1 hz2 rfl (by decide) _ _ _ rfl (hrow.alloc _) ⟨W2.heap.size, 0, none⟩ 1 1 [.int .i8 (x.1.1 : Int), .int .i8 (x.1.2 : Int)] rfl rfl (cell_two_new _ _ _ _) (by simp [Value.oneCell']) (by unfold maxLen; omega) (by omega) (by have := hb2.size; simp; omega) ?_; intro v' w1 hown' hgrow _; obtain ⟨g', cap', rfl⟩ := ownsRow_succ hown'; obtain ⟨hv1, hv2, hr2, hk2, hb3⟩ := hv.appended (by decide) hrow hb2.size (by omega) hown' hgrow; have hc1 := hv1.cell; have hf1 := hv1.frozen; have zA := (gA2.appended (by decide) hrow hgrow).other (B' := w.heap.size + 1 + 1) (o := 0) (by omega) (.slice (some ⟨g', 0, none⟩) ((fltW p pre).length + 1) cap'); have zF := (gF2.appended (by decide) hrow hgrow).other (B' := w.heap.size + 1 + 1) (o := 0) (by omega) (.slice (some ⟨g', 0, none⟩) ((fltW p pre).length + 1) cap'); have zD := (gD2.appended (by decide) hrow hgrow).other (B' := w.heap.size + 1 + 1) (o := 0) (by omega) (.slice (some ⟨g', 0, none⟩) ((fltW p pre).length + 1) cap'))
      refine ⟨((keeps_of_below bW).trans hk2).from _, ⟨(bW.mono hB1.size).trans hb3, fun c' h' => ?_⟩, ⟨⟨zA, zF, zD⟩, _, hv2, by rw [fltW_hit HX.out, plCells_snoc]; simpa using hr2, trivial⟩, hb2.trans hb3⟩
      rw [zD.row, ← gD.row]
      exact h'
    | false =>
      rw [hx] at CK
      have HX := Lib.hid hx
      clear hx
      gi_wp2
      refine ⟨trivial, (CallsIn.inRound l (callsIn_wide.2 CK)).mono ?_⟩
      rintro e wx ⟨rfl, bx⟩
      have bW := bx
      have hb2 : Below w.heap.size w wx := hB1.trans (bW.mono hB1.size)
      have hv : Boxed wx (w.heap.size + 1 + 1) 30 v := RowT.below gv bW
      have hrow := owns_below gl bW
      clear bx CK kx0 kx1 kf eg
      gi_wp2
      exact ⟨(keeps_of_below bW).from _, ⟨bW.mono hB1.size, fun c' h' => brow bW h'⟩, ⟨⟨gA.below bW, gF.below bW, gD.below bW⟩, v, hv, by rw [fltW_miss HX.out]; exact hrow, trivial⟩, hb2⟩
  case done =>
    rintro D ys W hD rfl ⟨⟨⟨gA, gF, gD⟩, v, gv, gl, _⟩, hB1⟩ hK
    have hc := gv.cell
    gi_wp2
    refine ⟨by simp, .inl ⟨_, _, rfl, run_takeDeferred hK, ?_⟩⟩
    exact ⟨_, results_tmp rfl _ _ _, v, rfl, IsList.of_pls (ownsRow_putObj gl _ hK rfl), hB1.trans (belowK_b (w := w) (Nat.le_refl _) W D _ _ (by omega) hK rfl rfl), CapW.of_pls gl⟩
  case stop =>
    rintro D c pre W _ _ h _
    exact h.elim
end Go.Proofs.Ytppohghejhcilaa

/- r.placesOf(kind): the places of all tiles of a kind. -/
namespace Go.Proofs.Ytppohghejhcilaa
open Go.RowKit Go.Shelf
attribute [local go_sem] Oper.semAt_some

theorem A_infoPc : (Try.prog.info? 35).map (fun i => (i.zero, i.size, i.bytes)) = some (some (.agg #[.int .i8 0, .int .i8 0]), 2, 2) := by kernel_rfl

/-- Of some places those whose tiles are of a kind. -/
def Rf.ofKind (r : Rf) (k : Int) {h w : Nat} (l : List (Pl h w)) : List (Pl h w) := l.filter fun x => decide (r.t (x.1.1 * 8 + x.1.2) = k)
theorem Rf.ofKind_hit {r : Rf} {k : Int} {h w : Nat} {l : List (Pl h w)} {x : Pl h w} (e : r.t (x.1.1 * 8 + x.1.2) = k) : r.ofKind k (l ++ [x]) = r.ofKind k l ++ [x] := by simp [Rf.ofKind, e]
theorem Rf.ofKind_miss {r : Rf} {k : Int} {h w : Nat} {l : List (Pl h w)} {x : Pl h w} (e : ¬ r.t (x.1.1 * 8 + x.1.2) = k) : r.ofKind k (l ++ [x]) = r.ofKind k l := by simp [Rf.ofKind, e]
theorem Rf.ofKind_len {r : Rf} {k : Int} {h w : Nat} (l : List (Pl h w)) : (r.ofKind k l).length ≤ l.length := List.length_filter_le _ _

end Go.Proofs.Ytppohghejhcilaa

/- The model's list of all places, and those of a kind. -/
namespace Go.Proofs.Ytppohghejhcilaa
open Go.RowKit

theorem pl_in {h w i : Nat} (hi : i < h * w) : i / w < h ∧ i % w < w := by
  have hw : 0 < w := Nat.pos_of_ne_zero fun e => by subst e; simp at hi
  exact ⟨Nat.div_lt_of_lt_mul (by rw [Nat.mul_comm]; exact hi), Nat.mod_lt _ hw⟩
theorem plUpto_next {h w i : Nat} (hi : i < h * w) : plUpto h w (i + 1) = plUpto h w i ++ [⟨(i / w, i % w), pl_in hi⟩] := by
  simp only [plUpto]
  rw [dif_pos (pl_in hi)]
theorem plUpto_size {h w : Nat} : ∀ {n : Nat}, n ≤ h * w → (plUpto h w n).length = n
  | 0, _ => rfl
  | n + 1, hn => by rw [plUpto_next (by omega), List.length_append, plUpto_size (by omega)]; rfl
theorem plUpto_get {h w : Nat} : ∀ {n i : Nat}, n ≤ h * w → (hi : i < n) → ∃ q, (plUpto h w n)[i]? = some ⟨(i / w, i % w), q⟩
  | 0, _, _, hi => by omega
  | n + 1, i, hn, hi => by
    have hs := plUpto_size (h := h) (w := w) (n := n) (by omega)
    rw [plUpto_next (h := h) (w := w) (i := n) (by omega)]
    by_cases e : i = n
    · subst e
      exact ⟨pl_in (by omega), by rw [List.getElem?_append_right (by rw [hs]; omega), hs, Nat.sub_self]; rfl⟩
    · obtain ⟨q, hq⟩ := plUpto_get (h := h) (w := w) (n := n) (i := i) (by omega) (by omega)
      exact ⟨q, by rw [List.getElem?_append_left (by rw [hs]; omega)]; exact hq⟩
theorem plAt_even {h w n i : Nat} (hn : n ≤ h * w) (hi : i < n) : plAt (plUpto h w n) (i * 2) = ((i / w : Nat) : Int) := by
  obtain ⟨q, hq⟩ := plUpto_get hn hi
  unfold plAt
  rw [show i * 2 / 2 = i from by omega, hq, show i * 2 % 2 = 0 from by omega]
  rfl
theorem plAt_odd {h w n i : Nat} (hn : n ≤ h * w) (hi : i < n) : plAt (plUpto h w n) (i * 2 + 1) = ((i % w : Nat) : Int) := by
  obtain ⟨q, hq⟩ := plUpto_get hn hi
  unfold plAt
  rw [show (i * 2 + 1) / 2 = i from by omega, hq, show (i * 2 + 1) % 2 = 1 from by omega]
  rfl
theorem owns_base {W : World} {base : Nat} {e : TypeId} {size n : Nat} {v : Value} {xs : List Value} (h : W.ownsRow base e size v n xs) : ∀ x, v.ownBlock = some x → base ≤ x := fun x hx => by
  obtain ⟨_, ⟨rfl, _⟩ | ⟨g, cap, cur, rfl, hg, _⟩⟩ := h
  · simp [Value.ownBlock] at hx
  · obtain rfl : g = x := by simpa [Value.ownBlock] using hx
    exact hg
theorem grown_blocks {w w' : World} {row : Option Nat} (h : w.grownBy w' row) {n : Nat} (hn : n < w.heap.size) (hr : ∀ x, row = some x → n ≠ x) : rowAt w' n = rowAt w n := by
  unfold rowAt
  rw [h.block n hn (fun e => hr n e.symm rfl)]
/-- A list v that grows, in a block of its own: the first one or one newer than W1; what lies between stays. -/
structure Coll (w W1 W : World) (v : Value) : Prop where
  blk : ∀ x, v.ownBlock = some x → x = w.heap.size ∨ W1.heap.size ≤ x
  rows : ∀ g, w.heap.size < g → g < W1.heap.size → rowAt W g = rowAt W1 g
  bel : Below w.heap.size w W
  size : W1.heap.size ≤ W.heap.size
theorem Coll.start {w W1 : World} (h : Below w.heap.size w W1) (n cap : Nat) : Coll w W1 W1 (.slice (some ⟨w.heap.size, 0, none⟩) n cap) :=
  ⟨fun x hx => .inl (by simpa [Value.ownBlock] using hx.symm), fun _ _ _ => rfl, h, Nat.le_refl _⟩
theorem Coll.call {w W1 W W' : World} {v : Value} (h : Coll w W1 W v) (b : Below W.heap.size W W') : Coll w W1 W' v :=
  ⟨h.blk, fun g h1 h2 => (rowAt_below b g (Nat.lt_of_lt_of_le h2 h.size)).trans (h.rows g h1 h2), bnext h.bel b h.bel.size, Nat.le_trans h.size b.size⟩
theorem Coll.append {w W1 W W' : World} {v v' : Value} {tmp : Obj} (h : Coll w W1 W v) (hw : w.heap.size < W1.heap.size) (grow : (W.alloc tmp).grownBy W' v.ownBlock) (hat : v'.ownBlock = v.ownBlock ∨ v'.ownBlock = some (W.heap.size + 1)) : Coll w W1 W' v' :=
  have hs := h.size
  have hg := grow.size
  ⟨fun x hx => by
    rcases hat with e | e
    · exact h.blk x (e.symm.trans hx)
    · rw [e] at hx; cases hx; exact .inr (by omega),
   fun g h1 h2 => (grown_blocks grow (by simp; omega) fun x hx => by
     rcases h.blk x hx with rfl | h3 <;> omega).trans ((rowAt_alloc_past _ _ _ (by omega)).trans (h.rows g h1 h2)),
   (h.bel.alloc h.bel.size _).grown grow (by have := h.bel.size; simp; omega) (fun x hx => by
     rcases h.blk x hx with rfl | h3 <;> omega), by simp at hg; omega⟩
theorem IsList.by_rows {W W' : World} {b sz n : Nat} {v : Value} {f : Nat → Value} (h : IsList W b v sz n f) (hb : ∀ g, b ≤ g → g < W.heap.size → rowAt W' g = rowAt W g) : IsList W' b v sz n f := by
  rcases h with h | ⟨g, cap, cur, rfl, hg, hr, hs, hf⟩
  · exact .inl h
  · exact .inr ⟨g, cap, cur, rfl, hg, (hb g hg (rowAt_lt hr)).trans hr, hs, hf⟩
theorem owns_empty (w : World) (e : TypeId) (size : Nat) : (w.alloc (.cells #[] e)).ownsRow w.heap.size e size (.slice (some ⟨w.heap.size, 0, none⟩) 0 0) 0 [] :=
  ⟨by simp, .inr ⟨_, 0, #[], rfl, Nat.le_refl _, heap_alloc_new w _, Nat.le_refl _, Nat.zero_le _, by simp, by simp⟩⟩

set_option maxRecDepth 100000 in
set_option maxHeartbeats 1000000 in
theorem l01All_any (n : Nat) (c : Array Value) (r : Rf) (hh ww : Nat) (hhe : r.h = hh) (hwe : r.w = ww) (h8 : hh ≤ 8) (w8 : ww ≤ 8) (w : World) (hr : rowAt w n = some c) (hR : IsRoof c r) :
    Calls Try.prog 27 #[.pointer (some ⟨n, 0, none⟩)] w (GivesP w (plUpto hh ww (hh * ww))) := by
  have hc := hR.size
  have hn := rowAt_lt hr
  have k0 : ∀ W, Below w.heap.size w W → W.cell? ⟨n, 0, none⟩ = some (.int .i8 ww) := fun W h => by
    rw [cell_of_rowAt (brow h hr), Array.getElem?_eq_getElem (by omega), hR.wide (by omega), hwe]
  have k1 : ∀ W, Below w.heap.size w W → W.cell? ⟨n, 1, none⟩ = some (.int .i8 hh) := fun W h => by
    rw [cell_of_rowAt (brow h hr), Array.getElem?_eq_getElem (by omega), hR.high (by omega), hhe]
  have K0 := Lib.hid k0
  have K1 := Lib.hid k1
  clear k0 k1 hhe hwe hr
  obtain ⟨i0, hi0, hz0, hz1, hz2⟩ := info_parts A_infoPc
  have hsz : hh * ww ≤ 64 := Nat.mul_le_mul h8 w8
  go_enter Try.func27, Try.ntmps27
  go_wp2_with fail
  go_loopw [3, 4] (fun v i W => ∃ k : Nat, k ≤ hh ∧ i = .int .i8 k ∧ W.ownsRow w.heap.size 35 2 v (plUpto hh ww (k * ww)).length (plCells (plUpto hh ww (k * ww))) ∧ Below w.heap.size w W) (fun _ i _ => hh - (intOf i).toNat)
  case atStart => exact ⟨0, by omega, rfl, by rw [Nat.zero_mul]; exact owns_empty w _ 2, (Below.refl _ _).alloc (Nat.le_refl _) _⟩
  case round =>
    obtain ⟨k, hk, rfl, hv, hB⟩ := hrel
    obtain ⟨wo, rfl⟩ : ∃ wo : World, wo = wr := ⟨_, rfl⟩
    have c1 := K1.out _ hB
    by_cases hlt : k < hh
    · go_wp2_with fail
      go_loopw [3, 5] (fun v i W => ∃ m : Nat, m ≤ ww ∧ i = .int .i8 m ∧ W.ownsRow w.heap.size 35 2 v (plUpto hh ww (k * ww + m)).length (plCells (plUpto hh ww (k * ww + m))) ∧ Below w.heap.size w W) (fun _ i _ => ww - (intOf i).toNat)
      case atStart => exact ⟨0, by omega, rfl, hv, hB⟩
      case round =>
        clear c1 hv hB
        obtain ⟨m, hm, rfl, hv, hB⟩ := hrel
        have c0 := K0.out _ hB
        by_cases hml : m < ww
        · have hpl := plUpto_len hh ww (k * ww + m)
          have hmul : (k + 1) * ww ≤ hh * ww := Nat.mul_le_mul_right ww hlt
          rw [Nat.succ_mul] at hmul
          go_wp2_with (at_builtin; refine wpList_append_own _ rfl _ _ 30 rfl w.heap.size 35 i0 (.agg #[.int .i8 0, .int .i8 0]) 2 2 Try.underlying30 hi0 hz0 hz1 hz2 rfl (by decide) _ _ _ rfl (hv.alloc _) ⟨wr.heap.size, 0, none⟩ 1 1 [.int .i8 k, .int .i8 m] rfl rfl (cell_two_new _ _ _ _) (by simp [Value.oneCell']) (by unfold maxLen; omega) (by omega) (by have := hB.size; simp; omega) ?_; intro v' w1 own1 grow1 _)
          have hB1 := (hB.alloc hB.size _).grown grow1 (by have := hB.size; simp; omega) (owns_base hv)
          clear hv hB c0 grow1
          go_wp2_with fail
          refine ⟨⟨m + 1, by omega, by go_num, ?_, hB1⟩, by simp [intOf]; omega⟩
          rw [← Nat.add_assoc, plUpto_succ hlt hml, plCells_snoc]
          simpa using own1
        · obtain rfl : m = ww := by omega
          rw [← Nat.succ_mul] at hv
          go_wp2_with fail
          refine ⟨⟨k + 1, by omega, by go_num, hv, hB⟩, by simp [intOf]; omega⟩
    · obtain rfl : k = hh := by omega
      go_wp2_with fail
      go_ret
      exact ⟨_, rfl, IsList.of_pls hv, hB⟩

end Go.Proofs.Ytppohghejhcilaa

/- The ends of functions that return a struct and a code. -/
namespace Go.Proofs.Ytppohghejhcilaa
open Go.RowKit
section
variable {P : Program} {ty : TypeId} {d : TypeDesc} {m : Nat}
theorem results_row2 {fn : Func} {p u : Tmp} (h : fn.results = #[.cell p ty, .tmp u]) (tmps : Array Value) (w : World) (n : Nat) (c : Array Value) (x : Value) (hp : tmps.getD p undef = .pointer (some ⟨n, 0, none⟩))
    (hx : tmps.getD u undef = x) (hr : rowAt w n = some c) (hu : P.underlying ty = some d) (hd : (match d with | .struct _ | .array _ _ => true | _ => false) = true) (hi : (P.info? ty).map (·.size) = some m) (hm : c.size = m) :
    (results fn tmps).run P w = .ok (.tuple #[.agg c, x]) w := by
  obtain ⟨t, ht⟩ := rowAt_some hr
  subst hm
  have hp' : tmps[p]?.getD undef = .pointer (some ⟨n, 0, none⟩) := by simpa using hp
  have hx' : tmps[u]?.getD undef = x := by simpa using hx
  simp [results, h, hp', hx', asAddr, run_loadVar_row w n t ty c _ d ht hu hd hi]
end

@[go_sem] theorem Ones.set {c : Array Value} (h : Ones c) (i : Nat) (v : Value) (hv : v.oneCell' = true) : Ones (c.setIfInBounds i v) := by
  refine Ones.of_get fun j hj => ?_
  have hj' : j < c.size := by simpa using hj
  rw [Array.getElem_setIfInBounds hj']
  split
  · exact hv
  · exact h _ (Array.getElem_mem _)
@[go_sem] theorem oneCell_int (k : IntKind) (n : Int) : (Value.int k n).oneCell' = true := rfl

theorem get_of {c : Array Value} {i : Nat} {v : Value} (h : c[i]? = some v) (hi : i < c.size) : c[i] = v := by
  rw [Array.getElem?_eq_getElem hi] at h; exact Option.some.inj h

theorem zroof_eq : Try.zeroCells28 = #[.int .i8 0, .int .i8 0, .int .u8 0] ++ Array.replicate 64 (.int .u8 0) := by kernel_rfl
theorem zroof_size : Try.zeroCells28.size = 67 := by rw [zroof_eq]; simp
theorem zroof_is : IsRoof Try.zeroCells28 ⟨0, 0, 0, fun _ => 0⟩ where
  size := zroof_size
  wide h := by simp [zroof_eq]
  high h := by simp [zroof_eq]
  shift h := by simp [zroof_eq]
  tiles := ⟨by simp only [Array.size_extract, zroof_size]; omega, fun i h => by
    have : (Try.zeroCells28.extract 3 67)[i]? = some (.int .u8 0) := by
      have hi : i < 64 := by simp only [Array.size_extract, zroof_size] at h; omega
      rw [get_extract _ _ _ _ (by omega) (by rw [zroof_size]; omega), zroof_eq, Array.getElem?_append_right (by simp)]
      simp [hi]
    rw [Array.getElem?_eq_getElem h] at this
    exact Option.some.inj this, fun _ _ => by simp, fun _ _ => by simp⟩
  w0 := by simp
  w1 := by simp
  h0 := by simp
  h1 := by simp
  s0 := by simp
  s1 := by simp
theorem zroof_ones : Ones Try.zeroCells28 := zroof_is.ones

/-- A roof with other numbers at its head. -/
theorem IsRoof.head {c : Array Value} {r : Rf} (h : IsRoof c r) (a b s : Int) (ha : -128 ≤ a ∧ a ≤ 127) (hb : -128 ≤ b ∧ b ≤ 127) (hs : 0 ≤ s ∧ s ≤ 255) :
    IsRoof (((c.setIfInBounds 0 (.int .i8 a)).setIfInBounds 1 (.int .i8 b)).setIfInBounds 2 (.int .u8 s)) ⟨a, b, s, r.t⟩ where
  size := by simpa using h.size
  wide hh := get_of (by have := h.size; simp [this]) hh
  high hh := get_of (by have := h.size; simp [this]) hh
  shift hh := get_of (by have := h.size; simp [this]) hh
  tiles := ⟨by have := h.size; simp [this], fun i hi => by
    have hs := h.size
    have hi' : i < 64 := by simp [hs] at hi; omega
    refine get_of ?_ hi
    rw [get_extract _ _ _ _ (by omega) (by simp [hs])]
    simp only [Array.getElem?_setIfInBounds_ne (show 2 ≠ 3 + i by omega), Array.getElem?_setIfInBounds_ne (show 1 ≠ 3 + i by omega), Array.getElem?_setIfInBounds_ne (show 0 ≠ 3 + i by omega)]
    rw [Array.getElem?_eq_getElem (by omega), h.tile _ _ (by omega), show 3 + i - 3 = i from by omega], h.tiles.lo, h.tiles.hi⟩
  w0 := ha.1
  w1 := ha.2
  h0 := hb.1
  h1 := hb.2
  s0 := hs.1
  s1 := hs.2

/-- What a region's walk keeps: a roof's row and a place's row, and the place's two cells. -/
theorem keepP {B n m : Nat} {w W w1 : World} {c : Array Value} {x y : Value} (b : Below W.heap.size W w1)
    (h : rowAt W n = some c ∧ (W.cell? ⟨m, 0, none⟩ = some x ∧ W.cell? ⟨m, 1, none⟩ = some y) ∧ rowAt W m = some #[x, y] ∧ Below B w W ∧ B ≤ W.heap.size) :
    rowAt w1 n = some c ∧ (w1.cell? ⟨m, 0, none⟩ = some x ∧ w1.cell? ⟨m, 1, none⟩ = some y) ∧ rowAt w1 m = some #[x, y] ∧ Below B w w1 ∧ B ≤ w1.heap.size :=
  have q := brow b h.2.2.1
  ⟨brow b h.1, ⟨by rw [cell_of_rowAt q]; rfl, by rw [cell_of_rowAt q]; rfl⟩, q, bnext h.2.2.2.1 b h.2.2.2.2, Nat.le_trans h.2.2.2.2 b.size⟩
theorem keepP0 {B n m : Nat} {w W : World} {c : Array Value} {x y : Value} (h0 : rowAt W n = some c) (h1 : rowAt W m = some #[x, y]) (hB : Below B w W) (hs : B ≤ W.heap.size) :
    rowAt W.drew n = some c ∧ (W.drew.cell? ⟨m, 0, none⟩ = some x ∧ W.drew.cell? ⟨m, 1, none⟩ = some y) ∧ rowAt W.drew m = some #[x, y] ∧ Below B w W.drew ∧ B ≤ W.drew.heap.size :=
  ⟨h0, ⟨(cell_of_rowAt h1 0).trans rfl, (cell_of_rowAt h1 1).trans rfl⟩, h1, hB.drew, hs⟩
end Go.Proofs.Ytppohghejhcilaa

/- A roof in which one tile has another kind. -/
namespace Go.Proofs.Ytppohghejhcilaa
open Go.RowKit

/-- A roof with another kind at a place. -/
def Rf.set (r : Rf) (x : Nat) (k : Int) : Rf := { r with t := fun y => if y = x then k else r.t y }
theorem IsRoof.set {c : Array Value} {r : Rf} (h : IsRoof c r) (x : Nat) (hx : x < 64) (k : Int) (hk : 0 ≤ k ∧ k ≤ 255) : IsRoof (c.setIfInBounds (3 + x) (.int .u8 k)) (r.set x k) where
  size := by simpa using h.size
  wide hh := get_of (by have := h.size; rw [Array.getElem?_setIfInBounds_ne (by omega), Array.getElem?_eq_getElem (by omega), h.wide]; rfl) hh
  high hh := get_of (by have := h.size; rw [Array.getElem?_setIfInBounds_ne (by omega), Array.getElem?_eq_getElem (by omega), h.high]; rfl) hh
  shift hh := get_of (by have := h.size; rw [Array.getElem?_setIfInBounds_ne (by omega), Array.getElem?_eq_getElem (by omega), h.shift]; rfl) hh
  tiles := ⟨by have := h.size; simp [this], fun i hi => by
    have hs := h.size
    have hi' : i < 64 := by simp [hs] at hi; omega
    refine get_of ?_ hi
    rw [get_extract _ _ _ _ (by omega) (by simp [hs])]
    by_cases hix : i = x
    · subst hix
      rw [Array.getElem?_setIfInBounds_self_of_lt (by omega)]; simp [Rf.set]
    · rw [Array.getElem?_setIfInBounds_ne (by omega), Array.getElem?_eq_getElem (by omega), h.tile _ _ (by omega), show 3 + i - 3 = i from by omega]; simp [Rf.set, hix],
    fun i hi => by unfold Rf.set; dsimp only; split; · exact hk.1
                   · exact h.tiles.lo i hi, fun i hi => by unfold Rf.set; dsimp only; split; · exact hk.2
                                                           · exact h.tiles.hi i hi⟩
  w0 := h.w0
  w1 := h.w1
  h0 := h.h0
  h1 := h.h1
  s0 := h.s0
  s1 := h.s1
end Go.Proofs.Ytppohghejhcilaa

/- A roof that is drawn. -/
namespace Go.Proofs.Ytppohghejhcilaa
open Go.RowKit

/-- What a function that draws a roof ends with. -/
def DrawsRoof (S n : Nat) (v : Value) (f : Nat → Int) (m : Int) (w : World) (e : Ending) (w' : World) : Prop :=
  ∃ (c : Array Value) (r : Rf), e = .returned (.agg c) ∧ IsRoof c r ∧ r.Ok ∧ (r.w ≤ 5 ∧ r.h ≤ 5) ∧ SrcAt w' S v n f m ∧ Sole S w w'
/-- A store into a newer block. -/
theorem Sole.setNew {n B : Nat} {w W : World} (h : Sole n w W) (hn : n < w.heap.size) (hB : w.heap.size ≤ B) (o : Nat) (u : Value) : Sole n w (W.setCell ⟨B, o, none⟩ u) :=
  ⟨h.below.setCell (p := ⟨B, o, none⟩) (show n ≤ B by omega) u, fun m hm hmn => (rowAt_setCell_ne _ _ _ _ _ (by omega)).trans (h.rows m hm hmn)⟩
/-- Newer blocks may have changed besides. -/
theorem Sole.newer {n : Nat} {w W W' : World} (h : Sole n w W) (hn : n < w.heap.size) (b : Below w.heap.size W W') : Sole n w W' :=
  ⟨h.below.trans (b.mono (by omega)), fun m hm hmn => (rowAt_below b m hm).trans (h.rows m hm hmn)⟩
/-- A list stands where one old block alone has changed. -/
theorem IsList.sole {W W' : World} {S b sz n : Nat} {v : Value} {f : Nat → Value} (h : IsList W b v sz n f) (so : Sole S W W') (hS : S < b) : IsList W' b v sz n f :=
  h.by_rows fun g hg hl => so.rows g hl (by omega)
theorem Rf.Ok.set {r : Rf} (h : r.Ok) {a b : Nat} {k : Int} (ha : (a : Int) < r.h) (hb : (b : Int) < r.w) (hk : k ≤ 3) : (r.set (a * 8 + b) k).Ok := by
  obtain ⟨h1, h2, h3, h4, h5, h6⟩ := h
  refine ⟨h1, h2, h3, h4, h5, fun i hi => ?_⟩
  obtain ⟨g1, g2⟩ := h6 i hi
  unfold Rf.fine Rf.set
  dsimp only
  split
  · rename_i e
    subst e
    exact ⟨hk, .inl ⟨by omega, by omega⟩⟩
  · exact ⟨g1, g2⟩

set_option maxRecDepth 100000 in
set_option maxHeartbeats 4000000 in
theorem l01Drawn_any (S n : Nat) (v : Value) (f : Nat → Int) (w : World) (h : SrcAt w S v n f 0) (hn : n ≤ 1000000) (hf : ∀ i, i < n → 0 ≤ f i ∧ f i ≤ 255) :
    Calls Try.prog 25 #[.pointer (some ⟨S, 0, none⟩)] w (DrawsRoof S n v f 200 w) := by
  have hSl := h.lt
  have HF := Lib.hid hf
  clear hf
  have CP := fun m k W h hm hk => pick_any S n v f m k W h hm hn HF.out hk
  have CO := fun m k W h hm hk => one_any S n v f m k W h hm hn HF.out hk
  have B0 : Below w.heap.size w (w.alloc (.cells Try.zeroCells28 28)) := (Below.refl _ _).alloc (Nat.le_refl _) _
  have s0 := h.below B0 hSl
  have r0 := rowAt_alloc_at w Try.zeroCells28 28 w.heap.size rfl
  have so0 := Sole.of_below B0 hSl
  have hz := zroof_size
  have hzo := zroof_ones
  go_enter Try.func25, Try.ntmps25
  go_wp2_with fail
  refine gen_callsW fun W0 hW => ?_
  rw [← hW] at B0 s0 r0 so0
  clear hW
  refine (CP 0 5 _ s0 (by omega) (by omega)).mono ?_
  rintro e w1 ⟨x, rfl, hx, s1, so1⟩
  have r1 := (so1.rows _ (rowAt_lt r0) (by omega)).trans r0
  have B1 := so0.trans so1
  have x1 : IntKind.i64.wrap (1 + x) = 1 + x := by rw [IntKind.wrap_i64]; omega
  have x2 : IntKind.i8.wrap (1 + x) = 1 + x := IntWalk.i8_in _ (by omega)
  clear s0 r0 so0 so1
  go_wp2_with fail
  refine (CP _ 5 _ s1 (by omega) (by omega)).mono ?_
  rintro e w2 ⟨y, rfl, hy, s2, so2⟩
  have r2 := (so2.rows _ (rowAt_lt r1) (by omega)).trans r1
  have B2 := B1.trans so2
  have y1 : IntKind.i64.wrap (1 + y) = 1 + y := by rw [IntKind.wrap_i64]; omega
  have y2 : IntKind.i8.wrap (1 + y) = 1 + y := IntWalk.i8_in _ (by omega)
  clear s1 r1 B1 so2
  go_wp2_with fail
  refine (CP _ 2 _ s2 (by omega) (by omega)).mono ?_
  rintro e w3 ⟨z, rfl, hz1, s3, so3⟩
  have r3 := (so3.rows _ (rowAt_lt r2) (by omega)).trans r2
  have B3 := B2.trans so3
  have z2 : IntKind.u8.wrap z = z := by rw [IntKind.wrap_u8]; omega
  have hI := zroof_is.head (1 + x) (1 + y) z (by omega) (by omega) (by omega)
  have hO : Rf.Ok ⟨1 + x, 1 + y, z, fun _ => 0⟩ := ⟨by simp only; omega, by simp only; omega, by simp only; omega, by simp only; omega, by simp only; omega, fun i hi => ⟨by simp, .inr rfl⟩⟩
  clear s2 r2 B2 so3
  generalize hX : (((Try.zeroCells28.setIfInBounds 0 (Value.int .i8 (1 + x))).setIfInBounds 1 (Value.int .i8 (1 + y))).setIfInBounds 2 (Value.int .u8 z)) = X at *
  have hIs := hI.size
  have hIo := hI.ones
  have l3 := rowAt_lt r3
  have nB : S < w3.heap.size := s3.lt
  go_wp2_with fail
  refine gen_callsW fun W4 hW => ?_
  have b4 : Below w3.heap.size w3 W4 := by rw [hW]; exact (Below.refl _ _).alloc (Nat.le_refl _) _
  have r4 : rowAt W4 w.heap.size = some Try.zeroCells28 := brow b4 r3
  have q4 : rowAt W4 w3.heap.size = some X := by rw [hW]; exact rowAt_alloc_at _ _ _ _ rfl
  have s4 := s3.below b4 nB
  have B4 := B3.trans (Sole.of_below b4 nB)
  clear hW b4 r3 s3 B3
  refine (CP _ 5 _ s4 (by omega) (by omega)).mono ?_
  rintro e w5 ⟨u, rfl, hu, s5, so5⟩
  have r5 := (so5.rows _ (rowAt_lt r4) (by omega)).trans r4
  have q5 := (so5.rows _ (rowAt_lt q4) (by omega)).trans q4
  have B5 := B4.trans so5
  have u1 : IntKind.i64.wrap (2 + u) = 2 + u := by rw [IntKind.wrap_i64]; omega
  clear s4 r4 q4 B4 so5
  go_wp2_with fail
  obtain ⟨hh, hhe⟩ := Int.eq_ofNat_of_zero_le (show 0 ≤ 1 + y by omega)
  obtain ⟨ww, hwe⟩ := Int.eq_ofNat_of_zero_le (show 0 ≤ 1 + x by omega)
  refine (l01All_any w3.heap.size X ⟨1 + x, 1 + y, z, fun _ => 0⟩ hh ww hhe hwe (by omega) (by omega) _ q5 hI).mono ?_
  rintro e w6 ⟨vl, rfl, l6, b6⟩
  have r6 := brow b6 r5
  have q6 := brow b6 q5
  have s6 := s5.below b6 (by have := s5.lt; omega)
  have B6 := B5.trans (Sole.of_below b6 s5.lt)
  have lb : w3.heap.size < w5.heap.size := rowAt_lt q5
  clear b6 r5 q5 B5
  generalize w5.heap.size = LB at *
  clear s5
  have h8 : hh ≤ 5 := by omega
  have w8 : ww ≤ 5 := by omega
  have hsz : hh * ww ≤ 25 := Nat.mul_le_mul h8 w8
  have hle : (plUpto hh ww (hh * ww)).length = hh * ww := plUpto_size (Nat.le_refl _)
  rw [hle] at l6
  obtain ⟨MN, hMN⟩ : ∃ MN, MN = hh * ww := ⟨_, rfl⟩
  rw [← hMN] at l6 hsz
  obtain ⟨a, cap, rfl⟩ := l6.shape
  have L6 := Lib.hid l6
  have HMN := Lib.hid hMN
  clear hMN hle l6
  have HI := Lib.hid hI
  have HO := Lib.hid hO
  have HH := Lib.hid (And.intro hhe hwe)
  clear hI hO hhe hwe hX hIs hIo
  go_wp2_with fail
  go_loopw [6] (fun iv W => ∃ (k : Nat) (c' : Array Value) (r' : Rf), k ≤ MN ∧ iv = .int .i64 k ∧ rowAt W w3.heap.size = some c' ∧ Hid (IsRoof c' r' ∧ r'.Ok ∧ r'.w = ww ∧ r'.h = hh) ∧ rowAt W w.heap.size = some Try.zeroCells28 ∧ Hid (SrcAt W S v n f (8 + 4 * k)) ∧ Hid (IsList W LB (.slice a MN cap) 2 MN (fun i => .int .i8 (plAt (plUpto hh ww MN) i))) ∧ Hid (Sole S w W)) (fun iv _ => MN - (intOf iv).toNat)
  case atStart => exact ⟨0, X, _, by omega, rfl, q6, Lib.hid ⟨HI.out, HO.out, HH.out.2, HH.out.1⟩, r6, Lib.hid (s6.more (by omega)), L6, Lib.hid B6⟩
  case round =>
    have hu2 : 2 + u ≤ 1000000 := by omega
    clear q6 r6 s6 L6 B6 HI HO hx hy hz1 hu x1 x2 y1 y2 z2 u1
    obtain ⟨k, c', r', hk, rfl, q, hI, r0, hs, hl, hB⟩ := hrel
    by_cases hlt : k < MN
    · have hiN : (k : Int) < MN := by omega
      go_wp2_with fail
      refine (CO (8 + 4 * k) _ _ hs.out (by omega) (by omega)).mono ?_
      rintro e wa ⟨bb, rfl, sa, soa⟩
      have qa := (soa.rows _ (rowAt_lt q) (by omega)).trans q
      have ra := (soa.rows _ (rowAt_lt r0) (by omega)).trans r0
      have la := Lib.hid (hl.out.sole soa (by omega))
      have Ba := Lib.hid (hB.out.trans soa)
      clear q r0 hs hl hB soa
      cases bb
      · go_wp2_with fail
        refine ⟨⟨k + 1, c', r', by omega, by go_num, qa, hI, ra, Lib.hid (sa.more (by omega)), la, Ba⟩, by simp [intOf]; omega⟩
      · rcases la.out with ⟨h0, _⟩ | ⟨g, cp, cur, hv, hg, hr, hsz2, hcl⟩
        · omega
        obtain ⟨rfl, rfl⟩ : a = some ⟨g, 0, none⟩ ∧ cap = cp := by cases hv; exact ⟨rfl, rfl⟩
        have hin : k < hh * ww := by have := HMN.out; omega
        have c0 : cur[k * 2]? = some (.int .i8 (plAt (plUpto hh ww MN) (k * 2))) := hcl (k * 2) (by omega)
        have c1 : cur[k * 2 + 1]? = some (.int .i8 (plAt (plUpto hh ww MN) (k * 2 + 1))) := hcl (k * 2 + 1) (by omega)
        rw [plAt_even (Nat.le_of_eq HMN.out) hlt] at c0
        rw [plAt_odd (Nat.le_of_eq HMN.out) hlt] at c1
        obtain ⟨pi, pj⟩ := pl_in hin
        generalize k / ww = A at *
        generalize k % ww = B at *
        have a0 : 0 ≤ (A : Int) := by omega
        have a8 : (A : Int) < 8 := by omega
        have b0 : 0 ≤ (B : Int) := by omega
        have b8 : (B : Int) < 8 := by omega
        have SA := Lib.hid sa
        have HR := Lib.hid hr
        have hi0 : 0 ≤ (k : Int) := by omega
        have HCL := Lib.hid hcl
        clear hv hcl hr sa
        go_wp2_with fail
        refine wp_region_held_drew (S := fun w' => (∃ (c2 : Array Value) (r2 : Rf), rowAt w' w3.heap.size = some c2 ∧ IsRoof c2 r2 ∧ r2.Ok ∧ r2.w = ww ∧ r2.h = hh) ∧ rowAt w' w.heap.size = some Try.zeroCells28 ∧ rowAt w' g = some cur ∧ SrcAt w' S v n f (8 + 4 * (k : Int) + 2 + 2) ∧ Sole S w w') (by kernel_rfl) (⟨⟨c', r', qa, hI.out⟩, ra, HR.out, SA.out.more (by omega), Ba.out.drew⟩) (fun hH => ?_)
        refine wpAnyH_take (i := 0) (v := .slice (some ⟨g, 0, none⟩) MN cap) rfl (by kernel_rfl) (by kernel_rfl) (by kernel_rfl) (fun _ _ _ h => h) (Or.inl ⟨by rfl, ?_⟩) hH ?_
        · intro w1 hS; (try dsimp only at hS); obtain ⟨f0, f1, f2, f3, f4⟩ := hS; go_simp
        (try simp only [List.getElem_toArray]); (try simp only [List.getElem_cons_succ]); (try simp only [List.getElem_cons_zero]); (try simp only [Act.put]); (try simp only [List.setIfInBounds_toArray]); (try simp only [List.set_cons_succ]); (try simp only [List.set_cons_zero])
        refine wpAnyH_take (i := 1) (v := .int .i64 k) rfl (by kernel_rfl) (by kernel_rfl) (by kernel_rfl) (fun _ _ _ h => h) (Or.inl ⟨by rfl, ?_⟩) hH ?_
        · intro w1 hS; (try dsimp only at hS); obtain ⟨f0, f1, f2, f3, f4⟩ := hS; go_simp
        (try simp only [List.getElem_toArray]); (try simp only [List.getElem_cons_succ]); (try simp only [List.getElem_cons_zero]); (try simp only [Act.put]); (try simp only [List.setIfInBounds_toArray]); (try simp only [List.set_cons_succ]); (try simp only [List.set_cons_zero])
        refine wpAnyH_take (i := 2) (v := .pointer (some ⟨g, k * 2, none⟩)) rfl (by kernel_rfl) (by kernel_rfl) (by kernel_rfl) (fun _ _ _ h => h) (Or.inl ⟨by rfl, ?_⟩) hH ?_
        · intro w1 hS; (try dsimp only at hS); obtain ⟨f0, f1, f2, f3, f4⟩ := hS; go_simp
        (try simp only [List.getElem_toArray]); (try simp only [List.getElem_cons_succ]); (try simp only [List.getElem_cons_zero]); (try simp only [Act.put]); (try simp only [List.setIfInBounds_toArray]); (try simp only [List.set_cons_succ]); (try simp only [List.set_cons_zero])
        refine wpAnyH_take (i := 3) (v := .pointer (some ⟨g, k * 2, none⟩)) rfl (by kernel_rfl) (by kernel_rfl) (by kernel_rfl) (fun _ _ _ h => h) (Or.inl ⟨by rfl, ?_⟩) hH ?_
        · intro w1 hS; (try dsimp only at hS); obtain ⟨f0, f1, f2, f3, f4⟩ := hS; go_simp
        (try simp only [List.getElem_toArray]); (try simp only [List.getElem_cons_succ]); (try simp only [List.getElem_cons_zero]); (try simp only [Act.put]); (try simp only [List.setIfInBounds_toArray]); (try simp only [List.set_cons_succ]); (try simp only [List.set_cons_zero])
        refine wpAnyH_take (i := 4) (v := .int .i8 A) rfl (by kernel_rfl) (by kernel_rfl) (by kernel_rfl) (fun _ _ _ h => h) (Or.inl ⟨by rfl, ?_⟩) hH ?_
        · intro w1 hS; (try dsimp only at hS); obtain ⟨f0, f1, f2, f3, f4⟩ := hS; have e0 : w1.cell? ⟨g, k * 2, none⟩ = some (.int .i8 A) := (by rw [cell_of_rowAt f2]; exact c0); have e1 : w1.cell? ⟨g, k * 2 + 1, none⟩ = some (.int .i8 B) := (by rw [cell_of_rowAt f2]; exact c1); go_simp
        (try simp only [List.getElem_toArray]); (try simp only [List.getElem_cons_succ]); (try simp only [List.getElem_cons_zero]); (try simp only [Act.put]); (try simp only [List.setIfInBounds_toArray]); (try simp only [List.set_cons_succ]); (try simp only [List.set_cons_zero])
        refine wpAnyH_take (i := 5) (v := .slice (some ⟨g, 0, none⟩) MN cap) rfl (by kernel_rfl) (by kernel_rfl) (by kernel_rfl) (fun _ _ _ h => h) (Or.inl ⟨by rfl, ?_⟩) hH ?_
        · intro w1 hS; (try dsimp only at hS); obtain ⟨f0, f1, f2, f3, f4⟩ := hS; go_simp
        (try simp only [List.getElem_toArray]); (try simp only [List.getElem_cons_succ]); (try simp only [List.getElem_cons_zero]); (try simp only [Act.put]); (try simp only [List.setIfInBounds_toArray]); (try simp only [List.set_cons_succ]); (try simp only [List.set_cons_zero])
        refine wpAnyH_take (i := 6) (v := .int .i64 k) rfl (by kernel_rfl) (by kernel_rfl) (by kernel_rfl) (fun _ _ _ h => h) (Or.inl ⟨by rfl, ?_⟩) hH ?_
        · intro w1 hS; (try dsimp only at hS); obtain ⟨f0, f1, f2, f3, f4⟩ := hS; go_simp
        (try simp only [List.getElem_toArray]); (try simp only [List.getElem_cons_succ]); (try simp only [List.getElem_cons_zero]); (try simp only [Act.put]); (try simp only [List.setIfInBounds_toArray]); (try simp only [List.set_cons_succ]); (try simp only [List.set_cons_zero])
        refine wpAnyH_take (i := 7) (v := .pointer (some ⟨g, k * 2, none⟩)) rfl (by kernel_rfl) (by kernel_rfl) (by kernel_rfl) (fun _ _ _ h => h) (Or.inl ⟨by rfl, ?_⟩) hH ?_
        · intro w1 hS; (try dsimp only at hS); obtain ⟨f0, f1, f2, f3, f4⟩ := hS; go_simp
        (try simp only [List.getElem_toArray]); (try simp only [List.getElem_cons_succ]); (try simp only [List.getElem_cons_zero]); (try simp only [Act.put]); (try simp only [List.setIfInBounds_toArray]); (try simp only [List.set_cons_succ]); (try simp only [List.set_cons_zero])
        refine wpAnyH_take (i := 8) (v := .pointer (some ⟨g, k * 2 + 1, none⟩)) rfl (by kernel_rfl) (by kernel_rfl) (by kernel_rfl) (fun _ _ _ h => h) (Or.inl ⟨by rfl, ?_⟩) hH ?_
        · intro w1 hS; (try dsimp only at hS); obtain ⟨f0, f1, f2, f3, f4⟩ := hS; go_simp
        (try simp only [List.getElem_toArray]); (try simp only [List.getElem_cons_succ]); (try simp only [List.getElem_cons_zero]); (try simp only [Act.put]); (try simp only [List.setIfInBounds_toArray]); (try simp only [List.set_cons_succ]); (try simp only [List.set_cons_zero])
        refine wpAnyH_take (i := 9) (v := .int .i8 B) rfl (by kernel_rfl) (by kernel_rfl) (by kernel_rfl) (fun _ _ _ h => h) (Or.inl ⟨by rfl, ?_⟩) hH ?_
        · intro w1 hS; (try dsimp only at hS); obtain ⟨f0, f1, f2, f3, f4⟩ := hS; have e0 : w1.cell? ⟨g, k * 2, none⟩ = some (.int .i8 A) := (by rw [cell_of_rowAt f2]; exact c0); have e1 : w1.cell? ⟨g, k * 2 + 1, none⟩ = some (.int .i8 B) := (by rw [cell_of_rowAt f2]; exact c1); go_simp
        (try simp only [List.getElem_toArray]); (try simp only [List.getElem_cons_succ]); (try simp only [List.getElem_cons_zero]); (try simp only [Act.put]); (try simp only [List.setIfInBounds_toArray]); (try simp only [List.set_cons_succ]); (try simp only [List.set_cons_zero])
        refine wpAnyH_take (i := 10) (v := .pointer (some ⟨S, 0, none⟩)) rfl (by kernel_rfl) (by kernel_rfl) (by kernel_rfl) (fun _ _ _ h => h) (Or.inl ⟨by rfl, ?_⟩) hH ?_
        · intro w1 hS; (try dsimp only at hS); obtain ⟨f0, f1, f2, f3, f4⟩ := hS; go_simp
        (try simp only [List.getElem_toArray]); (try simp only [List.getElem_cons_succ]); (try simp only [List.getElem_cons_zero]); (try simp only [Act.put]); (try simp only [List.setIfInBounds_toArray]); (try simp only [List.set_cons_succ]); (try simp only [List.set_cons_zero])
        refine wpAnyH_take (i := 13) (v := .pointer (some ⟨w3.heap.size, 3, none⟩)) rfl (by kernel_rfl) (by kernel_rfl) (by kernel_rfl) (fun _ _ _ h => h) (Or.inl ⟨by rfl, ?_⟩) hH ?_
        · intro w1 hS; (try dsimp only at hS); obtain ⟨f0, f1, f2, f3, f4⟩ := hS; go_simp
        (try simp only [List.getElem_toArray]); (try simp only [List.getElem_cons_succ]); (try simp only [List.getElem_cons_zero]); (try simp only [Act.put]); (try simp only [List.setIfInBounds_toArray]); (try simp only [List.set_cons_succ]); (try simp only [List.set_cons_zero])
        refine wpAnyH_take (i := 14) (v := .pointer (some ⟨w3.heap.size, 3 + A * 8, none⟩)) rfl (by kernel_rfl) (by kernel_rfl) (by kernel_rfl) (fun _ _ _ h => h) (Or.inl ⟨by rfl, ?_⟩) hH ?_
        · intro w1 hS; (try dsimp only at hS); obtain ⟨f0, f1, f2, f3, f4⟩ := hS; go_simp
        (try simp only [List.getElem_toArray]); (try simp only [List.getElem_cons_succ]); (try simp only [List.getElem_cons_zero]); (try simp only [Act.put]); (try simp only [List.setIfInBounds_toArray]); (try simp only [List.set_cons_succ]); (try simp only [List.set_cons_zero])
        refine wpAnyH_ready (rs := [11]) (by kernel_rfl) (by simp) (AllReadyH.cons rfl (fun K hK => ?_) AllReadyH.nil)
        obtain ⟨f0, f1, f2, f3, f4⟩ := hH
        go_simp
        refine (CP (8 + 4 * k + 2) 4 wa.drew SA.out (by omega) (by omega)).mono ?_
        rintro x wx ⟨p, rfl, hp, sx, bx⟩
        have p1 : IntKind.u8.wrap p = p := IntWalk.u8_in _ (by omega)
        go_simp
        refine hK.out _ _ (⟨⟨f0.choose, f0.choose_spec.choose, (bx.rows _ (rowAt_lt f0.choose_spec.choose_spec.1) (by omega)).trans f0.choose_spec.choose_spec.1, f0.choose_spec.choose_spec.2⟩, (bx.rows _ (rowAt_lt f1) (by omega)).trans f1, (bx.rows _ (rowAt_lt f2) (by omega)).trans f2, sx.more (by omega), f4.trans bx⟩) (fun hG => ?_)
        clear hK K bx
        have hH := hG
        clear hG
        (try simp only [List.getElem_toArray]); (try simp only [List.getElem_cons_succ]); (try simp only [List.getElem_cons_zero]); (try simp only [Act.put]); (try simp only [List.setIfInBounds_toArray]); (try simp only [List.set_cons_succ]); (try simp only [List.set_cons_zero])
        refine wpAnyH_take (i := 12) (v := .int .u8 p) rfl (by kernel_rfl) (by kernel_rfl) (by kernel_rfl) (fun _ _ _ h => h) (Or.inl ⟨by rfl, ?_⟩) hH ?_
        · intro w1 hS; (try dsimp only at hS); obtain ⟨f0, f1, f2, f3, f4⟩ := hS; go_simp
        (try simp only [List.getElem_toArray]); (try simp only [List.getElem_cons_succ]); (try simp only [List.getElem_cons_zero]); (try simp only [Act.put]); (try simp only [List.setIfInBounds_toArray]); (try simp only [List.set_cons_succ]); (try simp only [List.set_cons_zero])
        refine wpAnyH_take (i := 15) (v := .pointer (some ⟨w3.heap.size, 3 + A * 8 + B, none⟩)) rfl (by kernel_rfl) (by kernel_rfl) (by kernel_rfl) (fun _ _ _ h => h) (Or.inl ⟨by rfl, ?_⟩) hH ?_
        · intro w1 hS; (try dsimp only at hS); obtain ⟨f0, f1, f2, f3, f4⟩ := hS; go_simp
        (try simp only [List.getElem_toArray]); (try simp only [List.getElem_cons_succ]); (try simp only [List.getElem_cons_zero]); (try simp only [Act.put]); (try simp only [List.setIfInBounds_toArray]); (try simp only [List.set_cons_succ]); (try simp only [List.set_cons_zero])
        refine wpAnyH_ready (rs := [16]) (by kernel_rfl) (by simp) (AllReadyH.cons rfl (fun K hK => ?_) AllReadyH.nil)
        obtain ⟨f0, f1, f2, f3, f4⟩ := hH
        obtain ⟨c2, r2, q2, hR2, hO2, hw2, hh2⟩ := f0
        have l2 := hR2.size
        have e9 : wx.cell? ⟨w3.heap.size, 3 + A * 8 + B, none⟩ = some (.int .u8 (r2.t (A * 8 + B))) := by rw [cell_of_rowAt q2, Array.getElem?_eq_getElem (by omega), hR2.tile _ _ (by omega), show 3 + A * 8 + B - 3 = A * 8 + B from by omega]
        have f9 := frozen_of_rowAt q2 (3 + A * 8 + B)
        have q9 : rowAt (wx.setCell ⟨w3.heap.size, 3 + A * 8 + B, none⟩ (.int .u8 p)) w3.heap.size = some (c2.setIfInBounds (3 + A * 8 + B) (.int .u8 p)) := (rowAt_setCell_at _ _ _ _ (by rw [q2]; rfl)).trans (by rw [q2]; rfl)
        have hR9 : IsRoof (c2.setIfInBounds (3 + A * 8 + B) (.int .u8 p)) (r2.set (A * 8 + B) p) := by rw [Nat.add_assoc]; exact hR2.set _ (by omega) p (by omega)
        have hO9 := hO2.set (a := A) (b := B) (k := p) (by omega) (by omega) (by omega)
        go_simp
        refine hK.out _ _ (⟨⟨_, _, q9, hR9, hO9, hw2, hh2⟩, (rowAt_setCell_ne _ _ _ _ _ (by omega)).trans f1, (rowAt_setCell_ne _ _ _ _ _ (by omega)).trans f2, f3.below ((Below.refl w3.heap.size _).setCell (p := ⟨w3.heap.size, _, none⟩) (Nat.le_refl _) _) nB, f4.setNew hSl (by omega) _ _⟩) (fun hG => ?_)
        clear hK K
        have hH := hG
        clear hG
        (try simp only [List.getElem_toArray]); (try simp only [List.getElem_cons_succ]); (try simp only [List.getElem_cons_zero]); (try simp only [Act.put]); (try simp only [List.setIfInBounds_toArray]); (try simp only [List.set_cons_succ]); (try simp only [List.set_cons_zero])
        refine wpAnyH_done (by kernel_rfl) ?_ _
        obtain ⟨⟨c2, r2, q2, g2⟩, f1, f2, f3, f4⟩ := hH
        go_wp2_with fail
        refine ⟨⟨k + 1, c2, r2, by omega, by go_num, q2, Lib.hid g2, f1, Lib.hid (f3.more (by omega)), Lib.hid (.inr ⟨g, cap, cur, rfl, hg, f2, hsz2, HCL.out⟩), Lib.hid f4⟩, by simp [intOf]; omega⟩
    · obtain rfl : k = MN := by omega
      obtain ⟨hR, hO, hw1, hh1⟩ := hI.out
      have hs1 := hR.size
      have hs2 := hR.ones
      clear hI
      go_wp2_with fail
      have bZ : Below w.heap.size wr (wr.setRow w.heap.size c') := below_setRow (Below.refl _ _) (Nat.le_refl _) _
      refine bodyPost_ret (v := .agg c') (results_row1 (m := 67) rfl _ _ w.heap.size c' rfl (rowAt_setRow_at _ _ _ (by rw [r0]; rfl)) Try.underlying28 rfl (by kernel_rfl) hs1) rfl ?_
      exact ⟨c', r', rfl, hR, hO, ⟨by omega, by omega⟩, (hs.out.below bZ hSl).more (by omega), hB.out.newer hSl bZ⟩
end Go.Proofs.Ytppohghejhcilaa

/- Contracts of the laws' comparisons, where both sides are the same. -/
namespace Go.Proofs.Ytppohghejhcilaa
open Go.RowKit

end Go.Proofs.Ytppohghejhcilaa

/- The laws' helpers that compare, mark and hold lists of places. -/
namespace Go.Proofs.Ytppohghejhcilaa
open Go.RowKit

/-- What is marked: the numbers from m on, as they fit. -/
def markP (m i : Nat) : Int := IntKind.i8.wrap ((m : Int) + i)

end Go.Proofs.Ytppohghejhcilaa

/- Arguments opened: roofs and places that came in. -/
namespace Go.Proofs.Ytppohghejhcilaa
open Go.RowKit Go.ChangeShapes Go.WideShapes

section
variable {H : Type} {enc : TypeId × Value → H} {P : Program} {w : World} {base : Nat} {spare : Nat → Bool} {held : Bool}

/-- An array of integers. -/
theorem trod_ints {fuel n : Nat} {t e : TypeId} {k : IntKind} {cs : List Value} {x : DataW H × List MemPlace} (ht : P.underlying t = some (.array n e)) (he : P.underlying e = some (.int k)) (hce : P.cellsOf e = 1)
    (h : DataW.trod enc P w base spare held fuel t cs = some x) : ∃ f : Nat → Int, ∀ i, i < n → cs[i]? = some (.int k (f i)) ∧ (Lit.int k (f i)).wf = true := by
  obtain ⟨xs, m, rfl, hx, hlen, hxl, hi⟩ := DataW.trod_array ht h
  have key : ∀ i, ∃ z : Int, i < n → cs[i]? = some (.int k z) ∧ (Lit.int k z).wf = true := by
    intro i
    by_cases hin : i < n
    · have h1 := hi i hin
      rw [hce, Nat.mul_one, List.getElem?_eq_getElem (by omega)] at h1
      obtain ⟨z, hd, _, hwf⟩ := DataW.trod_int he h1
      refine ⟨z, fun _ => ⟨?_, hwf⟩⟩
      have := congrArg (fun l : List Value => l[0]?) hd
      simpa using this
    · exact ⟨0, fun h => absurd h hin⟩
  exact ⟨fun i => (key i).choose, fun i hi => (key i).choose_spec hi⟩

/-- An array of arrays of integers. -/
theorem trod_rows {fuel n m : Nat} {t e b : TypeId} {k : IntKind} {cs : List Value} {x : DataW H × List MemPlace} (ht : P.underlying t = some (.array n e)) (he : P.underlying e = some (.array m b)) (hce : P.cellsOf e = m) (hb : P.underlying b = some (.int k)) (hcb : P.cellsOf b = 1)
    (h : DataW.trod enc P w base spare held fuel t cs = some x) : ∃ f : Nat → Int, ∀ i, i < n * m → cs[i]? = some (.int k (f i)) ∧ (Lit.int k (f i)).wf = true := by
  obtain ⟨xs, fu, rfl, hx, hlen, hxl, hi⟩ := DataW.trod_array ht h
  have key : ∀ i, ∃ f : Nat → Int, i < n → ∀ j, j < m → cs[i * m + j]? = some (.int k (f j)) ∧ (Lit.int k (f j)).wf = true := by
    intro i
    by_cases hin : i < n
    · have h1 := hi i hin
      rw [hce, List.getElem?_eq_getElem (by omega)] at h1
      obtain ⟨f, hf⟩ := trod_ints he hb hcb h1
      refine ⟨f, fun _ j hj => ?_⟩
      have := hf j hj
      rwa [List.getElem?_take, if_pos hj, List.getElem?_drop] at this
    · exact ⟨fun _ => 0, fun h => absurd h hin⟩
  refine ⟨fun i => (key (i / m)).choose (i % m), fun i hi => ?_⟩
  have hm : 0 < m := Nat.pos_of_ne_zero (fun h0 => by subst h0; simp at hi)
  have hdiv : i / m < n := Nat.div_lt_of_lt_mul (by rw [Nat.mul_comm]; exact hi)
  have := (key (i / m)).choose_spec hdiv (i % m) (Nat.mod_lt _ hm)
  rwa [show i / m * m + i % m = i from Nat.div_add_mod' i m] at this
end

section
variable {H : Type} {enc : TypeId × Value → H} {w : World} {base b0 : Nat} {spare : Nat → Bool} {held : Bool} {r : Reach}
end
end Go.Proofs.Ytppohghejhcilaa

/- Lists of places that come in: opened, counted, copied. -/
namespace Go.Proofs.Ytppohghejhcilaa
open Go.RowKit Go.ChangeShapes Go.WideShapes

/-- v is a list of n places that came in; f tells their cells. -/
def ArgL (w : World) (v : Value) (n : Nat) (f : Nat → Int) : Prop :=
  ∃ a cap, v = .slice a n cap ∧ (n = 0 ∨ ∃ g o, a = some ⟨g, o, none⟩ ∧ ∀ i, i < n * 2 → w.cell? ⟨g, o + i, none⟩ = some (.int .i8 (f i)))

theorem lt_of_cellA {w : World} {p : Addr} {v : Value} (h : w.cell? p = some v) : p.block < w.heap.size := by
  rcases Nat.lt_or_ge p.block w.heap.size with h' | h'
  · exact h'
  · simp [World.cell?, Array.getElem?_eq_none h'] at h
theorem ArgL.below {w w' : World} {v : Value} {n : Nat} {f : Nat → Int} {B : Nat} (h : ArgL w v n f) (b : Below B w w') (hB : w.heap.size ≤ B) : ArgL w' v n f := by
  obtain ⟨a, cap, rfl, h⟩ := h
  refine ⟨a, cap, rfl, ?_⟩
  rcases h with h | ⟨g, o, rfl, h⟩
  · exact .inl h
  · exact .inr ⟨g, o, rfl, fun i hi => (b.cell (p := ⟨g, o + i, none⟩) (Nat.lt_of_lt_of_le (lt_of_cellA (h i hi)) hB)).trans (h i hi)⟩
theorem ArgL.shape {w : World} {v : Value} {n : Nat} {f : Nat → Int} (h : ArgL w v n f) : ∃ a cap, v = .slice a n cap := by
  obtain ⟨a, cap, rfl, _⟩ := h
  exact ⟨a, cap, rfl⟩
/-- The cells of place k. -/
theorem ArgL.at {w : World} {a : Option Addr} {cap n : Nat} {f : Nat → Int} (h : ArgL w (.slice a n cap) n f) {k : Nat} (hk : k < n) :
    ∃ g o, a = some ⟨g, o, none⟩ ∧ w.cell? ⟨g, o + k * 2, none⟩ = some (.int .i8 (f (k * 2))) ∧ w.cell? ⟨g, o + k * 2 + 1, none⟩ = some (.int .i8 (f (k * 2 + 1))) := by
  obtain ⟨a', cap', e, h⟩ := h
  cases e
  rcases h with h | ⟨g, o, rfl, h⟩
  · omega
  · exact ⟨g, o, rfl, h _ (by omega), by rw [Nat.add_assoc]; exact h _ (by omega)⟩

section
variable {H : Type} {enc : TypeId × Value → H} {w : World} {base b0 : Nat} {spare : Nat → Bool} {held : Bool} {r : Reach}
end

def GivesF (w : World) (n : Nat) (f : Nat → Int) (e : Ending) (w' : World) : Prop :=
  ∃ v, e = .returned v ∧ IsList w' w.heap.size v 2 n (fun i => .int .i8 (f i)) ∧ Below w.heap.size w w'
/-- The same, of a list that is as long as its memory. -/
def GivesFc (w : World) (n : Nat) (f : Nat → Int) (e : Ending) (w' : World) : Prop :=
  ∃ a, e = .returned (.slice a n n) ∧ IsList w' w.heap.size (.slice a n n) 2 n (fun i => .int .i8 (f i)) ∧ Below w.heap.size w w'
theorem A_infoP : (Try.prog.info? 35).map (fun i => (i.zero, i.size, i.bytes)) = some (some (.agg #[.int .i8 0, .int .i8 0]), 2, 2) := by kernel_rfl

end Go.Proofs.Ytppohghejhcilaa

/- A list of places of a roof: its mathematics. -/
namespace Go.Proofs.Ytppohghejhcilaa
open Go.RowKit

/-- Place k of a list is a place of the roof. -/
def Rf.inP (r : Rf) (f : Nat → Int) (k : Nat) : Prop := 0 ≤ f (k * 2) ∧ f (k * 2) < r.h ∧ 0 ≤ f (k * 2 + 1) ∧ f (k * 2 + 1) < r.w
def Rf.okP (r : Rf) (f : Nat → Int) (n : Nat) : Prop := ∀ k, k < n → r.inP f k
open Classical in
noncomputable def Rf.okB (r : Rf) (f : Nat → Int) (n : Nat) : Bool := decide (r.okP f n)
theorem Rf.okB_t {r : Rf} {f : Nat → Int} {n : Nat} (h : r.okP f n) : r.okB f n = true := by simp [Rf.okB, h]
theorem Rf.okB_f {r : Rf} {f : Nat → Int} {n : Nat} (h : ¬ r.okP f n) : r.okB f n = false := by simp [Rf.okB, h]
theorem Rf.okB_of {r : Rf} {f : Nat → Int} {n : Nat} (h : r.okB f n = true) : r.okP f n := by simpa [Rf.okB] using h
theorem Rf.okP_zero (r : Rf) (f : Nat → Int) : r.okP f 0 := fun k hk => by omega
theorem Rf.okP_succ {r : Rf} {f : Nat → Int} {n : Nat} : r.okP f (n + 1) ↔ r.okP f n ∧ r.inP f n :=
  ⟨fun h => ⟨fun k hk => h k (by omega), h n (by omega)⟩, fun h k hk => by
    by_cases e : k = n
    · subst e; exact h.2
    · exact h.1 k (by omega)⟩
theorem Rf.okP_le {r : Rf} {f : Nat → Int} {n m : Nat} (h : r.okP f n) (hm : m ≤ n) : r.okP f m := fun k hk => h k (by omega)
/-- The first place that is none. -/
theorem Rf.okP_first {r : Rf} {f : Nat → Int} : ∀ {n : Nat}, ¬ r.okP f n → ∃ m, m < n ∧ r.okP f m ∧ ¬ r.inP f m
  | 0, h => absurd (r.okP_zero f) h
  | n + 1, h => by
    by_cases hn : r.okP f n
    · exact ⟨n, by omega, hn, fun hi => h (Rf.okP_succ.2 ⟨hn, hi⟩)⟩
    · obtain ⟨m, h1, h2, h3⟩ := Rf.okP_first hn
      exact ⟨m, by omega, h2, h3⟩

/-- The cells of place k of a list of a call's own. -/
theorem IsList.pl {w : World} {base n : Nat} {a : Option Addr} {cap : Nat} {f : Nat → Int} (h : IsList w base (.slice a n cap) 2 n (fun i => .int .i8 (f i))) {k : Nat} (hk : k < n) :
    ∃ g, a = some ⟨g, 0, none⟩ ∧ w.cell? ⟨g, k * 2, none⟩ = some (.int .i8 (f (k * 2))) ∧ w.cell? ⟨g, k * 2 + 1, none⟩ = some (.int .i8 (f (k * 2 + 1))) := by
  rcases h with ⟨h0, _⟩ | ⟨g, cap', cur, e, hg, hr, hs, hf⟩
  · omega
  · cases e
    exact ⟨g, rfl, by rw [cell_of_rowAt hr]; exact hf _ (by omega), by rw [cell_of_rowAt hr]; exact hf _ (by omega)⟩
end Go.Proofs.Ytppohghejhcilaa

/- Contracts of both sides' functions over courses and cells. -/
namespace Go.Proofs.Ytppohghejhcilaa
open Go.RowKit

/-- The code of a roof and of whether numbers are as told. -/
noncomputable def Rf.told (r : Rf) (fine : Bool) : Int := if r.ok = true then (if fine = true then 0 else 2) else 1
theorem Rf.told_no {r : Rf} {fine : Bool} (h : ¬ r.Ok) : r.told fine = 1 := by simp [Rf.told, Rf.ok_false h]
theorem Rf.told_out {r : Rf} (h : r.Ok) : r.told false = 2 := by simp [Rf.told, Rf.ok_true h]
theorem Rf.told_in {r : Rf} (h : r.Ok) : r.told true = 0 := by simp [Rf.told, Rf.ok_true h]
theorem Rf.told_zero {r : Rf} {fine : Bool} (h : r.told fine = 0) : r.Ok ∧ fine = true := by
  unfold Rf.told at h
  split at h
  · rename_i ho
    split at h
    · rename_i hp; exact ⟨Rf.Ok_of ho, hp⟩
    · simp at h
  · simp at h

set_option maxHeartbeats 400000 in
theorem l01Told_any (n : Nat) (c : Array Value) (r : Rf) (fine : Bool) (w : World) (hr : rowAt w n = some c) (hR : IsRoof c r) :
    Calls Try.prog 41 #[.pointer (some ⟨n, 0, none⟩), .bool fine] w fun e w' => e = .returned (.int .i64 (r.told fine)) ∧ Below w.heap.size w w' := by
  have hn := rowAt_lt hr
  by_cases ho : r.Ok
  · cases fine with
    | true =>
      rw [Rf.told_in ho]
      go_enter Try.func41, Try.ntmps41
      go_wp2_with fail
      refine (l01Ok_t n c r _ hr hR ho).mono ?_
      rintro e w1 ⟨rfl, b1⟩
      go_wp2_with fail
      go_ret
      exact ⟨rfl, b1⟩
    | false =>
      rw [Rf.told_out ho]
      go_enter Try.func41, Try.ntmps41
      go_wp2_with fail
      refine (l01Ok_t n c r _ hr hR ho).mono ?_
      rintro e w1 ⟨rfl, b1⟩
      go_wp2_with fail
      go_ret
      exact ⟨rfl, b1⟩
  · rw [Rf.told_no ho]
    go_enter Try.func41, Try.ntmps41
    go_wp2_with fail
    refine (l01Ok_f n c r _ hr hR ho).mono ?_
    rintro e w1 ⟨rfl, b1⟩
    go_wp2_with fail
    go_ret
    exact ⟨rfl, b1⟩

theorem l01Course_any (n : Nat) (c : Array Value) (r : Rf) (k : Int) (w : World) (hr : rowAt w n = some c) (hR : IsRoof c r) :
    Calls Try.prog 42 #[.pointer (some ⟨n, 0, none⟩), .int .i64 k] w fun e w' => e = .returned (.bool (inB k 0 (r.h - 1))) ∧ w = w' := by
  have hcell := cell_of_rowAt hr
  obtain ⟨hc, k0, k1, k2, w0, w1, h0, h1, s0, s1⟩ := hR.view
  clear hR hr k0 k2
  go_enter Try.func42, Try.ntmps42
  go_wp2_with fail
  refine (l00In_any _ _ _ _).mono ?_
  rintro e w' ⟨rfl, rfl⟩
  go_wp2_with fail
  go_ret
  exact ⟨rfl, rfl⟩

/-- 1 if a course is shifted, and 0 otherwise. -/
def Rf.by (r : Rf) (k : Int) : Int := (k + r.s) % 2
theorem Rf.by_bd (r : Rf) (k : Int) : 0 ≤ r.by k ∧ r.by k ≤ 1 := by unfold Rf.by; omega

theorem l01By_any (n : Nat) (c : Array Value) (r : Rf) (k : Int) (w : World) (hr : rowAt w n = some c) (hR : IsRoof c r) (hk : 0 ≤ k ∧ k ≤ 1000) :
    Calls Try.prog 60 #[.pointer (some ⟨n, 0, none⟩), .int .i64 k] w fun e w' => e = .returned (.int .i64 (r.by k)) ∧ w = w' := by
  have hcell := cell_of_rowAt hr
  obtain ⟨hc, k0, k1, k2, w0, w1, h0, h1, s0, s1⟩ := hR.view
  clear hR hr k0 k1
  obtain ⟨hk0, hk1⟩ := hk
  go_enter Try.func60, Try.ntmps60
  go_wp2_with fail
  go_ret
  exact ⟨rfl, rfl⟩

set_option maxHeartbeats 400000 in
theorem checkCourse_any (c : Array Value) (r : Rf) (k : Int) (w : World) (hR : IsRoof c r) :
    Calls Try.prog 36 #[.agg c, .int .i64 k] w fun e w' => e = .returned (.int .i64 (r.told (inB k 0 (r.h - 1)))) ∧ Below w.heap.size w w' := by
  obtain ⟨hc, k0, k1, k2, w0, wl, h0, h1, s0, s1⟩ := hR.view
  clear k0 k2
  by_cases ho : r.Ok
  · by_cases x0 : 0 ≤ k
    · by_cases x1 : k < r.h
      · rw [inB_true (by omega), Rf.told_in ho]
        go_enter Try.func36, Try.ntmps36
        go_wp2_with fail
        refine (implValid_t c r _ hR ho).mono ?_
        rintro e w1 ⟨rfl, b1⟩
        obtain ⟨v1, v2, v3, v4⟩ := bview b1
        have B1 : Below w.heap.size w w1 := ((Below.refl _ _).alloc (Nat.le_refl _) _).trans (b1.mono (by simp))
        clear b1
        go_wp2_with fail
        go_ret
        exact ⟨rfl, B1⟩
      · rw [inB_false (by omega), Rf.told_out ho]
        go_enter Try.func36, Try.ntmps36
        go_wp2_with fail
        refine (implValid_t c r _ hR ho).mono ?_
        rintro e w1 ⟨rfl, b1⟩
        obtain ⟨v1, v2, v3, v4⟩ := bview b1
        have B1 : Below w.heap.size w w1 := ((Below.refl _ _).alloc (Nat.le_refl _) _).trans (b1.mono (by simp))
        clear b1
        go_wp2_with fail
        go_ret
        exact ⟨rfl, B1⟩
    · rw [inB_false (by omega), Rf.told_out ho]
      go_enter Try.func36, Try.ntmps36
      go_wp2_with fail
      refine (implValid_t c r _ hR ho).mono ?_
      rintro e w1 ⟨rfl, b1⟩
      have B1 : Below w.heap.size w w1 := ((Below.refl _ _).alloc (Nat.le_refl _) _).trans (b1.mono (by simp))
      clear b1
      go_wp2_with fail
      go_ret
      exact ⟨rfl, B1⟩
  · rw [Rf.told_no ho]
    go_enter Try.func36, Try.ntmps36
    go_wp2_with fail
    refine (implValid_f c r _ hR ho).mono ?_
    rintro e w1 ⟨rfl, b1⟩
    have B1 : Below w.heap.size w w1 := ((Below.refl _ _).alloc (Nat.le_refl _) _).trans (b1.mono (by simp))
    clear b1
    go_wp2_with fail
    go_ret
    exact ⟨rfl, B1⟩

theorem shifted_any (c : Array Value) (r : Rf) (k : Int) (w : World) (hR : IsRoof c r) (hk : 0 ≤ k ∧ k ≤ 1000) :
    Calls Try.prog 40 #[.agg c, .int .i64 k] w fun e w' => e = .returned (.bool (r.by k == 1)) ∧ Below w.heap.size w w' := by
  obtain ⟨hc, k0, k1, k2, w0, wl, h0, h1, s0, s1⟩ := hR.view
  clear hR k0 k1
  obtain ⟨hk0, hk1⟩ := hk
  go_enter Try.func40, Try.ntmps40
  go_wp2_with fail
  go_ret
  exact ⟨rfl, (Below.refl _ _).alloc (Nat.le_refl _) _⟩
end Go.Proofs.Ytppohghejhcilaa

/- Contracts on the tile that covers a cell, and on how many cells there are. -/
namespace Go.Proofs.Ytppohghejhcilaa
open Go.RowKit

theorem l01Cells_any (n : Nat) (c : Array Value) (r : Rf) (w : World) (hr : rowAt w n = some c) (hR : IsRoof c r) :
    Calls Try.prog 44 #[.pointer (some ⟨n, 0, none⟩)] w fun e w' => e = .returned (.int .i64 (2 * r.w + 1)) ∧ w = w' := by
  have hcell := cell_of_rowAt hr
  obtain ⟨hc, k0, k1, k2, w0, w1, h0, h1, s0, s1⟩ := hR.view
  clear hR hr k1 k2
  go_enter Try.func44, Try.ntmps44
  go_wp2_with fail
  go_ret
  exact ⟨rfl, rfl⟩

/-- The tile that covers a cell, or -1. -/
def Rf.tile (r : Rf) (k cell : Int) : Int := if cell - r.by k < 0 ∨ r.w ≤ (cell - r.by k) / 2 then -1 else (cell - r.by k) / 2

set_option maxHeartbeats 400000 in
theorem l01Tile_any (n : Nat) (c : Array Value) (r : Rf) (k cell : Int) (w : World) (hr : rowAt w n = some c) (hR : IsRoof c r) (hk : 0 ≤ k ∧ k ≤ 1000) (hx : 0 ≤ cell ∧ cell ≤ 1000) (_hw : 1 ≤ r.w ∧ r.w ≤ 8) :
    Calls Try.prog 45 #[.pointer (some ⟨n, 0, none⟩), .int .i64 k, .int .i64 cell] w fun e w' => e = .returned (.int .i64 (r.tile k cell)) ∧ w = w' := by
  have hcell := cell_of_rowAt hr
  obtain ⟨hc, k0, k1, k2, w0, w1, h0, h1, s0, s1⟩ := hR.view
  clear k1 k2
  obtain ⟨y0, y1⟩ := r.by_bd k
  by_cases x0 : cell - r.by k < 0
  · have hV : r.tile k cell = -1 := by unfold Rf.tile; rw [if_pos (.inl x0)]
    rw [hV]
    clear hV
    go_enter Try.func45, Try.ntmps45
    go_wp2_with fail
    refine (l01By_any n c r k _ hr hR hk).mono ?_
    rintro e w2 ⟨rfl, rfl⟩
    go_wp2_with fail
    go_ret
    exact ⟨rfl, rfl⟩
  · have x0' : 0 ≤ cell - r.by k := by omega
    by_cases x1 : r.w ≤ (cell - r.by k) / 2
    · have hV : r.tile k cell = -1 := by unfold Rf.tile; rw [if_pos (.inr x1)]
      rw [hV]
      clear hV
      go_enter Try.func45, Try.ntmps45
      go_wp2_with fail
      refine (l01By_any n c r k _ hr hR hk).mono ?_
      rintro e w2 ⟨rfl, rfl⟩
      go_wp2_with fail
      go_ret
      exact ⟨rfl, rfl⟩
    · have hV : r.tile k cell = (cell - r.by k) / 2 := by unfold Rf.tile; rw [if_neg (by omega)]
      rw [hV]
      clear hV
      go_enter Try.func45, Try.ntmps45
      go_wp2_with fail
      refine (l01By_any n c r k _ hr hR hk).mono ?_
      rintro e w2 ⟨rfl, rfl⟩
      go_wp2_with fail
      go_ret
      exact ⟨rfl, rfl⟩

theorem across_any (c : Array Value) (r : Rf) (w : World) (hR : IsRoof c r) :
    Calls Try.prog 37 #[.agg c] w fun e w' => e = .returned (.int .i64 (2 * r.w + 1)) ∧ Below w.heap.size w w' := by
  obtain ⟨hc, k0, k1, k2, w0, wl, h0, h1, s0, s1⟩ := hR.view
  clear hR k1 k2
  go_enter Try.func37, Try.ntmps37
  go_wp2_with fail
  go_ret
  exact ⟨rfl, (Below.refl _ _).alloc (Nat.le_refl _) _⟩

set_option maxHeartbeats 400000 in
theorem tileAt_any (c : Array Value) (r : Rf) (k cell : Int) (w : World) (hR : IsRoof c r) (hk : 0 ≤ k ∧ k ≤ 1000) (hx : 0 ≤ cell ∧ cell ≤ 2 * r.w) (_hw : 1 ≤ r.w ∧ r.w ≤ 8) :
    Calls Try.prog 38 #[.agg c, .int .i64 k, .int .i64 cell] w fun e w' => e = .returned (.int .i64 (r.tile k cell)) ∧ Below w.heap.size w w' := by
  obtain ⟨hc, k0, k1, k2, w0, wl, h0, h1, s0, s1⟩ := hR.view
  clear k1 k2
  obtain ⟨y0, y1⟩ := r.by_bd k
  by_cases hby : r.by k = 1
  · have hbt : (r.by k == 1) = true := by simp [hby]
    by_cases x0 : cell = 0
    · have hV : r.tile k cell = -1 := by unfold Rf.tile; rw [if_pos (by omega)]
      rw [hV]
      subst x0
      clear hV hby
      go_enter Try.func38, Try.ntmps38
      go_wp2_with fail
      refine (across_any c r _ hR).mono ?_
      rintro e w0 ⟨rfl, b0⟩
      have q0 := brow b0 (rowAt_alloc_at w c 28 _ rfl)
      have B0 : Below w.heap.size w w0 := ((Below.refl _ _).alloc (Nat.le_refl _) _).trans (b0.mono (by simp))
      clear b0
      go_wp2_with fail
      refine (shifted_any c r k _ hR hk).mono ?_
      rintro e w1 ⟨rfl, b1⟩
      rw [hbt]
      have B1 := bnext B0 b1 B0.size
      clear b1
      go_wp2_with fail
      go_ret
      exact ⟨rfl, B1⟩
    · have hV : r.tile k cell = (cell - 1) / 2 := by unfold Rf.tile; rw [if_neg (by omega), hby]
      have hxb : (cell == 0) = false := by simp [x0]
      have x1 : 1 ≤ cell := by omega
      rw [hV]
      clear hV hby
      go_enter Try.func38, Try.ntmps38
      go_wp2_with fail
      refine (across_any c r _ hR).mono ?_
      rintro e w0 ⟨rfl, b0⟩
      have q0 := brow b0 (rowAt_alloc_at w c 28 _ rfl)
      have B0 : Below w.heap.size w w0 := ((Below.refl _ _).alloc (Nat.le_refl _) _).trans (b0.mono (by simp))
      clear b0
      go_wp2_with fail
      refine (shifted_any c r k _ hR hk).mono ?_
      rintro e w1 ⟨rfl, b1⟩
      rw [hbt]
      have q1 := brow b1 q0
      have B1 := bnext B0 b1 B0.size
      clear b1
      go_wp2_with fail
      refine (shifted_any c r k _ hR hk).mono ?_
      rintro e w2 ⟨rfl, b2⟩
      rw [hbt]
      have B2 := bnext B1 b2 B1.size
      clear b2
      go_wp2_with fail
      go_ret
      exact ⟨rfl, B2⟩
  · have hb0 : r.by k = 0 := by omega
    have hbt : (r.by k == 1) = false := by simp [hb0]
    by_cases x0 : cell = 2 * r.w
    · have hV : r.tile k cell = -1 := by unfold Rf.tile; rw [if_pos (by omega)]
      have hxb : (cell == 2 * r.w) = true := by simp [x0]
      rw [hV]
      clear hV hby hb0 x0
      go_enter Try.func38, Try.ntmps38
      go_wp2_with fail
      refine (across_any c r _ hR).mono ?_
      rintro e w0 ⟨rfl, b0⟩
      have q0 := brow b0 (rowAt_alloc_at w c 28 _ rfl)
      have B0 : Below w.heap.size w w0 := ((Below.refl _ _).alloc (Nat.le_refl _) _).trans (b0.mono (by simp))
      clear b0
      go_wp2_with fail
      refine (shifted_any c r k _ hR hk).mono ?_
      rintro e w1 ⟨rfl, b1⟩
      rw [hbt]
      have B1 := bnext B0 b1 B0.size
      clear b1
      go_wp2_with fail
      go_ret
      exact ⟨rfl, B1⟩
    · have hV : r.tile k cell = cell / 2 := by unfold Rf.tile; rw [if_neg (by omega), hb0, Int.sub_zero]
      have hxb : (cell == 2 * r.w) = false := by simp [x0]
      rw [hV]
      clear hV hby hb0 x0
      go_enter Try.func38, Try.ntmps38
      go_wp2_with fail
      refine (across_any c r _ hR).mono ?_
      rintro e w0 ⟨rfl, b0⟩
      have q0 := brow b0 (rowAt_alloc_at w c 28 _ rfl)
      have B0 : Below w.heap.size w w0 := ((Below.refl _ _).alloc (Nat.le_refl _) _).trans (b0.mono (by simp))
      clear b0
      go_wp2_with fail
      refine (shifted_any c r k _ hR hk).mono ?_
      rintro e w1 ⟨rfl, b1⟩
      rw [hbt]
      have q1 := brow b1 q0
      have B1 := bnext B0 b1 B0.size
      clear b1
      go_wp2_with fail
      refine (shifted_any c r k _ hR hk).mono ?_
      rintro e w2 ⟨rfl, b2⟩
      rw [hbt]
      have B2 := bnext B1 b2 B1.size
      clear b2
      go_wp2_with fail
      go_ret
      exact ⟨rfl, B2⟩
end Go.Proofs.Ytppohghejhcilaa

/- Chapter 4: the code of a roof, cells, places and numbers: its mathematics, and the model's functions. -/
namespace Go.Proofs.Ytppohghejhcilaa
open Go.RowKit

/-- A cell of the roof. -/
def Rf.inC (r : Rf) (x : Int) : Prop := 0 ≤ x ∧ x ≤ 2 * r.w
def Rf.okC (r : Rf) (g : Nat → Int) (m : Nat) : Prop := ∀ k, k < m → r.inC (g k)
open Classical in
noncomputable def Rf.ocB (r : Rf) (g : Nat → Int) (m : Nat) : Bool := decide (r.okC g m)
theorem Rf.ocB_t {r : Rf} {g : Nat → Int} {m : Nat} (h : r.okC g m) : r.ocB g m = true := by simp [Rf.ocB, h]
theorem Rf.ocB_f {r : Rf} {g : Nat → Int} {m : Nat} (h : ¬ r.okC g m) : r.ocB g m = false := by simp [Rf.ocB, h]
theorem Rf.ocB_of {r : Rf} {g : Nat → Int} {m : Nat} (h : r.ocB g m = true) : r.okC g m := by simpa [Rf.ocB] using h
theorem Rf.okC_zero (r : Rf) (g : Nat → Int) : r.okC g 0 := fun k hk => by omega
theorem Rf.okC_succ {r : Rf} {g : Nat → Int} {m : Nat} : r.okC g (m + 1) ↔ r.okC g m ∧ r.inC (g m) :=
  ⟨fun h => ⟨fun k hk => h k (by omega), h m (by omega)⟩, fun h k hk => by
    by_cases e : k = m
    · subst e; exact h.2
    · exact h.1 k (by omega)⟩

/-- The code of a roof, m cells, n places, and whether numbers are as told. -/
noncomputable def Rf.wcode (r : Rf) (g : Nat → Int) (m : Nat) (f : Nat → Int) (n : Nat) (fine : Bool) : Int :=
  if r.told (fine && r.ocB g m && r.okB f n) ≠ 0 then r.told (fine && r.ocB g m && r.okB f n) else if 8 < m ∨ 8 < n then 3 else 0
theorem Rf.wcode_zero {r : Rf} {g f : Nat → Int} {m n : Nat} {fine : Bool} (h : r.wcode g m f n fine = 0) : r.Ok ∧ fine = true ∧ r.okC g m ∧ r.okP f n ∧ m ≤ 8 ∧ n ≤ 8 := by
  unfold Rf.wcode at h
  split at h
  · rename_i h1; exact absurd h h1
  · rename_i h1
    obtain ⟨ho, hb⟩ := Rf.told_zero (Decidable.not_not.1 h1)
    rw [Bool.and_eq_true, Bool.and_eq_true] at hb
    split at h
    · simp at h
    · exact ⟨ho, hb.1.1, Rf.ocB_of hb.1.2, Rf.okB_of hb.2, by omega, by omega⟩
theorem Rf.wcode_told {r : Rf} {g f : Nat → Int} {m n : Nat} {fine : Bool} (h : r.told (fine && r.ocB g m && r.okB f n) ≠ 0) : r.wcode g m f n fine = r.told (fine && r.ocB g m && r.okB f n) := if_pos h
theorem Rf.wcode_many {r : Rf} {g f : Nat → Int} {m n : Nat} {fine : Bool} (h : r.told (fine && r.ocB g m && r.okB f n) = 0) (hm : 8 < m ∨ 8 < n) : r.wcode g m f n fine = 3 := by
  unfold Rf.wcode; rw [if_neg (by omega), if_pos hm]
theorem Rf.wcode_in {r : Rf} {g f : Nat → Int} {m n : Nat} {fine : Bool} (h : r.told (fine && r.ocB g m && r.okB f n) = 0) (hm : m ≤ 8) (hn : n ≤ 8) : r.wcode g m f n fine = 0 := by
  unfold Rf.wcode; rw [if_neg (by omega), if_neg (by omega)]

/-- Number k of a list of numbers. -/
theorem IsList.num {w : World} {base n : Nat} {a : Option Addr} {cap : Nat} {f : Nat → Int} (h : IsList w base (.slice a n cap) 1 n (fun i => .int .i64 (f i))) {k : Nat} (hk : k < n) :
    ∃ g, a = some ⟨g, 0, none⟩ ∧ w.cell? ⟨g, k, none⟩ = some (.int .i64 (f k)) := by
  rcases h with ⟨h0, _⟩ | ⟨g, cap', cur, e, hg, hr, hs, hf⟩
  · omega
  · cases e
    exact ⟨g, rfl, by rw [cell_of_rowAt hr]; exact hf _ (by omega)⟩

end Go.Proofs.Ytppohghejhcilaa

/- Climbing to one tile: contracts of both sides. -/
namespace Go.Proofs.Ytppohghejhcilaa
open Go.RowKit

/-- The cells of one place. -/
def plv (a b : Int) : Nat → Int := fun i => if i = 0 then a else b
theorem plv_bd {a b : Int} (ha : -128 ≤ a ∧ a ≤ 127) (hb : -128 ≤ b ∧ b ≤ 127) (i : Nat) : -128 ≤ plv a b i ∧ plv a b i ≤ 127 := by
  unfold plv; split <;> assumption
theorem IsList.lit1 {w : World} {n base cap : Nat} {a b : Int} (hr : rowAt w n = some #[.int .i8 a, .int .i8 b]) (hb : base ≤ n) : IsList w base (.slice (some ⟨n, 0, none⟩) 1 cap) 2 1 (fun i => .int .i8 (plv a b i)) :=
  .inr ⟨n, cap, _, rfl, hb, hr, by simp, fun i hi => by
    have : i = 0 ∨ i = 1 := by omega
    rcases this with rfl | rfl <;> simp [plv]⟩
theorem IsList.none0 (w : World) (base sz : Nat) (a : Option Addr) (cap : Nat) (f : Nat → Value) : IsList w base (.slice a 0 cap) sz 0 f := .inl ⟨rfl, a, cap, rfl⟩
theorem Rf.wcode_one (r : Rf) (g : Nat → Int) (a b : Int) (fine : Bool) : r.wcode g 0 (plv a b) 1 fine = r.ask a b fine := by
  have e1 : r.ocB g 0 = true := Rf.ocB_t (r.okC_zero g)
  have e2 : r.okB (plv a b) 1 = r.isB a b := by
    by_cases h : r.okP (plv a b) 1
    · rw [Rf.okB_t h]
      have := h 0 (by omega)
      exact (Rf.isB_true (by simpa [Rf.inP, plv] using this)).symm
    · rw [Rf.okB_f h]
      refine (Rf.isB_false fun hh => h fun k hk => ?_).symm
      obtain rfl : k = 0 := by omega
      simpa [Rf.inP, plv] using hh
  unfold Rf.wcode Rf.ask
  rw [e1, e2]
  unfold Rf.told
  cases r.ok <;> cases fine <;> cases r.isB a b <;> simp

theorem gen_callsC {P : Program} {f : FuncId} {args : Array Value} {Q : Ending → World → Prop} {w : World} (h : ∀ W, W = w → Calls P f args W Q) : Calls P f args w Q := h w rfl

noncomputable def Rf.climbAns (r : Rf) (a b : Int) : Int := if r.ask a b true = 0 then r.h - a else 0

end Go.Proofs.Ytppohghejhcilaa

/- The first number below another one of which something holds. -/
namespace Go.Proofs.Ytppohghejhcilaa
open Go.RowKit

/-- The first k below n of which p holds, or -1. -/
def firstI (p : Nat → Bool) : Nat → Int
  | 0 => -1
  | n + 1 => if 0 ≤ firstI p n then firstI p n else if p n then n else -1
theorem firstI_miss {p : Nat → Bool} : ∀ {n : Nat}, (∀ j, j < n → p j = false) → firstI p n = -1
  | 0, _ => rfl
  | n + 1, h => by
    have := firstI_miss (n := n) fun j hj => h j (by omega)
    unfold firstI
    rw [this, if_neg (by omega), h n (by omega)]
    rfl
theorem firstI_hit {p : Nat → Bool} : ∀ {n k : Nat}, k < n → (∀ j, j < k → p j = false) → p k = true → firstI p n = k
  | 0, k, hk, _, _ => by omega
  | n + 1, k, hk, h, hp => by
    unfold firstI
    by_cases e : k = n
    · subst e
      rw [firstI_miss h, if_neg (by omega), hp]; rfl
    · rw [firstI_hit (n := n) (by omega) h hp, if_pos (by omega)]
theorem firstI_bd (p : Nat → Bool) : ∀ n : Nat, -1 ≤ firstI p n ∧ firstI p n < n
  | 0 => by simp [firstI]
  | n + 1 => by
    have := firstI_bd p n
    unfold firstI
    split
    · omega
    · split <;> omega
theorem firstI_of {p : Nat → Bool} {n : Nat} (h : firstI p n = -1) : ∀ j, j < n → p j = false := by
  induction n with
  | zero => intro j hj; omega
  | succ n ih =>
    intro j hj
    unfold firstI at h
    split at h
    · omega
    · rename_i h1
      have h2 : firstI p n = -1 := by have := firstI_bd p n; omega
      split at h
      · omega
      · rename_i h3
        by_cases e : j = n
        · subst e; simpa using h3
        · exact ih h2 j (by omega)
theorem firstI_congr {p q : Nat → Bool} : ∀ {n : Nat}, (∀ j, j < n → p j = q j) → firstI p n = firstI q n
  | 0, _ => rfl
  | n + 1, h => by unfold firstI; rw [firstI_congr fun j hj => h j (by omega), h n (by omega)]
/-- Some k below n of which p holds. -/
def anyI (p : Nat → Bool) (n : Nat) : Bool := decide (0 ≤ firstI p n)
theorem anyI_f {p : Nat → Bool} {n : Nat} : anyI p n = false ↔ ∀ j, j < n → p j = false := by
  unfold anyI
  constructor
  · intro h
    have := firstI_bd p n
    exact firstI_of (by simp at h; omega)
  · intro h
    rw [firstI_miss h]; rfl

theorem anyI_succ (p : Nat → Bool) (n : Nat) : anyI p (n + 1) = (anyI p n || p n) := by
  have hb := firstI_bd p n
  unfold anyI
  rw [show firstI p (n + 1) = (if 0 ≤ firstI p n then firstI p n else if p n then (n : Int) else -1) from rfl]
  by_cases h : 0 ≤ firstI p n
  · rw [if_pos h]; simp [h]
  · rw [if_neg h]
    cases hp : p n <;> simp [h]
theorem anyI_zero (p : Nat → Bool) : anyI p 0 = false := rfl
theorem anyI_t {p : Nat → Bool} {n k : Nat} (hk : k < n) (h : p k = true) : anyI p n = true := by
  cases hq : anyI p n with
  | true => rfl
  | false => rw [anyI_f.1 hq k hk] at h; cases h
end Go.Proofs.Ytppohghejhcilaa

/- Numbers and their bounds: the program's own check. -/
namespace Go.Proofs.Ytppohghejhcilaa
open Go.RowKit

/-- A number outside its bounds. -/
def outB (x lo hi : Int) : Bool := decide (x < lo ∨ hi < x)
/-- Which of k bounded numbers is outside. -/
def outs (h : Nat → Int) (i : Nat) : Bool := outB (h (i * 3)) (h (i * 3 + 1)) (h (i * 3 + 2))
theorem IsList.bnd {w : World} {base n : Nat} {a : Option Addr} {cap : Nat} {f : Nat → Int} (h : IsList w base (.slice a n cap) 3 n (fun i => .int .i64 (f i))) {k : Nat} (hk : k < n) :
    ∃ g, a = some ⟨g, 0, none⟩ ∧ w.cell? ⟨g, k * 3, none⟩ = some (.int .i64 (f (k * 3))) ∧ w.cell? ⟨g, k * 3 + 1, none⟩ = some (.int .i64 (f (k * 3 + 1))) ∧ w.cell? ⟨g, k * 3 + 2, none⟩ = some (.int .i64 (f (k * 3 + 2))) := by
  rcases h with ⟨h0, _⟩ | ⟨g, cap', cur, e, hg, hr, hs, hf⟩
  · omega
  · cases e
    exact ⟨g, rfl, by rw [cell_of_rowAt hr]; exact hf _ (by omega), by rw [cell_of_rowAt hr]; exact hf _ (by omega), by rw [cell_of_rowAt hr]; exact hf _ (by omega)⟩

/-- Numbers that all are as told. -/
def fineB (h : Nat → Int) (k : Nat) : Bool := !(anyI (outs h) k)

end Go.Proofs.Ytppohghejhcilaa

/- Lists of numbers that come in: opened, copied; and wherever they lie. -/
namespace Go.Proofs.Ytppohghejhcilaa
open Go.RowKit Go.ChangeShapes Go.WideShapes

/-- A list of numbers, wherever it lies. -/
def NumsAt (w : World) (v : Value) (n : Nat) (f : Nat → Int) : Prop :=
  ∃ a cap, v = .slice a n cap ∧ (n = 0 ∨ ∃ g o, a = some ⟨g, o, none⟩ ∧ g < w.heap.size ∧ ∀ i, i < n → w.cell? ⟨g, o + i, none⟩ = some (.int .i64 (f i)))
theorem NumsAt.below {w w' : World} {v : Value} {n : Nat} {f : Nat → Int} {B : Nat} (h : NumsAt w v n f) (b : Below B w w') (hB : w.heap.size ≤ B) : NumsAt w' v n f := by
  obtain ⟨a, cap, rfl, h⟩ := h
  refine ⟨a, cap, rfl, ?_⟩
  rcases h with h | ⟨g, o, rfl, hg, h⟩
  · exact .inl h
  · exact .inr ⟨g, o, rfl, Nat.lt_of_lt_of_le hg b.size, fun i hi => (b.cell (p := ⟨g, o + i, none⟩) (Nat.lt_of_lt_of_le hg hB)).trans (h i hi)⟩
theorem NumsAt.shape {w : World} {v : Value} {n : Nat} {f : Nat → Int} (h : NumsAt w v n f) : ∃ a cap, v = .slice a n cap := by
  obtain ⟨a, cap, rfl, _⟩ := h
  exact ⟨a, cap, rfl⟩
theorem NumsAt.at {w : World} {a : Option Addr} {cap n : Nat} {f : Nat → Int} (h : NumsAt w (.slice a n cap) n f) {k : Nat} (hk : k < n) :
    ∃ g o, a = some ⟨g, o, none⟩ ∧ w.cell? ⟨g, o + k, none⟩ = some (.int .i64 (f k)) := by
  obtain ⟨a', cap', e, h⟩ := h
  cases e
  rcases h with h | ⟨g, o, rfl, _, h⟩
  · omega
  · exact ⟨g, o, rfl, h k hk⟩
theorem NumsAt.none0 (w : World) (a : Option Addr) (cap : Nat) (f : Nat → Int) : NumsAt w (.slice a 0 cap) 0 f := ⟨a, cap, rfl, .inl rfl⟩
theorem IsList.nums {w : World} {base n : Nat} {v : Value} {f : Nat → Int} (h : IsList w base v 1 n (fun i => .int .i64 (f i))) : NumsAt w v n f := by
  rcases h with ⟨rfl, a, cap, rfl⟩ | ⟨g, cap, cur, rfl, hg, hr, hs, hf⟩
  · exact ⟨a, cap, rfl, .inl rfl⟩
  · exact ⟨_, cap, rfl, .inr ⟨g, 0, rfl, rowAt_lt hr, fun i hi => by rw [Nat.zero_add, cell_of_rowAt hr]; exact hf i (by omega)⟩⟩

section
variable {H : Type} {enc : TypeId × Value → H} {w : World} {base b0 : Nat} {spare : Nat → Bool} {held : Bool} {r : Reach}
set_option maxRecDepth 100000 in
/-- A list of numbers that came in. -/
theorem open_nums {v : Value} {d : DataW H} {p : List MemPlace} (hv : Value.okWide Try.prog w r b0 36 v) (h : DataW.Trod enc Try.prog w base spare held 36 v d p) :
    ∃ (n : Nat) (f : Nat → Int), NumsAt w v n f ∧ n ≤ maxLen ∧ ∀ i, i < n → -9223372036854775808 ≤ f i ∧ f i ≤ 9223372036854775807 := by
  obtain ⟨a, len, cap, rfl⟩ := okWide_slice Try.underlying36 hv
  obtain ⟨fuel, hf⟩ := h
  rcases open_ints Try.underlying36 Try.underlying2 (by kernel_rfl) hf with ⟨hc, _⟩ | ⟨a', len', cap', zs, hc, _, hl, hm, hmm, _, hcell, hwf⟩
  · simp [Value.cells] at hc
    obtain ⟨rfl, rfl, rfl⟩ := hc
    exact ⟨0, fun _ => 0, ⟨none, 0, rfl, .inl rfl⟩, by omega, by omega⟩
  · simp [Value.cells] at hc
    obtain ⟨rfl, rfl, rfl⟩ := hc
    have hlm : len ≤ zs.length := by rw [hmm]; split <;> omega
    refine ⟨len, fun i => zs.getD i 0, ⟨some a', cap, rfl, ?_⟩, by omega, ?_⟩
    · by_cases h0 : len = 0
      · exact .inl h0
      right
      obtain ⟨g, o, spot⟩ := a'
      have hsp : spot = none := by simpa [Addr.add] using World.cell?_spot (hcell 0 (by omega))
      subst hsp
      have hadd : ∀ x, (⟨g, o, none⟩ : Addr).add x = ⟨g, o + x, none⟩ := fun x => by unfold Addr.add; split <;> simp_all
      refine ⟨g, o, rfl, ?_, fun i hi => by rw [← hadd]; exact hcell i (by omega)⟩
      exact World.block_lt_of_cell? w _ (hcell 0 (by omega))
    · intro i hi
      have : zs.getD i 0 ∈ zs := by
        rw [List.getD_eq_getElem?_getD, List.getElem?_eq_getElem (by omega), Option.getD_some]
        exact List.getElem_mem _
      exact bounds_i64 (hwf _ this)
end

def GivesN (w : World) (n : Nat) (f : Nat → Int) (e : Ending) (w' : World) : Prop :=
  ∃ a, e = .returned (.slice a n n) ∧ IsList w' w.heap.size (.slice a n n) 1 n (fun i => .int .i64 (f i)) ∧ Below w.heap.size w w'
theorem A_info64 : (Try.prog.info? 2).map (fun i => (i.zero, i.size, i.bytes)) = some (some (.int .i64 0), 1, 8) := by kernel_rfl

end Go.Proofs.Ytppohghejhcilaa

/- Chapter 4: the program's checks of a roof, cells, places and numbers. -/
namespace Go.Proofs.Ytppohghejhcilaa
open Go.RowKit

/-- A predicate on numbers as a function value: what it answers in every later world; it changes nothing old. -/
def PredI (g : FuncId) (lb : Array Value) (p : Int → Bool) (w : World) : Prop :=
  ∀ x W, Below w.heap.size w W → Calls Try.prog g (#[.int .i64 x] ++ lb) W fun e w' => e = .returned (.bool (p x)) ∧ Below W.heap.size W w'
theorem PredI.later {g : FuncId} {lb : Array Value} {p : Int → Bool} {w w' : World} (h : PredI g lb p w) (b : Below w.heap.size w w') : PredI g lb p w' :=
  fun x W B => h x W (bnext b B b.size)
end Go.Proofs.Ytppohghejhcilaa

/- hasAll: whether there are all places of a list. -/
namespace Go.Proofs.Ytppohghejhcilaa
open Go.RowKit

end Go.Proofs.Ytppohghejhcilaa

/- Chapter 4: checkWork and what calls it. -/
namespace Go.Proofs.Ytppohghejhcilaa
open Go.RowKit

theorem outB_cell {r : Rf} {x : Int} : outB x 0 (2 * r.w) = false ↔ r.inC x := by unfold outB Rf.inC; simp
theorem Rf.anyC {r : Rf} {g : Nat → Int} {m : Nat} : anyI (fun i => outB (g i) 0 (2 * r.w)) m = !(r.ocB g m) := by
  by_cases h : r.okC g m
  · rw [Rf.ocB_t h]
    exact anyI_f.2 fun j hj => outB_cell.2 (h j hj)
  · rw [Rf.ocB_f h]
    cases hq : anyI (fun i => outB (g i) 0 (2 * r.w)) m with
    | true => rfl
    | false => exact absurd (fun j hj => outB_cell.1 (anyI_f.1 hq j hj)) h

end Go.Proofs.Ytppohghejhcilaa

/- Chapter 4: checkWork, checkLadders, checkWalk, carried. -/
namespace Go.Proofs.Ytppohghejhcilaa
open Go.RowKit

end Go.Proofs.Ytppohghejhcilaa

/- Chapter 4: bounded numbers as the program builds them; checkLadders, checkWalk. -/
namespace Go.Proofs.Ytppohghejhcilaa
open Go.RowKit

/-- A number and its bounds. -/
def bnd3 (x lo hi : Int) : Nat → Int := fun i => if i = 0 then x else if i = 1 then lo else hi
theorem IsList.lit3 {w : World} {n base cap : Nat} {x lo hi : Int} (hr : rowAt w n = some #[.int .i64 x, .int .i64 lo, .int .i64 hi]) (hb : base ≤ n) : IsList w base (.slice (some ⟨n, 0, none⟩) 1 cap) 3 1 (fun i => .int .i64 (bnd3 x lo hi i)) :=
  .inr ⟨n, cap, _, rfl, hb, hr, by simp, fun i hi => by
    have : i = 0 ∨ i = 1 ∨ i = 2 := by omega
    rcases this with rfl | rfl | rfl <;> simp [bnd3]⟩
theorem fineB_bnd (x lo hi : Int) : fineB (bnd3 x lo hi) 1 = inB x lo hi := by
  unfold fineB anyI firstI firstI outs outB bnd3 inB
  by_cases h1 : x < lo <;> by_cases h2 : hi < x <;> simp [h1, h2] <;> omega

end Go.Proofs.Ytppohghejhcilaa

/- A map[Place]bool that a call makes: which places it marks. Its key is a struct of two bytes: read as one string. -/
namespace Go.Proofs.Ytppohghejhcilaa
open Go.RowKit Go.Maps

theorem mk_laidOut : laidOutB Try.prog = true := by kernel_rfl
theorem mk_row : (35 : TypeId) < Try.prog.types.size := of_decide_eq_true (by kernel_rfl)
theorem mk_law : Keyed Try.prog 35 :=
  Keyed.of_law (deep_law_laid mk_laidOut (m := 2) (by omega) mk_row (by kernel_rfl) (by rw [Try.underlying35]))
theorem mk_zero (w : World) : (zeroValue 4).run Try.prog w = .ok (.bool false) w := by kernel_rfl
theorem mk_keyType : Try.prog.keyType 35 = true := by kernel_rfl

/-- What a place reads as, as a key. -/
def klP (a b : Int) : Lit := .string (keyBytes [.int .i8 a, .int .i8 b])
set_option maxRecDepth 100000 in
theorem mk_key {a b : Int} (wa : (Lit.int .i8 a).wf = true) (wb : (Lit.int .i8 b).wf = true) : keyOf Try.prog 35 (.agg #[.int .i8 a, .int .i8 b]) = some (klP a b) := by
  have hu := Try.underlying35
  have h8 := Try.underlying24
  have hc : Try.prog.cellsOf 35 = 2 := by kernel_rfl
  have hc8 : Try.prog.cellsOf 24 = 1 := by kernel_rfl
  obtain ⟨m, hm⟩ : ∃ m, Try.prog.types.size = m + 1 := by
    obtain ⟨k, hk⟩ := Nat.exists_eq_add_of_lt mk_row
    exact ⟨_, hk⟩
  unfold keyOf
  rw [hu]
  dsimp only
  rw [if_pos (by simp [mk_keyType, Value.formed, hu, hc]), hm]
  unfold Program.keyLits
  rw [hu]
  simp [Value.cells, hc, Program.keyLits, h8, hc8, wa, wb, klP]
theorem wf8 {a : Int} (h : -128 ≤ a ∧ a ≤ 127) : (Lit.int .i8 a).wf = true := WalkArith.wf_i8 h
theorem klP_ne {a b a' b' : Int} (ha : -128 ≤ a ∧ a ≤ 127) (hb : -128 ≤ b ∧ b ≤ 127) (ha' : -128 ≤ a' ∧ a' ≤ 127) (hb' : -128 ≤ b' ∧ b' ≤ 127) (h : ¬ (a = a' ∧ b = b')) : klP a b ≠ klP a' b' := fun e => by
  have k1 := mk_key (wf8 ha) (wf8 hb)
  have k2 := mk_key (wf8 ha') (wf8 hb')
  rw [← e] at k2
  have := mk_law.inj k1 k2
  simp at this
  exact h this

def inP8 (a b : Int) : Prop := (-128 ≤ a ∧ a ≤ 127) ∧ (-128 ≤ b ∧ b ≤ 127)
/-- Block B is a map of at most n entries; at a place it tells p. -/
def Marks (w : World) (B n : Nat) (p : Int → Int → Bool) : Prop :=
  ∃ D : DataW Unit, w.ownsMap Try.prog 35 (plainElem Try.prog 4) B n D ∧ ∀ a b, inP8 a b → D.atKey (klP a b) (.lit (.bool false)) = .lit (.bool (p a b))
theorem Marks.made (w : World) : Marks (w.alloc (.map #[] 0)) w.heap.size 0 (fun _ _ => false) := ⟨_, World.ownsMap_made _ _ _ _, fun _ _ _ => rfl⟩
theorem Marks.lt {w : World} {B n : Nat} {p : Int → Int → Bool} (h : Marks w B n p) : B < w.heap.size := by obtain ⟨D, h, _⟩ := h; exact h.lt
theorem Marks.block {w w' : World} {B n : Nat} {p : Int → Int → Bool} (h : Marks w B n p) (hb : w'.heap[B]? = w.heap[B]?) : Marks w' B n p := by
  obtain ⟨D, ⟨es, clock, h1, h2⟩, h3⟩ := h
  exact ⟨D, ⟨es, clock, hb.trans h1, h2⟩, h3⟩
theorem Marks.below {w w' : World} {B n : Nat} {p : Int → Int → Bool} (h : Marks w B n p) (b : Below w.heap.size w w') : Marks w' B n p := h.block (b.block B h.lt)
theorem plainElem_bool_inv {P : Program} {e : TypeId} (he : P.underlying e = some .bool) {v : Value} {z : DataW Unit × List MemPlace} (h : plainElem P e v = some z) : ∃ x : Bool, v = .bool x ∧ z.1 = .lit (.bool x) := by
  unfold plainElem at h
  rw [he] at h
  cases v <;> simp at h
  rename_i x
  exact ⟨x, rfl, by rw [← h]⟩
end Go.Proofs.Ytppohghejhcilaa

/- Chapter 4: places none of which may come twice: the code; both sides' checks. -/
namespace Go.Proofs.Ytppohghejhcilaa
open Go.RowKit Go.Maps

/-- Whether one of the first k places is a, b. -/
def hasP (f : Nat → Int) (k : Nat) (a b : Int) : Bool := anyI (fun q => decide (f (q * 2) = a ∧ f (q * 2 + 1) = b)) k
theorem hasP_succ (f : Nat → Int) (k : Nat) : hasP f (k + 1) = fun a b => if a = f (k * 2) ∧ b = f (k * 2 + 1) then true else hasP f k a b := by
  funext a b
  unfold hasP
  rw [anyI_succ]
  by_cases h : a = f (k * 2) ∧ b = f (k * 2 + 1)
  · rw [if_pos h]; simp [h.1.symm, h.2.symm]
  · have h' : ¬ (f (k * 2) = a ∧ f (k * 2 + 1) = b) := fun e => h ⟨e.1.symm, e.2.symm⟩
    rw [if_neg h, decide_eq_false h', Bool.or_false]
/-- Whether a place comes twice. -/
def dupP (f : Nat → Int) (n : Nat) : Bool := anyI (fun i => hasP f i (f (i * 2)) (f (i * 2 + 1))) n
noncomputable def Rf.ocode (r : Rf) (f : Nat → Int) (n : Nat) (fine : Bool) : Int := if r.wcode (fun _ => 0) 0 f n fine ≠ 0 then r.wcode (fun _ => 0) 0 f n fine else if dupP f n = true then 4 else 0
theorem Rf.ocode_w {r : Rf} {f : Nat → Int} {n : Nat} {fine : Bool} (h : r.wcode (fun _ => 0) 0 f n fine ≠ 0) : r.ocode f n fine = r.wcode (fun _ => 0) 0 f n fine := if_pos h
theorem Rf.ocode_d {r : Rf} {f : Nat → Int} {n : Nat} {fine : Bool} (h : r.wcode (fun _ => 0) 0 f n fine = 0) (hd : dupP f n = true) : r.ocode f n fine = 4 := by unfold Rf.ocode; rw [if_neg (by omega), if_pos hd]
theorem Rf.ocode_o {r : Rf} {f : Nat → Int} {n : Nat} {fine : Bool} (h : r.wcode (fun _ => 0) 0 f n fine = 0) (hd : dupP f n = false) : r.ocode f n fine = 0 := by unfold Rf.ocode; rw [if_neg (by omega), hd]; rfl
theorem Rf.ocode_zero {r : Rf} {f : Nat → Int} {n : Nat} {fine : Bool} (h : r.ocode f n fine = 0) : r.Ok ∧ fine = true ∧ r.okP f n ∧ n ≤ 8 ∧ dupP f n = false := by
  unfold Rf.ocode at h
  split at h
  · rename_i h1; exact absurd h h1
  · rename_i h1
    obtain ⟨ho, hf, _, hp, _, hn⟩ := Rf.wcode_zero (Decidable.not_not.1 h1)
    split at h
    · simp at h
    · rename_i h2; exact ⟨ho, hf, hp, hn, by simpa using h2⟩

end Go.Proofs.Ytppohghejhcilaa

/- Whether a list has a place: both sides. -/
namespace Go.Proofs.Ytppohghejhcilaa
open Go.RowKit

theorem hasP_hit {f : Nat → Int} {n k : Nat} {a b : Int} (hk : k < n) (h : f (k * 2) = a ∧ f (k * 2 + 1) = b) : hasP f n a b = true := anyI_t hk (by simp [h.1, h.2])
theorem hasP_miss {f : Nat → Int} {n : Nat} {a b : Int} (h : ∀ k, k < n → ¬ (f (k * 2) = a ∧ f (k * 2 + 1) = b)) : hasP f n a b = false := anyI_f.2 fun k hk => by simpa using h k hk

set_option maxRecDepth 100000 in
set_option maxHeartbeats 1000000 in
theorem l01Has_any (B n : Nat) (v : Value) (f : Nat → Int) (a b : Int) (w : World) (hv : IsList w B v 2 n (fun i => .int .i8 (f i))) (hn : n ≤ 2000000) :
    Calls Try.prog 39 #[v, .agg #[.int .i8 a, .int .i8 b]] w fun e w' => e = .returned (.bool (hasP f n a b)) ∧ Below w.heap.size w w' := by
  obtain ⟨av, cv, rfl⟩ := hv.shape
  go_enter Try.func39, Try.ntmps39
  go_wp2_with fail
  refine gen_world fun W0 hW => ?_
  have pB : Hid (Below w.heap.size w W0) := Lib.hid (by rw [hW]; exact (Below.refl _ _).alloc (Nat.le_refl _) _)
  have pX : Hid (rowAt W0 w.heap.size = some #[.int .i8 a, .int .i8 b]) := Lib.hid (by rw [hW]; exact rowAt_alloc_at _ _ _ _ rfl)
  have HV := Lib.hid (hv.below pB.out (Nat.le_refl _))
  clear hW hv
  go_loopw [5] (fun i' W => ∃ k : Nat, k ≤ n ∧ i' = .int .i64 k ∧ Hid (∀ q, q < k → ¬ (f (q * 2) = a ∧ f (q * 2 + 1) = b)) ∧ Below W0.heap.size W0 W) (fun i' _ => n - (intOf i').toNat)
  case atStart => exact ⟨0, by omega, rfl, Lib.hid (by omega), Below.refl _ _⟩
  case round =>
    obtain ⟨k, hk, rfl, hF, hB⟩ := hrel
    by_cases hlt : k < n
    · obtain ⟨gg, rfl, c0, c1⟩ := (HV.out.below hB (Nat.le_refl _)).pl hlt
      have x0 := cell_of_rowAt (brow hB pX.out) 0
      have x1 := cell_of_rowAt (brow hB pX.out) 1
      have hi0 : 0 ≤ (k : Int) := by omega
      have hi1 : (k : Int) < n := by omega
      have HB := Lib.hid hB
      clear hB
      by_cases hx : f (k * 2) = a ∧ f (k * 2 + 1) = b
      · have HX := Lib.hid hx
        obtain ⟨h0, h1⟩ := hx
        have e0 : (f (k * 2) == a) = true := by simp [h0]
        have e1 : (f (k * 2 + 1) == b) = true := by simp [h1]
        clear h0 h1
        go_wp2_with fail
        go_quiet (fail)
        go_wp2_with fail
        go_ret
        exact ⟨by rw [hasP_hit hlt HX.out]; rfl, below_drewN (pB.out.trans (HB.out.mono pB.out.size)) _⟩
      · have HX := Lib.hid hx
        by_cases h0 : f (k * 2) = a
        · have h1 : ¬ f (k * 2 + 1) = b := fun e => hx ⟨h0, e⟩
          have e0 : (f (k * 2) == a) = true := by simp [h0]
          have e1 : (f (k * 2 + 1) == b) = false := by simp [h1]
          clear h0 h1 hx
          go_wp2_with fail
          go_quiet (fail)
          go_wp2_with fail
          refine ⟨⟨k + 1, by omega, by go_num, Lib.hid (fun q hq => ?_), below_drewN HB.out _⟩, by simp [intOf]; omega⟩
          by_cases e : q = k
          · subst e; exact HX.out
          · exact hF.out q (by omega)
        · have e0 : (f (k * 2) == a) = false := by simp [h0]
          clear h0 hx
          go_wp2_with fail
          go_quiet (fail)
          go_wp2_with fail
          refine ⟨⟨k + 1, by omega, by go_num, Lib.hid (fun q hq => ?_), below_drewN HB.out _⟩, by simp [intOf]; omega⟩
          by_cases e : q = k
          · subst e; exact HX.out
          · exact hF.out q (by omega)
    · obtain rfl : k = n := by omega
      go_wp2_with fail
      go_ret
      exact ⟨by rw [hasP_miss hF.out]; rfl, pB.out.trans (hB.mono pB.out.size)⟩
end Go.Proofs.Ytppohghejhcilaa

/- What the promises' laws draw from bytes, and how they compare lists. -/
namespace Go.Proofs.Ytppohghejhcilaa
open Go.RowKit

set_option maxRecDepth 100000 in
set_option maxHeartbeats 2000000 in
theorem A2Roof_any (n : Nat) (v : Value) (f : Nat → Int) (w : World) (h : BytsAt w v n f) (hn : n ≤ 1000000) (hf : ∀ i, i < n → 0 ≤ f i ∧ f i ≤ 255) :
    Calls Try.prog 5 #[v] w fun e w' => ∃ (c : Array Value) (r : Rf), e = .returned (.agg c) ∧ IsRoof c r ∧ r.Ok ∧ (r.w ≤ 5 ∧ r.h ≤ 5) ∧ Below w.heap.size w w' := by
  have B0 : Below w.heap.size w (w.alloc (.cells Try.zeroCells28 28)) := (Below.refl _ _).alloc (Nat.le_refl _) _
  have r0 := rowAt_alloc_at w Try.zeroCells28 28 w.heap.size rfl
  have h0 := h.below B0 (Nat.le_refl _)
  have hz := zroof_size
  have hzo := zroof_ones
  clear h
  obtain ⟨a, cap, rfl⟩ := h0.shape
  go_enter Try.func5, Try.ntmps5
  go_wp2_with fail
  refine gen_callsW fun W0 hW => ?_
  rw [← hW] at B0 r0 h0
  clear hW
  refine (from_any n _ f _ h0).mono ?_
  rintro e w1 ⟨rfl, s1, b1⟩
  have r1 := brow b1 r0
  have B1 := bnext B0 b1 B0.size
  have lS := B0.size
  clear r0 h0 B0 b1
  generalize W0.heap.size = S at *
  go_wp2_with fail
  refine (l01Drawn_any S n _ f _ s1 hn hf).mono ?_
  rintro e w2 ⟨c, r, rfl, hR, hO, hs, s2, so2⟩
  have hSl := s1.lt
  have hc := hR.size
  have hco := hR.ones
  have lr := rowAt_lt r1
  have r2 : rowAt w2 w.heap.size = some Try.zeroCells28 := by
    by_cases e : w.heap.size = S
    · subst e
      obtain ⟨_, _, hq, _⟩ := s1
      rw [r1] at hq
      have := congrArg (Option.map Array.size) hq
      simp [hz] at this
    · exact (so2.rows _ lr e).trans r1
  have B2 := B1.trans (so2.below.mono lS)
  clear r1 s1 s2 so2 B1
  go_wp2_with fail
  refine bodyPost_ret (v := .agg c) (results_row1 (m := 67) rfl _ _ w.heap.size c rfl (rowAt_setRow_at _ _ _ (by rw [r2]; rfl)) Try.underlying28 rfl (by kernel_rfl) hc) rfl ?_
  exact ⟨c, r, rfl, hR, hO, hs, below_setRow B2 (Nat.le_refl _) _⟩

theorem A2Places_any (c : Array Value) (r : Rf) (hh ww : Nat) (hhe : r.h = hh) (hwe : r.w = ww) (h8 : hh ≤ 8) (w8 : ww ≤ 8) (w : World) (hR : IsRoof c r) :
    Calls Try.prog 6 #[.agg c] w (GivesP w (plUpto hh ww (hh * ww))) := by
  have hc := hR.size
  have B0 : Below w.heap.size w (w.alloc (.cells c 28)) := (Below.refl _ _).alloc (Nat.le_refl _) _
  go_enter Try.func6, Try.ntmps6
  go_wp2_with fail
  refine (l01All_any w.heap.size c r hh ww hhe hwe h8 w8 _ (rowAt_alloc_at w c 28 _ rfl) hR).mono ?_
  rintro e w2 ⟨v, rfl, l2, b2⟩
  have B2 := bnext B0 b2 B0.size
  go_wp2_with fail
  go_ret
  exact ⟨_, rfl, l2.mono (by simp), B2⟩

set_option maxRecDepth 100000 in
set_option maxHeartbeats 1000000 in
theorem samePlaces_any (n : Nat) (f : Nat → Int) (v u : Value) (b b' : Nat) (w : World) (hv : IsList w b v 2 n fun i => .int .i8 (f i)) (hu : IsList w b' u 2 n fun i => .int .i8 (f i)) (hn : n ≤ 2000000) :
    Calls Try.prog 13 #[v, u] w fun e w' => e = .returned (.bool true) ∧ Below w.heap.size w w' := by
  have HV := Lib.hid hv
  have HU := Lib.hid hu
  obtain ⟨av, cv, rfl⟩ := hv.shape
  obtain ⟨au, cu, rfl⟩ := hu.shape
  clear hv hu
  have hnn : ((n : Int) != n) = false := by simp
  go_enter Try.func13, Try.ntmps13
  go_wp2_with fail
  go_loopw [5] (fun i W => ∃ k : Nat, k ≤ n ∧ i = .int .i64 k ∧ Below w.heap.size w W) (fun i _ => n - (intOf i).toNat)
  case atStart => exact ⟨0, by omega, rfl, Below.refl _ _⟩
  case round =>
    obtain ⟨k, hk, rfl, hB⟩ := hrel
    by_cases hlt : k < n
    · rcases HV.out.below hB (Nat.le_refl _) with ⟨h0, _⟩ | ⟨g, cap, cur, e1, hg, hr, hs, hf⟩
      · omega
      rcases HU.out.below hB (Nat.le_refl _) with ⟨h0, _⟩ | ⟨g', cap', cur', e2, hg', hr', hs', hf'⟩
      · omega
      cases e1
      cases e2
      have c0 : wr.cell? ⟨g, k * 2, none⟩ = some (.int .i8 (f (k * 2))) := by rw [cell_of_rowAt hr]; exact hf _ (by omega)
      have c1 : wr.cell? ⟨g, k * 2 + 1, none⟩ = some (.int .i8 (f (k * 2 + 1))) := by rw [cell_of_rowAt hr]; exact hf _ (by omega)
      have d0 : wr.cell? ⟨g', k * 2, none⟩ = some (.int .i8 (f (k * 2))) := by rw [cell_of_rowAt hr']; exact hf' _ (by omega)
      have d1 : wr.cell? ⟨g', k * 2 + 1, none⟩ = some (.int .i8 (f (k * 2 + 1))) := by rw [cell_of_rowAt hr']; exact hf' _ (by omega)
      have hi0 : 0 ≤ (k : Int) := by omega
      have hi1 : (k : Int) < n := by omega
      clear hf hf' hs hs' hr hr'
      go_wp2_with fail
      go_quiet (fail)
      go_wp2_with fail
      refine ⟨⟨k + 1, by omega, by go_num, below_drewN hB _⟩, by simp [intOf]; omega⟩
    · go_wp2_with fail
      go_ret
      exact ⟨rfl, hB⟩

set_option maxRecDepth 100000 in
set_option maxHeartbeats 1000000 in
theorem l00Same_any (n : Nat) (f : Nat → Int) (v u : Value) (b b' : Nat) (w : World) (hv : IsList w b v 1 n fun i => .int .i64 (f i)) (hu : IsList w b' u 1 n fun i => .int .i64 (f i)) (hn : n ≤ 2000000) :
    Calls Try.prog 35 #[v, u] w fun e w' => e = .returned (.bool true) ∧ Below w.heap.size w w' := by
  have HV := Lib.hid hv
  have HU := Lib.hid hu
  obtain ⟨av, cv, rfl⟩ := hv.shape
  obtain ⟨au, cu, rfl⟩ := hu.shape
  clear hv hu
  have hnn : ((n : Int) != n) = false := by simp
  go_enter Try.func35, Try.ntmps35
  go_wp2_with fail
  go_loopw [5] (fun i W => ∃ k : Nat, k ≤ n ∧ i = .int .i64 k ∧ Below w.heap.size w W) (fun i _ => n - (intOf i).toNat)
  case atStart => exact ⟨0, by omega, rfl, Below.refl _ _⟩
  case round =>
    obtain ⟨k, hk, rfl, hB⟩ := hrel
    by_cases hlt : k < n
    · rcases HV.out.below hB (Nat.le_refl _) with ⟨h0, _⟩ | ⟨g, cap, cur, e1, hg, hr, hs, hf⟩
      · omega
      rcases HU.out.below hB (Nat.le_refl _) with ⟨h0, _⟩ | ⟨g', cap', cur', e2, hg', hr', hs', hf'⟩
      · omega
      cases e1
      cases e2
      have c0 : wr.cell? ⟨g, k, none⟩ = some (.int .i64 (f k)) := by rw [cell_of_rowAt hr]; exact hf k (by omega)
      have c1 : wr.cell? ⟨g', k, none⟩ = some (.int .i64 (f k)) := by rw [cell_of_rowAt hr']; exact hf' k (by omega)
      have hff : (f k != f k) = false := by simp
      have hi0 : 0 ≤ (k : Int) := by omega
      have hi1 : (k : Int) < n := by omega
      clear hf hf' hs hs'
      go_wp2_with fail
      go_quiet (fail)
      go_wp2_with fail
      refine ⟨⟨k + 1, by omega, by go_num, below_drewN hB _⟩, by simp [intOf]; omega⟩
    · go_wp2_with fail
      go_ret
      exact ⟨rfl, hB⟩
theorem A2Same_any (n : Nat) (f : Nat → Int) (v u : Value) (b b' : Nat) (w : World) (hv : IsList w b v 1 n fun i => .int .i64 (f i)) (hu : IsList w b' u 1 n fun i => .int .i64 (f i)) (hn : n ≤ 2000000) :
    Calls Try.prog 14 #[v, u] w fun e w' => e = .returned (.bool true) ∧ Below w.heap.size w w' := by
  have CC := fun W => l00Same_any n f v u b b' W
  have HV := Lib.hid hv
  have HU := Lib.hid hu
  obtain ⟨av, cv, rfl⟩ := hv.shape
  obtain ⟨au, cu, rfl⟩ := hu.shape
  clear hv hu
  go_enter Try.func14, Try.ntmps14
  go_wp2_with fail
  refine (CC _ HV.out HU.out hn).mono ?_
  rintro e w1 ⟨rfl, b1⟩
  go_wp2_with fail
  go_ret
  exact ⟨rfl, b1⟩
theorem A2HasPlace_any (B n : Nat) (v : Value) (f : Nat → Int) (a b : Int) (w : World) (hv : IsList w B v 2 n (fun i => .int .i8 (f i))) (hn : n ≤ 2000000) :
    Calls Try.prog 16 #[v, .agg #[.int .i8 a, .int .i8 b]] w fun e w' => e = .returned (.bool (hasP f n a b)) ∧ Below w.heap.size w w' := by
  have CC := fun W => l01Has_any B n v f a b W
  have HV := Lib.hid hv
  obtain ⟨av, cv, rfl⟩ := hv.shape
  clear hv
  go_enter Try.func16, Try.ntmps16
  go_wp2_with fail
  refine (CC _ (HV.out.below ((Below.refl w.heap.size w).alloc (Nat.le_refl _) _) (Nat.le_refl _)) hn).mono ?_
  rintro e w1 ⟨rfl, b1⟩
  go_wp2_with fail
  go_ret
  exact ⟨rfl, ((Below.refl w.heap.size w).alloc (Nat.le_refl _) _).trans (b1.mono (by simp))⟩

set_option maxRecDepth 100000 in
set_option maxHeartbeats 2000000 in
theorem A2Place_any (n : Nat) (v : Value) (f : Nat → Int) (c : Array Value) (r : Rf) (w : World) (h : BytsAt w v n f) (hn : n ≤ 1000000) (hf : ∀ i, i < n → 0 ≤ f i ∧ f i ≤ 255) (hR : IsRoof c r) (ho : r.Ok) :
    Calls Try.prog 19 #[v, .agg c] w fun e w' => ∃ a b : Nat, e = .returned (.agg #[.int .i8 a, .int .i8 b]) ∧ (a : Int) < r.h ∧ (b : Int) < r.w ∧ Below w.heap.size w w' := by
  obtain ⟨o1, o2, o3, o4, _⟩ := ho
  have hc := hR.size
  have HF := Lib.hid hf
  clear hf
  have CP := fun S u m k W h hm hk => pick_any S n u f m k W h hm hn HF.out hk
  have B0 : Below w.heap.size w ((w.alloc (.cells c 28)).alloc (.cells #[.int .i8 0, .int .i8 0] 35)) := ((Below.refl _ _).alloc (Nat.le_refl _) _).alloc (by simp) _
  have r0 : rowAt ((w.alloc (.cells c 28)).alloc (.cells #[.int .i8 0, .int .i8 0] 35)) w.heap.size = some c := (rowAt_alloc_past _ _ _ (by simp)).trans (rowAt_alloc_at _ _ _ _ rfl)
  have p0 : rowAt ((w.alloc (.cells c 28)).alloc (.cells #[.int .i8 0, .int .i8 0] 35)) (w.heap.size + 1) = some #[.int .i8 0, .int .i8 0] := rowAt_alloc_at _ _ _ _ (by simp)
  have h0 := h.below B0 (Nat.le_refl _)
  clear h
  obtain ⟨a, cap, rfl⟩ := h0.shape
  go_enter Try.func19, Try.ntmps19
  go_wp2_with fail
  refine gen_callsW fun W0 hW => ?_
  rw [← hW] at B0 r0 h0 p0
  clear hW
  refine (from_any n _ f _ h0).mono ?_
  rintro e w1 ⟨rfl, s1, b1⟩
  have r1 := brow b1 r0
  have p1 := brow b1 p0
  have B1 := bnext B0 b1 B0.size
  have lS := rowAt_lt p0
  clear r0 h0 p0 B0 b1
  generalize W0.heap.size = S at *
  have e1 : w1.cell? ⟨w.heap.size, 1, none⟩ = some (.int .i8 r.h) := by rw [cell_of_rowAt r1, Array.getElem?_eq_getElem (by omega), hR.high (by omega)]
  have wh : IntKind.i64.wrap r.h = r.h := by rw [IntKind.wrap_i64]; omega
  have ww : IntKind.i64.wrap r.w = r.w := by rw [IntKind.wrap_i64]; omega
  go_wp2_with fail
  refine (CP S _ 0 r.h _ s1 (by omega) (by omega)).mono ?_
  rintro e w2 ⟨x, rfl, hx, s2, so2⟩
  have r2 := (so2.rows _ (rowAt_lt r1) (by omega)).trans r1
  have p2 := (so2.rows _ (rowAt_lt p1) (by omega)).trans p1
  have B2 := B1.trans (so2.below.mono (by omega))
  have hx8 : IntKind.i8.wrap x = x := IntWalk.i8_in _ (by omega)
  have e2 : w2.cell? ⟨w.heap.size, 0, none⟩ = some (.int .i8 r.w) := by rw [cell_of_rowAt r2, Array.getElem?_eq_getElem (by omega), hR.wide (by omega)]
  clear e1 r1 p1 B1 so2
  go_wp2_with fail
  refine (CP S _ _ r.w _ s2 (by omega) (by omega)).mono ?_
  rintro e w3 ⟨y, rfl, hy, s3, so3⟩
  have p3 := (so3.rows _ (rowAt_lt p2) (by omega)).trans p2
  have B3 := B2.trans (so3.below.mono (by omega))
  have hy8 : IntKind.i8.wrap y = y := IntWalk.i8_in _ (by omega)
  have k0 : w3.cell? ⟨w.heap.size + 1, 0, none⟩ = some (.int .i8 0) := by rw [cell_of_rowAt p3]; rfl
  have k1 : w3.cell? ⟨w.heap.size + 1, 1, none⟩ = some (.int .i8 0) := by rw [cell_of_rowAt p3]; rfl
  have f0 := frozen_of_rowAt p3 0
  have f1 := frozen_of_rowAt p3 1
  have q1 : rowAt (w3.setCell ⟨w.heap.size + 1, 0, none⟩ (.int .i8 x)) (w.heap.size + 1) = some #[.int .i8 x, .int .i8 0] := (rowAt_setCell_at _ _ _ _ (by rw [p3]; rfl)).trans (by rw [p3]; rfl)
  have q2 : rowAt ((w3.setCell ⟨w.heap.size + 1, 0, none⟩ (.int .i8 x)).setCell ⟨w.heap.size + 1, 1, none⟩ (.int .i8 y)) (w.heap.size + 1) = some #[.int .i8 x, .int .i8 y] := (rowAt_setCell_at _ _ _ _ (by rw [q1]; rfl)).trans (by rw [q1]; rfl)
  clear e2 r2 p2 B2 so3 s2 s3 s1
  go_wp2_with fail
  refine bodyPost_ret (v := .agg #[.int .i8 x, .int .i8 y]) (results_row1 (m := 2) rfl _ _ (w.heap.size + 1) _ rfl q2 Try.underlying35 rfl (by kernel_rfl) rfl) rfl ?_
  obtain ⟨X, rfl⟩ := Int.eq_ofNat_of_zero_le hx.1
  obtain ⟨Y, rfl⟩ := Int.eq_ofNat_of_zero_le hy.1
  exact ⟨X, Y, rfl, by omega, by omega, (B3.setCell (p := ⟨w.heap.size + 1, 0, none⟩) (by simp) _).setCell (p := ⟨w.heap.size + 1, 1, none⟩) (by simp) _⟩

set_option maxRecDepth 100000 in
theorem a2At_any (n : Nat) (v : Value) (f : Nat → Int) (k m : Int) (w : World) (h : BytsAt w v n f) (_hn : n ≤ 1000000) (hf : ∀ i, i < n → 0 ≤ f i ∧ f i ≤ 255) (hk : 0 ≤ k ∧ k ≤ 1000) (hm : 1 ≤ m ∧ m ≤ 100000) :
    Calls Try.prog 20 #[v, .int .i64 k, .int .i64 m] w fun e w' => ∃ x, e = .returned (.int .i64 x) ∧ (0 ≤ x ∧ x < m) ∧ Below w.heap.size w w' := by
  obtain ⟨K, rfl⟩ := Int.eq_ofNat_of_zero_le hk.1
  have d1 : decide (m < 1) = false := by simp; omega
  have mz : (m == 0) = false := by simp; omega
  by_cases hlt : K < n
  · obtain ⟨a, cap, rfl⟩ := h.shape
    obtain ⟨g, o, rfl, hc⟩ := h.at hlt
    obtain ⟨f0, f1⟩ := hf K hlt
    have d0 : decide ((n : Int) ≤ K) = false := by simp; omega
    have i1 : (K : Int) < n := by omega
    have cv : IntKind.i64.wrap (f K) = f K := by rw [IntKind.wrap_i64]; omega
    have t0 : 0 ≤ f K % m ∧ f K % m < m := ⟨Int.emod_nonneg _ (by omega), Int.emod_lt_of_pos _ (by omega)⟩
    clear h hf
    go_enter Try.func20, Try.ntmps20
    go_wp2_with fail
    go_ret
    exact ⟨_, rfl, t0, Below.refl _ _⟩
  · have d0 : decide ((n : Int) ≤ K) = true := by simp; omega
    obtain ⟨a, cap, rfl⟩ := h.shape
    clear h hf
    go_enter Try.func20, Try.ntmps20
    go_wp2_with fail
    go_ret
    exact ⟨0, rfl, by omega, Below.refl _ _⟩

theorem a2Long_any (n m : Nat) (v u : Value) (f g : Nat → Int) (w : World) (hv : BytsAt w v n f) (hu : BytsAt w u m g) (hn : n ≤ maxLen) (hm : m ≤ maxLen) :
    Calls Try.prog 4 #[v, u] w fun e w' => e = .returned (.bool (decide (3000 < n ∨ 3000 < m))) ∧ w' = w := by
  unfold maxLen at hn hm
  obtain ⟨a, cap, rfl⟩ := hv.shape
  obtain ⟨b, cbp, rfl⟩ := hu.shape
  by_cases h1 : 3000 < n
  · have d1 : decide ((3000 : Int) < n) = true := by simp; omega
    rw [show decide (3000 < n ∨ 3000 < m) = true by simp [h1]]
    go_enter Try.func4, Try.ntmps4
    go_wp2_with fail
    go_ret
    exact ⟨rfl, rfl⟩
  · have d1 : decide ((3000 : Int) < n) = false := by simp; omega
    have d2 : decide (3000 < n ∨ 3000 < m) = decide ((3000 : Int) < m) := by
      by_cases h : 3000 < m
      · rw [decide_eq_true (Or.inr h), decide_eq_true (by omega)]
      · rw [decide_eq_false (by omega), decide_eq_false (by omega)]
    rw [d2]
    clear d2 h1
    go_enter Try.func4, Try.ntmps4
    go_wp2_with fail
    go_ret
    exact ⟨rfl, rfl⟩
end Go.Proofs.Ytppohghejhcilaa

/- Contracts on the cells of a tile. -/
namespace Go.Proofs.Ytppohghejhcilaa
open Go.RowKit

/-- What a call that makes a list of numbers ends with. -/
def GivesInts (w : World) (n : Nat) (f : Nat → Int) (code : Int) (e : Ending) (w' : World) : Prop :=
  ∃ v, e = .returned (.tuple #[v, .int .i64 code]) ∧ IsList w' w.heap.size v 1 n (fun i => .int .i64 (f i)) ∧ Below w.heap.size w w'

theorem l01By_q (n : Nat) (c : Array Value) (r : Rf) (k : Int) (w : World) (hr : rowAt w n = some c) (hR : IsRoof c r) (hk : 0 ≤ k ∧ k ≤ 1000) :
    Calls Try.prog 60 #[.pointer (some ⟨n, 0, none⟩), .int .i64 k] w fun e w' => e = .returned (.int .i64 (r.by k)) ∧ w' = w :=
  (l01By_any n c r k w hr hR hk).mono fun _ _ h => ⟨h.1, h.2.symm⟩

set_option maxHeartbeats 400000 in
theorem l01First_any (n : Nat) (c : Array Value) (r : Rf) (i j : Nat) (w : World) (hr : rowAt w n = some c) (hR : IsRoof c r) (hi : i < 8) (hj : j < 8) :
    Calls Try.prog 34 #[.pointer (some ⟨n, 0, none⟩), .agg #[.int .i8 i, .int .i8 j]] w fun e w' => e = .returned (.int .i64 (2 * j + r.by i)) ∧ Below w.heap.size w w' := by
  have hn := rowAt_lt hr
  obtain ⟨y0, y1⟩ := r.by_bd i
  have i0 : 0 ≤ (i : Int) := by omega
  have i1 : (i : Int) < 8 := by omega
  have j0 : 0 ≤ (j : Int) := by omega
  have j1 : (j : Int) < 8 := by omega
  have e1 : IntKind.i64.wrap (2 * (j : Int)) = 2 * j := IntWalk.i64_in _ (by omega)
  have e2 : IntKind.i64.wrap (2 * (j : Int) + r.by i) = 2 * j + r.by i := IntWalk.i64_in _ (by omega)
  go_enter Try.func34, Try.ntmps34
  go_wp2_with fail
  go_quiet ((go_at_call 60; exact Calls.quiet_of_same (l01By_q n c r _ _ ((rowAt_drewN _ _ _).trans ((rowAt_alloc_past _ _ _ hn).trans hr)) hR (by omega))))
  clear e1
  go_wp2_with fail
  go_ret
  exact ⟨rfl, below_drewN ((Below.refl _ _).alloc (Nat.le_refl _) _) _⟩

set_option maxHeartbeats 400000 in
theorem cells_any (c : Array Value) (r : Rf) (i j : Nat) (w : World) (hR : IsRoof c r) (hi : i < 8) (hj : j < 8) :
    Calls Try.prog 33 #[.agg c, .agg #[.int .i8 i, .int .i8 j]] w fun e w' => e = .returned (.agg #[.int .i64 (2 * j + r.by i), .int .i64 (2 * j + r.by i + 1)]) ∧ Below w.heap.size w w' := by
  obtain ⟨hc, k0, k1, k2, w0, wl, h0, h1, s0, s1⟩ := hR.view
  clear k0 k1 k2
  obtain ⟨y0, y1⟩ := r.by_bd i
  have i0 : 0 ≤ (i : Int) := by omega
  have i1 : (i : Int) < 8 := by omega
  have j0 : 0 ≤ (j : Int) := by omega
  have j1 : (j : Int) < 8 := by omega
  by_cases hby : r.by i = 1
  · have hbt : (r.by i == 1) = true := by simp [hby]
    rw [hby]
    clear hby
    go_enter Try.func33, Try.ntmps33
    go_wp2_with fail
    refine (shifted_any c r i _ hR (by omega)).mono ?_
    rintro e w1 ⟨rfl, b1⟩
    rw [hbt]
    have z1 := brow b1 (rowAt_alloc_at _ #[.int .i64 0, .int .i64 0] 61 _ rfl)
    obtain ⟨v1, v2, v3, v4⟩ := bview b1
    have B1 : Below w.heap.size w w1 := ((((Below.refl _ _).alloc (Nat.le_refl _) _).alloc (by simp) _).alloc (by simp; omega) _).trans (b1.mono (by simp; omega))
    clear b1
    go_wp2_with fail
    refine bodyPost_ret (v := .agg #[.int .i64 (2 * (j : Int) + 1), .int .i64 (2 * (j : Int) + 1 + 1)]) (by simp [results, Try.results33, go_sem, v2]) rfl ⟨rfl, ?_⟩
    exact (B1.setCell (p := ⟨_, _, none⟩) (by simp; omega) _).setCell (p := ⟨_, _, none⟩) (by simp; omega) _
  · have hb0 : r.by i = 0 := by omega
    have hbt : (r.by i == 1) = false := by simp [hb0]
    rw [hb0, Int.add_zero]
    clear hby hb0
    go_enter Try.func33, Try.ntmps33
    go_wp2_with fail
    refine (shifted_any c r i _ hR (by omega)).mono ?_
    rintro e w1 ⟨rfl, b1⟩
    rw [hbt]
    have z1 := brow b1 (rowAt_alloc_at _ #[.int .i64 0, .int .i64 0] 61 _ rfl)
    obtain ⟨v1, v2, v3, v4⟩ := bview b1
    have B1 : Below w.heap.size w w1 := ((((Below.refl _ _).alloc (Nat.le_refl _) _).alloc (by simp) _).alloc (by simp; omega) _).trans (b1.mono (by simp; omega))
    clear b1
    go_wp2_with fail
    refine bodyPost_ret (v := .agg #[.int .i64 (2 * (j : Int)), .int .i64 (2 * (j : Int) + 1)]) (by simp [results, Try.results33, go_sem, v2]) rfl ⟨rfl, ?_⟩
    exact (B1.setCell (p := ⟨_, _, none⟩) (by simp; omega) _).setCell (p := ⟨_, _, none⟩) (by simp; omega) _
end Go.Proofs.Ytppohghejhcilaa

/- Contracts on the tiles of another course that have a cell in common with a tile. -/
namespace Go.Proofs.Ytppohghejhcilaa
open Go.RowKit

def Rf.laps (r : Rf) (a b k : Int) : List Int := if 0 ≤ k ∧ k < r.h then [r.tile k (2 * b + r.by a), r.tile k (2 * b + r.by a + 1)].filter (fun t => decide (0 ≤ t)) else []
def plF (k : Int) (T : List Int) (x : Nat) : Int := if x % 2 = 0 then k else T.getD (x / 2) 0
def GivesPl (w : World) (n : Nat) (f : Nat → Int) (e : Ending) (w' : World) : Prop :=
  ∃ v, e = .returned v ∧ IsList w' w.heap.size v 2 n (fun i => .int .i8 (f i)) ∧ Below w.heap.size w w'

theorem heap_alloc_last (w : World) (o : Obj) (n : Nat) (h : n = w.heap.size) : (w.alloc o).heap[n]? = some o := by
  subst h; exact heap_alloc_new w o
theorem flat_get (k : Int) : ∀ (T : List Int) (i : Nat), i < T.length * 2 → (T.flatMap fun t => [Value.int .i8 k, Value.int .i8 t])[i]? = some (.int .i8 (plF k T i))
  | [], i, h => by simp at h
  | t :: T, i, h => by
    simp only [List.flatMap_cons, List.cons_append, List.nil_append]
    match i, h with
    | 0, _ => simp [plF]
    | 1, _ => simp [plF]
    | i + 2, h =>
      have := flat_get k T i (by simp at h; omega)
      simp only [List.getElem?_cons_succ]
      rw [this]
      congr 2
      unfold plF
      rw [show (i + 2) % 2 = i % 2 from by omega, show (i + 2) / 2 = i / 2 + 1 from by omega]
      simp
theorem IsList.of_owns {w : World} {base n : Nat} {e : TypeId} {v : Value} {k : Int} {T : List Int} (h : w.ownsRow base e 2 v n (T.flatMap fun t => [.int .i8 k, .int .i8 t])) (hT : T.length = n) : IsList w base v 2 n fun i => .int .i8 (plF k T i) := by
  obtain ⟨hl, h | ⟨g, cap, cur, rfl, hg, hh, hn, hm, hs, ht⟩⟩ := h
  · exact .inl ⟨h.2, none, 0, by rw [h.1]⟩
  · refine .inr ⟨g, cap, cur, rfl, hg, rowAt_of_heap hh, ?_, fun i hi => ?_⟩
    · rw [hs]; exact Nat.mul_le_mul_right 2 hn
    · have h1 : cur[i]? = (cur.toList.take (n * 2))[i]? := by rw [List.getElem?_take, if_pos hi, Array.getElem?_toList]
      rw [h1, ht]
      exact flat_get k T i (by omega)

theorem A_infoPl : (Try.prog.info? 35).map (fun i => (i.zero, i.size, i.bytes)) = some (some (.agg #[.int .i8 0, .int .i8 0]), 2, 2) := by kernel_rfl

theorem tile_lt {r : Rf} {k cell : Int} (hw : r.w ≤ 8) : -1 ≤ r.tile k cell ∧ r.tile k cell < 8 := by
  unfold Rf.tile; split <;> omega
theorem tile_ne {r : Rf} {a b k : Int} (hk : k = a - 1 ∨ k = a + 1) (h0 : 0 ≤ r.tile k (2 * b + r.by a)) : r.tile k (2 * b + r.by a) ≠ r.tile k (2 * b + r.by a + 1) := by
  unfold Rf.tile at h0 ⊢
  unfold Rf.by at h0 ⊢
  split <;> split <;> omega

set_option maxRecDepth 100000 in
set_option maxHeartbeats 1000000 in
theorem l01Laps_tt (n : Nat) (c : Array Value) (r : Rf) (i j k : Nat) (d : Int) (w : World) (hr : rowAt w n = some c) (hR : IsRoof c r) (ho : r.Ok) (hi : i < 8) (hj : j < 8) (hd : d = -1 ∨ d = 1) (hk : (k : Int) = i + d) (hkh : (k : Int) < r.h)
    (h0 : 0 ≤ r.tile k (2 * j + r.by i)) (h1 : 0 ≤ r.tile k (2 * j + r.by i + 1)) :
    Calls Try.prog 31 #[.pointer (some ⟨n, 0, none⟩), .agg #[.int .i8 i, .int .i8 j], .int .i8 d] w (GivesPl w 2 (plF k [r.tile k (2 * j + r.by i), r.tile k (2 * j + r.by i + 1)])) := by
  have hn := rowAt_lt hr
  have hcell := cell_of_rowAt hr
  have hw1 := ho.1
  have hw8 := ho.2.1
  have hh8 := ho.2.2.2.1
  obtain ⟨y0, y1⟩ := r.by_bd i
  have z0 := tile_lt (r := r) (k := k) (cell := 2 * j + r.by i) hw8
  have z1 := tile_lt (r := r) (k := k) (cell := 2 * j + r.by i + 1) hw8
  have zz := tile_ne (r := r) (a := i) (b := j) (k := k) (by omega) h0
  have hne : (r.tile k (2 * j + r.by i) != r.tile k (2 * j + r.by i + 1)) = true := by simpa using zz
  have hkd : (i : Int) + d = k := hk.symm
  obtain ⟨i0, hi0, hz0, hz1, hz2⟩ := info_parts A_infoPl
  clear zz hk
  have d0 : -1 ≤ d := by omega
  have d1 : d ≤ 1 := by omega
  have hlt : k < 8 := by omega
  clear hd
  go_enter Try.func31, Try.ntmps31
  go_wp2_with fail
  refine (l01Course_any n c r k _ ((rowAt_alloc_past _ _ _ (by simp; omega)).trans ((rowAt_alloc_past _ _ _ hn).trans hr)) hR).mono ?_
  rintro e w0 ⟨rfl, rfl⟩
  rw [inB_true (show 0 ≤ (k : Int) ∧ (k : Int) ≤ r.h - 1 by omega)]
  go_wp2_with fail
  refine (l01First_any n c r i j _ ((rowAt_alloc_past _ _ _ (by simp; omega)).trans ((rowAt_alloc_past _ _ _ hn).trans hr)) hR hi hj).mono ?_
  rintro e w1 ⟨rfl, b1⟩
  have q1 := brow b1 ((rowAt_alloc_past _ (.cells #[] 35) _ (by simp; omega)).trans ((rowAt_alloc_past _ (.cells #[.int .i8 i, .int .i8 j] 35) _ hn).trans hr))
  have own : w1.ownsRow w.heap.size 35 2 (.slice (some ⟨w.heap.size + 1, 0, none⟩) 0 0) 0 [] :=
    ⟨rfl, .inr ⟨_, 0, #[], rfl, by omega, (b1.block _ (by simp)).trans (heap_alloc_last _ _ _ (by simp)), Nat.le_refl _, Nat.zero_le _, rfl, rfl⟩⟩
  have B1 : Below w.heap.size w w1 := (((Below.refl _ _).alloc (Nat.le_refl _) _).alloc (by simp) _).trans (b1.mono (by simp; omega))
  have S1 := b1.size
  clear b1 hcell
  simp at S1
  generalize hT0 : r.tile k (2 * j + r.by i) = T0 at *
  generalize hT1 : r.tile k (2 * j + r.by i + 1) = T1 at *
  have HT0 := Lib.hid hT0
  have HT1 := Lib.hid hT1
  clear hT0 hT1
  go_wp2_with fail
  refine wp_loop_rounds 3 ?_
  rw [rounds_succ]
  go_wp2_with fail
  refine (l01Tile_any n c r k _ _ q1 hR (by omega) (by omega) (by omega)).mono ?_
  rintro e w2 ⟨rfl, rfl⟩
  rw [HT0.out]
  go_wp2_with (at_builtin; refine wpList_append_own _ rfl _ _ 30 rfl w.heap.size 35 i0 (.agg #[.int .i8 0, .int .i8 0]) 2 2 Try.underlying30 hi0 hz0 hz1 hz2 rfl (by decide) _ _ _ rfl (own.alloc _) ⟨w1.heap.size, 0, none⟩ 1 1 [.int .i8 k, .int .i8 T0] rfl rfl ?c1 ?c2 ?c3 ?c4 ?c5 ?_)
  case c1 => exact cell_two_new _ _ _ _
  case c2 => simp [Value.oneCell']
  case c3 => unfold maxLen; omega
  case c4 => omega
  case c5 => simp; omega
  intro v3 w3 own3 grow3 _
  obtain ⟨g3, cap3, rfl⟩ := ownsRow_succ own3
  simp only [Nat.zero_add] at own3
  have B3 : Below w.heap.size w w3 := (B1.alloc B1.size _).grown grow3 (by simp; omega) (by intro x hx; cases hx; exact (own.lt _ rfl).1)
  have q3 := brow' B3 hn hr
  have t3 : w3.cell? ⟨g3, 1, none⟩ = some (.int .i8 T0) := own3.cellAt 1 (by omega)
  have S3 := B3.size
  clear own B1 q1 grow3
  go_wp2_with fail
  rw [rounds_succ]
  go_wp2_with fail
  refine (l01Tile_any n c r k _ _ q3 hR (by omega) (by omega) (by omega)).mono ?_
  rintro e w4 ⟨rfl, rfl⟩
  rw [HT1.out]
  go_wp2_with (at_builtin; refine wpList_append_own _ rfl _ _ 30 rfl w.heap.size 35 i0 (.agg #[.int .i8 0, .int .i8 0]) 2 2 Try.underlying30 hi0 hz0 hz1 hz2 rfl (by decide) _ _ _ rfl (own3.alloc _) ⟨w3.heap.size, 0, none⟩ 1 1 [.int .i8 k, .int .i8 T1] rfl rfl ?c1 ?c2 ?c3 ?c4 ?c5 ?_)
  case c1 => exact cell_two_new _ _ _ _
  case c2 => simp [Value.oneCell']
  case c3 => unfold maxLen; omega
  case c4 => omega
  case c5 => simp; omega
  intro v5 w5 own5 grow5 _
  obtain ⟨g5, cap5, rfl⟩ := ownsRow_succ own5
  simp only [Nat.reduceAdd] at own5
  have B5 : Below w.heap.size w w5 := (B3.alloc B3.size _).grown grow5 (by simp; omega) (by intro x hx; cases hx; exact (own3.lt g3 rfl).1)
  clear own3 B3 q3 grow5 t3
  go_wp2_with fail
  rw [rounds_succ]
  go_wp2_with fail
  go_ret
  exact ⟨_, rfl, IsList.of_owns (k := k) (T := [T0, T1]) own5 rfl, B5⟩

set_option maxRecDepth 100000 in
set_option maxHeartbeats 1000000 in
theorem l01Laps_ft (n : Nat) (c : Array Value) (r : Rf) (i j k : Nat) (d : Int) (w : World) (hr : rowAt w n = some c) (hR : IsRoof c r) (ho : r.Ok) (hi : i < 8) (hj : j < 8) (hd : d = -1 ∨ d = 1) (hk : (k : Int) = i + d) (hkh : (k : Int) < r.h)
    (h0 : r.tile k (2 * j + r.by i) < 0) (h1 : 0 ≤ r.tile k (2 * j + r.by i + 1)) :
    Calls Try.prog 31 #[.pointer (some ⟨n, 0, none⟩), .agg #[.int .i8 i, .int .i8 j], .int .i8 d] w (GivesPl w 1 (plF k [r.tile k (2 * j + r.by i + 1)])) := by
  have hn := rowAt_lt hr
  have hcell := cell_of_rowAt hr
  have hw1 := ho.1
  have hw8 := ho.2.1
  have hh8 := ho.2.2.2.1
  obtain ⟨y0, y1⟩ := r.by_bd i
  have z0 := tile_lt (r := r) (k := k) (cell := 2 * j + r.by i) hw8
  have z1 := tile_lt (r := r) (k := k) (cell := 2 * j + r.by i + 1) hw8
  have hkd : (i : Int) + d = k := hk.symm
  obtain ⟨i0, hi0, hz0, hz1, hz2⟩ := info_parts A_infoPl
  clear hk
  have d0 : -1 ≤ d := by omega
  have d1 : d ≤ 1 := by omega
  have hlt : k < 8 := by omega
  clear hd
  go_enter Try.func31, Try.ntmps31
  go_wp2_with fail
  refine (l01Course_any n c r k _ ((rowAt_alloc_past _ _ _ (by simp; omega)).trans ((rowAt_alloc_past _ _ _ hn).trans hr)) hR).mono ?_
  rintro e w0 ⟨rfl, rfl⟩
  rw [inB_true (show 0 ≤ (k : Int) ∧ (k : Int) ≤ r.h - 1 by omega)]
  go_wp2_with fail
  refine (l01First_any n c r i j _ ((rowAt_alloc_past _ _ _ (by simp; omega)).trans ((rowAt_alloc_past _ _ _ hn).trans hr)) hR hi hj).mono ?_
  rintro e w1 ⟨rfl, b1⟩
  have q1 := brow b1 ((rowAt_alloc_past _ (.cells #[] 35) _ (by simp; omega)).trans ((rowAt_alloc_past _ (.cells #[.int .i8 i, .int .i8 j] 35) _ hn).trans hr))
  have own : w1.ownsRow w.heap.size 35 2 (.slice (some ⟨w.heap.size + 1, 0, none⟩) 0 0) 0 [] :=
    ⟨rfl, .inr ⟨_, 0, #[], rfl, by omega, (b1.block _ (by simp)).trans (heap_alloc_last _ _ _ (by simp)), Nat.le_refl _, Nat.zero_le _, rfl, rfl⟩⟩
  have B1 : Below w.heap.size w w1 := (((Below.refl _ _).alloc (Nat.le_refl _) _).alloc (by simp) _).trans (b1.mono (by simp; omega))
  have S1 := b1.size
  clear b1 hcell
  simp at S1
  generalize hT0 : r.tile k (2 * j + r.by i) = T0 at *
  generalize hT1 : r.tile k (2 * j + r.by i + 1) = T1 at *
  have HT0 := Lib.hid hT0
  have HT1 := Lib.hid hT1
  clear hT0 hT1
  go_wp2_with fail
  refine wp_loop_rounds 3 ?_
  rw [rounds_succ]
  go_wp2_with fail
  refine (l01Tile_any n c r k _ _ q1 hR (by omega) (by omega) (by omega)).mono ?_
  rintro e w2 ⟨rfl, rfl⟩
  rw [HT0.out]
  go_wp2_with fail
  rw [rounds_succ]
  go_wp2_with fail
  refine (l01Tile_any n c r k _ _ q1 hR (by omega) (by omega) (by omega)).mono ?_
  rintro e w4 ⟨rfl, rfl⟩
  rw [HT1.out]
  go_wp2_with (at_builtin; refine wpList_append_own _ rfl _ _ 30 rfl w.heap.size 35 i0 (.agg #[.int .i8 0, .int .i8 0]) 2 2 Try.underlying30 hi0 hz0 hz1 hz2 rfl (by decide) _ _ _ rfl (own.alloc _) ⟨w1.heap.size, 0, none⟩ 1 1 [.int .i8 k, .int .i8 T1] rfl rfl ?c1 ?c2 ?c3 ?c4 ?c5 ?_)
  case c1 => exact cell_two_new _ _ _ _
  case c2 => simp [Value.oneCell']
  case c3 => unfold maxLen; omega
  case c4 => omega
  case c5 => simp; omega
  intro v5 w5 own5 grow5 _
  obtain ⟨g5, cap5, rfl⟩ := ownsRow_succ own5
  simp only [Nat.zero_add] at own5
  have B5 : Below w.heap.size w w5 := (B1.alloc B1.size _).grown grow5 (by simp; omega) (by intro x hx; cases hx; exact (own.lt _ rfl).1)
  clear own B1 q1 grow5
  go_wp2_with fail
  rw [rounds_succ]
  go_wp2_with fail
  go_ret
  exact ⟨_, rfl, IsList.of_owns (k := k) (T := [T1]) own5 rfl, B5⟩

set_option maxRecDepth 100000 in
set_option maxHeartbeats 1000000 in
theorem l01Laps_tf (n : Nat) (c : Array Value) (r : Rf) (i j k : Nat) (d : Int) (w : World) (hr : rowAt w n = some c) (hR : IsRoof c r) (ho : r.Ok) (hi : i < 8) (hj : j < 8) (hd : d = -1 ∨ d = 1) (hk : (k : Int) = i + d) (hkh : (k : Int) < r.h)
    (h0 : 0 ≤ r.tile k (2 * j + r.by i)) (h1 : r.tile k (2 * j + r.by i + 1) < 0) :
    Calls Try.prog 31 #[.pointer (some ⟨n, 0, none⟩), .agg #[.int .i8 i, .int .i8 j], .int .i8 d] w (GivesPl w 1 (plF k [r.tile k (2 * j + r.by i)])) := by
  have hn := rowAt_lt hr
  have hcell := cell_of_rowAt hr
  have hw1 := ho.1
  have hw8 := ho.2.1
  have hh8 := ho.2.2.2.1
  obtain ⟨y0, y1⟩ := r.by_bd i
  have z0 := tile_lt (r := r) (k := k) (cell := 2 * j + r.by i) hw8
  have z1 := tile_lt (r := r) (k := k) (cell := 2 * j + r.by i + 1) hw8
  have hkd : (i : Int) + d = k := hk.symm
  obtain ⟨i0, hi0, hz0, hz1, hz2⟩ := info_parts A_infoPl
  clear hk
  have d0 : -1 ≤ d := by omega
  have d1 : d ≤ 1 := by omega
  have hlt : k < 8 := by omega
  clear hd
  go_enter Try.func31, Try.ntmps31
  go_wp2_with fail
  refine (l01Course_any n c r k _ ((rowAt_alloc_past _ _ _ (by simp; omega)).trans ((rowAt_alloc_past _ _ _ hn).trans hr)) hR).mono ?_
  rintro e w0 ⟨rfl, rfl⟩
  rw [inB_true (show 0 ≤ (k : Int) ∧ (k : Int) ≤ r.h - 1 by omega)]
  go_wp2_with fail
  refine (l01First_any n c r i j _ ((rowAt_alloc_past _ _ _ (by simp; omega)).trans ((rowAt_alloc_past _ _ _ hn).trans hr)) hR hi hj).mono ?_
  rintro e w1 ⟨rfl, b1⟩
  have q1 := brow b1 ((rowAt_alloc_past _ (.cells #[] 35) _ (by simp; omega)).trans ((rowAt_alloc_past _ (.cells #[.int .i8 i, .int .i8 j] 35) _ hn).trans hr))
  have own : w1.ownsRow w.heap.size 35 2 (.slice (some ⟨w.heap.size + 1, 0, none⟩) 0 0) 0 [] :=
    ⟨rfl, .inr ⟨_, 0, #[], rfl, by omega, (b1.block _ (by simp)).trans (heap_alloc_last _ _ _ (by simp)), Nat.le_refl _, Nat.zero_le _, rfl, rfl⟩⟩
  have B1 : Below w.heap.size w w1 := (((Below.refl _ _).alloc (Nat.le_refl _) _).alloc (by simp) _).trans (b1.mono (by simp; omega))
  have S1 := b1.size
  clear b1 hcell
  simp at S1
  generalize hT0 : r.tile k (2 * j + r.by i) = T0 at *
  generalize hT1 : r.tile k (2 * j + r.by i + 1) = T1 at *
  have HT0 := Lib.hid hT0
  have HT1 := Lib.hid hT1
  clear hT0 hT1
  go_wp2_with fail
  refine wp_loop_rounds 3 ?_
  rw [rounds_succ]
  go_wp2_with fail
  refine (l01Tile_any n c r k _ _ q1 hR (by omega) (by omega) (by omega)).mono ?_
  rintro e w2 ⟨rfl, rfl⟩
  rw [HT0.out]
  go_wp2_with (at_builtin; refine wpList_append_own _ rfl _ _ 30 rfl w.heap.size 35 i0 (.agg #[.int .i8 0, .int .i8 0]) 2 2 Try.underlying30 hi0 hz0 hz1 hz2 rfl (by decide) _ _ _ rfl (own.alloc _) ⟨w1.heap.size, 0, none⟩ 1 1 [.int .i8 k, .int .i8 T0] rfl rfl ?c1 ?c2 ?c3 ?c4 ?c5 ?_)
  case c1 => exact cell_two_new _ _ _ _
  case c2 => simp [Value.oneCell']
  case c3 => unfold maxLen; omega
  case c4 => omega
  case c5 => simp; omega
  intro v3 w3 own3 grow3 _
  obtain ⟨g3, cap3, rfl⟩ := ownsRow_succ own3
  simp only [Nat.zero_add] at own3
  have B3 : Below w.heap.size w w3 := (B1.alloc B1.size _).grown grow3 (by simp; omega) (by intro x hx; cases hx; exact (own.lt _ rfl).1)
  have q3 := brow' B3 hn hr
  have t3 : w3.cell? ⟨g3, 1, none⟩ = some (.int .i8 T0) := own3.cellAt 1 (by omega)
  have S3 := B3.size
  clear own B1 q1 grow3
  go_wp2_with fail
  rw [rounds_succ]
  go_wp2_with fail
  refine (l01Tile_any n c r k _ _ q3 hR (by omega) (by omega) (by omega)).mono ?_
  rintro e w4 ⟨rfl, rfl⟩
  rw [HT1.out]
  go_wp2_with fail
  rw [rounds_succ]
  go_wp2_with fail
  go_ret
  exact ⟨_, rfl, IsList.of_owns (k := k) (T := [T0]) own3 rfl, B3⟩

set_option maxRecDepth 100000 in
set_option maxHeartbeats 400000 in
theorem l01Laps_no (n : Nat) (c : Array Value) (r : Rf) (i j : Nat) (d : Int) (w : World) (hr : rowAt w n = some c) (hR : IsRoof c r) (hi : i < 8) (hd : d = -1 ∨ d = 1) (hk : ¬ (0 ≤ (i : Int) + d ∧ (i : Int) + d < r.h)) (f : Nat → Int) :
    Calls Try.prog 31 #[.pointer (some ⟨n, 0, none⟩), .agg #[.int .i8 i, .int .i8 j], .int .i8 d] w (GivesPl w 0 f) := by
  have hn := rowAt_lt hr
  have hin := inB_false (show ¬ (0 ≤ (i : Int) + d ∧ (i : Int) + d ≤ r.h - 1) by omega)
  have d0 : -1 ≤ d := by omega
  have d1 : d ≤ 1 := by omega
  clear hd
  go_enter Try.func31, Try.ntmps31
  go_wp2_with fail
  refine (l01Course_any n c r _ _ ((rowAt_alloc_past _ _ _ (by simp; omega)).trans ((rowAt_alloc_past _ _ _ hn).trans hr)) hR).mono ?_
  rintro e w0 ⟨rfl, rfl⟩
  rw [hin]
  go_wp2_with fail
  go_ret
  exact ⟨_, rfl, .inl ⟨rfl, _, _, rfl⟩, ((Below.refl _ _).alloc (Nat.le_refl _) _).alloc (by simp) _⟩
end Go.Proofs.Ytppohghejhcilaa

/- How tiles lap: the mathematics of a tile and those above and below it, and of half tiles. -/
namespace Go.Proofs.Ytppohghejhcilaa
open Go.RowKit

theorem Rf.laps_mem {r : Rf} {a b k t : Int} : t ∈ r.laps a b k ↔ (0 ≤ k ∧ k < r.h) ∧ (t = r.tile k (2 * b + r.by a) ∨ t = r.tile k (2 * b + r.by a + 1)) ∧ 0 ≤ t := by
  unfold Rf.laps
  split
  · rename_i h
    simp [h]
  · rename_i h
    simp [h]
theorem Rf.laps_le (r : Rf) (a b k : Int) : (r.laps a b k).length ≤ 2 := by
  unfold Rf.laps
  split
  · exact List.length_filter_le _ _
  · simp
theorem Rf.by_next (r : Rf) (a : Int) : r.by (a + 1) = 1 - r.by a := by unfold Rf.by; omega
theorem Rf.laps_out {r : Rf} {a b k : Int} (h : ¬ (0 ≤ k ∧ k < r.h)) : r.laps a b k = [] := if_neg h
theorem Rf.laps_some {r : Rf} {a b k : Int} (hk : 0 ≤ k ∧ k < r.h) (hw : 1 ≤ r.w) (hb : 0 ≤ b ∧ b < r.w) (hs : r.by k = 1 - r.by a) : (r.laps a b k).length ≠ 0 := by
  intro h
  have h1 : ∀ t, t ∉ r.laps a b k := by
    intro t ht
    rw [List.length_eq_zero_iff] at h
    rw [h] at ht
    cases ht
  have y := r.by_bd a
  have h2 := h1 (r.tile k (2 * b + r.by a))
  have h3 := h1 (r.tile k (2 * b + r.by a + 1))
  rw [Rf.laps_mem] at h2 h3
  have h4 : ¬ 0 ≤ r.tile k (2 * b + r.by a) := fun q => h2 ⟨hk, .inl rfl, q⟩
  have h5 : ¬ 0 ≤ r.tile k (2 * b + r.by a + 1) := fun q => h3 ⟨hk, .inr rfl, q⟩
  unfold Rf.tile at h4 h5
  rw [hs] at h4 h5
  split at h4 <;> split at h5 <;> omega
theorem Rf.laps_back {r : Rf} {a b t : Int} (ha : 0 ≤ a ∧ a < r.h) (hb : 0 ≤ b ∧ b < r.w) (ht : t ∈ r.laps a b (a + 1)) : b ∈ r.laps (a + 1) t a := by
  obtain ⟨_, hc, h0⟩ := Rf.laps_mem.1 ht
  refine Rf.laps_mem.2 ⟨ha, ?_, hb.1⟩
  have y := r.by_bd a
  rw [r.by_next]
  unfold Rf.tile at hc ⊢
  rw [r.by_next] at hc
  generalize r.by a = x at *
  rcases (show x = 0 ∨ x = 1 by omega) with rfl | rfl
  · rcases hc with hc | hc
    · right; split at hc <;> split <;> omega
    · left; split at hc <;> split <;> omega
  · rcases hc with hc | hc
    · right; split at hc <;> split <;> omega
    · left; split at hc <;> split <;> omega
theorem Rf.tile_own {r : Rf} {a b c : Int} (hb : 0 ≤ b ∧ b < r.w) (hc : c = 2 * b + r.by a ∨ c = 2 * b + r.by a + 1) : r.tile a c = b := by
  unfold Rf.tile
  rcases hc with rfl | rfl <;> split <;> omega
/-- How many half tiles there are ahead of a cell in a course. -/
def Rf.halfs (r : Rf) (k c : Int) : Int := if r.by k = 1 then (if 0 < c then 1 else 0) else (if 2 * r.w < c then 1 else 0)
theorem Rf.halfs_zero {r : Rf} {k : Int} (hw : 1 ≤ r.w) : r.halfs k 0 = 0 := by unfold Rf.halfs; split <;> split <;> omega
theorem Rf.halfs_end {r : Rf} {k : Int} (hw : 1 ≤ r.w) : r.halfs k (2 * r.w + 1) = 1 := by unfold Rf.halfs; split <;> split <;> omega
theorem Rf.halfs_hit {r : Rf} {k c : Int} (hw : 1 ≤ r.w) (hc : 0 ≤ c ∧ c ≤ 2 * r.w) (h : r.tile k c < 0) : r.halfs k (c + 1) = r.halfs k c + 1 ∧ (r.by k = 1 ↔ c = 0) := by
  have y := r.by_bd k
  unfold Rf.tile at h
  unfold Rf.halfs
  split at h
  · constructor
    · split <;> split <;> split <;> omega
    · omega
  · omega
theorem Rf.halfs_miss {r : Rf} {k c : Int} (hc : 0 ≤ c ∧ c ≤ 2 * r.w) (h : 0 ≤ r.tile k c) : r.halfs k (c + 1) = r.halfs k c := by
  have y := r.by_bd k
  unfold Rf.tile at h
  unfold Rf.halfs
  split at h
  · omega
  · split <;> split <;> split <;> omega
end Go.Proofs.Ytppohghejhcilaa

/- Contracts on the program's tiles of another course that have a cell in common with a tile. -/
namespace Go.Proofs.Ytppohghejhcilaa
open Go.RowKit

@[go_sem ↓] theorem index_i2 (v i : Value) : Instr.index 61 v i = indexWhole 61 v i := rfl
@[go_sem] theorem run_index_i2 (cs : Array Value) (w : World) (i : Int) (h0 : 0 ≤ i) (h1 : i < (2 : Nat)) (hm : cs.size = 2) :
    (indexWhole 61 (.agg cs) (.int .i64 i)).run Try.prog w = .ok (cs[i.toNat]'(by omega)) w := run_index_int Try.underlying61 Try.underlying2 (by kernel_rfl) cs w i h0 h1 hm

theorem ownsRow_below {w w' : World} {base : Nat} {e : TypeId} {size : Nat} {v : Value} {n : Nat} {xs : List Value} (h : w.ownsRow base e size v n xs) (b : Below w.heap.size w w') : w'.ownsRow base e size v n xs := by
  obtain ⟨hl, h | ⟨g, cap, cur, rfl, hg, hh, hr⟩⟩ := h
  · exact ⟨hl, .inl h⟩
  · exact ⟨hl, .inr ⟨g, cap, cur, rfl, hg, (b.block g (Array.getElem?_eq_some_iff.1 hh).1).trans hh, hr⟩⟩
theorem World.grownBy_row {w w' : World} {row : Option Nat} (h : w.grownBy w' row) {n : Nat} (hn : n < w.heap.size) (hr : ∀ x, row = some x → n ≠ x) : rowAt w' n = rowAt w n :=
  by simp [rowAt, h.block n hn (fun e => hr n e.symm rfl)]

set_option maxRecDepth 100000 in
set_option maxHeartbeats 1000000 in
theorem meeting_tt (c : Array Value) (r : Rf) (i j k : Nat) (w : World) (hR : IsRoof c r) (ho : r.Ok) (hi : i < 8) (hj : j < 8) (hjw : (j : Int) < r.w) (hkh : (k : Int) < r.h)
    (h0 : 0 ≤ r.tile k (2 * j + r.by i)) (h1 : 0 ≤ r.tile k (2 * j + r.by i + 1)) :
    Calls Try.prog 57 #[.agg c, .agg #[.int .i8 i, .int .i8 j], .int .i8 k] w (GivesPl w 2 (plF k [r.tile k (2 * j + r.by i), r.tile k (2 * j + r.by i + 1)])) := by
  obtain ⟨hc, k0, k1, k2, v0, v1, g0, g1, s0, s1⟩ := hR.view
  clear k0 k2
  have hw1 := ho.1
  have hw8 := ho.2.1
  have hh8 := ho.2.2.2.1
  obtain ⟨y0, y1⟩ := r.by_bd i
  have z0 := tile_lt (r := r) (k := k) (cell := 2 * j + r.by i) hw8
  have z1 := tile_lt (r := r) (k := k) (cell := 2 * j + r.by i + 1) hw8
  obtain ⟨i0, hi0, hz0, hz1, hz2⟩ := info_parts A_infoPl
  have hlt : k < 8 := by omega
  generalize hT0 : r.tile k (2 * j + r.by i) = T0 at *
  generalize hT1 : r.tile k (2 * j + r.by i + 1) = T1 at *
  have HT0 := Lib.hid hT0
  have HT1 := Lib.hid hT1
  clear hT0 hT1
  go_enter Try.func57, Try.ntmps57
  go_wp2_with fail
  refine (cells_any c r i j _ hR hi hj).mono ?_
  rintro e w1 ⟨rfl, b1⟩
  have q1 := brow b1 ((rowAt_alloc_past _ (.cells #[.int .i8 i, .int .i8 j] 35) _ (by simp)).trans (rowAt_alloc_at w c 28 _ rfl))
  have B1 : Below w.heap.size w w1 := (((Below.refl _ _).alloc (Nat.le_refl _) _).alloc (by simp) _).trans (b1.mono (by simp; omega))
  clear b1
  go_wp2_with fail
  refine wp_loop_rounds 3 ?_
  rw [rounds_succ]
  go_wp2_with fail
  refine (tileAt_any c r k _ _ hR (by omega) (by omega) (by omega)).mono ?_
  rintro e w2 ⟨rfl, b2⟩
  rw [HT0.out]
  have q2 := brow b2 q1
  have B2 := bnext B1 b2 B1.size
  clear b2 q1 B1
  go_wp2_with (at_builtin; refine wpList_append_own _ rfl _ _ 30 rfl w.heap.size 35 i0 (.agg #[.int .i8 0, .int .i8 0]) 2 2 Try.underlying30 hi0 hz0 hz1 hz2 rfl (by decide) _ _ _ rfl (World.ownsRow_nil _ _ _ _) ⟨w2.heap.size, 0, none⟩ 1 1 [.int .i8 k, .int .i8 T0] rfl rfl ?c1 ?c2 ?c3 ?c4 ?c5 ?_)
  case c1 => exact cell_two_new _ _ _ _
  case c2 => simp [Value.oneCell']
  case c3 => unfold maxLen; omega
  case c4 => omega
  case c5 => have := B2.size; simp; omega
  intro v3 w3 own3 grow3 _
  obtain ⟨g3, cap3, rfl⟩ := ownsRow_succ own3
  simp only [Nat.zero_add] at own3
  have B3 : Below w.heap.size w w3 := (B2.alloc B2.size _).grown grow3 (by have := B2.size; simp; omega) (by intro x hx; cases hx)
  have q3 := (World.grownBy_row grow3 (by have := rowAt_lt q2; simp; omega) (by intro x hx; cases hx)).trans ((rowAt_alloc_past _ _ _ (rowAt_lt q2)).trans q2)
  clear B2 q2 grow3
  go_wp2_with fail
  rw [rounds_succ]
  go_wp2_with fail
  refine (tileAt_any c r k _ _ hR (by omega) (by omega) (by omega)).mono ?_
  rintro e w4 ⟨rfl, b4⟩
  rw [HT1.out]
  have B4 := bnext B3 b4 B3.size
  have own4 := ownsRow_below own3 b4
  clear own3
  clear b4 q3 B3
  go_wp2_with (at_builtin; refine wpList_append_own _ rfl _ _ 30 rfl w.heap.size 35 i0 (.agg #[.int .i8 0, .int .i8 0]) 2 2 Try.underlying30 hi0 hz0 hz1 hz2 rfl (by decide) _ _ _ rfl (own4.alloc _) ⟨w4.heap.size, 0, none⟩ 1 1 [.int .i8 k, .int .i8 T1] rfl rfl ?c1 ?c2 ?c3 ?c4 ?c5 ?_)
  case c1 => exact cell_two_new _ _ _ _
  case c2 => simp [Value.oneCell']
  case c3 => unfold maxLen; omega
  case c4 => omega
  case c5 => have := B4.size; simp; omega
  intro v5 w5 own5 grow5 _
  obtain ⟨g5, cap5, rfl⟩ := ownsRow_succ own5
  simp only [Nat.reduceAdd] at own5
  have B5 : Below w.heap.size w w5 := (B4.alloc B4.size _).grown grow5 (by have := B4.size; simp; omega) (by intro x hx; cases hx; exact (own4.lt g3 rfl).1)
  go_wp2_with fail
  rw [rounds_succ]
  go_wp2_with fail
  go_ret
  exact ⟨_, rfl, IsList.of_owns (k := k) (T := [T0, T1]) own5 rfl, B5⟩

set_option maxRecDepth 100000 in
set_option maxHeartbeats 1000000 in
theorem meeting_ft (c : Array Value) (r : Rf) (i j k : Nat) (w : World) (hR : IsRoof c r) (ho : r.Ok) (hi : i < 8) (hj : j < 8) (hjw : (j : Int) < r.w) (hkh : (k : Int) < r.h)
    (h0 : r.tile k (2 * j + r.by i) < 0) (h1 : 0 ≤ r.tile k (2 * j + r.by i + 1)) :
    Calls Try.prog 57 #[.agg c, .agg #[.int .i8 i, .int .i8 j], .int .i8 k] w (GivesPl w 1 (plF k [r.tile k (2 * j + r.by i + 1)])) := by
  obtain ⟨hc, k0, k1, k2, v0, v1, g0, g1, s0, s1⟩ := hR.view
  clear k0 k2
  have hw1 := ho.1
  have hw8 := ho.2.1
  have hh8 := ho.2.2.2.1
  obtain ⟨y0, y1⟩ := r.by_bd i
  have z0 := tile_lt (r := r) (k := k) (cell := 2 * j + r.by i) hw8
  have z1 := tile_lt (r := r) (k := k) (cell := 2 * j + r.by i + 1) hw8
  obtain ⟨i0, hi0, hz0, hz1, hz2⟩ := info_parts A_infoPl
  have hlt : k < 8 := by omega
  generalize hT0 : r.tile k (2 * j + r.by i) = T0 at *
  generalize hT1 : r.tile k (2 * j + r.by i + 1) = T1 at *
  have HT0 := Lib.hid hT0
  have HT1 := Lib.hid hT1
  clear hT0 hT1
  go_enter Try.func57, Try.ntmps57
  go_wp2_with fail
  refine (cells_any c r i j _ hR hi hj).mono ?_
  rintro e w1 ⟨rfl, b1⟩
  have q1 := brow b1 ((rowAt_alloc_past _ (.cells #[.int .i8 i, .int .i8 j] 35) _ (by simp)).trans (rowAt_alloc_at w c 28 _ rfl))
  have B1 : Below w.heap.size w w1 := (((Below.refl _ _).alloc (Nat.le_refl _) _).alloc (by simp) _).trans (b1.mono (by simp; omega))
  clear b1
  go_wp2_with fail
  refine wp_loop_rounds 3 ?_
  rw [rounds_succ]
  go_wp2_with fail
  refine (tileAt_any c r k _ _ hR (by omega) (by omega) (by omega)).mono ?_
  rintro e w2 ⟨rfl, b2⟩
  rw [HT0.out]
  have q2 := brow b2 q1
  have B2 := bnext B1 b2 B1.size
  clear b2 q1 B1
  go_wp2_with fail
  rw [rounds_succ]
  go_wp2_with fail
  refine (tileAt_any c r k _ _ hR (by omega) (by omega) (by omega)).mono ?_
  rintro e w4 ⟨rfl, b4⟩
  rw [HT1.out]
  have B4 := bnext B2 b4 B2.size
  clear b4 q2 B2
  go_wp2_with (at_builtin; refine wpList_append_own _ rfl _ _ 30 rfl w.heap.size 35 i0 (.agg #[.int .i8 0, .int .i8 0]) 2 2 Try.underlying30 hi0 hz0 hz1 hz2 rfl (by decide) _ _ _ rfl (World.ownsRow_nil _ _ _ _) ⟨w4.heap.size, 0, none⟩ 1 1 [.int .i8 k, .int .i8 T1] rfl rfl ?c1 ?c2 ?c3 ?c4 ?c5 ?_)
  case c1 => exact cell_two_new _ _ _ _
  case c2 => simp [Value.oneCell']
  case c3 => unfold maxLen; omega
  case c4 => omega
  case c5 => have := B4.size; simp; omega
  intro v5 w5 own5 grow5 _
  obtain ⟨g5, cap5, rfl⟩ := ownsRow_succ own5
  simp only [Nat.zero_add] at own5
  have B5 : Below w.heap.size w w5 := (B4.alloc B4.size _).grown grow5 (by have := B4.size; simp; omega) (by intro x hx; cases hx)
  go_wp2_with fail
  rw [rounds_succ]
  go_wp2_with fail
  go_ret
  exact ⟨_, rfl, IsList.of_owns (k := k) (T := [T1]) own5 rfl, B5⟩

set_option maxRecDepth 100000 in
set_option maxHeartbeats 1000000 in
theorem meeting_tf (c : Array Value) (r : Rf) (i j k : Nat) (w : World) (hR : IsRoof c r) (ho : r.Ok) (hi : i < 8) (hj : j < 8) (hjw : (j : Int) < r.w) (hkh : (k : Int) < r.h)
    (h0 : 0 ≤ r.tile k (2 * j + r.by i)) (h1 : r.tile k (2 * j + r.by i + 1) < 0) :
    Calls Try.prog 57 #[.agg c, .agg #[.int .i8 i, .int .i8 j], .int .i8 k] w (GivesPl w 1 (plF k [r.tile k (2 * j + r.by i)])) := by
  obtain ⟨hc, k0, k1, k2, v0, v1, g0, g1, s0, s1⟩ := hR.view
  clear k0 k2
  have hw1 := ho.1
  have hw8 := ho.2.1
  have hh8 := ho.2.2.2.1
  obtain ⟨y0, y1⟩ := r.by_bd i
  have z0 := tile_lt (r := r) (k := k) (cell := 2 * j + r.by i) hw8
  have z1 := tile_lt (r := r) (k := k) (cell := 2 * j + r.by i + 1) hw8
  obtain ⟨i0, hi0, hz0, hz1, hz2⟩ := info_parts A_infoPl
  have hlt : k < 8 := by omega
  generalize hT0 : r.tile k (2 * j + r.by i) = T0 at *
  generalize hT1 : r.tile k (2 * j + r.by i + 1) = T1 at *
  have HT0 := Lib.hid hT0
  have HT1 := Lib.hid hT1
  clear hT0 hT1
  go_enter Try.func57, Try.ntmps57
  go_wp2_with fail
  refine (cells_any c r i j _ hR hi hj).mono ?_
  rintro e w1 ⟨rfl, b1⟩
  have q1 := brow b1 ((rowAt_alloc_past _ (.cells #[.int .i8 i, .int .i8 j] 35) _ (by simp)).trans (rowAt_alloc_at w c 28 _ rfl))
  have B1 : Below w.heap.size w w1 := (((Below.refl _ _).alloc (Nat.le_refl _) _).alloc (by simp) _).trans (b1.mono (by simp; omega))
  clear b1
  go_wp2_with fail
  refine wp_loop_rounds 3 ?_
  rw [rounds_succ]
  go_wp2_with fail
  refine (tileAt_any c r k _ _ hR (by omega) (by omega) (by omega)).mono ?_
  rintro e w2 ⟨rfl, b2⟩
  rw [HT0.out]
  have q2 := brow b2 q1
  have B2 := bnext B1 b2 B1.size
  clear b2 q1 B1
  go_wp2_with (at_builtin; refine wpList_append_own _ rfl _ _ 30 rfl w.heap.size 35 i0 (.agg #[.int .i8 0, .int .i8 0]) 2 2 Try.underlying30 hi0 hz0 hz1 hz2 rfl (by decide) _ _ _ rfl (World.ownsRow_nil _ _ _ _) ⟨w2.heap.size, 0, none⟩ 1 1 [.int .i8 k, .int .i8 T0] rfl rfl ?c1 ?c2 ?c3 ?c4 ?c5 ?_)
  case c1 => exact cell_two_new _ _ _ _
  case c2 => simp [Value.oneCell']
  case c3 => unfold maxLen; omega
  case c4 => omega
  case c5 => have := B2.size; simp; omega
  intro v3 w3 own3 grow3 _
  obtain ⟨g3, cap3, rfl⟩ := ownsRow_succ own3
  simp only [Nat.zero_add] at own3
  have B3 : Below w.heap.size w w3 := (B2.alloc B2.size _).grown grow3 (by have := B2.size; simp; omega) (by intro x hx; cases hx)
  have q3 := (World.grownBy_row grow3 (by have := rowAt_lt q2; simp; omega) (by intro x hx; cases hx)).trans ((rowAt_alloc_past _ _ _ (rowAt_lt q2)).trans q2)
  clear B2 q2 grow3
  go_wp2_with fail
  rw [rounds_succ]
  go_wp2_with fail
  refine (tileAt_any c r k _ _ hR (by omega) (by omega) (by omega)).mono ?_
  rintro e w4 ⟨rfl, b4⟩
  rw [HT1.out]
  have B4 := bnext B3 b4 B3.size
  have own4 := ownsRow_below own3 b4
  clear own3
  clear b4 q3 B3
  go_wp2_with fail
  rw [rounds_succ]
  go_wp2_with fail
  go_ret
  exact ⟨_, rfl, IsList.of_owns (k := k) (T := [T0]) own4 rfl, B4⟩

set_option maxRecDepth 100000 in
set_option maxHeartbeats 400000 in
theorem meeting_no (c : Array Value) (r : Rf) (i j : Nat) (d : Int) (w : World) (hR : IsRoof c r) (hd : -128 ≤ d ∧ d ≤ 127) (hk : ¬ (0 ≤ d ∧ d < r.h)) (f : Nat → Int) :
    Calls Try.prog 57 #[.agg c, .agg #[.int .i8 i, .int .i8 j], .int .i8 d] w (GivesPl w 0 f) := by
  obtain ⟨hc, k0, k1, k2, v0, v1, g0, g1, s0, s1⟩ := hR.view
  clear k0 k2
  by_cases x0 : d < 0
  · go_enter Try.func57, Try.ntmps57
    go_wp2_with fail
    go_ret
    exact ⟨_, rfl, .inl ⟨rfl, _, _, rfl⟩, ((Below.refl _ _).alloc (Nat.le_refl _) _).alloc (by simp) _⟩
  · have x1 : r.h ≤ d := by omega
    go_enter Try.func57, Try.ntmps57
    go_wp2_with fail
    go_ret
    exact ⟨_, rfl, .inl ⟨rfl, _, _, rfl⟩, ((Below.refl _ _).alloc (Nat.le_refl _) _).alloc (by simp) _⟩

theorem both_none {r : Rf} {i j k : Nat} (hw : 1 ≤ r.w) (hj : (j : Int) < r.w) (h0 : r.tile k (2 * j + r.by i) < 0) (h1 : r.tile k (2 * j + r.by i + 1) < 0) : False := by
  obtain ⟨a0, a1⟩ := r.by_bd i
  obtain ⟨b0, b1⟩ := r.by_bd k
  unfold Rf.tile at h0 h1
  split at h0 <;> split at h1 <;> omega

theorem meeting_any (c : Array Value) (r : Rf) (i j : Nat) (k : Int) (w : World) (hR : IsRoof c r) (ho : r.Ok) (hi : i < 8) (hj : j < 8) (hjw : (j : Int) < r.w) (hd : -128 ≤ k ∧ k ≤ 127) :
    Calls Try.prog 57 #[.agg c, .agg #[.int .i8 i, .int .i8 j], .int .i8 k] w (GivesPl w (r.laps i j k).length (plF k (r.laps i j k))) := by
  by_cases hk : 0 ≤ k ∧ k < r.h
  · obtain ⟨m, rfl⟩ := Int.eq_ofNat_of_zero_le hk.1
    by_cases h0 : 0 ≤ r.tile m (2 * j + r.by i)
    · by_cases h1 : 0 ≤ r.tile m (2 * j + r.by i + 1)
      · rw [show r.laps i j m = [r.tile m (2 * j + r.by i), r.tile m (2 * j + r.by i + 1)] from by simp [Rf.laps, hk.2, h0, h1]]
        exact meeting_tt c r i j m w hR ho hi hj hjw hk.2 h0 h1
      · rw [show r.laps i j m = [r.tile m (2 * j + r.by i)] from by simp [Rf.laps, hk.2, h0, h1]]
        exact meeting_tf c r i j m w hR ho hi hj hjw hk.2 h0 (by omega)
    · by_cases h1 : 0 ≤ r.tile m (2 * j + r.by i + 1)
      · rw [show r.laps i j m = [r.tile m (2 * j + r.by i + 1)] from by simp [Rf.laps, hk.2, h0, h1]]
        exact meeting_ft c r i j m w hR ho hi hj hjw hk.2 (by omega) h1
      · exact (both_none (i := i) (j := j) (k := m) ho.1 hjw (by omega) (by omega)).elim
  · rw [show r.laps i j k = [] from by simp only [Rf.laps, if_neg hk]]
    exact meeting_no c r i j k w hR hd hk _

theorem l01Laps_any (n : Nat) (c : Array Value) (r : Rf) (i j : Nat) (d : Int) (w : World) (hr : rowAt w n = some c) (hR : IsRoof c r) (ho : r.Ok) (hi : i < 8) (hj : j < 8) (hjw : (j : Int) < r.w) (hd : d = -1 ∨ d = 1) :
    Calls Try.prog 31 #[.pointer (some ⟨n, 0, none⟩), .agg #[.int .i8 i, .int .i8 j], .int .i8 d] w (GivesPl w (r.laps i j (i + d)).length (plF (i + d) (r.laps i j (i + d)))) := by
  by_cases hk : 0 ≤ (i : Int) + d ∧ (i : Int) + d < r.h
  · obtain ⟨m, hm⟩ := Int.eq_ofNat_of_zero_le hk.1
    rw [hm] at hk ⊢
    by_cases h0 : 0 ≤ r.tile m (2 * j + r.by i)
    · by_cases h1 : 0 ≤ r.tile m (2 * j + r.by i + 1)
      · rw [show r.laps i j m = [r.tile m (2 * j + r.by i), r.tile m (2 * j + r.by i + 1)] from by simp [Rf.laps, hk.2, h0, h1]]
        exact l01Laps_tt n c r i j m d w hr hR ho hi hj hd hm.symm hk.2 h0 h1
      · rw [show r.laps i j m = [r.tile m (2 * j + r.by i)] from by simp [Rf.laps, hk.2, h0, h1]]
        exact l01Laps_tf n c r i j m d w hr hR ho hi hj hd hm.symm hk.2 h0 (by omega)
    · by_cases h1 : 0 ≤ r.tile m (2 * j + r.by i + 1)
      · rw [show r.laps i j m = [r.tile m (2 * j + r.by i + 1)] from by simp [Rf.laps, hk.2, h0, h1]]
        exact l01Laps_ft n c r i j m d w hr hR ho hi hj hd hm.symm hk.2 (by omega) h1
      · exact (both_none (i := i) (j := j) (k := m) ho.1 hjw (by omega) (by omega)).elim
  · rw [show r.laps i j (i + d) = [] from by simp only [Rf.laps, if_neg hk]]
    exact l01Laps_no n c r i j d w hr hR hi hd hk _

set_option maxRecDepth 100000 in
set_option maxHeartbeats 400000 in
theorem above_any (c : Array Value) (r : Rf) (i j : Nat) (w : World) (hR : IsRoof c r) (ho : r.Ok) (hi : i < 8) (hj : j < 8) (hjw : (j : Int) < r.w) :
    Calls Try.prog 29 #[.agg c, .agg #[.int .i8 i, .int .i8 j]] w (GivesPl w (r.laps i j (i - 1)).length (plF (i - 1) (r.laps i j (i - 1)))) := by
  have hc := hR.size
  have i0 : 0 ≤ (i : Int) := by omega
  have i1 : (i : Int) < 8 := by omega
  go_enter Try.func29, Try.ntmps29
  go_wp2_with fail
  refine (meeting_any c r i j _ _ hR ho hi hj hjw (by omega)).mono ?_
  rintro e w1 ⟨v, rfl, l1, b1⟩
  have B1 : Below w.heap.size w w1 := (((Below.refl _ _).alloc (Nat.le_refl _) _).alloc (by simp) _).trans (b1.mono (by simp; omega))
  replace l1 := l1.mono (show w.heap.size ≤ _ by simp; omega)
  clear b1
  go_wp2_with fail
  go_ret
  exact ⟨_, rfl, l1, B1⟩

set_option maxRecDepth 100000 in
set_option maxHeartbeats 400000 in
theorem below_any (c : Array Value) (r : Rf) (i j : Nat) (w : World) (hR : IsRoof c r) (ho : r.Ok) (hi : i < 8) (hj : j < 8) (hjw : (j : Int) < r.w) :
    Calls Try.prog 32 #[.agg c, .agg #[.int .i8 i, .int .i8 j]] w (GivesPl w (r.laps i j (i + 1)).length (plF (i + 1) (r.laps i j (i + 1)))) := by
  have hc := hR.size
  have i0 : 0 ≤ (i : Int) := by omega
  have i1 : (i : Int) < 8 := by omega
  go_enter Try.func32, Try.ntmps32
  go_wp2_with fail
  refine (meeting_any c r i j _ _ hR ho hi hj hjw (by omega)).mono ?_
  rintro e w1 ⟨v, rfl, l1, b1⟩
  have B1 : Below w.heap.size w w1 := (((Below.refl _ _).alloc (Nat.le_refl _) _).alloc (by simp) _).trans (b1.mono (by simp; omega))
  replace l1 := l1.mono (show w.heap.size ≤ _ by simp; omega)
  clear b1
  go_wp2_with fail
  go_ret
  exact ⟨_, rfl, l1, B1⟩
end Go.Proofs.Ytppohghejhcilaa

/- What the walk of a region that makes memory keeps: a roof's row, a place's row, and one fact more. -/
namespace Go.Proofs.Ytppohghejhcilaa
open Go.RowKit
theorem heldN {B N n m : Nat} {w W : World} {c : Array Value} {x y : Value} {X : Prop}
    (h : rowAt W n = some c ∧ (W.cell? ⟨m, 0, none⟩ = some x ∧ W.cell? ⟨m, 1, none⟩ = some y) ∧ rowAt W m = some #[x, y] ∧ Below B w W ∧ B ≤ W.heap.size ∧ N ≤ W.heap.size ∧ X) : N ≤ W.heap.size := h.2.2.2.2.2.1
theorem heldX {B N n m : Nat} {w W w1 : World} {c : Array Value} {x y : Value} {X X' : Prop} (b : Below W.heap.size W w1) (hX : X → X')
    (h : rowAt W n = some c ∧ (W.cell? ⟨m, 0, none⟩ = some x ∧ W.cell? ⟨m, 1, none⟩ = some y) ∧ rowAt W m = some #[x, y] ∧ Below B w W ∧ B ≤ W.heap.size ∧ N ≤ W.heap.size ∧ X) :
    rowAt w1 n = some c ∧ (w1.cell? ⟨m, 0, none⟩ = some x ∧ w1.cell? ⟨m, 1, none⟩ = some y) ∧ rowAt w1 m = some #[x, y] ∧ Below B w w1 ∧ B ≤ w1.heap.size ∧ N ≤ w1.heap.size ∧ X' :=
  have q := brow b h.2.2.1
  ⟨brow b h.1, ⟨by rw [cell_of_rowAt q]; rfl, by rw [cell_of_rowAt q]; rfl⟩, q, bnext h.2.2.2.1 b h.2.2.2.2.1, Nat.le_trans h.2.2.2.2.1 b.size, Nat.le_trans h.2.2.2.2.2.1 b.size, hX h.2.2.2.2.2.2⟩
theorem held0 {B N n m : Nat} {w W : World} {c : Array Value} {x y : Value} {X : Prop} (h0 : rowAt W n = some c) (h1 : rowAt W m = some #[x, y]) (hB : Below B w W) (hs : B ≤ W.heap.size) (hN : N ≤ W.heap.size) (hX : X) :
    rowAt W.drew n = some c ∧ (W.drew.cell? ⟨m, 0, none⟩ = some x ∧ W.drew.cell? ⟨m, 1, none⟩ = some y) ∧ rowAt W.drew m = some #[x, y] ∧ Below B w W.drew ∧ B ≤ W.drew.heap.size ∧ N ≤ W.drew.heap.size ∧ X :=
  ⟨h0, ⟨(cell_of_rowAt h1 0).trans rfl, (cell_of_rowAt h1 1).trans rfl⟩, h1, hB.drew, hs, hN, hX⟩

theorem IsList.kept2 {w w' : World} {base B sz n : Nat} {v : Value} {f : Nat → Value} (h : IsList w base v sz n f) (hb : Below B w w') (hl : n = 0 ∨ ∀ g o cap, v = .slice (some ⟨g, o, none⟩) n cap → g < B) : IsList w' base v sz n f := by
  rcases hl with rfl | hl
  · obtain ⟨a, cap, rfl⟩ := h.shape
    exact .inl ⟨rfl, a, cap, rfl⟩
  · exact h.kept hb hl
theorem heldL {B N n m : Nat} {w W w1 : World} {c : Array Value} {x y : Value} {b0 sz k : Nat} {v : Value} {f : Nat → Value} (b : Below W.heap.size W w1)
    (h : rowAt W n = some c ∧ (W.cell? ⟨m, 0, none⟩ = some x ∧ W.cell? ⟨m, 1, none⟩ = some y) ∧ rowAt W m = some #[x, y] ∧ Below B w W ∧ B ≤ W.heap.size ∧ N ≤ W.heap.size ∧ IsList W b0 v sz k f) :
    rowAt w1 n = some c ∧ (w1.cell? ⟨m, 0, none⟩ = some x ∧ w1.cell? ⟨m, 1, none⟩ = some y) ∧ rowAt w1 m = some #[x, y] ∧ Below B w w1 ∧ B ≤ w1.heap.size ∧ N ≤ w1.heap.size ∧ IsList w1 b0 v sz k f :=
  heldX b (fun l => l.below b (Nat.le_refl _)) h
theorem heldLL {B N n m : Nat} {w W w1 : World} {c : Array Value} {x y : Value} {b0 sz k : Nat} {v : Value} {f : Nat → Value} {b0' sz' k' : Nat} {v' : Value} {f' : Nat → Value} (b : Below W.heap.size W w1)
    (h : rowAt W n = some c ∧ (W.cell? ⟨m, 0, none⟩ = some x ∧ W.cell? ⟨m, 1, none⟩ = some y) ∧ rowAt W m = some #[x, y] ∧ Below B w W ∧ B ≤ W.heap.size ∧ N ≤ W.heap.size ∧ IsList W b0 v sz k f ∧ IsList W b0' v' sz' k' f') :
    rowAt w1 n = some c ∧ (w1.cell? ⟨m, 0, none⟩ = some x ∧ w1.cell? ⟨m, 1, none⟩ = some y) ∧ rowAt w1 m = some #[x, y] ∧ Below B w w1 ∧ B ≤ w1.heap.size ∧ N ≤ w1.heap.size ∧ IsList w1 b0 v sz k f ∧ IsList w1 b0' v' sz' k' f' :=
  heldX b (fun l => ⟨l.1.below b (Nat.le_refl _), l.2.below b (Nat.le_refl _)⟩) h
/-- Behind a call that writes into blocks from N on alone. -/
theorem heldM {B N n m : Nat} {w W w1 : World} {c : Array Value} {x y : Value} {X X' : Prop} (b : Below N W w1) (hn : n < N) (hm : m < N) (hBN : B ≤ N) (hX : X → X')
    (h : rowAt W n = some c ∧ (W.cell? ⟨m, 0, none⟩ = some x ∧ W.cell? ⟨m, 1, none⟩ = some y) ∧ rowAt W m = some #[x, y] ∧ Below B w W ∧ B ≤ W.heap.size ∧ N ≤ W.heap.size ∧ X) :
    rowAt w1 n = some c ∧ (w1.cell? ⟨m, 0, none⟩ = some x ∧ w1.cell? ⟨m, 1, none⟩ = some y) ∧ rowAt w1 m = some #[x, y] ∧ Below B w w1 ∧ B ≤ w1.heap.size ∧ N ≤ w1.heap.size ∧ X' :=
  have q := brow' b hm h.2.2.1
  ⟨brow' b hn h.1, ⟨by rw [cell_of_rowAt q]; rfl, by rw [cell_of_rowAt q]; rfl⟩, q, h.2.2.2.1.trans (b.mono hBN), Nat.le_trans h.2.2.2.2.1 b.size, Nat.le_trans h.2.2.2.2.2.1 b.size, hX h.2.2.2.2.2.2⟩
end Go.Proofs.Ytppohghejhcilaa

/- Both sides of the tiles above and below a tile. -/
namespace Go.Proofs.Ytppohghejhcilaa
open Go.RowKit

noncomputable def abN (r : Rf) (a b : Int) : Nat := if r.ask a b true = 0 then (r.laps a b (a - 1)).length else 0
noncomputable def abF (r : Rf) (a b : Int) : Nat → Int := plF (a - 1) (r.laps a b (a - 1))
theorem abN_le (r : Rf) (a b : Int) : abN r a b ≤ 1000000 := by
  have : (r.laps a b (a - 1)).length ≤ 2 := by
    unfold Rf.laps
    split
    · exact List.length_filter_le _ _
    · simp
  unfold abN; split <;> omega
/-- What a call that makes a list of places ends with. -/
def GivesPls (w : World) (n : Nat) (f : Nat → Int) (code : Int) (e : Ending) (w' : World) : Prop :=
  ∃ v, e = .returned (.tuple #[v, .int .i64 code]) ∧ IsList w' w.heap.size v 2 n (fun i => .int .i8 (f i)) ∧ Below w.heap.size w w'

set_option maxHeartbeats 400000 in
theorem specAboveOf_any (c : Array Value) (r : Rf) (a b : Int) (w : World) (hR : IsRoof c r) (ha : -128 ≤ a ∧ a ≤ 127) (hb : -128 ≤ b ∧ b ≤ 127) :
    Calls Try.prog 8 #[.agg c, .agg #[.int .i8 a, .int .i8 b]] w (GivesPls w (abN r a b) (abF r a b) (r.ask a b true)) := by
  have hc := hR.size
  by_cases hk : r.ask a b true = 0
  · obtain ⟨ho, hp, _⟩ := Rf.ask_zero hk
    obtain ⟨i, hi⟩ := Int.eq_ofNat_of_zero_le hp.1
    obtain ⟨j, hj⟩ := Int.eq_ofNat_of_zero_le hp.2.2.1
    have hka : abN r a b = (r.laps a b (a - 1)).length := by unfold abN; rw [if_pos hk]
    rw [hka]
    unfold abF
    clear hka
    subst hi hj
    have hi8 : i < 8 := by have := ho.2.2.2.1; omega
    have hj8 : j < 8 := by have := ho.2.1; omega
    have hjw : (j : Int) < r.w := hp.2.2.2
    have hb1 : (r.ask i j true != 0) = false := by simp [hk]
    have HK := Lib.hid hk
    clear hk
    go_enter Try.func8, Try.ntmps8
    go_wp2_with fail
    refine (l01Asked_any w.heap.size c r _ _ true _ ((rowAt_alloc_past _ _ _ (by simp)).trans (rowAt_alloc_at w c 28 _ rfl)) hR ha hb).mono ?_
    rintro e w1 ⟨rfl, b1⟩
    have q1 := brow b1 ((rowAt_alloc_past _ (.cells #[.int .i8 i, .int .i8 j] 35) _ (by simp)).trans (rowAt_alloc_at w c 28 _ rfl))
    obtain ⟨v1, v2, v3, v4⟩ := bview b1
    have B1 : Below w.heap.size w w1 := (((Below.refl _ _).alloc (Nat.le_refl _) _).alloc (by simp) _).trans (b1.mono (by simp; omega))
    clear b1
    go_wp2_with fail
    refine (l01Laps_any w.heap.size c r i j (-1) _ q1 hR ho hi8 hj8 hjw (by omega)).mono ?_
    rintro e w2 ⟨v, rfl, l2, b2⟩
    replace l2 := l2.mono B1.size
    have B2 := bnext B1 b2 B1.size
    clear b2 v1 v2 v3 v4
    go_wp2_with fail
    go_ret2
    rw [HK.out]
    exact ⟨_, rfl, l2, B2⟩
  · have hka : abN r a b = 0 := by unfold abN; rw [if_neg hk]
    rw [hka]
    have hb1 : (r.ask a b true != 0) = true := by simp [hk]
    clear hk hka
    go_enter Try.func8, Try.ntmps8
    go_wp2_with fail
    refine (l01Asked_any w.heap.size c r a b true _ ((rowAt_alloc_past _ _ _ (by simp)).trans (rowAt_alloc_at w c 28 _ rfl)) hR ha hb).mono ?_
    rintro e w1 ⟨rfl, b1⟩
    have B1 : Below w.heap.size w w1 := (((Below.refl _ _).alloc (Nat.le_refl _) _).alloc (by simp) _).trans (b1.mono (by simp; omega))
    clear b1
    go_wp2_with fail
    go_ret2
    exact ⟨_, rfl, .inl ⟨rfl, _, _, rfl⟩, B1.alloc B1.size _⟩

set_option maxHeartbeats 400000 in
theorem implAboveOf_any (c : Array Value) (r : Rf) (a b : Int) (w : World) (hR : IsRoof c r) :
    Calls Try.prog 7 #[.agg c, .agg #[.int .i8 a, .int .i8 b]] w (GivesPls w (abN r a b) (abF r a b) (r.ask a b true)) := by
  have hc := hR.size
  by_cases hk : r.ask a b true = 0
  · obtain ⟨ho, hp, _⟩ := Rf.ask_zero hk
    obtain ⟨i, hi⟩ := Int.eq_ofNat_of_zero_le hp.1
    obtain ⟨j, hj⟩ := Int.eq_ofNat_of_zero_le hp.2.2.1
    have hka : abN r a b = (r.laps a b (a - 1)).length := by unfold abN; rw [if_pos hk]
    rw [hka]
    unfold abF
    clear hka
    subst hi hj
    have hi8 : i < 8 := by have := ho.2.2.2.1; omega
    have hj8 : j < 8 := by have := ho.2.1; omega
    have hjw : (j : Int) < r.w := hp.2.2.2
    have hb1 : (r.ask i j true != 0) = false := by simp [hk]
    have HK := Lib.hid hk
    clear hk
    go_enter Try.func7, Try.ntmps7
    go_wp2_with fail
    refine (checkPlace_any c r _ _ _ hR).mono ?_
    rintro e w1 ⟨rfl, b1⟩
    obtain ⟨v1, v2, v3, v4⟩ := bview b1
    have B1 : Below w.heap.size w w1 := (((Below.refl _ _).alloc (Nat.le_refl _) _).alloc (by simp) _).trans (b1.mono (by simp; omega))
    clear b1
    go_wp2_with fail
    refine (above_any c r i j _ hR ho hi8 hj8 hjw).mono ?_
    rintro e w2 ⟨v, rfl, l2, b2⟩
    replace l2 := l2.mono B1.size
    have B2 := bnext B1 b2 B1.size
    clear b2 v1 v2 v3 v4
    go_wp2_with fail
    go_ret2
    rw [HK.out]
    exact ⟨_, rfl, l2, B2⟩
  · have hka : abN r a b = 0 := by unfold abN; rw [if_neg hk]
    rw [hka]
    have hb1 : (r.ask a b true != 0) = true := by simp [hk]
    clear hk hka
    go_enter Try.func7, Try.ntmps7
    go_wp2_with fail
    refine (checkPlace_any c r a b _ hR).mono ?_
    rintro e w1 ⟨rfl, b1⟩
    have B1 : Below w.heap.size w w1 := (((Below.refl _ _).alloc (Nat.le_refl _) _).alloc (by simp) _).trans (b1.mono (by simp; omega))
    clear b1
    go_wp2_with fail
    go_ret2
    exact ⟨_, rfl, .inl ⟨rfl, _, _, rfl⟩, B1⟩

noncomputable def beN (r : Rf) (a b : Int) : Nat := if r.ask a b true = 0 then (r.laps a b (a + 1)).length else 0
noncomputable def beF (r : Rf) (a b : Int) : Nat → Int := plF (a + 1) (r.laps a b (a + 1))
theorem beN_le (r : Rf) (a b : Int) : beN r a b ≤ 1000000 := by
  have : (r.laps a b (a + 1)).length ≤ 2 := by
    unfold Rf.laps
    split
    · exact List.length_filter_le _ _
    · simp
  unfold beN; split <;> omega
set_option maxHeartbeats 400000 in
theorem specBelowOf_any (c : Array Value) (r : Rf) (a b : Int) (w : World) (hR : IsRoof c r) (ha : -128 ≤ a ∧ a ≤ 127) (hb : -128 ≤ b ∧ b ≤ 127) :
    Calls Try.prog 10 #[.agg c, .agg #[.int .i8 a, .int .i8 b]] w (GivesPls w (beN r a b) (beF r a b) (r.ask a b true)) := by
  have hc := hR.size
  by_cases hk : r.ask a b true = 0
  · obtain ⟨ho, hp, _⟩ := Rf.ask_zero hk
    obtain ⟨i, hi⟩ := Int.eq_ofNat_of_zero_le hp.1
    obtain ⟨j, hj⟩ := Int.eq_ofNat_of_zero_le hp.2.2.1
    have hka : beN r a b = (r.laps a b (a + 1)).length := by unfold beN; rw [if_pos hk]
    rw [hka]
    unfold beF
    clear hka
    subst hi hj
    have hi8 : i < 8 := by have := ho.2.2.2.1; omega
    have hj8 : j < 8 := by have := ho.2.1; omega
    have hjw : (j : Int) < r.w := hp.2.2.2
    have hb1 : (r.ask i j true != 0) = false := by simp [hk]
    have HK := Lib.hid hk
    clear hk
    go_enter Try.func10, Try.ntmps10
    go_wp2_with fail
    refine (l01Asked_any w.heap.size c r _ _ true _ ((rowAt_alloc_past _ _ _ (by simp)).trans (rowAt_alloc_at w c 28 _ rfl)) hR ha hb).mono ?_
    rintro e w1 ⟨rfl, b1⟩
    have q1 := brow b1 ((rowAt_alloc_past _ (.cells #[.int .i8 i, .int .i8 j] 35) _ (by simp)).trans (rowAt_alloc_at w c 28 _ rfl))
    obtain ⟨v1, v2, v3, v4⟩ := bview b1
    have B1 : Below w.heap.size w w1 := (((Below.refl _ _).alloc (Nat.le_refl _) _).alloc (by simp) _).trans (b1.mono (by simp; omega))
    clear b1
    go_wp2_with fail
    refine (l01Laps_any w.heap.size c r i j 1 _ q1 hR ho hi8 hj8 hjw (by omega)).mono ?_
    rintro e w2 ⟨v, rfl, l2, b2⟩
    replace l2 := l2.mono B1.size
    have B2 := bnext B1 b2 B1.size
    clear b2 v1 v2 v3 v4
    go_wp2_with fail
    go_ret2
    rw [HK.out]
    exact ⟨_, rfl, l2, B2⟩
  · have hka : beN r a b = 0 := by unfold beN; rw [if_neg hk]
    rw [hka]
    have hb1 : (r.ask a b true != 0) = true := by simp [hk]
    clear hk hka
    go_enter Try.func10, Try.ntmps10
    go_wp2_with fail
    refine (l01Asked_any w.heap.size c r a b true _ ((rowAt_alloc_past _ _ _ (by simp)).trans (rowAt_alloc_at w c 28 _ rfl)) hR ha hb).mono ?_
    rintro e w1 ⟨rfl, b1⟩
    have B1 : Below w.heap.size w w1 := (((Below.refl _ _).alloc (Nat.le_refl _) _).alloc (by simp) _).trans (b1.mono (by simp; omega))
    clear b1
    go_wp2_with fail
    go_ret2
    exact ⟨_, rfl, .inl ⟨rfl, _, _, rfl⟩, B1.alloc B1.size _⟩

set_option maxHeartbeats 400000 in
theorem implBelowOf_any (c : Array Value) (r : Rf) (a b : Int) (w : World) (hR : IsRoof c r) :
    Calls Try.prog 9 #[.agg c, .agg #[.int .i8 a, .int .i8 b]] w (GivesPls w (beN r a b) (beF r a b) (r.ask a b true)) := by
  have hc := hR.size
  by_cases hk : r.ask a b true = 0
  · obtain ⟨ho, hp, _⟩ := Rf.ask_zero hk
    obtain ⟨i, hi⟩ := Int.eq_ofNat_of_zero_le hp.1
    obtain ⟨j, hj⟩ := Int.eq_ofNat_of_zero_le hp.2.2.1
    have hka : beN r a b = (r.laps a b (a + 1)).length := by unfold beN; rw [if_pos hk]
    rw [hka]
    unfold beF
    clear hka
    subst hi hj
    have hi8 : i < 8 := by have := ho.2.2.2.1; omega
    have hj8 : j < 8 := by have := ho.2.1; omega
    have hjw : (j : Int) < r.w := hp.2.2.2
    have hb1 : (r.ask i j true != 0) = false := by simp [hk]
    have HK := Lib.hid hk
    clear hk
    go_enter Try.func9, Try.ntmps9
    go_wp2_with fail
    refine (checkPlace_any c r _ _ _ hR).mono ?_
    rintro e w1 ⟨rfl, b1⟩
    obtain ⟨v1, v2, v3, v4⟩ := bview b1
    have B1 : Below w.heap.size w w1 := (((Below.refl _ _).alloc (Nat.le_refl _) _).alloc (by simp) _).trans (b1.mono (by simp; omega))
    clear b1
    go_wp2_with fail
    refine (below_any c r i j _ hR ho hi8 hj8 hjw).mono ?_
    rintro e w2 ⟨v, rfl, l2, b2⟩
    replace l2 := l2.mono B1.size
    have B2 := bnext B1 b2 B1.size
    clear b2 v1 v2 v3 v4
    go_wp2_with fail
    go_ret2
    rw [HK.out]
    exact ⟨_, rfl, l2, B2⟩
  · have hka : beN r a b = 0 := by unfold beN; rw [if_neg hk]
    rw [hka]
    have hb1 : (r.ask a b true != 0) = true := by simp [hk]
    clear hk hka
    go_enter Try.func9, Try.ntmps9
    go_wp2_with fail
    refine (checkPlace_any c r a b _ hR).mono ?_
    rintro e w1 ⟨rfl, b1⟩
    have B1 : Below w.heap.size w w1 := (((Below.refl _ _).alloc (Nat.le_refl _) _).alloc (by simp) _).trans (b1.mono (by simp; omega))
    clear b1
    go_wp2_with fail
    go_ret2
    exact ⟨_, rfl, .inl ⟨rfl, _, _, rfl⟩, B1⟩
end Go.Proofs.Ytppohghejhcilaa

/- Both sides of the cells of a tile. -/
namespace Go.Proofs.Ytppohghejhcilaa
open Go.RowKit

noncomputable def Rf.celN (r : Rf) (a b : Int) : Nat := if r.ask a b true = 0 then 2 else 0
def Rf.celF (r : Rf) (a b : Int) (i : Nat) : Int := 2 * b + r.by a + i

set_option maxHeartbeats 400000 in
theorem specCellsOf_any (c : Array Value) (r : Rf) (a b : Int) (w : World) (hR : IsRoof c r) (ha : -128 ≤ a ∧ a ≤ 127) (hb : -128 ≤ b ∧ b ≤ 127) :
    Calls Try.prog 12 #[.agg c, .agg #[.int .i8 a, .int .i8 b]] w (GivesInts w (r.celN a b) (r.celF a b) (r.ask a b true)) := by
  have hc := hR.size
  by_cases hk : r.ask a b true = 0
  · obtain ⟨ho, hp, _⟩ := Rf.ask_zero hk
    obtain ⟨i, hi⟩ := Int.eq_ofNat_of_zero_le hp.1
    obtain ⟨j, hj⟩ := Int.eq_ofNat_of_zero_le hp.2.2.1
    have hka : r.celN a b = 2 := by unfold Rf.celN; rw [if_pos hk]
    rw [hka]
    clear hka
    subst hi hj
    have hi8 : i < 8 := by have := ho.2.2.2.1; omega
    have hj8 : j < 8 := by have := ho.2.1; omega
    obtain ⟨y0, y1⟩ := r.by_bd i
    have hb1 : (r.ask i j true != 0) = false := by simp [hk]
    have HK := Lib.hid hk
    clear hk
    go_enter Try.func12, Try.ntmps12
    go_wp2_with fail
    refine (l01Asked_any w.heap.size c r _ _ true _ ((rowAt_alloc_past _ _ _ (by simp)).trans (rowAt_alloc_at w c 28 _ rfl)) hR ha hb).mono ?_
    rintro e w1 ⟨rfl, b1⟩
    have q1 := brow b1 ((rowAt_alloc_past _ (.cells #[.int .i8 i, .int .i8 j] 35) _ (by simp)).trans (rowAt_alloc_at w c 28 _ rfl))
    obtain ⟨v1, v2, v3, v4⟩ := bview b1
    have B1 : Below w.heap.size w w1 := (((Below.refl _ _).alloc (Nat.le_refl _) _).alloc (by simp) _).trans (b1.mono (by simp; omega))
    clear b1
    go_wp2_with fail
    refine (l01First_any w.heap.size c r i j _ q1 hR hi8 hj8).mono ?_
    rintro e w2 ⟨rfl, b2⟩
    have B2 := bnext B1 b2 B1.size
    clear b2 v1 v2 v3 v4
    go_wp2_with fail
    go_ret2
    rw [HK.out]
    refine ⟨_, rfl, .inr ⟨w2.heap.size, _, _, rfl, B2.size, rowAt_alloc_at _ _ _ _ rfl, by simp, fun x hx => ?_⟩, B2.alloc B2.size _⟩
    have : x = 0 ∨ x = 1 := by omega
    rcases this with rfl | rfl <;> simp [Rf.celF]
  · have hka : r.celN a b = 0 := by unfold Rf.celN; rw [if_neg hk]
    rw [hka]
    have hb1 : (r.ask a b true != 0) = true := by simp [hk]
    clear hk hka
    go_enter Try.func12, Try.ntmps12
    go_wp2_with fail
    refine (l01Asked_any w.heap.size c r a b true _ ((rowAt_alloc_past _ _ _ (by simp)).trans (rowAt_alloc_at w c 28 _ rfl)) hR ha hb).mono ?_
    rintro e w1 ⟨rfl, b1⟩
    have B1 : Below w.heap.size w w1 := (((Below.refl _ _).alloc (Nat.le_refl _) _).alloc (by simp) _).trans (b1.mono (by simp; omega))
    clear b1
    go_wp2_with fail
    go_ret2
    exact ⟨_, rfl, .inl ⟨rfl, _, _, rfl⟩, B1.alloc B1.size _⟩

set_option maxHeartbeats 400000 in
theorem implCellsOf_any (c : Array Value) (r : Rf) (a b : Int) (w : World) (hR : IsRoof c r) :
    Calls Try.prog 11 #[.agg c, .agg #[.int .i8 a, .int .i8 b]] w (GivesInts w (r.celN a b) (r.celF a b) (r.ask a b true)) := by
  have hc := hR.size
  by_cases hk : r.ask a b true = 0
  · obtain ⟨ho, hp, _⟩ := Rf.ask_zero hk
    obtain ⟨i, hi⟩ := Int.eq_ofNat_of_zero_le hp.1
    obtain ⟨j, hj⟩ := Int.eq_ofNat_of_zero_le hp.2.2.1
    have hka : r.celN a b = 2 := by unfold Rf.celN; rw [if_pos hk]
    rw [hka]
    clear hka
    subst hi hj
    have hi8 : i < 8 := by have := ho.2.2.2.1; omega
    have hj8 : j < 8 := by have := ho.2.1; omega
    have hb1 : (r.ask i j true != 0) = false := by simp [hk]
    have HK := Lib.hid hk
    clear hk
    go_enter Try.func11, Try.ntmps11
    go_wp2_with fail
    refine (checkPlace_any c r _ _ _ hR).mono ?_
    rintro e w1 ⟨rfl, b1⟩
    have q1 := brow b1 ((rowAt_alloc_past _ (.cells #[.int .i8 i, .int .i8 j] 35) _ (by simp)).trans (rowAt_alloc_at w c 28 _ rfl))
    obtain ⟨v1, v2, v3, v4⟩ := bview b1
    have B1 : Below w.heap.size w w1 := (((Below.refl _ _).alloc (Nat.le_refl _) _).alloc (by simp) _).trans (b1.mono (by simp; omega))
    clear b1
    go_wp2_with fail
    refine (cells_any c r i j _ hR hi8 hj8).mono ?_
    rintro e w2 ⟨rfl, b2⟩
    have B2 := bnext B1 b2 B1.size
    clear b2 v1 v2 v3 v4
    go_wp2_with fail
    go_ret2
    rw [HK.out]
    refine ⟨_, rfl, .inr ⟨w2.heap.size, _, _, rfl, B2.size, rowAt_alloc_at _ _ _ _ rfl, by simp, fun x hx => ?_⟩, B2.alloc B2.size _⟩
    have : x = 0 ∨ x = 1 := by omega
    rcases this with rfl | rfl <;> simp [Rf.celF]
  · have hka : r.celN a b = 0 := by unfold Rf.celN; rw [if_neg hk]
    rw [hka]
    have hb1 : (r.ask a b true != 0) = true := by simp [hk]
    clear hk hka
    go_enter Try.func11, Try.ntmps11
    go_wp2_with fail
    refine (checkPlace_any c r a b _ hR).mono ?_
    rintro e w1 ⟨rfl, b1⟩
    have B1 : Below w.heap.size w w1 := (((Below.refl _ _).alloc (Nat.le_refl _) _).alloc (by simp) _).trans (b1.mono (by simp; omega))
    clear b1
    go_wp2_with fail
    go_ret2
    exact ⟨_, rfl, .inl ⟨rfl, _, _, rfl⟩, B1⟩
end Go.Proofs.Ytppohghejhcilaa

/- Both sides of courses that are shifted. -/
namespace Go.Proofs.Ytppohghejhcilaa
open Go.RowKit

noncomputable def Rf.shAns (r : Rf) (k : Int) : Bool := if r.told (inB k 0 (r.h - 1)) = 0 then r.by k == 1 else false

set_option maxHeartbeats 400000 in
theorem implIsShifted_any (c : Array Value) (r : Rf) (k : Int) (w : World) (hR : IsRoof c r) :
    Calls Try.prog 17 #[.agg c, .int .i64 k] w fun e w' => e = .returned (.tuple #[.bool (r.shAns k), .int .i64 (r.told (inB k 0 (r.h - 1)))]) ∧ Below w.heap.size w w' := by
  have hc := hR.size
  by_cases hz : r.told (inB k 0 (r.h - 1)) = 0
  · obtain ⟨ho, hin⟩ := Rf.told_zero hz
    have hin' : 0 ≤ k ∧ k ≤ r.h - 1 := by simpa [inB] using hin
    have hh := ho.2.2.2.1
    have hka : r.shAns k = (r.by k == 1) := by unfold Rf.shAns; rw [if_pos hz]
    rw [hka]
    have hb1 : (r.told (inB k 0 (r.h - 1)) != 0) = false := by simp [hz]
    have HZ := Lib.hid hz
    clear hz hka hin
    go_enter Try.func17, Try.ntmps17
    go_wp2_with fail
    refine (checkCourse_any c r k _ hR).mono ?_
    rintro e w1 ⟨rfl, b1⟩
    obtain ⟨v1, v2, v3, v4⟩ := bview b1
    have B1 : Below w.heap.size w w1 := ((Below.refl _ _).alloc (Nat.le_refl _) _).trans (b1.mono (by simp))
    clear b1
    go_wp2_with fail
    refine (shifted_any c r k _ hR (by omega)).mono ?_
    rintro e w2 ⟨rfl, b2⟩
    have B2 := bnext B1 b2 B1.size
    clear b2 v1 v2 v3 v4
    go_wp2_with fail
    go_ret2
    exact ⟨by simp [HZ.out], B2⟩
  · have hka : r.shAns k = false := by unfold Rf.shAns; rw [if_neg hz]
    rw [hka]
    have hb1 : (r.told (inB k 0 (r.h - 1)) != 0) = true := by simp [hz]
    clear hz hka
    go_enter Try.func17, Try.ntmps17
    go_wp2_with fail
    refine (checkCourse_any c r k _ hR).mono ?_
    rintro e w1 ⟨rfl, b1⟩
    have B1 : Below w.heap.size w w1 := ((Below.refl _ _).alloc (Nat.le_refl _) _).trans (b1.mono (by simp))
    clear b1
    go_wp2_with fail
    go_ret2
    exact ⟨rfl, B1⟩
end Go.Proofs.Ytppohghejhcilaa

/- Both sides of the tile at a cell. -/
namespace Go.Proofs.Ytppohghejhcilaa
open Go.RowKit

noncomputable def Rf.tatC (r : Rf) (k cell : Int) : Int := if r.told (inB k 0 (r.h - 1)) = 0 then (if 0 ≤ cell ∧ cell ≤ 2 * r.w then 0 else 2) else r.told (inB k 0 (r.h - 1))
noncomputable def Rf.tatV (r : Rf) (k cell : Int) : Int := if r.tatC k cell = 0 then r.tile k cell else 0

set_option maxHeartbeats 400000 in
theorem specTileAt_any (c : Array Value) (r : Rf) (k cell : Int) (w : World) (hR : IsRoof c r) :
    Calls Try.prog 18 #[.agg c, .int .i64 k, .int .i64 cell] w fun e w' => e = .returned (.tuple #[.int .i64 (r.tatV k cell), .int .i64 (r.tatC k cell)]) ∧ Below w.heap.size w w' := by
  have hc := hR.size
  by_cases hz : r.told (inB k 0 (r.h - 1)) = 0
  · obtain ⟨ho, hin⟩ := Rf.told_zero hz
    have hin' : 0 ≤ k ∧ k ≤ r.h - 1 := by simpa [inB] using hin
    have hh := ho.2.2.2.1
    have hw1 := ho.1
    have hw8 := ho.2.1
    have hb1 : (r.told (inB k 0 (r.h - 1)) != 0) = false := by simp [hz]
    by_cases hcl : 0 ≤ cell ∧ cell ≤ 2 * r.w
    · have hC : r.tatC k cell = 0 := by unfold Rf.tatC; rw [if_pos hz, if_pos hcl]
      have hV : r.tatV k cell = r.tile k cell := by unfold Rf.tatV; rw [if_pos hC]
      rw [hV, hC]
      clear hz hin hC hV
      go_enter Try.func18, Try.ntmps18
      go_wp2_with fail
      refine (l01Course_any w.heap.size c r k _ (rowAt_alloc_at w c 28 _ rfl) hR).mono ?_
      rintro e w0 ⟨rfl, rfl⟩
      go_wp2_with fail
      refine (l01Told_any w.heap.size c r _ _ (rowAt_alloc_at w c 28 _ rfl) hR).mono ?_
      rintro e w1 ⟨rfl, b1⟩
      have q1 := brow b1 (rowAt_alloc_at w c 28 _ rfl)
      have B1 : Below w.heap.size w w1 := ((Below.refl _ _).alloc (Nat.le_refl _) _).trans (b1.mono (by simp))
      clear b1
      go_wp2_with fail
      refine (l01Cells_any w.heap.size c r _ q1 hR).mono ?_
      rintro e w2 ⟨rfl, rfl⟩
      go_wp2_with fail
      refine (l00In_t _ _ _ _ (by omega)).mono ?_
      rintro e w2 ⟨rfl, rfl⟩
      go_wp2_with fail
      refine (l01Tile_any w.heap.size c r k cell _ q1 hR (by omega) (by omega) (by omega)).mono ?_
      rintro e w2 ⟨rfl, rfl⟩
      go_wp2_with fail
      go_ret2
      exact ⟨rfl, B1⟩
    · have hC : r.tatC k cell = 2 := by unfold Rf.tatC; rw [if_pos hz, if_neg hcl]
      have hV : r.tatV k cell = 0 := by unfold Rf.tatV; rw [if_neg (by rw [hC]; omega)]
      rw [hV, hC]
      clear hz hin hC hV
      go_enter Try.func18, Try.ntmps18
      go_wp2_with fail
      refine (l01Course_any w.heap.size c r k _ (rowAt_alloc_at w c 28 _ rfl) hR).mono ?_
      rintro e w0 ⟨rfl, rfl⟩
      go_wp2_with fail
      refine (l01Told_any w.heap.size c r _ _ (rowAt_alloc_at w c 28 _ rfl) hR).mono ?_
      rintro e w1 ⟨rfl, b1⟩
      have q1 := brow b1 (rowAt_alloc_at w c 28 _ rfl)
      have B1 : Below w.heap.size w w1 := ((Below.refl _ _).alloc (Nat.le_refl _) _).trans (b1.mono (by simp))
      clear b1
      go_wp2_with fail
      refine (l01Cells_any w.heap.size c r _ q1 hR).mono ?_
      rintro e w2 ⟨rfl, rfl⟩
      go_wp2_with fail
      refine (l00In_f _ _ _ _ (by omega)).mono ?_
      rintro e w2 ⟨rfl, rfl⟩
      go_wp2_with fail
      go_ret2
      exact ⟨rfl, B1⟩
  · have hC : r.tatC k cell = r.told (inB k 0 (r.h - 1)) := by unfold Rf.tatC; rw [if_neg hz]
    have hV : r.tatV k cell = 0 := by unfold Rf.tatV; rw [if_neg (by rw [hC]; exact hz)]
    rw [hV, hC]
    have hb1 : (r.told (inB k 0 (r.h - 1)) != 0) = true := by simp [hz]
    clear hz hC hV
    go_enter Try.func18, Try.ntmps18
    go_wp2_with fail
    refine (l01Course_any w.heap.size c r k _ (rowAt_alloc_at w c 28 _ rfl) hR).mono ?_
    rintro e w0 ⟨rfl, rfl⟩
    go_wp2_with fail
    refine (l01Told_any w.heap.size c r _ _ (rowAt_alloc_at w c 28 _ rfl) hR).mono ?_
    rintro e w1 ⟨rfl, b1⟩
    have B1 : Below w.heap.size w w1 := ((Below.refl _ _).alloc (Nat.le_refl _) _).trans (b1.mono (by simp))
    clear b1
    go_wp2_with fail
    go_ret2
    exact ⟨rfl, B1⟩

set_option maxHeartbeats 400000 in
theorem implTileAt_any (c : Array Value) (r : Rf) (k cell : Int) (w : World) (hR : IsRoof c r) :
    Calls Try.prog 15 #[.agg c, .int .i64 k, .int .i64 cell] w fun e w' => e = .returned (.tuple #[.int .i64 (r.tatV k cell), .int .i64 (r.tatC k cell)]) ∧ Below w.heap.size w w' := by
  obtain ⟨hc, k0, k1, k2, w0, wl, h0, h1, s0, s1⟩ := hR.view
  clear k1 k2
  by_cases hz : r.told (inB k 0 (r.h - 1)) = 0
  · obtain ⟨ho, hin⟩ := Rf.told_zero hz
    have hin' : 0 ≤ k ∧ k ≤ r.h - 1 := by simpa [inB] using hin
    have hh := ho.2.2.2.1
    have hw1 := ho.1
    have hw8 := ho.2.1
    have hb1 : (r.told (inB k 0 (r.h - 1)) != 0) = false := by simp [hz]
    by_cases hcl0 : 0 ≤ cell
    · by_cases hcl1 : cell ≤ 2 * r.w
      · have hC : r.tatC k cell = 0 := by unfold Rf.tatC; rw [if_pos hz, if_pos ⟨hcl0, hcl1⟩]
        have hV : r.tatV k cell = r.tile k cell := by unfold Rf.tatV; rw [if_pos hC]
        rw [hV, hC]
        clear hz hin hC hV
        go_enter Try.func15, Try.ntmps15
        go_wp2_with fail
        refine (checkCourse_any c r k _ hR).mono ?_
        rintro e w1 ⟨rfl, b1⟩
        obtain ⟨v1, v2, v3, v4⟩ := bview b1
        have B1 : Below w.heap.size w w1 := ((Below.refl _ _).alloc (Nat.le_refl _) _).trans (b1.mono (by simp))
        clear b1
        have q1 := (v1 w.heap.size (by simp)).trans (rowAt_alloc_at w c 28 _ rfl)
        go_wp2_with fail
        refine (across_any c r _ hR).mono ?_
        rintro e wA ⟨rfl, bA⟩
        have qA := brow bA q1
        have BA := bnext B1 bA B1.size
        clear bA v1 v2 v3 v4 q1
        go_wp2_with fail
        refine (tileAt_any c r k cell _ hR (by omega) (by omega) (by omega)).mono ?_
        rintro e w2 ⟨rfl, b2⟩
        have B2 := bnext BA b2 BA.size
        clear b2
        go_wp2_with fail
        go_ret2
        exact ⟨rfl, B2⟩
      · have hC : r.tatC k cell = 2 := by unfold Rf.tatC; rw [if_pos hz, if_neg (fun h => hcl1 h.2)]
        have hV : r.tatV k cell = 0 := by unfold Rf.tatV; rw [if_neg (by rw [hC]; omega)]
        rw [hV, hC]
        clear hz hin hC hV
        go_enter Try.func15, Try.ntmps15
        go_wp2_with fail
        refine (checkCourse_any c r k _ hR).mono ?_
        rintro e w1 ⟨rfl, b1⟩
        obtain ⟨v1, v2, v3, v4⟩ := bview b1
        have B1 : Below w.heap.size w w1 := ((Below.refl _ _).alloc (Nat.le_refl _) _).trans (b1.mono (by simp))
        clear b1
        have q1 := (v1 w.heap.size (by simp)).trans (rowAt_alloc_at w c 28 _ rfl)
        go_wp2_with fail
        refine (across_any c r _ hR).mono ?_
        rintro e wA ⟨rfl, bA⟩
        have BA := bnext B1 bA B1.size
        clear bA v1 v2 v3 v4 q1
        go_wp2_with fail
        go_ret2
        exact ⟨rfl, BA⟩
    · have hC : r.tatC k cell = 2 := by unfold Rf.tatC; rw [if_pos hz, if_neg (fun h => hcl0 h.1)]
      have hV : r.tatV k cell = 0 := by unfold Rf.tatV; rw [if_neg (by rw [hC]; omega)]
      rw [hV, hC]
      clear hz hin hC hV
      go_enter Try.func15, Try.ntmps15
      go_wp2_with fail
      refine (checkCourse_any c r k _ hR).mono ?_
      rintro e w1 ⟨rfl, b1⟩
      obtain ⟨v1, v2, v3, v4⟩ := bview b1
      have B1 : Below w.heap.size w w1 := ((Below.refl _ _).alloc (Nat.le_refl _) _).trans (b1.mono (by simp))
      clear b1
      go_wp2_with fail
      go_ret2
      exact ⟨rfl, B1⟩
  · have hC : r.tatC k cell = r.told (inB k 0 (r.h - 1)) := by unfold Rf.tatC; rw [if_neg hz]
    have hV : r.tatV k cell = 0 := by unfold Rf.tatV; rw [if_neg (by rw [hC]; exact hz)]
    rw [hV, hC]
    have hb1 : (r.told (inB k 0 (r.h - 1)) != 0) = true := by simp [hz]
    clear hz hC hV
    go_enter Try.func15, Try.ntmps15
    go_wp2_with fail
    refine (checkCourse_any c r k _ hR).mono ?_
    rintro e w1 ⟨rfl, b1⟩
    have B1 : Below w.heap.size w w1 := ((Below.refl _ _).alloc (Nat.le_refl _) _).trans (b1.mono (by simp))
    clear b1
    go_wp2_with fail
    go_ret2
    exact ⟨rfl, B1⟩
end Go.Proofs.Ytppohghejhcilaa

/- Both sides of the kind of a tile. -/
namespace Go.Proofs.Ytppohghejhcilaa
open Go.RowKit

noncomputable def Rf.kindAns (r : Rf) (a b : Int) : Int := if r.ask a b true = 0 then r.t (a.toNat * 8 + b.toNat) else 0

set_option maxHeartbeats 400000 in
theorem specKindAt_any (c : Array Value) (r : Rf) (a b : Int) (w : World) (hR : IsRoof c r) (ha : -128 ≤ a ∧ a ≤ 127) (hb : -128 ≤ b ∧ b ≤ 127) :
    Calls Try.prog 24 #[.agg c, .agg #[.int .i8 a, .int .i8 b]] w fun e w' => e = .returned (.tuple #[.int .i64 (r.kindAns a b), .int .i64 (r.ask a b true)]) ∧ Below w.heap.size w w' := by
  have hc := hR.size
  by_cases hk : r.ask a b true = 0
  · obtain ⟨ho, hp, _⟩ := Rf.ask_zero hk
    obtain ⟨i, hi⟩ := Int.eq_ofNat_of_zero_le hp.1
    obtain ⟨j, hj⟩ := Int.eq_ofNat_of_zero_le hp.2.2.1
    have hka : r.kindAns a b = r.t (i * 8 + j) := by unfold Rf.kindAns; rw [if_pos hk, hi, hj]; simp
    rw [hka]
    subst hi hj
    have hi8 : i < 8 := by have := ho.2.2.2.1; omega
    have hj8 : j < 8 := by have := ho.2.1; omega
    have hb1 : (r.ask i j true != 0) = false := by simp [hk]
    have HK := Lib.hid hk
    have HA := Lib.hid hka
    clear hk hka
    go_enter Try.func24, Try.ntmps24
    go_wp2_with fail
    refine (l01Asked_any w.heap.size c r _ _ true _ ((rowAt_alloc_past _ _ _ (by simp)).trans (rowAt_alloc_at w c 28 _ rfl)) hR ha hb).mono ?_
    rintro e w1 ⟨rfl, b1⟩
    have q1 := brow b1 ((rowAt_alloc_past _ (.cells #[.int .i8 i, .int .i8 j] 35) _ (by simp)).trans (rowAt_alloc_at w c 28 _ rfl))
    obtain ⟨v1, v2, v3, v4⟩ := bview b1
    have B1 : Below w.heap.size w w1 := (((Below.refl _ _).alloc (Nat.le_refl _) _).alloc (by simp) _).trans (b1.mono (by simp; omega))
    clear b1
    go_wp2_with fail
    refine (l01At_any w.heap.size c r i j _ q1 hR hi8 hj8).mono ?_
    rintro e w2 ⟨rfl, b2⟩
    have B2 := bnext B1 b2 B1.size
    clear b2 v1 v2 v3 v4
    go_wp2_with fail
    go_ret2
    exact ⟨by simp [HK.out], B2⟩
  · have hka : r.kindAns a b = 0 := by unfold Rf.kindAns; rw [if_neg hk]
    rw [hka]
    have hb1 : (r.ask a b true != 0) = true := by simp [hk]
    clear hk hka
    go_enter Try.func24, Try.ntmps24
    go_wp2_with fail
    refine (l01Asked_any w.heap.size c r a b true _ ((rowAt_alloc_past _ _ _ (by simp)).trans (rowAt_alloc_at w c 28 _ rfl)) hR ha hb).mono ?_
    rintro e w1 ⟨rfl, b1⟩
    have B1 : Below w.heap.size w w1 := (((Below.refl _ _).alloc (Nat.le_refl _) _).alloc (by simp) _).trans (b1.mono (by simp; omega))
    clear b1
    go_wp2_with fail
    go_ret2
    exact ⟨rfl, B1⟩

end Go.Proofs.Ytppohghejhcilaa

/- Contracts on replacing a tile. -/
namespace Go.Proofs.Ytppohghejhcilaa
open Go.RowKit

theorem l01Kind_q (k : Int) (w : World) :
    Calls Try.prog 48 #[.int .i64 k] w fun e w' => e = .returned (.bool (inB k 0 3)) ∧ w = w' := l01Kind_any k w

set_option maxRecDepth 100000 in
set_option maxHeartbeats 1000000 in
theorem specSetTile_yes (c : Array Value) (r : Rf) (i j : Nat) (k : Int) (w : World) (hR : IsRoof c r) (hi : i < 8) (hj : j < 8) (hk : 0 ≤ k ∧ k ≤ 3) (hz : r.ask i j true = 0) :
    Calls Try.prog 22 #[.agg c, .agg #[.int .i8 i, .int .i8 j], .int .i64 k] w fun e w' => e = .returned (.tuple #[.agg (c.setIfInBounds (3 + (i * 8 + j)) (.int .u8 k)), .int .i64 0]) ∧ Below w.heap.size w w' := by
  have hc := hR.size
  have hbb : (r.ask i j true != 0) = false := by simp [hz]
  have hin := inB_true (show 0 ≤ k ∧ k ≤ 3 from hk)
  have hzs := zroof_size
  have hrs := (hR.set (i * 8 + j) (by omega) k (by omega)).ones
  rw [← Nat.add_assoc] at hrs ⊢
  have i0 : 0 ≤ (i : Int) := by omega
  have i1 : (i : Int) < 8 := by omega
  have j0 : 0 ≤ (j : Int) := by omega
  have j1 : (j : Int) < 8 := by omega
  obtain ⟨hk0, hk3⟩ := hk
  have HZ := Lib.hid hz
  clear hz
  go_enter Try.func22, Try.ntmps22
  go_wp2_with fail
  generalize hW : ((w.alloc (.cells c 28)).alloc (.cells #[.int .i8 i, .int .i8 j] 35)).alloc (.cells Try.zeroCells28 28) = W
  have p0 : rowAt W w.heap.size = some c := by rw [← hW]; exact (rowAt_alloc_past _ _ _ (by simp; omega)).trans ((rowAt_alloc_past _ _ _ (by simp)).trans (rowAt_alloc_at _ _ _ _ rfl))
  have p1 : rowAt W (w.heap.size + 1) = some #[.int .i8 i, .int .i8 j] := by rw [← hW]; exact (rowAt_alloc_past _ _ _ (by simp)).trans (rowAt_alloc_at _ _ _ _ (by simp))
  have p2 : rowAt W (w.heap.size + 1 + 1) = some Try.zeroCells28 := by rw [← hW]; exact rowAt_alloc_at _ _ _ _ (by simp)
  have pB : Below w.heap.size w W := by rw [← hW]; exact (((Below.refl _ _).alloc (Nat.le_refl _) _).alloc (by simp) _).alloc (by simp; omega) _
  clear hW
  have p0d : rowAt W.drew w.heap.size = some c := p0
  have p2d : rowAt W.drew (w.heap.size + 1 + 1) = some Try.zeroCells28 := p2
  go_region_held3 (fun w' => rowAt w' w.heap.size = some c ∧ (w'.cell? ⟨w.heap.size + 1, 0, none⟩ = some (.int .i8 i) ∧ w'.cell? ⟨w.heap.size + 1, 1, none⟩ = some (.int .i8 j)) ∧ rowAt w' (w.heap.size + 1) = some #[.int .i8 i, .int .i8 j] ∧ Below w.heap.size w w' ∧ w.heap.size ≤ w'.heap.size)
    (first | exact keepP0 p0 p1 pB pB.size | assumption | exact keepP (by assumption) (by assumption))
    (first | (go_at_call 48; (with_reducible refine (l01Kind_q k _).mono ?_); rintro x wx ⟨rfl, rfl⟩) | (go_at_call 30; (with_reducible refine (l01Asked_any w.heap.size c r i j true _ p0d hR (by omega) (by omega)).mono ?_); rintro x wx ⟨rfl, bx⟩; have q2 := brow bx p2d))
  rename_i g
  clear p0 p1 p2 pB p0d p2d
  obtain ⟨g0, ⟨g1, g2⟩, g3, gB, gs⟩ := g
  have gcell := cell_of_rowAt g0
  have gfro := frozen_of_rowAt g0
  have hcx : 3 + i * 8 + j < 67 := by omega
  go_wp2_with fail
  have hne2 : w.heap.size + 1 + 1 ≠ w.heap.size := by omega
  go_still_tail 9, (by kernel_rfl)
  change wpList _ _ _ _ _ wx.drew
  repeat go_step
  have r0 := rowAt_setCell_at wx w.heap.size (3 + i * 8 + j) (.int .u8 k) (by simp [g0])
  have r2 := (rowAt_setCell_ne wx w.heap.size (w.heap.size + 1 + 1) (3 + i * 8 + j) (.int .u8 k) hne2).trans q2
  refine bodyPost_ret (v := .tuple #[.agg (c.setIfInBounds (3 + i * 8 + j) (.int .u8 k)), .int .i64 0]) (results_row2 (m := 67) rfl _ _ (w.heap.size + 1 + 1) _ _ rfl rfl (rowAt_setRow_at _ _ _ (by rw [r2]; rfl)) Try.underlying28 rfl (by kernel_rfl) (by simpa using hc)) rfl ⟨rfl, ?_⟩
  exact below_setRow ((gB.setCell (p := ⟨_, _, none⟩) (Nat.le_refl _) _).drew) (by omega) _

set_option maxRecDepth 100000 in
set_option maxHeartbeats 1000000 in
theorem specSetTile_no (c : Array Value) (r : Rf) (a b : Int) (k : Int) (w : World) (hR : IsRoof c r) (ha : -128 ≤ a ∧ a ≤ 127) (hb : -128 ≤ b ∧ b ≤ 127) (hz : r.ask a b (inB k 0 3) ≠ 0) :
    Calls Try.prog 22 #[.agg c, .agg #[.int .i8 a, .int .i8 b], .int .i64 k] w fun e w' => e = .returned (.tuple #[.agg Try.zeroCells28, .int .i64 (r.ask a b (inB k 0 3))]) ∧ Below w.heap.size w w' := by
  have hc := hR.size
  have hbb : (r.ask a b (inB k 0 3) != 0) = true := by simp [hz]
  have hzs := zroof_size
  have hrs := zroof_ones
  clear hz
  go_enter Try.func22, Try.ntmps22
  go_wp2_with fail
  generalize hW : ((w.alloc (.cells c 28)).alloc (.cells #[.int .i8 a, .int .i8 b] 35)).alloc (.cells Try.zeroCells28 28) = W
  have p0 : rowAt W w.heap.size = some c := by rw [← hW]; exact (rowAt_alloc_past _ _ _ (by simp; omega)).trans ((rowAt_alloc_past _ _ _ (by simp)).trans (rowAt_alloc_at _ _ _ _ rfl))
  have p1 : rowAt W (w.heap.size + 1) = some #[.int .i8 a, .int .i8 b] := by rw [← hW]; exact (rowAt_alloc_past _ _ _ (by simp)).trans (rowAt_alloc_at _ _ _ _ (by simp))
  have p2 : rowAt W (w.heap.size + 1 + 1) = some Try.zeroCells28 := by rw [← hW]; exact rowAt_alloc_at _ _ _ _ (by simp)
  have pB : Below w.heap.size w W := by rw [← hW]; exact (((Below.refl _ _).alloc (Nat.le_refl _) _).alloc (by simp) _).alloc (by simp; omega) _
  clear hW
  have p0d : rowAt W.drew w.heap.size = some c := p0
  have p2d : rowAt W.drew (w.heap.size + 1 + 1) = some Try.zeroCells28 := p2
  generalize hf : inB k 0 3 = fine at *
  have HF := Lib.hid hf
  clear hf
  go_region_held3 (fun w' => rowAt w' w.heap.size = some c ∧ (w'.cell? ⟨w.heap.size + 1, 0, none⟩ = some (.int .i8 a) ∧ w'.cell? ⟨w.heap.size + 1, 1, none⟩ = some (.int .i8 b)) ∧ rowAt w' (w.heap.size + 1) = some #[.int .i8 a, .int .i8 b] ∧ Below w.heap.size w w' ∧ w.heap.size ≤ w'.heap.size)
    (first | exact keepP0 p0 p1 pB pB.size | assumption | exact keepP (by assumption) (by assumption))
    (first | (go_at_call 48; (with_reducible refine (l01Kind_q k _).mono ?_); rintro x wx ⟨rfl, rfl⟩; rw [HF.out]) | (go_at_call 30; (with_reducible refine (l01Asked_any w.heap.size c r a b fine _ p0d hR ha hb).mono ?_); rintro x wx ⟨rfl, bx⟩; have q2 := brow bx p2d))
  rename_i g
  clear p0 p1 p2 pB p0d p2d
  obtain ⟨g0, ⟨g1, g2⟩, g3, gB, gs⟩ := g
  repeat go_step
  refine bodyPost_ret (v := .tuple #[.agg Try.zeroCells28, .int .i64 (r.ask a b fine)]) (results_row2 (m := 67) rfl _ _ (w.heap.size + 1 + 1) _ _ rfl rfl (rowAt_setRow_at _ _ _ (by rw [q2]; rfl)) Try.underlying28 rfl (by kernel_rfl) hzs) rfl ⟨by rw [HF.out], ?_⟩
  exact below_setRow gB (by omega) _

set_option maxHeartbeats 400000 in
theorem checkKind_any (c : Array Value) (r : Rf) (k : Int) (w : World) (hR : IsRoof c r) :
    Calls Try.prog 47 #[.agg c, .int .i64 k] w fun e w' => e = .returned (.int .i64 (r.told (inB k 0 3))) ∧ Below w.heap.size w w' := by
  have hc := hR.size
  by_cases ho : r.Ok
  · by_cases x0 : k < 0
    · rw [inB_false (by omega), Rf.told_out ho]
      go_enter Try.func47, Try.ntmps47
      go_wp2_with fail
      refine (implValid_t c r _ hR ho).mono ?_
      rintro e w1 ⟨rfl, b1⟩
      have B1 : Below w.heap.size w w1 := ((Below.refl _ _).alloc (Nat.le_refl _) _).trans (b1.mono (by simp))
      clear b1
      go_wp2_with fail
      go_ret
      exact ⟨rfl, B1⟩
    · by_cases x1 : 3 < k
      · rw [inB_false (by omega), Rf.told_out ho]
        go_enter Try.func47, Try.ntmps47
        go_wp2_with fail
        refine (implValid_t c r _ hR ho).mono ?_
        rintro e w1 ⟨rfl, b1⟩
        have B1 : Below w.heap.size w w1 := ((Below.refl _ _).alloc (Nat.le_refl _) _).trans (b1.mono (by simp))
        clear b1
        go_wp2_with fail
        go_ret
        exact ⟨rfl, B1⟩
      · rw [inB_true (by omega), Rf.told_in ho]
        go_enter Try.func47, Try.ntmps47
        go_wp2_with fail
        refine (implValid_t c r _ hR ho).mono ?_
        rintro e w1 ⟨rfl, b1⟩
        have B1 : Below w.heap.size w w1 := ((Below.refl _ _).alloc (Nat.le_refl _) _).trans (b1.mono (by simp))
        clear b1
        go_wp2_with fail
        go_ret
        exact ⟨rfl, B1⟩
  · rw [Rf.told_no ho]
    go_enter Try.func47, Try.ntmps47
    go_wp2_with fail
    refine (implValid_f c r _ hR ho).mono ?_
    rintro e w1 ⟨rfl, b1⟩
    have B1 : Below w.heap.size w w1 := ((Below.refl _ _).alloc (Nat.le_refl _) _).trans (b1.mono (by simp))
    clear b1
    go_wp2_with fail
    go_ret
    exact ⟨rfl, B1⟩

theorem ask_split {r : Rf} {a b : Int} {fine : Bool} : r.ask a b fine = if r.ask a b true = 0 then r.told fine else r.ask a b true := by
  unfold Rf.ask Rf.told
  by_cases h : r.ok = true
  · by_cases h2 : r.isB a b = true
    · simp [h, h2]
    · simp [h, h2]
  · simp [h]

set_option maxRecDepth 100000 in
set_option maxHeartbeats 1000000 in
theorem implSetTile_no (c : Array Value) (r : Rf) (a b : Int) (k : Int) (w : World) (hR : IsRoof c r) (hz : r.ask a b (inB k 0 3) ≠ 0) :
    Calls Try.prog 21 #[.agg c, .agg #[.int .i8 a, .int .i8 b], .int .i64 k] w fun e w' => e = .returned (.tuple #[.agg Try.zeroCells28, .int .i64 (r.ask a b (inB k 0 3))]) ∧ Below w.heap.size w w' := by
  have hc := hR.size
  have hzs := zroof_size
  have hrs := zroof_ones
  rw [ask_split] at hz ⊢
  by_cases hp : r.ask a b true = 0
  · rw [if_pos hp] at hz ⊢
    have hb0 : (r.ask a b true != 0) = false := by simp [hp]
    have hb1 : (r.told (inB k 0 3) != 0) = true := by simp [hz]
    clear hz hp
    go_enter Try.func21, Try.ntmps21
    go_wp2_with fail
    refine (checkPlace_any c r a b _ hR).mono ?_
    rintro e w1 ⟨rfl, b1⟩
    have q0 := brow b1 ((rowAt_alloc_past _ (.cells Try.zeroCells28 28) _ (by simp; omega)).trans ((rowAt_alloc_past _ (.cells #[.int .i8 a, .int .i8 b] 35) _ (by simp)).trans (rowAt_alloc_at w c 28 _ rfl)))
    have q1 := brow b1 ((rowAt_alloc_past _ (.cells Try.zeroCells28 28) (w.heap.size + 1) (by simp)).trans (rowAt_alloc_at (w.alloc (.cells c 28)) #[.int .i8 a, .int .i8 b] 35 _ (by simp)))
    have q2 := brow b1 (rowAt_alloc_at ((w.alloc (.cells c 28)).alloc (.cells #[.int .i8 a, .int .i8 b] 35)) Try.zeroCells28 28 (w.heap.size + 1 + 1) (by simp))
    have B1 : Below w.heap.size w w1 := ((((Below.refl _ _).alloc (Nat.le_refl _) _).alloc (by simp) _).alloc (by simp; omega) _).trans (b1.mono (by simp; omega))
    clear b1
    go_wp2_with fail
    refine (checkKind_any c r k _ hR).mono ?_
    rintro e w2 ⟨rfl, b2⟩
    have r2 := brow b2 q2
    have B2 := bnext B1 b2 B1.size
    clear b2 q0 q1 q2 B1
    (try dsimp only)
    repeat go_step
    refine bodyPost_ret (v := .tuple #[.agg Try.zeroCells28, .int .i64 (r.told (inB k 0 3))]) (results_row2 (m := 67) rfl _ _ (w.heap.size + 1 + 1) _ _ rfl rfl (rowAt_setRow_at _ _ _ (by rw [r2]; rfl)) Try.underlying28 rfl (by kernel_rfl) hzs) rfl ⟨rfl, ?_⟩
    exact below_setRow B2 (by omega) _
  · rw [if_neg hp]
    have hb0 : (r.ask a b true != 0) = true := by simp [hp]
    clear hz hp
    go_enter Try.func21, Try.ntmps21
    go_wp2_with fail
    refine (checkPlace_any c r a b _ hR).mono ?_
    rintro e w1 ⟨rfl, b1⟩
    have q0 := brow b1 ((rowAt_alloc_past _ (.cells Try.zeroCells28 28) _ (by simp; omega)).trans ((rowAt_alloc_past _ (.cells #[.int .i8 a, .int .i8 b] 35) _ (by simp)).trans (rowAt_alloc_at w c 28 _ rfl)))
    have q1 := brow b1 ((rowAt_alloc_past _ (.cells Try.zeroCells28 28) (w.heap.size + 1) (by simp)).trans (rowAt_alloc_at (w.alloc (.cells c 28)) #[.int .i8 a, .int .i8 b] 35 _ (by simp)))
    have q2 := brow b1 (rowAt_alloc_at ((w.alloc (.cells c 28)).alloc (.cells #[.int .i8 a, .int .i8 b] 35)) Try.zeroCells28 28 (w.heap.size + 1 + 1) (by simp))
    have B1 : Below w.heap.size w w1 := ((((Below.refl _ _).alloc (Nat.le_refl _) _).alloc (by simp) _).alloc (by simp; omega) _).trans (b1.mono (by simp; omega))
    clear b1
    (try dsimp only)
    repeat go_step
    refine bodyPost_ret (v := .tuple #[.agg Try.zeroCells28, .int .i64 (r.ask a b true)]) (results_row2 (m := 67) rfl _ _ (w.heap.size + 1 + 1) _ _ rfl rfl (rowAt_setRow_at _ _ _ (by rw [q2]; rfl)) Try.underlying28 rfl (by kernel_rfl) hzs) rfl ⟨rfl, ?_⟩
    exact below_setRow B1 (by omega) _

set_option maxRecDepth 100000 in
set_option maxHeartbeats 1000000 in
theorem implSetTile_yes (c : Array Value) (r : Rf) (i j : Nat) (k : Int) (w : World) (hR : IsRoof c r) (hi : i < 8) (hj : j < 8) (hk : 0 ≤ k ∧ k ≤ 3) (hz : r.ask i j true = 0) :
    Calls Try.prog 21 #[.agg c, .agg #[.int .i8 i, .int .i8 j], .int .i64 k] w fun e w' => e = .returned (.tuple #[.agg (c.setIfInBounds (3 + (i * 8 + j)) (.int .u8 k)), .int .i64 0]) ∧ Below w.heap.size w w' := by
  have hc := hR.size
  have hb0 : (r.ask i j true != 0) = false := by simp [hz]
  have ht : r.told (inB k 0 3) = 0 := by rw [inB_true (by omega), Rf.told_in (Rf.ask_zero hz).1]
  have hb1 : (r.told (inB k 0 3) != 0) = false := by simp [ht]
  have hzs := zroof_size
  have hrs := (hR.set (i * 8 + j) (by omega) k (by omega)).ones
  rw [← Nat.add_assoc] at hrs ⊢
  have i0 : 0 ≤ (i : Int) := by omega
  have i1 : (i : Int) < 8 := by omega
  have j0 : 0 ≤ (j : Int) := by omega
  have j1 : (j : Int) < 8 := by omega
  obtain ⟨hk0, hk3⟩ := hk
  have hcx : 3 + i * 8 + j < 67 := by omega
  have hne2 : w.heap.size + 1 + 1 ≠ w.heap.size := by omega
  clear hz ht
  go_enter Try.func21, Try.ntmps21
  go_wp2_with fail
  refine (checkPlace_any c r i j _ hR).mono ?_
  rintro e w1 ⟨rfl, b1⟩
  have q0 := brow b1 ((rowAt_alloc_past _ (.cells Try.zeroCells28 28) _ (by simp; omega)).trans ((rowAt_alloc_past _ (.cells #[.int .i8 i, .int .i8 j] 35) _ (by simp)).trans (rowAt_alloc_at w c 28 _ rfl)))
  have q1 := brow b1 ((rowAt_alloc_past _ (.cells Try.zeroCells28 28) (w.heap.size + 1) (by simp)).trans (rowAt_alloc_at (w.alloc (.cells c 28)) #[.int .i8 i, .int .i8 j] 35 _ (by simp)))
  have q2 := brow b1 (rowAt_alloc_at ((w.alloc (.cells c 28)).alloc (.cells #[.int .i8 i, .int .i8 j] 35)) Try.zeroCells28 28 (w.heap.size + 1 + 1) (by simp))
  have B1 : Below w.heap.size w w1 := ((((Below.refl _ _).alloc (Nat.le_refl _) _).alloc (by simp) _).alloc (by simp; omega) _).trans (b1.mono (by simp; omega))
  clear b1
  go_wp2_with fail
  refine (checkKind_any c r k _ hR).mono ?_
  rintro e wx ⟨rfl, b2⟩
  have g0 := brow b2 q0
  have g3 := brow b2 q1
  have r2 := brow b2 q2
  have g1 : wx.cell? ⟨w.heap.size + 1, 0, none⟩ = some (.int .i8 i) := by rw [cell_of_rowAt g3]; rfl
  have g2 : wx.cell? ⟨w.heap.size + 1, 1, none⟩ = some (.int .i8 j) := by rw [cell_of_rowAt g3]; rfl
  have B2 := bnext B1 b2 B1.size
  clear b2 q0 q1 q2 B1
  have gcell := cell_of_rowAt g0
  have gfro := frozen_of_rowAt g0
  go_wp2_with fail
  go_still_tail 9, (by kernel_rfl)
  change wpList _ _ _ _ _ wx.drew
  repeat go_step
  have s0 := rowAt_setCell_at wx w.heap.size (3 + i * 8 + j) (.int .u8 k) (by simp [g0])
  have s2 := (rowAt_setCell_ne wx w.heap.size (w.heap.size + 1 + 1) (3 + i * 8 + j) (.int .u8 k) hne2).trans r2
  refine bodyPost_ret (v := .tuple #[.agg (c.setIfInBounds (3 + i * 8 + j) (.int .u8 k)), .int .i64 0]) (results_row2 (m := 67) rfl _ _ (w.heap.size + 1 + 1) _ _ rfl rfl (rowAt_setRow_at _ _ _ (by rw [s2]; rfl)) Try.underlying28 rfl (by kernel_rfl) (by simpa using hc)) rfl ⟨rfl, ?_⟩
  exact below_setRow ((B2.setCell (p := ⟨_, _, none⟩) (Nat.le_refl _) _).drew) (by omega) _
end Go.Proofs.Ytppohghejhcilaa

/- SetTile: both sides by one answer. -/
namespace Go.Proofs.Ytppohghejhcilaa
open Go.RowKit

noncomputable def stA (c : Array Value) (r : Rf) (a b k : Int) : Array Value := if r.ask a b (inB k 0 3) = 0 then c.setIfInBounds (3 + (a.toNat * 8 + b.toNat)) (.int .u8 k) else Try.zeroCells28
noncomputable def stR (r : Rf) (a b k : Int) : Rf := if r.ask a b (inB k 0 3) = 0 then r.set (a.toNat * 8 + b.toNat) k else ⟨0, 0, 0, fun _ => 0⟩
theorem inB_of {n lo hi : Int} (h : inB n lo hi = true) : lo ≤ n ∧ n ≤ hi := by simpa [inB] using h
theorem stA_is {c : Array Value} {r : Rf} (hR : IsRoof c r) (a b k : Int) : IsRoof (stA c r a b k) (stR r a b k) := by
  unfold stA stR
  split
  · rename_i h
    obtain ⟨ho, hp, hf⟩ := Rf.ask_zero h
    have := inB_of hf
    have h8 := ho.2.2.2.1
    have w8 := ho.2.1
    exact hR.set _ (by omega) k (by omega)
  · exact zroof_is

theorem specSetTile_any (c : Array Value) (r : Rf) (a b k : Int) (w : World) (hR : IsRoof c r) (ha : -128 ≤ a ∧ a ≤ 127) (hb : -128 ≤ b ∧ b ≤ 127) :
    Calls Try.prog 22 #[.agg c, .agg #[.int .i8 a, .int .i8 b], .int .i64 k] w fun e w' => e = .returned (.tuple #[.agg (stA c r a b k), .int .i64 (r.ask a b (inB k 0 3))]) ∧ Below w.heap.size w w' := by
  by_cases h : r.ask a b (inB k 0 3) = 0
  · obtain ⟨ho, hp, hf⟩ := Rf.ask_zero h
    have hk := inB_of hf
    obtain ⟨i, hi⟩ := Int.eq_ofNat_of_zero_le hp.1
    obtain ⟨j, hj⟩ := Int.eq_ofNat_of_zero_le hp.2.2.1
    have h8 := ho.2.2.2.1
    have w8 := ho.2.1
    have e : stA c r a b k = c.setIfInBounds (3 + (a.toNat * 8 + b.toNat)) (.int .u8 k) := by unfold stA; rw [if_pos h]
    rw [e, h]
    rw [hf] at h
    subst hi hj
    exact specSetTile_yes c r i j k w hR (by omega) (by omega) hk h
  · have e : stA c r a b k = Try.zeroCells28 := by unfold stA; rw [if_neg h]
    rw [e]
    exact specSetTile_no c r a b k w hR ha hb h

theorem implSetTile_any (c : Array Value) (r : Rf) (a b k : Int) (w : World) (hR : IsRoof c r) :
    Calls Try.prog 21 #[.agg c, .agg #[.int .i8 a, .int .i8 b], .int .i64 k] w fun e w' => e = .returned (.tuple #[.agg (stA c r a b k), .int .i64 (r.ask a b (inB k 0 3))]) ∧ Below w.heap.size w w' := by
  by_cases h : r.ask a b (inB k 0 3) = 0
  · obtain ⟨ho, hp, hf⟩ := Rf.ask_zero h
    have hk := inB_of hf
    obtain ⟨i, hi⟩ := Int.eq_ofNat_of_zero_le hp.1
    obtain ⟨j, hj⟩ := Int.eq_ofNat_of_zero_le hp.2.2.1
    have h8 := ho.2.2.2.1
    have w8 := ho.2.1
    have e : stA c r a b k = c.setIfInBounds (3 + (a.toNat * 8 + b.toNat)) (.int .u8 k) := by unfold stA; rw [if_pos h]
    rw [e, h]
    rw [hf] at h
    subst hi hj
    exact implSetTile_yes c r i j k w hR (by omega) (by omega) hk h
  · have e : stA c r a b k = Try.zeroCells28 := by unfold stA; rw [if_neg h]
    rw [e]
    exact implSetTile_no c r a b k w hR h
end Go.Proofs.Ytppohghejhcilaa

/- TilesOf, CountKind: both sides. -/
namespace Go.Proofs.Ytppohghejhcilaa
open Go.RowKit

/-- All places of a roof. -/
def Rf.all (r : Rf) : List (Pl r.h.toNat r.w.toNat) := plUpto r.h.toNat r.w.toNat (r.h.toNat * r.w.toNat)
noncomputable def Rf.tkL (r : Rf) (k : Int) : List (Pl r.h.toNat r.w.toNat) := if r.told (inB k 0 3) = 0 then r.ofKind k r.all else []
theorem Rf.all_le {r : Rf} (ho : r.Ok) : r.all.length ≤ 64 := by
  have := plUpto_len r.h.toNat r.w.toNat (r.h.toNat * r.w.toNat)
  have h2 : r.h.toNat * r.w.toNat ≤ 8 * 8 := Nat.mul_le_mul (by have := ho.2.2.2.1; omega) (by have := ho.2.1; omega)
  unfold Rf.all
  omega
theorem Rf.tkL_le (r : Rf) (k : Int) : (r.tkL k).length ≤ 64 := by
  unfold Rf.tkL
  split
  · rename_i h
    exact Nat.le_trans (r.ofKind_len _) (Rf.all_le (Rf.told_zero h).1)
  · simp
def GivesPs (w : World) {h ww : Nat} (l : List (Pl h ww)) (code : Int) (e : Ending) (w' : World) : Prop :=
  ∃ v, e = .returned (.tuple #[v, .int .i64 code]) ∧ IsList w' w.heap.size v 2 l.length (fun i => .int .i8 (plAt l i)) ∧ Below w.heap.size w w'

end Go.Proofs.Ytppohghejhcilaa

/- r.mended(): the roof with whole tiles alone. -/
namespace Go.Proofs.Ytppohghejhcilaa
open Go.RowKit

/-- A roof of that size, all of it whole. -/
def Rf.bare (r : Rf) : Rf := { r with t := fun _ => 0 }
def z64 : Array Value := mkI .u8 64 fun _ => 0
theorem z64_lit : (#[.int .u8 0, .int .u8 0, .int .u8 0, .int .u8 0, .int .u8 0, .int .u8 0, .int .u8 0, .int .u8 0, .int .u8 0, .int .u8 0, .int .u8 0, .int .u8 0, .int .u8 0, .int .u8 0, .int .u8 0, .int .u8 0, .int .u8 0, .int .u8 0, .int .u8 0, .int .u8 0, .int .u8 0, .int .u8 0, .int .u8 0, .int .u8 0, .int .u8 0, .int .u8 0, .int .u8 0, .int .u8 0, .int .u8 0, .int .u8 0, .int .u8 0, .int .u8 0, .int .u8 0, .int .u8 0, .int .u8 0, .int .u8 0, .int .u8 0, .int .u8 0, .int .u8 0, .int .u8 0, .int .u8 0, .int .u8 0, .int .u8 0, .int .u8 0, .int .u8 0, .int .u8 0, .int .u8 0, .int .u8 0, .int .u8 0, .int .u8 0, .int .u8 0, .int .u8 0, .int .u8 0, .int .u8 0, .int .u8 0, .int .u8 0, .int .u8 0, .int .u8 0, .int .u8 0, .int .u8 0, .int .u8 0, .int .u8 0, .int .u8 0, .int .u8 0] : Array Value) = z64 := by kernel_rfl
theorem ones64 : Ones (#[.int .u8 0, .int .u8 0, .int .u8 0, .int .u8 0, .int .u8 0, .int .u8 0, .int .u8 0, .int .u8 0, .int .u8 0, .int .u8 0, .int .u8 0, .int .u8 0, .int .u8 0, .int .u8 0, .int .u8 0, .int .u8 0, .int .u8 0, .int .u8 0, .int .u8 0, .int .u8 0, .int .u8 0, .int .u8 0, .int .u8 0, .int .u8 0, .int .u8 0, .int .u8 0, .int .u8 0, .int .u8 0, .int .u8 0, .int .u8 0, .int .u8 0, .int .u8 0, .int .u8 0, .int .u8 0, .int .u8 0, .int .u8 0, .int .u8 0, .int .u8 0, .int .u8 0, .int .u8 0, .int .u8 0, .int .u8 0, .int .u8 0, .int .u8 0, .int .u8 0, .int .u8 0, .int .u8 0, .int .u8 0, .int .u8 0, .int .u8 0, .int .u8 0, .int .u8 0, .int .u8 0, .int .u8 0, .int .u8 0, .int .u8 0, .int .u8 0, .int .u8 0, .int .u8 0, .int .u8 0, .int .u8 0, .int .u8 0, .int .u8 0, .int .u8 0] : Array Value) := by rw [z64_lit]; exact (isK_mkI _ _ _).ones
theorem z64_size : z64.size = 64 := by simp [z64]
theorem z64_get (i : Nat) (hi : i < 64) : z64[i]? = some (.int .u8 0) := (isK_mkI .u8 64 fun _ => 0).get hi
/-- The cells of a roof, its tiles whole. -/
def bareC (c : Array Value) : Array Value := splice c 3 z64
theorem IsRoof.bare {c : Array Value} {r : Rf} (h : IsRoof c r) : IsRoof (bareC c) r.bare where
  size := by have := h.size; unfold bareC; rw [size_splice _ _ _ (by rw [z64_size]; omega)]; exact this
  wide hh := get_of (by have := h.size; unfold bareC; rw [get_splice _ _ _ (by rw [z64_size]; omega), if_pos (by omega), Array.getElem?_eq_getElem (by omega), h.wide]; rfl) hh
  high hh := get_of (by have := h.size; unfold bareC; rw [get_splice _ _ _ (by rw [z64_size]; omega), if_pos (by omega), Array.getElem?_eq_getElem (by omega), h.high]; rfl) hh
  shift hh := get_of (by have := h.size; unfold bareC; rw [get_splice _ _ _ (by rw [z64_size]; omega), if_pos (by omega), Array.getElem?_eq_getElem (by omega), h.shift]; rfl) hh
  tiles := ⟨by have := h.size; unfold bareC; simp [z64_size, this], fun i hi => by
    have hs := h.size
    have hb : (bareC c).size = 67 := by unfold bareC; rw [size_splice _ _ _ (by rw [z64_size]; omega)]; exact hs
    have hi' : i < 64 := by simp [hb] at hi; omega
    refine get_of ?_ hi
    rw [get_extract _ _ _ _ (by omega) (by omega)]
    unfold bareC
    rw [get_splice _ _ _ (by rw [z64_size]; omega), if_neg (by omega), z64_size, if_pos (by omega), show 3 + i - 3 = i from by omega]
    exact z64_get i hi', fun _ _ => Int.le_refl _, fun _ _ => by show (0 : Int) ≤ 255; decide⟩
  w0 := h.w0
  w1 := h.w1
  h0 := h.h0
  h1 := h.h1
  s0 := h.s0
  s1 := h.s1
theorem Rf.bare_ok {r : Rf} (h : r.Ok) : r.bare.Ok := ⟨h.1, h.2.1, h.2.2.1, h.2.2.2.1, h.2.2.2.2.1, fun _ _ => ⟨by show (0 : Int) ≤ 3; decide, .inr rfl⟩⟩

set_option maxRecDepth 100000 in
set_option maxHeartbeats 1000000 in
theorem mended_any (c : Array Value) (r : Rf) (w : World) (hR : IsRoof c r) :
    Calls Try.prog 50 #[.agg c] w fun e w' => e = .returned (.agg (bareC c)) ∧ Below w.heap.size w w' := by
  have hc := hR.size
  have hzs := zroof_size
  have hbo := hR.bare.ones
  have hbs := hR.bare.size
  have o64 := ones64
  unfold bareC at *
  rw [← z64_lit] at *
  go_enter Try.func50, Try.ntmps50
  go_wp2_with fail
  refine bodyPost_ret (v := .agg (splice c 3 #[.int .u8 0, .int .u8 0, .int .u8 0, .int .u8 0, .int .u8 0, .int .u8 0, .int .u8 0, .int .u8 0, .int .u8 0, .int .u8 0, .int .u8 0, .int .u8 0, .int .u8 0, .int .u8 0, .int .u8 0, .int .u8 0, .int .u8 0, .int .u8 0, .int .u8 0, .int .u8 0, .int .u8 0, .int .u8 0, .int .u8 0, .int .u8 0, .int .u8 0, .int .u8 0, .int .u8 0, .int .u8 0, .int .u8 0, .int .u8 0, .int .u8 0, .int .u8 0, .int .u8 0, .int .u8 0, .int .u8 0, .int .u8 0, .int .u8 0, .int .u8 0, .int .u8 0, .int .u8 0, .int .u8 0, .int .u8 0, .int .u8 0, .int .u8 0, .int .u8 0, .int .u8 0, .int .u8 0, .int .u8 0, .int .u8 0, .int .u8 0, .int .u8 0, .int .u8 0, .int .u8 0, .int .u8 0, .int .u8 0, .int .u8 0, .int .u8 0, .int .u8 0, .int .u8 0, .int .u8 0, .int .u8 0, .int .u8 0, .int .u8 0, .int .u8 0])) (results_row1 rfl _ _ (w.heap.size + 1) _ rfl (rowAt_alloc_at _ _ _ _ (by simp)) Try.underlying28 rfl (by kernel_rfl) hbs) rfl ⟨rfl, ?_⟩
  exact ((Below.refl _ _).alloc (Nat.le_refl _) _).alloc (by simp) _
end Go.Proofs.Ytppohghejhcilaa

/- '==' of two roofs. -/
namespace Go.Proofs.Ytppohghejhcilaa
open Go.RowKit

open Classical in
noncomputable def Rf.rowEq (r q : Rf) (i : Nat) : Bool := decide (∀ j, j < 8 → r.t (i * 8 + j) = q.t (i * 8 + j))
open Classical in
noncomputable def Rf.tilesEq (r q : Rf) : Bool := decide (∀ i, i < 8 → r.rowEq q i = true)
noncomputable def Rf.eqB (r q : Rf) : Bool := if r.w = q.w then if r.h = q.h then if r.s = q.s then r.tilesEq q else false else false else false

theorem run_eq_rows (x y : Array Value) (r q : Rf) (hx : IsU8 x 64 r.t) (hy : IsU8 y 64 q.t) (d : Nat) (w : World) : (Op.equalIn (d + 3) 26 (.agg x) (.agg y)).run Try.prog w = .ok (r.tilesEq q) w := by
  have hxs := hx.size
  have hys := hy.size
  rw [run_equalIn_arr Try.underlying26 (sz := 8) (by kernel_rfl) (d + 2) x y w (fun i => r.rowEq q i) ?_]
  · congr 1
    unfold Rf.tilesEq
    rw [Bool.eq_iff_iff]; simp
  · intro i hi
    refine ⟨_, _, run_part_agg Try.underlying25 rfl (sz := 8) (by kernel_rfl) x (i * 8) w, run_part_agg Try.underlying25 rfl (sz := 8) (by kernel_rfl) y (i * 8) w, ?_⟩
    have h1 := hx.extract (i * 8) 8 (by omega)
    have h2 := hy.extract (i * 8) 8 (by omega)
    rw [run_equalIn_ints Try.underlying25 Try.underlying5 (by kernel_rfl) _ _ (fun j => r.t (i * 8 + j)) (fun j => q.t (i * 8 + j))
      (fun j hj => by rw [Array.getElem?_eq_getElem (by have := h1.size; omega), h1.cell]) (fun j hj => by rw [Array.getElem?_eq_getElem (by have := h2.size; omega), h2.cell]) d w]
    congr 1
    unfold Rf.rowEq
    rw [Bool.eq_iff_iff]; simp

theorem run_eq_roof (c e : Array Value) (r q : Rf) (hc : IsRoof c r) (he : IsRoof e q) (w : World) : (Op.equalIn 10000 28 (.agg c) (.agg e)).run Try.prog w = .ok (r.eqB q) w := by
  have hcs := hc.size
  have hes := he.size
  have hf : Try.prog.underlying 28 = some (.struct (Try.prog.fieldsOf 28)) := by kernel_rfl
  have hs : Try.prog.stoodInHeld 28 = false := by kernel_rfl
  have key := run_eq_rows _ _ r q hc.tiles he.tiles 9996 w
  have p0 := run_part_int (P := Try.prog) Try.underlying24 c 0 (.int .i8 r.w) (by rw [Array.getElem?_eq_getElem (by omega), hc.wide]) w
  have p1 := run_part_int (P := Try.prog) Try.underlying24 c 1 (.int .i8 r.h) (by rw [Array.getElem?_eq_getElem (by omega), hc.high]) w
  have p2 := run_part_int (P := Try.prog) Try.underlying5 c 2 (.int .u8 r.s) (by rw [Array.getElem?_eq_getElem (by omega), hc.shift]) w
  have p3 := run_part_agg (P := Try.prog) Try.underlying26 rfl (sz := 64) (by kernel_rfl) c 3 w
  have q0 := run_part_int (P := Try.prog) Try.underlying24 e 0 (.int .i8 q.w) (by rw [Array.getElem?_eq_getElem (by omega), he.wide]) w
  have q1 := run_part_int (P := Try.prog) Try.underlying24 e 1 (.int .i8 q.h) (by rw [Array.getElem?_eq_getElem (by omega), he.high]) w
  have q2 := run_part_int (P := Try.prog) Try.underlying5 e 2 (.int .u8 q.s) (by rw [Array.getElem?_eq_getElem (by omega), he.shift]) w
  have q3 := run_part_agg (P := Try.prog) Try.underlying26 rfl (sz := 64) (by kernel_rfl) e 3 w
  have i0 := run_equalIn_int w 9998 24 .i8 .i8 r.w q.w Try.underlying24
  have i1 := run_equalIn_int w 9998 24 .i8 .i8 r.h q.h Try.underlying24
  have i2 := run_equalIn_int w 9998 5 .u8 .u8 r.s q.s Try.underlying5
  rw [run_equalIn_struct w 9999 _ c e hf hs]
  have hfl := TypeDesc.struct.inj (Option.some.inj (hf.symm.trans Try.underlying28))
  rw [hfl]
  simp only [Nat.reduceAdd] at p3 q3 key i0 i1 i2
  simp [Op.eqFields, Sem.run_bind, p0, p1, p2, p3, q0, q1, q2, q3, i0, i1, i2]
  rw [key]
  unfold Rf.eqB
  cases r.tilesEq q <;> by_cases h0 : r.w = q.w <;> by_cases h1 : r.h = q.h <;> by_cases h2 : r.s = q.s <;> simp [h0, h1, h2]
end Go.Proofs.Ytppohghejhcilaa

/- Rain: its types, what came in, and the laws' helpers over it. -/
namespace Go.Proofs.Ytppohghejhcilaa
open Go.RowKit Go.ChangeShapes Go.WideShapes

/-- The cells of rain. -/
structure IsRain (c : Array Value) (t : Nat → Int) : Prop where
  isK : IsK .i16 c 17 t
  lo : ∀ i, i < 17 → -32768 ≤ t i
  hi : ∀ i, i < 17 → t i ≤ 32767
theorem IsRain.size {c : Array Value} {t : Nat → Int} (h : IsRain c t) : c.size = 17 := h.isK.size
theorem IsRain.ones {c : Array Value} {t : Nat → Int} (h : IsRain c t) : Ones c := h.isK.ones

theorem okWide_arr {P : Program} {w : World} {r : Reach} {base n : Nat} {t e : TypeId} {v : Value} (ht : P.underlying t = some (.array n e)) (h : Value.okWide P w r base t v) : ∃ cs, v = .agg cs ∧ cs.size = P.cellsOf t := by
  simp only [Value.okWide, ht] at h
  obtain ⟨cs, h1, h2, _⟩ := h
  exact ⟨cs, h1, h2⟩

section
variable {H : Type} {enc : TypeId × Value → H} {w : World} {base b0 : Nat} {spare : Nat → Bool} {held : Bool} {r : Reach}
end

end Go.Proofs.Ytppohghejhcilaa

/- Valid rain: contracts of both sides. -/
namespace Go.Proofs.Ytppohghejhcilaa
open Go.RowKit

/-- Rain as a valid roof has it. -/
def Rf.rfine (r : Rf) (t : Nat → Int) (i : Nat) : Prop := (0 ≤ t i ∧ t i ≤ 1000) ∧ ((i : Int) < 2 * r.w + 1 ∨ t i = 0)
def Rf.Rains (r : Rf) (t : Nat → Int) : Prop := r.Ok ∧ ∀ i, i < 17 → r.rfine t i
open Classical in
noncomputable def Rf.rok (r : Rf) (t : Nat → Int) : Bool := decide (r.Rains t)
theorem Rf.rok_true {r : Rf} {t : Nat → Int} (h : r.Rains t) : r.rok t = true := by simp [Rf.rok, h]
theorem Rf.rok_false {r : Rf} {t : Nat → Int} (h : ¬ r.Rains t) : r.rok t = false := by simp [Rf.rok, h]
theorem Rf.Rains_of {r : Rf} {t : Nat → Int} (h : r.rok t = true) : r.Rains t := by simpa [Rf.rok] using h
theorem Rf.not_rains {r : Rf} {t : Nat → Int} (h : r.rok t = false) : ¬ r.Rains t := by simpa [Rf.rok] using h

/-- Two boxed arguments: both rows. -/
theorem two_boxes (w : World) (c d : Array Value) (t1 t2 : TypeId) :
    rowAt ((w.alloc (.cells c t1)).alloc (.cells d t2)) w.heap.size = some c ∧ rowAt ((w.alloc (.cells c t1)).alloc (.cells d t2)) (w.heap.size + 1) = some d ∧ Below w.heap.size w ((w.alloc (.cells c t1)).alloc (.cells d t2)) :=
  ⟨(rowAt_alloc_past _ _ _ (by simp)).trans (rowAt_alloc_at _ _ _ _ rfl), rowAt_alloc_at _ _ _ _ (by simp), ((Below.refl _ _).alloc (Nat.le_refl _) _).alloc (by simp) _⟩

end Go.Proofs.Ytppohghejhcilaa

/- DifferIn: both sides. -/
namespace Go.Proofs.Ytppohghejhcilaa
open Go.RowKit Go.Shelf
attribute [local go_sem] Oper.semAt_some

def Rf.same (r q : Rf) : Prop := r.w = q.w ∧ r.h = q.h ∧ r.s = q.s
instance (r q : Rf) : Decidable (r.same q) := inferInstanceAs (Decidable (_ ∧ _ ∧ _))
/-- Of some places those whose tiles differ. -/
def Rf.diff (r q : Rf) {h w : Nat} (l : List (Pl h w)) : List (Pl h w) := l.filter fun x => r.t (x.1.1 * 8 + x.1.2) != q.t (x.1.1 * 8 + x.1.2)
theorem Rf.diff_hit {r q : Rf} {h w : Nat} {l : List (Pl h w)} {x : Pl h w} (e : (r.t (x.1.1 * 8 + x.1.2) != q.t (x.1.1 * 8 + x.1.2)) = true) : r.diff q (l ++ [x]) = r.diff q l ++ [x] := by simp only [Rf.diff, List.filter_append, List.filter_cons, e, List.filter_nil, if_true]
theorem Rf.diff_miss {r q : Rf} {h w : Nat} {l : List (Pl h w)} {x : Pl h w} (e : (r.t (x.1.1 * 8 + x.1.2) != q.t (x.1.1 * 8 + x.1.2)) = false) : r.diff q (l ++ [x]) = r.diff q l := by simp [Rf.diff, e]
theorem Rf.diff_len {r q : Rf} {h w : Nat} (l : List (Pl h w)) : (r.diff q l).length ≤ l.length := List.length_filter_le _ _
theorem Rf.bare_tiles (r q : Rf) : r.bare.tilesEq q.bare = true := by
  unfold Rf.tilesEq Rf.rowEq Rf.bare
  simp
theorem Rf.bare_t {r q : Rf} (h : r.same q) : r.bare.eqB q.bare = true := by
  unfold Rf.eqB
  rw [Rf.bare_tiles]
  exact (if_pos (show r.bare.w = q.bare.w from h.1)).trans ((if_pos (show r.bare.h = q.bare.h from h.2.1)).trans (if_pos (show r.bare.s = q.bare.s from h.2.2)))
theorem onlyN_out {Q : Exit → Act → World → Prop} : ∀ e a w, OnlyN Q e a w → Q e a w
  | .normal, _, _, h => h
  | .exit _, _, _, h => h.elim
  | .goto _, _, _, h => h.elim
  | .ret, _, _, h => h.elim
  | .panic _, _, _, h => h.elim
theorem Rf.bare_f {r q : Rf} (h : ¬ r.same q) : r.bare.eqB q.bare = false := by
  unfold Rf.eqB
  by_cases h0 : r.bare.w = q.bare.w
  · by_cases h1 : r.bare.h = q.bare.h
    · by_cases h2 : r.bare.s = q.bare.s
      · exact absurd ⟨h0, h1, h2⟩ h
      · rw [if_pos h0, if_pos h1, if_neg h2]
    · rw [if_pos h0, if_neg h1]
  · rw [if_neg h0]
noncomputable def Rf.dcode (r q : Rf) : Int := if r.ok = true then if q.ok = true then if r.same q then 0 else 4 else 1 else 1
noncomputable def Rf.dfL (r q : Rf) : List (Pl r.h.toNat r.w.toNat) := if r.dcode q = 0 then r.diff q r.all else []
theorem Rf.dfL_le (r q : Rf) : (r.dfL q).length ≤ 64 := by
  unfold Rf.dfL
  by_cases h : r.dcode q = 0
  · rw [if_pos h]
    unfold Rf.dcode at h
    by_cases ho : r.ok = true
    · exact Nat.le_trans (Rf.diff_len _) (Rf.all_le (by by_cases hk : r.Ok; exact hk; rw [Rf.ok_false hk] at ho; exact absurd ho (by simp)))
    · rw [if_neg ho] at h; exact absurd h (by decide)
  · rw [if_neg h]; simp

set_option maxRecDepth 100000 in
set_option maxHeartbeats 1000000 in
theorem differ_pred (B0 B1 : Nat) (c e : Array Value) (r q : Rf) (w : World) (h0 : rowAt w B0 = some c) (h1 : rowAt w B1 = some e) (hR : IsRoof c r) (hQ : IsRoof e q) :
    PredW 52 #[] #[.pointer (some ⟨B0, 0, none⟩), .pointer (some ⟨B1, 0, none⟩)] (fun i j => r.t (i * 8 + j) != q.t (i * 8 + j)) w := fun i j W hi hj hb => by
  have hc := hR.size
  have he := hQ.size
  have CK := fun W => kind_any c r i j W hR hi hj
  have CL := fun W => kind_any e q i j W hQ hi hj
  show Calls Try.prog 52 #[.agg #[.int .i8 (i : Int), .int .i8 (j : Int)], .pointer (some ⟨B0, 0, none⟩), .pointer (some ⟨B1, 0, none⟩)] W _
  obtain ⟨b, hcmp⟩ : ∃ b, (fun i j => r.t (i * 8 + j) != q.t (i * 8 + j)) i j = b := ⟨_, rfl⟩
  rw [hcmp]
  dsimp only at hcmp
  have hcq : (r.t (i * 8 + j) != q.t (i * 8 + j)) = b := by first | exact hcmp | (rw [← hcmp]; first | rfl | simp [bne])
  go_enter Try.func52, Try.ntmps52
  go_wp2_with fail
  refine gen_world fun W2 hW => ?_
  have rB : Below W.heap.size W W2 := by rw [hW]; exact (Below.refl _ _).alloc (Nat.le_refl _) _
  have rA : rowAt W2 W.heap.size = some #[.int .i8 (i : Int), .int .i8 (j : Int)] := by rw [hW]; exact rowAt_alloc_at _ _ _ _ rfl
  have r0 : rowAt W2 B0 = some c := brow rB (brow hb h0)
  have r1 : rowAt W2 B1 = some e := brow rB (brow hb h1)
  clear hW
  refine wp_region_held_drew (S := fun w' => Below W2.heap.size W2 w') (by kernel_rfl) ((Below.refl _ _).drew) (fun hH => ?_)
  refine wpAnyH_take (i := 0) (v := .agg c) rfl (by kernel_rfl) (by kernel_rfl) (by kernel_rfl) (fun _ _ _ h => h) (Or.inl ⟨by rfl, ?_⟩) hH ?_
  · intro w1 hS; (try dsimp only at hS); have u := brow hS r0; go_simp
  (try simp only [List.getElem_toArray]); (try simp only [List.getElem_cons_succ]); (try simp only [List.getElem_cons_zero]); (try simp only [Act.put]); (try simp only [List.setIfInBounds_toArray]); (try simp only [List.set_cons_succ]); (try simp only [List.set_cons_zero])
  refine wpAnyH_take (i := 1) (v := .agg #[.int .i8 (i : Int), .int .i8 (j : Int)]) rfl (by kernel_rfl) (by kernel_rfl) (by kernel_rfl) (fun _ _ _ h => h) (Or.inl ⟨by rfl, ?_⟩) hH ?_
  · intro w1 hS; (try dsimp only at hS); have u0 := (cell_of_rowAt (brow hS rA) 0); have u1 := (cell_of_rowAt (brow hS rA) 1); simp at u0 u1; go_simp
  (try simp only [List.getElem_toArray]); (try simp only [List.getElem_cons_succ]); (try simp only [List.getElem_cons_zero]); (try simp only [Act.put]); (try simp only [List.setIfInBounds_toArray]); (try simp only [List.set_cons_succ]); (try simp only [List.set_cons_zero])
  refine wpAnyH_take (i := 3) (v := .agg e) rfl (by kernel_rfl) (by kernel_rfl) (by kernel_rfl) (fun _ _ _ h => h) (Or.inl ⟨by rfl, ?_⟩) hH ?_
  · intro w1 hS; (try dsimp only at hS); have u := brow hS r1; go_simp
  (try simp only [List.getElem_toArray]); (try simp only [List.getElem_cons_succ]); (try simp only [List.getElem_cons_zero]); (try simp only [Act.put]); (try simp only [List.setIfInBounds_toArray]); (try simp only [List.set_cons_succ]); (try simp only [List.set_cons_zero])
  refine wpAnyH_take (i := 4) (v := .agg #[.int .i8 (i : Int), .int .i8 (j : Int)]) rfl (by kernel_rfl) (by kernel_rfl) (by kernel_rfl) (fun _ _ _ h => h) (Or.inl ⟨by rfl, ?_⟩) hH ?_
  · intro w1 hS; (try dsimp only at hS); have u0 := (cell_of_rowAt (brow hS rA) 0); have u1 := (cell_of_rowAt (brow hS rA) 1); simp at u0 u1; go_simp
  (try simp only [List.getElem_toArray]); (try simp only [List.getElem_cons_succ]); (try simp only [List.getElem_cons_zero]); (try simp only [Act.put]); (try simp only [List.setIfInBounds_toArray]); (try simp only [List.set_cons_succ]); (try simp only [List.set_cons_zero])
  refine wpAnyH_ready (rs := [2]) (by kernel_rfl) (by simp) (AllReadyH.cons rfl (fun K hK => ?_) AllReadyH.nil)
  go_simp
  refine (CK _).mono ?_
  rintro x wx ⟨rfl, bx⟩
  go_simp
  refine hK.out _ _ (bnext hH bx hH.size) (fun hG => ?_)
  clear hK K hH bx
  replace hH := hG
  clear hG
  (try simp only [List.getElem_toArray]); (try simp only [List.getElem_cons_succ]); (try simp only [List.getElem_cons_zero]); (try simp only [Act.put]); (try simp only [List.setIfInBounds_toArray]); (try simp only [List.set_cons_succ]); (try simp only [List.set_cons_zero])
  refine wpAnyH_ready (rs := [5]) (by kernel_rfl) (by simp) (AllReadyH.cons rfl (fun K hK => ?_) AllReadyH.nil)
  go_simp
  refine (CL _).mono ?_
  rintro x wx ⟨rfl, bx⟩
  go_simp
  refine hK.out _ _ (bnext hH bx hH.size) (fun hG => ?_)
  clear hK K hH bx
  replace hH := hG
  clear hG
  (try simp only [List.getElem_toArray]); (try simp only [List.getElem_cons_succ]); (try simp only [List.getElem_cons_zero]); (try simp only [Act.put]); (try simp only [List.setIfInBounds_toArray]); (try simp only [List.set_cons_succ]); (try simp only [List.set_cons_zero])
  refine wpAnyH_take (i := 6) (v := .bool b) rfl (by kernel_rfl) (by kernel_rfl) (by kernel_rfl) (fun _ _ _ h => h) (Or.inl ⟨by rfl, ?_⟩) hH ?_
  · intro w1 hS; (try dsimp only at hS); go_simp
  (try simp only [List.getElem_toArray]); (try simp only [List.getElem_cons_succ]); (try simp only [List.getElem_cons_zero]); (try simp only [Act.put]); (try simp only [List.setIfInBounds_toArray]); (try simp only [List.set_cons_succ]); (try simp only [List.set_cons_zero])
  refine wpAnyH_take (i := 7) (v := .bool b) rfl (by kernel_rfl) (by kernel_rfl) (by kernel_rfl) (fun _ _ _ h => h) (Or.inl ⟨by rfl, ?_⟩) hH ?_
  · intro w1 hS; (try dsimp only at hS); go_simp
  (try simp only [List.getElem_toArray]); (try simp only [List.getElem_cons_succ]); (try simp only [List.getElem_cons_zero]); (try simp only [Act.put]); (try simp only [List.setIfInBounds_toArray]); (try simp only [List.set_cons_succ]); (try simp only [List.set_cons_zero])
  refine wpAnyH_done (by kernel_rfl) ?_ _
  have HB := rB.trans (hH.mono rB.size)
  clear hH
  go_wp2_with fail
  go_ret
  exact ⟨rfl, HB⟩

set_option maxRecDepth 100000 in
set_option maxHeartbeats 4000000 in
theorem differ_any (c e : Array Value) (r q : Rf) (hh ww : Nat) (hhe : r.h = hh) (hwe : r.w = ww) (h8 : hh ≤ 8) (w8 : ww ≤ 8) (w : World) (hR : IsRoof c r) (hQ : IsRoof e q) (ho : r.Ok) (hp : q.Ok) (hs : r.same q) :
    Calls Try.prog 23 #[.agg c, .agg e] w (GivesPs w (r.diff q (plUpto hh ww (hh * ww))) 0) := by
  have hc := hR.size
  have he := hQ.size
  have CM := fun w => mended_any c r w hR
  have CN := fun w => mended_any e q w hQ
  have heq := fun W => run_eq_roof (bareC c) (bareC e) r.bare q.bare hR.bare hQ.bare W
  rw [Rf.bare_t hs] at heq
  generalize bareC c = X at *
  generalize bareC e = Y at *
  have HEQ := Lib.hid heq
  clear heq
  have CW := fun W h0 h1 => placesWhere_any 52 #[] #[.pointer (some ⟨w.heap.size, 0, none⟩), .pointer (some ⟨w.heap.size + 1, 0, none⟩)] (fun i j => r.t (i * 8 + j) != q.t (i * 8 + j)) (enters_of Try.func52 (by kernel_rfl) rfl) c r hh ww hhe hwe h8 w8 W hR (differ_pred w.heap.size (w.heap.size + 1) c e r q W h0 h1 hR hQ)
  have HCW := Lib.hid CW
  clear CW hhe hwe
  obtain ⟨p0, p1, pB⟩ := two_boxes w c e 28 28
  go_enter Try.func23, Try.ntmps23
  go_wp2_with fail
  refine (implValid_t c r _ hR ho).mono ?_
  rintro x w1 ⟨rfl, b1⟩
  have q0 := brow b1 p0
  have q1 := brow b1 p1
  have B1 := bnext pB b1 pB.size
  clear b1 p0 p1 pB
  go_wp2_with fail
  refine (implValid_t e q _ hQ hp).mono ?_
  rintro x w2 ⟨rfl, b2⟩
  have p0 := brow b2 q0
  have p1 := brow b2 q1
  have B2 := bnext B1 b2 B1.size
  clear b2 q0 q1 B1
  go_wp2_with fail
  have heq := HEQ.out
  refine wp_region_held_drew (S := fun w' => Below w2.heap.size w2 w') (by kernel_rfl) ((Below.refl _ _).drew) (fun hH => ?_)
  refine wpAnyH_take (i := 0) (v := .agg c) rfl (by kernel_rfl) (by kernel_rfl) (by kernel_rfl) (fun _ _ _ h => h) (Or.inl ⟨by rfl, ?_⟩) hH ?_
  · intro w1 hS; (try dsimp only at hS); have u := brow hS p0; go_simp
  (try simp only [List.getElem_toArray]); (try simp only [List.getElem_cons_succ]); (try simp only [List.getElem_cons_zero]); (try simp only [Act.put]); (try simp only [List.setIfInBounds_toArray]); (try simp only [List.set_cons_succ]); (try simp only [List.set_cons_zero])
  refine wpAnyH_take (i := 2) (v := .agg e) rfl (by kernel_rfl) (by kernel_rfl) (by kernel_rfl) (fun _ _ _ h => h) (Or.inl ⟨by rfl, ?_⟩) hH ?_
  · intro w1 hS; (try dsimp only at hS); have u := brow hS p1; go_simp
  (try simp only [List.getElem_toArray]); (try simp only [List.getElem_cons_succ]); (try simp only [List.getElem_cons_zero]); (try simp only [Act.put]); (try simp only [List.setIfInBounds_toArray]); (try simp only [List.set_cons_succ]); (try simp only [List.set_cons_zero])
  refine wpAnyH_ready (rs := [1]) (by kernel_rfl) (by simp) (AllReadyH.cons rfl (fun K hK => ?_) AllReadyH.nil)
  go_simp
  refine (CM _).mono ?_
  rintro x wx ⟨rfl, bx⟩
  go_simp
  refine hK.out _ _ (bnext hH bx hH.size) (fun hG => ?_)
  clear hK K hH bx
  replace hH := hG
  clear hG
  (try simp only [List.getElem_toArray]); (try simp only [List.getElem_cons_succ]); (try simp only [List.getElem_cons_zero]); (try simp only [Act.put]); (try simp only [List.setIfInBounds_toArray]); (try simp only [List.set_cons_succ]); (try simp only [List.set_cons_zero])
  refine wpAnyH_ready (rs := [3]) (by kernel_rfl) (by simp) (AllReadyH.cons rfl (fun K hK => ?_) AllReadyH.nil)
  go_simp
  refine (CN _).mono ?_
  rintro x wx ⟨rfl, bx⟩
  go_simp
  refine hK.out _ _ (bnext hH bx hH.size) (fun hG => ?_)
  clear hK K hH bx
  replace hH := hG
  clear hG
  (try simp only [List.getElem_toArray]); (try simp only [List.getElem_cons_succ]); (try simp only [List.getElem_cons_zero]); (try simp only [Act.put]); (try simp only [List.setIfInBounds_toArray]); (try simp only [List.set_cons_succ]); (try simp only [List.set_cons_zero])
  refine wpAnyH_take (i := 4) (v := .bool false) rfl (by kernel_rfl) (by kernel_rfl) (by kernel_rfl) (fun _ _ _ h => h) (Or.inl ⟨by rfl, ?_⟩) hH ?_
  · intro w1 hS; (try dsimp only at hS); go_simp
  (try simp only [List.getElem_toArray]); (try simp only [List.getElem_cons_succ]); (try simp only [List.getElem_cons_zero]); (try simp only [Act.put]); (try simp only [List.setIfInBounds_toArray]); (try simp only [List.set_cons_succ]); (try simp only [List.set_cons_zero])
  refine wpAnyH_done (by kernel_rfl) ?_ _
  have s0 := brow hH p0
  have s1 := brow hH p1
  have B3 := bnext B2 hH B2.size
  clear heq HEQ CM CN hH p0 p1 B2
  go_wp2_with fail
  refine (HCW.out _ s0 s1).mono ?_
  rintro x w4 ⟨v, rfl, l1, b1, cp⟩
  have B4 := bnext B3 b1 B3.size
  replace l1 := l1.mono B3.size
  obtain ⟨av, cv, rfl⟩ := l1.shape
  clear b1 s0 s1
  go_wp2_with fail
  go_ret2
  exact ⟨_, rfl, l1, B4⟩
end Go.Proofs.Ytppohghejhcilaa

/- DifferIn: the model's side. -/
namespace Go.Proofs.Ytppohghejhcilaa
open Go.RowKit

theorem spKeep {A B g m : Nat} {i j : Value} {c e : Array Value} {wr x y : World} (hg : g < wr.heap.size) (h : (rowAt x A = some c ∧ rowAt x B = some e ∧ x.cell? ⟨g, m * 2, none⟩ = some i ∧ x.cell? ⟨g, m * 2 + 1, none⟩ = some j) ∧ Below wr.heap.size wr x) (b : Below x.heap.size x y) : (rowAt y A = some c ∧ rowAt y B = some e ∧ y.cell? ⟨g, m * 2, none⟩ = some i ∧ y.cell? ⟨g, m * 2 + 1, none⟩ = some j) ∧ Below wr.heap.size wr y :=
  have hx : g < x.heap.size := Nat.lt_of_lt_of_le hg h.2.size
  ⟨⟨brow b h.1.1, brow b h.1.2.1, (b.cell (p := ⟨g, m * 2, none⟩) hx).trans h.1.2.2.1, (b.cell (p := ⟨g, m * 2 + 1, none⟩) hx).trans h.1.2.2.2⟩, h.2.trans (b.mono h.2.size)⟩

end Go.Proofs.Ytppohghejhcilaa

/- DifferIn: both contracts. -/
namespace Go.Proofs.Ytppohghejhcilaa
open Go.RowKit

theorem Rf.dcode_0 {r q : Rf} (ho : r.Ok) (hp : q.Ok) (hs : r.same q) : r.dcode q = 0 := by unfold Rf.dcode; rw [if_pos (Rf.ok_true ho), if_pos (Rf.ok_true hp), if_pos hs]
theorem Rf.dcode_4 {r q : Rf} (ho : r.Ok) (hp : q.Ok) (hs : ¬ r.same q) : r.dcode q = 4 := by unfold Rf.dcode; rw [if_pos (Rf.ok_true ho), if_pos (Rf.ok_true hp), if_neg hs]
theorem Rf.dcode_1 {r q : Rf} (h : ¬ (r.Ok ∧ q.Ok)) : r.dcode q = 1 := by
  unfold Rf.dcode
  by_cases ho : r.Ok
  · have hp : ¬ q.Ok := fun hp => h ⟨ho, hp⟩
    rw [if_pos (Rf.ok_true ho), Rf.ok_false hp, if_neg (by decide)]
  · rw [Rf.ok_false ho, if_neg (by decide)]
theorem Rf.dfL_0 {r q : Rf} (ho : r.Ok) (hp : q.Ok) (hs : r.same q) : r.dfL q = r.diff q r.all := if_pos (Rf.dcode_0 ho hp hs)
theorem Rf.dfL_n {r q : Rf} (h : ¬ r.dcode q = 0) : r.dfL q = [] := if_neg h

set_option maxRecDepth 100000 in
set_option maxHeartbeats 4000000 in
theorem implDifferIn_any (c e : Array Value) (r q : Rf) (w : World) (hR : IsRoof c r) (hQ : IsRoof e q) :
    Calls Try.prog 23 #[.agg c, .agg e] w (GivesPs w (r.dfL q) (r.dcode q)) := by
  by_cases hgo : r.Ok ∧ q.Ok ∧ r.same q
  · obtain ⟨ho, hp, hs⟩ := hgo
    rw [Rf.dcode_0 ho hp hs, Rf.dfL_0 ho hp hs]
    exact differ_any c e r q r.h.toNat r.w.toNat (by have := ho.2.2.1; omega) (by have := ho.1; omega) (by have := ho.2.2.2.1; omega) (by have := ho.2.1; omega) w hR hQ ho hp hs
  obtain ⟨p0, p1, pB⟩ := two_boxes w c e 28 28
  have hc := hR.size
  have he := hQ.size
  by_cases ho : r.Ok
  · by_cases hp : q.Ok
    · have hs : ¬ r.same q := fun h => hgo ⟨ho, hp, h⟩
      rw [Rf.dcode_4 ho hp hs, Rf.dfL_n (by rw [Rf.dcode_4 ho hp hs]; decide)]
      have CM := fun w => mended_any c r w hR
      have CN := fun w => mended_any e q w hQ
      have heq := fun W => run_eq_roof (bareC c) (bareC e) r.bare q.bare hR.bare hQ.bare W
      rw [Rf.bare_f hs] at heq
      generalize bareC c = X at *
      generalize bareC e = Y at *
      have HEQ := Lib.hid heq
      clear heq
      go_enter Try.func23, Try.ntmps23
      go_wp2_with fail
      refine (implValid_t c r _ hR ho).mono ?_
      rintro x w1 ⟨rfl, b1⟩
      have q0 := brow b1 p0
      have q1 := brow b1 p1
      have B1 := bnext pB b1 pB.size
      clear b1 p0 p1 pB
      go_wp2_with fail
      refine (implValid_t e q _ hQ hp).mono ?_
      rintro x w2 ⟨rfl, b2⟩
      have p0 := brow b2 q0
      have p1 := brow b2 q1
      have B2 := bnext B1 b2 B1.size
      clear b2 q0 q1 B1
      go_wp2_with fail
      have heq := HEQ.out
      refine Code.wp_mono onlyN_out ?_
      refine wp_region_held_drew (S := (fun w' => (rowAt w' w.heap.size = some c ∧ rowAt w' (w.heap.size + 1) = some e) ∧ Below w.heap.size w w')) (by kernel_rfl) (⟨⟨p0, p1⟩, B2.drew⟩) (fun hH => ?_)
      refine wpAnyH_take (i := 0) (v := .agg c) rfl (by kernel_rfl) (by kernel_rfl) (by kernel_rfl) (fun _ _ _ h => h) (Or.inl ⟨by rfl, ?_⟩) hH ?_
      · intro w1 hS; (try dsimp only at hS); obtain ⟨⟨u0, u1⟩, _⟩ := hS; go_simp
      (try simp only [List.getElem_toArray]); (try simp only [List.getElem_cons_succ]); (try simp only [List.getElem_cons_zero]); (try simp only [Act.put]); (try simp only [List.setIfInBounds_toArray]); (try simp only [List.set_cons_succ]); (try simp only [List.set_cons_zero])
      refine wpAnyH_take (i := 2) (v := .agg e) rfl (by kernel_rfl) (by kernel_rfl) (by kernel_rfl) (fun _ _ _ h => h) (Or.inl ⟨by rfl, ?_⟩) hH ?_
      · intro w1 hS; (try dsimp only at hS); obtain ⟨⟨u0, u1⟩, _⟩ := hS; go_simp
      (try simp only [List.getElem_toArray]); (try simp only [List.getElem_cons_succ]); (try simp only [List.getElem_cons_zero]); (try simp only [Act.put]); (try simp only [List.setIfInBounds_toArray]); (try simp only [List.set_cons_succ]); (try simp only [List.set_cons_zero])
      refine wpAnyH_ready (rs := [1]) (by kernel_rfl) (by simp) (AllReadyH.cons rfl (fun K hK => ?_) AllReadyH.nil)
      go_simp
      refine (CM _).mono ?_
      rintro x wx ⟨rfl, bx⟩
      go_simp
      refine hK.out _ _ (⟨⟨brow bx hH.1.1, brow bx hH.1.2⟩, bnext hH.2 bx hH.2.size⟩) (fun hG => ?_)
      clear hK K hH bx
      replace hH := hG
      clear hG
      (try simp only [List.getElem_toArray]); (try simp only [List.getElem_cons_succ]); (try simp only [List.getElem_cons_zero]); (try simp only [Act.put]); (try simp only [List.setIfInBounds_toArray]); (try simp only [List.set_cons_succ]); (try simp only [List.set_cons_zero])
      refine wpAnyH_ready (rs := [3]) (by kernel_rfl) (by simp) (AllReadyH.cons rfl (fun K hK => ?_) AllReadyH.nil)
      go_simp
      refine (CN _).mono ?_
      rintro x wx ⟨rfl, bx⟩
      go_simp
      refine hK.out _ _ (⟨⟨brow bx hH.1.1, brow bx hH.1.2⟩, bnext hH.2 bx hH.2.size⟩) (fun hG => ?_)
      clear hK K hH bx
      replace hH := hG
      clear hG
      (try simp only [List.getElem_toArray]); (try simp only [List.getElem_cons_succ]); (try simp only [List.getElem_cons_zero]); (try simp only [Act.put]); (try simp only [List.setIfInBounds_toArray]); (try simp only [List.set_cons_succ]); (try simp only [List.set_cons_zero])
      refine wpAnyH_take (i := 4) (v := .bool true) rfl (by kernel_rfl) (by kernel_rfl) (by kernel_rfl) (fun _ _ _ h => h) (Or.inl ⟨by rfl, ?_⟩) hH ?_
      · intro w1 hS; (try dsimp only at hS); go_simp
      (try simp only [List.getElem_toArray]); (try simp only [List.getElem_cons_succ]); (try simp only [List.getElem_cons_zero]); (try simp only [Act.put]); (try simp only [List.setIfInBounds_toArray]); (try simp only [List.set_cons_succ]); (try simp only [List.set_cons_zero])
      refine wpAnyH_done (by kernel_rfl) ?_ _
      dsimp only [OnlyN]
      have B3 := hH.2
      clear heq HEQ CM CN hH p0 p1 B2
      go_wp2_with fail
      go_ret2
      exact ⟨_, rfl, .inl ⟨rfl, _, _, rfl⟩, B3⟩
    · rw [Rf.dcode_1 (fun h => hp h.2), Rf.dfL_n (by rw [Rf.dcode_1 (fun h => hp h.2)]; decide)]
      go_enter Try.func23, Try.ntmps23
      go_wp2_with fail
      refine (implValid_t c r _ hR ho).mono ?_
      rintro x w1 ⟨rfl, b1⟩
      have q0 := brow b1 p0
      have q1 := brow b1 p1
      have B1 := bnext pB b1 pB.size
      clear b1 p0 p1 pB
      go_wp2_with fail
      refine (implValid_f e q _ hQ hp).mono ?_
      rintro x w2 ⟨rfl, b2⟩
      have B2 := bnext B1 b2 B1.size
      clear b2 q0 q1 B1
      go_wp2_with fail
      go_ret2
      exact ⟨_, rfl, .inl ⟨rfl, _, _, rfl⟩, B2⟩
  · rw [Rf.dcode_1 (fun h => ho h.1), Rf.dfL_n (by rw [Rf.dcode_1 (fun h => ho h.1)]; decide)]
    go_enter Try.func23, Try.ntmps23
    go_wp2_with fail
    refine (implValid_f c r _ hR ho).mono ?_
    rintro x w1 ⟨rfl, b1⟩
    have B1 := bnext pB b1 pB.size
    clear b1 p0 p1 pB
    go_wp2_with fail
    go_ret2
    exact ⟨_, rfl, .inl ⟨rfl, _, _, rfl⟩, B1⟩
end Go.Proofs.Ytppohghejhcilaa

/- The contracts on tiles that lap, in the form that the promise's law wants. -/
namespace Go.Proofs.Ytppohghejhcilaa
open Go.RowKit

theorem Rf.ask_at {r : Rf} (ho : r.Ok) {a b : Int} (ha : 0 ≤ a ∧ a < r.h) (hb : 0 ≤ b ∧ b < r.w) : r.ask a b true = 0 := by
  unfold Rf.ask
  rw [if_pos (Rf.ok_true ho), if_pos ⟨Rf.isB_iff.2 ⟨ha.1, ha.2, hb.1, hb.2⟩, rfl⟩]
theorem Rf.told_at {r : Rf} (ho : r.Ok) {k : Int} (hk : 0 ≤ k ∧ k < r.h) : r.told (inB k 0 (r.h - 1)) = 0 := by
  rw [inB_true (by omega)]
  exact Rf.told_in ho
/-- What a call that makes a list of places without an error ends with. -/
def GivesL0 (w : World) (n : Nat) (f : Nat → Int) (e : Ending) (w' : World) : Prop :=
  ∃ v, e = .returned (.tuple #[v, .int .i64 0]) ∧ IsList w' w.heap.size v 2 n (fun i => .int .i8 (f i)) ∧ Below w.heap.size w w'
theorem lapUpI (c : Array Value) (r : Rf) (a b : Int) (w : World) (hR : IsRoof c r) (ho : r.Ok) (ha : 0 ≤ a ∧ a < r.h) (hb : 0 ≤ b ∧ b < r.w) :
    Calls Try.prog 7 #[.agg c, .agg #[.int .i8 a, .int .i8 b]] w (GivesL0 w (r.laps a b (a - 1)).length (plF (a - 1) (r.laps a b (a - 1)))) := by
  have h0 := Rf.ask_at ho ha hb
  have h := implAboveOf_any c r a b w hR
  rw [h0, show abN r a b = (r.laps a b (a - 1)).length by unfold abN; rw [if_pos h0]] at h
  exact h
theorem lapUpS (c : Array Value) (r : Rf) (a b : Int) (w : World) (hR : IsRoof c r) (ho : r.Ok) (ha : 0 ≤ a ∧ a < r.h) (hb : 0 ≤ b ∧ b < r.w) :
    Calls Try.prog 8 #[.agg c, .agg #[.int .i8 a, .int .i8 b]] w (GivesL0 w (r.laps a b (a - 1)).length (plF (a - 1) (r.laps a b (a - 1)))) := by
  have h0 := Rf.ask_at ho ha hb
  obtain ⟨_, o2, _, o4, _⟩ := ho
  have h := specAboveOf_any c r a b w hR (by omega) (by omega)
  rw [h0, show abN r a b = (r.laps a b (a - 1)).length by unfold abN; rw [if_pos h0]] at h
  exact h
theorem lapDnI (c : Array Value) (r : Rf) (a b : Int) (w : World) (hR : IsRoof c r) (ho : r.Ok) (ha : 0 ≤ a ∧ a < r.h) (hb : 0 ≤ b ∧ b < r.w) :
    Calls Try.prog 9 #[.agg c, .agg #[.int .i8 a, .int .i8 b]] w (GivesL0 w (r.laps a b (a + 1)).length (plF (a + 1) (r.laps a b (a + 1)))) := by
  have h0 := Rf.ask_at ho ha hb
  have h := implBelowOf_any c r a b w hR
  rw [h0, show beN r a b = (r.laps a b (a + 1)).length by unfold beN; rw [if_pos h0]] at h
  exact h
theorem lapDnS (c : Array Value) (r : Rf) (a b : Int) (w : World) (hR : IsRoof c r) (ho : r.Ok) (ha : 0 ≤ a ∧ a < r.h) (hb : 0 ≤ b ∧ b < r.w) :
    Calls Try.prog 10 #[.agg c, .agg #[.int .i8 a, .int .i8 b]] w (GivesL0 w (r.laps a b (a + 1)).length (plF (a + 1) (r.laps a b (a + 1)))) := by
  have h0 := Rf.ask_at ho ha hb
  obtain ⟨_, o2, _, o4, _⟩ := ho
  have h := specBelowOf_any c r a b w hR (by omega) (by omega)
  rw [h0, show beN r a b = (r.laps a b (a + 1)).length by unfold beN; rw [if_pos h0]] at h
  exact h
/-- What a call that makes a list of numbers without an error ends with. -/
def GivesI0 (w : World) (n : Nat) (f : Nat → Int) (e : Ending) (w' : World) : Prop :=
  ∃ v, e = .returned (.tuple #[v, .int .i64 0]) ∧ IsList w' w.heap.size v 1 n (fun i => .int .i64 (f i)) ∧ Below w.heap.size w w'
theorem celI (c : Array Value) (r : Rf) (a b : Int) (w : World) (hR : IsRoof c r) (ho : r.Ok) (ha : 0 ≤ a ∧ a < r.h) (hb : 0 ≤ b ∧ b < r.w) :
    Calls Try.prog 11 #[.agg c, .agg #[.int .i8 a, .int .i8 b]] w (GivesI0 w 2 (r.celF a b)) := by
  have h0 := Rf.ask_at ho ha hb
  have h := implCellsOf_any c r a b w hR
  rw [h0, show r.celN a b = 2 by unfold Rf.celN; rw [if_pos h0]] at h
  exact h
theorem celS (c : Array Value) (r : Rf) (a b : Int) (w : World) (hR : IsRoof c r) (ho : r.Ok) (ha : 0 ≤ a ∧ a < r.h) (hb : 0 ≤ b ∧ b < r.w) :
    Calls Try.prog 12 #[.agg c, .agg #[.int .i8 a, .int .i8 b]] w (GivesI0 w 2 (r.celF a b)) := by
  have h0 := Rf.ask_at ho ha hb
  obtain ⟨_, o2, _, o4, _⟩ := ho
  have h := specCellsOf_any c r a b w hR (by omega) (by omega)
  rw [h0, show r.celN a b = 2 by unfold Rf.celN; rw [if_pos h0]] at h
  exact h
theorem tatI (c : Array Value) (r : Rf) (k x : Int) (w : World) (hR : IsRoof c r) (ho : r.Ok) (hk : 0 ≤ k ∧ k < r.h) (hx : 0 ≤ x ∧ x ≤ 2 * r.w) :
    Calls Try.prog 15 #[.agg c, .int .i64 k, .int .i64 x] w fun e w' => e = .returned (.tuple #[.int .i64 (r.tile k x), .int .i64 0]) ∧ Below w.heap.size w w' := by
  have h := implTileAt_any c r k x w hR
  have hc : r.tatC k x = 0 := by unfold Rf.tatC; rw [if_pos (Rf.told_at ho hk), if_pos hx]
  rw [hc, show r.tatV k x = r.tile k x by unfold Rf.tatV; rw [if_pos hc]] at h
  exact h
theorem tatS (c : Array Value) (r : Rf) (k x : Int) (w : World) (hR : IsRoof c r) (ho : r.Ok) (hk : 0 ≤ k ∧ k < r.h) (hx : 0 ≤ x ∧ x ≤ 2 * r.w) :
    Calls Try.prog 18 #[.agg c, .int .i64 k, .int .i64 x] w fun e w' => e = .returned (.tuple #[.int .i64 (r.tile k x), .int .i64 0]) ∧ Below w.heap.size w w' := by
  have h := specTileAt_any c r k x w hR
  have hc : r.tatC k x = 0 := by unfold Rf.tatC; rw [if_pos (Rf.told_at ho hk), if_pos hx]
  rw [hc, show r.tatV k x = r.tile k x by unfold Rf.tatV; rw [if_pos hc]] at h
  exact h
theorem shiI (c : Array Value) (r : Rf) (k : Int) (w : World) (hR : IsRoof c r) (ho : r.Ok) (hk : 0 ≤ k ∧ k < r.h) :
    Calls Try.prog 17 #[.agg c, .int .i64 k] w fun e w' => e = .returned (.tuple #[.bool (r.by k == 1), .int .i64 0]) ∧ Below w.heap.size w w' := by
  have h := implIsShifted_any c r k w hR
  have hc := Rf.told_at ho hk
  rw [hc, show r.shAns k = (r.by k == 1) by unfold Rf.shAns; rw [if_pos hc]] at h
  exact h
theorem kndS (c : Array Value) (r : Rf) (a b : Nat) (w : World) (hR : IsRoof c r) (ho : r.Ok) (ha : (a : Int) < r.h) (hb : (b : Int) < r.w) :
    Calls Try.prog 24 #[.agg c, .agg #[.int .i8 a, .int .i8 b]] w fun e w' => e = .returned (.tuple #[.int .i64 (r.t (a * 8 + b)), .int .i64 0]) ∧ Below w.heap.size w w' := by
  have h0 := Rf.ask_at (a := a) (b := b) ho ⟨by omega, ha⟩ ⟨by omega, hb⟩
  obtain ⟨_, o2, _, o4, _⟩ := ho
  have h := specKindAt_any c r a b w hR (by omega) (by omega)
  rw [h0, show r.kindAns a b = r.t (a * 8 + b) by unfold Rf.kindAns; rw [if_pos h0]; simp] at h
  exact h
/-- One place alone of which something holds. -/
theorem filter_one {h w A B : Nat} (hA : A < h) (hB : B < w) (p : Pl h w → Bool) (hp : ∀ x, p x = decide (x.1 = (A, B))) : ∀ n, n ≤ h * w → (plUpto h w n).filter p = if A * w + B < n then [⟨(A, B), hA, hB⟩] else []
  | 0, _ => by simp [plUpto]
  | n + 1, hn => by
    rw [plUpto_next (by omega), List.filter_append, filter_one hA hB p hp n (by omega)]
    by_cases e : n = A * w + B
    · have h1 : n / w = A := by rw [e]; exact pl_div hB
      have h2 : n % w = B := by rw [e]; exact pl_mod hB
      have h3 : p ⟨(n / w, n % w), pl_in (by omega)⟩ = true := by rw [hp]; simp [h1, h2]
      rw [if_neg (by omega), if_pos (by omega), List.filter_cons_of_pos h3]
      simp [h1, h2]
    · have h3 : ¬ p ⟨(n / w, n % w), pl_in (by omega)⟩ = true := by
        rw [hp]
        intro h
        have h4 := of_decide_eq_true h
        simp only [Prod.mk.injEq] at h4
        have := Nat.div_add_mod n w
        rw [h4.1, h4.2, Nat.mul_comm] at this
        omega
      rw [List.filter_cons_of_neg h3]
      by_cases g : A * w + B < n
      · rw [if_pos g, if_pos (by omega)]; simp
      · rw [if_neg g, if_neg (by omega)]; simp
theorem Rf.Ok.setK {r : Rf} (h : r.Ok) {a b : Nat} {k : Int} (ha : (a : Int) < r.h) (hb : (b : Int) < r.w) (hk : k ≤ 3) : (r.set (a * 8 + b) k).Ok := by
  obtain ⟨h1, h2, h3, h4, h5, h6⟩ := h
  refine ⟨h1, h2, h3, h4, h5, fun i hi => ?_⟩
  obtain ⟨g1, g2⟩ := h6 i hi
  unfold Rf.fine Rf.set
  dsimp only
  split
  · rename_i e
    subst e
    exact ⟨hk, .inl ⟨by omega, by omega⟩⟩
  · exact ⟨g1, g2⟩
theorem Rf.diff_set {r : Rf} (ho : r.Ok) {a b : Nat} {k : Int} (ha : (a : Int) < r.h) (hb : (b : Int) < r.w) (hk : k ≤ 3) :
    r.dcode (r.set (a * 8 + b) k) = 0 ∧ (r.t (a * 8 + b) = k → (r.dfL (r.set (a * 8 + b) k)).length = 0) ∧
    (r.t (a * 8 + b) ≠ k → (r.dfL (r.set (a * 8 + b) k)).length = 1 ∧ plAt (r.dfL (r.set (a * 8 + b) k)) 0 = a ∧ plAt (r.dfL (r.set (a * 8 + b) k)) 1 = b) := by
  have hs : r.same (r.set (a * 8 + b) k) := ⟨rfl, rfl, rfl⟩
  have hp := ho.setK ha hb hk
  have ho9 := ho
  obtain ⟨o1, o2, o3, o4, _⟩ := ho9
  refine ⟨Rf.dcode_0 ho hp hs, fun h => ?_, fun h => ?_⟩
  · rw [Rf.dfL_0 ho hp hs]
    unfold Rf.diff
    rw [List.length_eq_zero_iff, List.filter_eq_nil_iff]
    intro x _
    unfold Rf.set
    dsimp only
    split
    · rename_i e
      rw [e, h]
      simp
    · simp
  · have hl : r.dfL (r.set (a * 8 + b) k) = [⟨(a, b), by omega, by omega⟩] := by
      rw [Rf.dfL_0 ho hp hs]
      unfold Rf.diff Rf.all
      rw [filter_one (A := a) (B := b) (by omega) (by omega) _ (fun x => ?_) _ (Nat.le_refl _), if_pos]
      · have h1 : a < r.h.toNat := by omega
        have h2 : b < r.w.toNat := by omega
        calc a * r.w.toNat + b < a * r.w.toNat + r.w.toNat := by omega
          _ = (a + 1) * r.w.toNat := by rw [Nat.succ_mul]
          _ ≤ r.h.toNat * r.w.toNat := Nat.mul_le_mul_right _ h1
      · unfold Rf.set
        dsimp only
        obtain ⟨⟨p, q⟩, hp1, hq1⟩ := x
        dsimp only at hp1 hq1 ⊢
        split
        · rename_i e
          have : p = a ∧ q = b := by omega
          rw [e, decide_eq_true (show (p, q) = (a, b) by rw [this.1, this.2])]
          simpa using h
        · rename_i e
          have : ¬ (p = a ∧ q = b) := by rintro ⟨rfl, rfl⟩; exact e rfl
          simp only [Prod.mk.injEq, this, decide_false]
          simp
    rw [hl]
    exact ⟨rfl, rfl, rfl⟩
/-- Of the places over a tile one that it laps over is that tile. -/
theorem Rf.over_back {r : Rf} {a b : Nat} {i : Nat} (ha : (a : Int) < r.h) (hb : (b : Int) < r.w) (hi : i < (r.laps a b (a + 1)).length) :
    hasP (plF a (r.laps ((a : Int) + 1) ((r.laps a b (a + 1)).getD i 0) a)) (r.laps ((a : Int) + 1) ((r.laps a b (a + 1)).getD i 0) a).length a b = true := by
  have hm : (r.laps a b (a + 1)).getD i 0 ∈ r.laps a b (a + 1) := by
    rw [List.getD_eq_getElem?_getD, List.getElem?_eq_getElem hi]
    exact List.getElem_mem _
  have h1 := Rf.laps_back ⟨by omega, ha⟩ ⟨by omega, hb⟩ hm
  obtain ⟨j, hj, e⟩ := List.getElem_of_mem h1
  refine hasP_hit (k := j) hj ⟨?_, ?_⟩
  · unfold plF; rw [if_pos (by omega)]
  · unfold plF
    rw [if_neg (by omega), show (j * 2 + 1) / 2 = j from by omega, List.getD_eq_getElem?_getD, List.getElem?_eq_getElem hj, e]
    rfl
/-- What FnLaps asks of one tile. -/
structure LapP (c : Array Value) (A B NA NB : Nat) (FA FB CF : Nat → Int) (bA bB : Bool) (X0 rh : Int) : Prop where
  up1 : ∀ W, Calls Try.prog 7 #[.agg c, .agg #[.int .i8 A, .int .i8 B]] W (GivesL0 W NA FA)
  up2 : ∀ W, Calls Try.prog 8 #[.agg c, .agg #[.int .i8 A, .int .i8 B]] W (GivesL0 W NA FA)
  dn1 : ∀ W, Calls Try.prog 9 #[.agg c, .agg #[.int .i8 A, .int .i8 B]] W (GivesL0 W NB FB)
  dn2 : ∀ W, Calls Try.prog 10 #[.agg c, .agg #[.int .i8 A, .int .i8 B]] W (GivesL0 W NB FB)
  ce1 : ∀ W, Calls Try.prog 11 #[.agg c, .agg #[.int .i8 A, .int .i8 B]] W (GivesI0 W 2 CF)
  ce2 : ∀ W, Calls Try.prog 12 #[.agg c, .agg #[.int .i8 A, .int .i8 B]] W (GivesI0 W 2 CF)
  na : NA ≤ 2
  nb : NB ≤ 2
  a0 : decide (NA = 0) = bA
  a1 : decide (A = 0) = bA
  b0 : decide (NB = 0) = bB
  b1 : decide ((A : Int) = rh - 1) = bB
  c0 : CF 0 = X0
  c1 : CF 1 = X0 + 1
  x0 : 0 ≤ X0 ∧ X0 ≤ 100
  ct : ∀ q, q < 2 → ∀ W, Calls Try.prog 15 #[.agg c, .int .i64 A, .int .i64 (CF q)] W fun e w' => e = .returned (.tuple #[.int .i64 B, .int .i64 0]) ∧ Below W.heap.size W w'
  ov : ∀ i, i < NB → FB (i * 2) = (A : Int) + 1 ∧ ∃ (NQ : Nat) (FQ : Nat → Int), (∀ W, Calls Try.prog 8 #[.agg c, .agg #[.int .i8 ((A : Int) + 1), .int .i8 (FB (i * 2 + 1))]] W (GivesL0 W NQ FQ)) ∧ hasP FQ NQ A B = true ∧ NQ ≤ 2
  rhe : 1 ≤ rh ∧ rh ≤ 8
  k1 : c[1]? = some (.int .i8 rh)
theorem lapP (c : Array Value) (r : Rf) (A B : Nat) (hR : IsRoof c r) (ho : r.Ok) (hA2 : (A : Int) < r.h) (hB2 : (B : Int) < r.w) :
    ∃ (NA NB : Nat) (FA FB CF : Nat → Int) (bA bB : Bool) (X0 rh : Int), LapP c A B NA NB FA FB CF bA bB X0 rh := by
  obtain ⟨o1, o2, o3, o4, _⟩ := id ho
  have hc := hR.size
  have hA : 0 ≤ (A : Int) ∧ (A : Int) < r.h := by omega
  have hB : 0 ≤ (B : Int) ∧ (B : Int) < r.w := by omega
  have by2 := r.by_bd A
  have zA : (r.laps A B (A - 1)).length = 0 ↔ A = 0 := by
    constructor
    · intro h
      by_cases e : A = 0
      · exact e
      · exact absurd h (Rf.laps_some ⟨by omega, by omega⟩ o1 hB (by have := r.by_next (A - 1); rw [Int.sub_add_cancel] at this; omega))
    · intro h
      rw [Rf.laps_out (by omega)]; rfl
  have zB : (r.laps A B (A + 1)).length = 0 ↔ (A : Int) = r.h - 1 := by
    constructor
    · intro h
      by_cases e : (A : Int) = r.h - 1
      · exact e
      · exact absurd h (Rf.laps_some ⟨by omega, by omega⟩ o1 hB (r.by_next A))
    · intro h
      rw [Rf.laps_out (by omega)]; rfl
  refine ⟨_, _, _, _, _, _, _, 2 * (B : Int) + r.by A, r.h, { up1 := fun W => lapUpI c r A B W hR ho hA hB, up2 := fun W => lapUpS c r A B W hR ho hA hB, dn1 := fun W => lapDnI c r A B W hR ho hA hB, dn2 := fun W => lapDnS c r A B W hR ho hA hB, ce1 := fun W => celI c r A B W hR ho hA hB, ce2 := fun W => celS c r A B W hR ho hA hB, na := r.laps_le A B (A - 1), nb := r.laps_le A B (A + 1), a0 := rfl, a1 := by rw [decide_eq_decide]; exact zA.symm, b0 := rfl, b1 := by rw [decide_eq_decide]; exact zB.symm, c0 := by unfold Rf.celF; omega, c1 := by unfold Rf.celF; omega, x0 := by omega, ct := ?_, ov := ?_, rhe := by omega, k1 := by rw [Array.getElem?_eq_getElem (by omega), hR.high (by omega)] }⟩
  · intro q hq W
    have hx : r.celF A B q = 2 * (B : Int) + r.by A ∨ r.celF A B q = 2 * (B : Int) + r.by A + 1 := by unfold Rf.celF; omega
    have h := tatI c r A (r.celF A B q) W hR ho hA (by omega)
    rw [Rf.tile_own hB hx] at h
    exact h
  · intro i hi
    have hm : (r.laps A B (A + 1)).getD i 0 ∈ r.laps A B (A + 1) := by
      rw [List.getD_eq_getElem?_getD, List.getElem?_eq_getElem hi]
      exact List.getElem_mem _
    obtain ⟨q1, q2, q3⟩ := Rf.laps_mem.1 hm
    have hT : (r.laps A B (A + 1)).getD i 0 < r.w := by
      generalize (r.laps A B (A + 1)).getD i 0 = T at *
      rcases q2 with e | e <;> (unfold Rf.tile at e; split at e <;> omega)
    have e1 : plF ((A : Int) + 1) (r.laps A B (A + 1)) (i * 2) = (A : Int) + 1 := by unfold plF; rw [if_pos (by omega)]
    have e2 : plF ((A : Int) + 1) (r.laps A B (A + 1)) (i * 2 + 1) = (r.laps A B (A + 1)).getD i 0 := by
      unfold plF; rw [if_neg (by omega), show (i * 2 + 1) / 2 = i from by omega]
    refine ⟨e1, _, _, fun W => ?_, Rf.over_back hA2 hB2 hi, r.laps_le _ _ _⟩
    rw [e2]
    have h := lapUpS c r ((A : Int) + 1) ((r.laps A B (A + 1)).getD i 0) W hR ho q1 ⟨q3, hT⟩
    rw [show (A : Int) + 1 - 1 = A by omega] at h
    exact h
end Go.Proofs.Ytppohghejhcilaa

/- A drawn region's condition laid anew in its midst. -/
namespace Go.Proofs.Ytppohghejhcilaa
open Go.RowKit

theorem wpAnyH_mono {P : Program} {md : Region.Mode} {ops : Array Oper} {Q : Exit → Act → World → Prop} {S S' : World → Prop} (hs : ∀ w, S' w → S w) :
    ∀ (fuel : Nat) (listed : Array Bool) (a : Act) (w : World), wpAnyH P md ops Q S' fuel listed a w → wpAnyH P md ops Q S fuel listed a w
  | 0, _, _, _, h => h
  | fuel + 1, _, _, _, h => ⟨h.1, fun i hi => wpOp_mono (fun a' w' h' => ⟨hs _ h'.1, wpAnyH_mono hs fuel _ a' w' h'.2⟩) (h.2 i hi)⟩
/-- From here on nothing of the world at hand changes. -/
theorem wpAnyH_now {P : Program} {md : Region.Mode} {ops : Array Oper} {Q : Exit → Act → World → Prop} {B w : World} {fuel : Nat} {listed : Array Bool} {a : Act}
    (hG : Below B.heap.size B w) (h : wpAnyH P md ops Q (fun w' => Below w.heap.size w w') fuel listed a w) : wpAnyH P md ops Q (fun w' => Below B.heap.size B w') fuel listed a w :=
  wpAnyH_mono (fun _ b => hG.trans (b.mono hG.size)) fuel listed a w h
end Go.Proofs.Ytppohghejhcilaa

/- What a law's region keeps: the boxed arguments; and a box that the region itself makes. -/
namespace Go.Proofs.Ytppohghejhcilaa
open Go.RowKit

/-- Blocks below N of W hold rows, and nothing has changed that lay in w. -/
structure Boxes (N : Nat) (w : World) (L : List (Nat × Array Value)) (W : World) : Prop where
  rows : ∀ p, p ∈ L → rowAt W p.1 = some p.2
  bel : Below w.heap.size w W
  base : w.heap.size ≤ N
  size : N ≤ W.heap.size
  low : ∀ p, p ∈ L → p.1 < N

section
variable {N : Nat} {w W w1 : World} {L : List (Nat × Array Value)} {A : Prop}
theorem Boxes.drew (h : Boxes N w L W) : Boxes N w L W.drew := ⟨h.rows, h.bel.drew, h.base, h.size, h.low⟩
theorem Boxes.call (b : Below W.heap.size W w1) (h : Boxes N w L W) : Boxes N w L w1 :=
  ⟨fun p hp => brow b (h.rows p hp), bnext h.bel b h.bel.size, h.base, Nat.le_trans h.size b.size, h.low⟩
theorem Boxes.callA (b : Below W.heap.size W w1) (h : A ∧ Boxes N w L W) : Boxes N w L w1 := h.2.call b
theorem Boxes.alloc (o : Obj) (h : Boxes N w L W) : Boxes N w L (W.alloc o) :=
  ⟨fun p hp => (rowAt_alloc_past _ _ _ (rowAt_lt (h.rows p hp))).trans (h.rows p hp), h.bel.alloc h.bel.size _, h.base, by have := h.size; simp; omega, h.low⟩
theorem Boxes.allocA {o : Obj} (h : A ∧ Boxes N w L W) : Boxes N w L (W.alloc o) := h.2.alloc o
theorem Boxes.set {k : Nat} {X : Array Value} (h : Boxes N w L W) (hk : N ≤ k) : Boxes N w L (W.setRow k X) :=
  ⟨fun p hp => (rowAt_setRow_ne _ _ _ _ (by have := h.low p hp; omega)).trans (h.rows p hp), below_setRow h.bel (by have := h.base; omega) _, h.base, by simpa using h.size, h.low⟩
theorem Boxes.setA {k : Nat} {X : Array Value} (h : A ∧ Boxes N w L W) (hk : N ≤ k) : Boxes N w L (W.setRow k X) := h.2.set hk
theorem Boxes.realloc {o o' : Obj} (h : Boxes N w L (W.alloc o)) (hN : N ≤ W.heap.size) : Boxes N w L (W.alloc o') :=
  have hl : ∀ k, k < N → k < W.heap.size := fun k hk => Nat.lt_of_lt_of_le hk hN
  have hb := h.bel
  have hs := Nat.le_trans h.base hN
  have hb' : Below w.heap.size w W := ⟨hb.os, hb.tape, hb.output, hs, fun k hk => (Below.heap_alloc W o k (Nat.lt_of_lt_of_le hk hs)).symm.trans (hb.block k hk)⟩
  ⟨fun p hp => (rowAt_alloc_past W o' p.1 (hl _ (h.low p hp))).trans ((rowAt_alloc_past W o p.1 (hl _ (h.low p hp))).symm.trans (h.rows p hp)), hb'.alloc hs _, h.base, by simp; omega, h.low⟩
theorem Boxes.reallocA {o o' : Obj} (h : A ∧ Boxes N w L (W.alloc o)) (hN : N ≤ W.heap.size) : Boxes N w L (W.alloc o') := h.2.realloc hN
theorem Boxes.szA (h : A ∧ Boxes N w L W) : N ≤ W.heap.size := h.2.size
theorem Boxes.outA (h : A ∧ Boxes N w L W) : Boxes N w L W := h.2
/-- One box more, and all that there is lies below the new mark. -/
theorem Boxes.more {n : Nat} {X : Array Value} (h : Boxes N w L W) (r : rowAt W n = some X) : Boxes W.heap.size w ((n, X) :: L) W :=
  ⟨fun p hp => by
    rcases List.mem_cons.1 hp with rfl | hp
    · exact r
    · exact h.rows p hp, h.bel, h.bel.size, Nat.le_refl _, fun p hp => by
    rcases List.mem_cons.1 hp with rfl | hp
    · exact rowAt_lt r
    · exact Nat.lt_of_lt_of_le (h.low p hp) h.size⟩
theorem Boxes.raise (h : Boxes N w L W) : Boxes W.heap.size w L W := ⟨h.rows, h.bel, h.bel.size, Nat.le_refl _, fun p hp => Nat.lt_of_lt_of_le (h.low p hp) h.size⟩
end
theorem mkS {N : Nat} {w W : World} {L : List (Nat × Array Value)} {A : Prop} (m : Boxes N w L W → A) (h : Boxes N w L W) : A ∧ Boxes N w L W := ⟨m h, h⟩
/-- One, two, three boxed arguments. -/
theorem boxes1 (w : World) (c : Array Value) (t : TypeId) : Boxes (w.heap.size + 1) w [(w.heap.size, c)] (w.alloc (.cells c t)) :=
  ⟨fun p hp => by obtain rfl := List.mem_singleton.1 hp; exact rowAt_alloc_at _ _ _ _ rfl, (Below.refl _ _).alloc (Nat.le_refl _) _, by omega, by simp, fun p hp => by obtain rfl := List.mem_singleton.1 hp; simp⟩
theorem boxes2 (w : World) (c d : Array Value) (t s : TypeId) : Boxes (w.heap.size + 1 + 1) w [(w.heap.size + 1, d), (w.heap.size, c)] ((w.alloc (.cells c t)).alloc (.cells d s)) := by
  have := ((boxes1 w c t).alloc (.cells d s)).more (n := w.heap.size + 1) (X := d) (rowAt_alloc_at _ _ _ _ (by simp))
  simpa using this
theorem boxes3 (w : World) (c d e : Array Value) (t s u : TypeId) : Boxes (w.heap.size + 1 + 1 + 1) w [(w.heap.size + 1 + 1, e), (w.heap.size + 1, d), (w.heap.size, c)] (((w.alloc (.cells c t)).alloc (.cells d s)).alloc (.cells e u)) := by
  have := ((boxes2 w c d t s).alloc (.cells e u)).more (n := w.heap.size + 1 + 1) (X := e) (rowAt_alloc_at _ _ _ _ (by simp))
  simpa using this
end Go.Proofs.Ytppohghejhcilaa
