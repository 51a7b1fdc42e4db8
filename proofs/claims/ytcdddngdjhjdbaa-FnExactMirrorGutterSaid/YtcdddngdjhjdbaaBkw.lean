/- slices.Backward at pipes: the iterator. -/
import Derived.RangeFuncNested
import Derived.RangeFuncBound
import Derived.RangeFuncCalls
import Derived.RangeFuncLeaves
import Derived.Shelf.Abstract
import Derived.Shelf.RegionOpen
import Derived.WalkKit
import Derived.OwnWalkIn
import Derived.TacticsInMore
import Derived.LoopNIn
import Derived.LoopIn
import Derived.Test.YtcdddngdjhjdbaaCln
namespace Go.Proofs.Ytcdddngdjhjdbaa
open Go.RowKit Go.Shelf

/-- The pipes of a list of m, the last one first. -/
abbrev Bk (m : Nat) := { i : Nat // i < m }
def bkUpto (m : Nat) : Nat → List (Bk m)
  | 0 => []
  | k + 1 => if h : k < m then bkUpto m k ++ [⟨k, h⟩] else bkUpto m k
theorem bkUpto_succ {m k : Nat} (h : k < m) : bkUpto m (k + 1) = bkUpto m k ++ [⟨k, h⟩] := by show (if h : k < m then _ else _) = _; rw [dif_pos h]
theorem bkUpto_len (m : Nat) : ∀ k, k ≤ m → (bkUpto m k).length = k
  | 0, _ => rfl
  | k + 1, hk => by rw [bkUpto_succ (by omega), List.length_append, bkUpto_len m k (by omega)]; rfl
def Bk.enc {m : Nat} (f : Nat → Int) (x : Bk m) : Array Value := #[.int .i64 ((m - 1 - x.1 : Nat) : Int), .agg #[.int .i8 (f ((m - 1 - x.1) * 2)), .int .i16 (f ((m - 1 - x.1) * 2 + 1))]]
/-- What a round that goes on keeps: the blocks below n, and the shape's box. -/
def KpB (n B : Nat) (W W' : World) : Prop := Below n W W' ∧ ∀ c, rowAt W B = some c → rowAt W' B = some c
theorem KpB.refl (n B : Nat) (W : World) : KpB n B W W := ⟨Below.refl _ _, fun _ h => h⟩
theorem KpB.trans {n B : Nat} {A C D : World} (h : KpB n B A C) (k : KpB n B C D) : KpB n B A D := ⟨h.1.trans k.1, fun c x => k.2 c (h.2 c x)⟩
theorem belowK_sB {n : Nat} {w : World} (hn : n ≤ w.heap.size) : ∀ (W : World) (l : Nat) (o o' : Obj), w.heap.size ≤ l → W.heap[l]? = some o → o.isCells = false → o.isWalk = false → Below n W (W.putObj l o') :=
  fun W l _ o' hl _ _ _ => (Below.refl n W).grown (grownBy_putObj' W l o') (by
    rename_i ho _ _
    have := (Array.getElem?_eq_some_iff.1 ho).1
    omega) (fun k hk => by cases hk; omega)
theorem KpB.put {n B : Nat} {w : World} (hn : n ≤ w.heap.size) (hB : B < w.heap.size) : ∀ (W : World) (l : Nat) (o o' : Obj), w.heap.size ≤ l → W.heap[l]? = some o → o.isCells = false → o.isWalk = false → KpB n B W (W.putObj l o') :=
  fun W l o o' hl ho hc hw => ⟨belowK_sB (w := w) hn W l o o' hl ho hc hw, fun c h => by
    obtain ⟨t, ht⟩ := rowAt_some h
    exact rowAt_of_heap (t := t) ((World.putObj_heap_other (by omega)).trans ht)⟩


attribute [local go_sem] Oper.semAt_some

set_option maxRecDepth 100000 in
set_option maxHeartbeats 2000000 in
theorem backward1_in (n : Nat) (hn : 1 ≤ n) (l Bn n0 : Nat) (B m cp : Nat) (f : Nat → Int) (u : Option Addr) (wL : World) (hv : IsList wL B (.slice u m cp) 2 m (pipeV f)) (hL : wL.heap.size ≤ n0) (hm : m ≤ 2000000) (J Jx : List (Bk m) → World → Prop)
    (hY : ∀ (pre : List (Bk m)) (x : Bk m) (W : World), J pre W → pre.length < m → YieldAt Fence.wide (n - 1) Try.prog l (x.enc f) W fun e W' =>
      (e = .returned (.bool true) ∧ J (pre ++ [x]) W' ∧ KpB n0 Bn W W') ∨ (e = .returned (.bool false) ∧ Jx (pre ++ [x]) W'))
    (W : World) (hb0 : Below n0 wL W) (hn0 : n0 ≤ W.heap.size) (hr : rowAt W Bn = some #[.slice u m cp]) (h0 : J [] W) :
    CallsIn Fence.wide n Try.prog 96 #[.func (.yield l) #[] #[], .pointer (some ⟨Bn, 0, none⟩)] W fun e W' => (∃ v, e = .returned v) ∧
      ((∃ ys, ys = bkUpto m m ∧ J ys W') ∨ (∃ pre, True ∧ Jx pre W')) := by
  have HY := Lib.hid hY
  have HV := Lib.hid hv
  clear hY hv
  have c1 := cell_of_rowAt hr 0
  simp only [List.getElem?_toArray, List.getElem?_cons_zero] at c1
  refine callsIn_of_wp Try.func96 rfl trivial ?_ rfl
  simp only [Try.ntmps96, List.size_toArray, List.length_cons, List.length_nil, Nat.reduceAdd, Nat.reduceSub, Array.replicate_succ, Array.replicate_zero, List.push_toArray, List.append_toArray, List.nil_append, List.cons_append]
  gi_wp2
  gi_loopw [3] (fun i wr => ∃ k : Nat, k ≤ m ∧ i = .int .i64 ((m : Int) - 1 - k) ∧ J (bkUpto m k) wr ∧ rowAt wr Bn = some #[.slice u m cp] ∧ Below n0 wL wr ∧ n0 ≤ wr.heap.size) (fun i _ => (intOf i + 1).toNat)
  case atStart => exact ⟨0, by omega, by first | rfl | (congr 1; omega), h0, hr, hb0, hn0⟩
  case round =>
    clear c1 h0 hr hb0 hn0
    obtain ⟨k, hk, rfl, hJ, hrow, hbl, hsz⟩ := hrel
    obtain ⟨wo, rfl⟩ : ∃ wo : World, wo = wr := ⟨_, rfl⟩
    have c0 := cell_of_rowAt hrow 0
    simp only [List.getElem?_toArray, List.getElem?_cons_zero] at c0
    by_cases hlt : k < m
    · obtain ⟨j, hj⟩ : ∃ j, j + k + 1 = m := ⟨m - 1 - k, by omega⟩
      have ej : (m : Int) - 1 - k = j := by omega
      rw [ej]
      have j0 : 0 ≤ (j : Int) := by omega
      have j1 : (j : Int) < m := by omega
      obtain ⟨h0, _⟩ | ⟨gv, cap, cur, e3, hgv, hrv, hsv, hfv⟩ := HV.out.below hbl hL
      · omega
      cases e3
      have p0 : wo.cell? ⟨gv, j * 2, none⟩ = some (.int .i8 (f (j * 2))) := (cell_of_rowAt hrv _).trans ((hfv _ (by omega)).trans (congrArg some (pipeV_0 _ _)))
      have p1 : wo.cell? ⟨gv, j * 2 + 1, none⟩ = some (.int .i16 (f (j * 2 + 1))) := (cell_of_rowAt hrv _).trans ((hfv _ (by omega)).trans (congrArg some (pipeV_1 _ _)))
      clear hrv hsv hfv
      obtain ⟨fn, tmps, assign, body, hy, hR⟩ := HY.out _ ⟨k, hlt⟩ _ hJ (by have := bkUpto_len m k hk; omega)
      dsimp only [Bk.enc] at hy hR
      rw [show m - 1 - k = j by omega] at hy
      gi_wp2
      refine hR.mono ?_
      rintro e W3 (⟨rfl, hJ3, hk3⟩ | ⟨rfl, hJx3⟩)
      · rw [← bkUpto_succ hlt] at hJ3
        have hr3 := hk3.2 _ hrow
        have hbl3 := hbl.trans hk3.1
        have hsz3 := hk3.1.size
        clear hy hR hJ hrow hk3 hbl c0 p0 p1
        gi_wp2
        go_roundw
        case rel => exact ⟨k + 1, by omega, by rw [show (m : Int) - 1 - ((k + 1 : Nat) : Int) = (j : Int) - 1 by omega], hJ3, hr3, hbl3, by omega⟩
        case measure => simp [intOf] <;> omega
      · clear hy hR hJ hrow c0 p0 p1
        gi_wp2
        refine bodyPost_ret (results_none rfl _ _ _) rfl ?_
        exact ⟨⟨_, rfl⟩, .inr ⟨_, trivial, hJx3⟩⟩
    · obtain rfl : k = m := by omega
      gi_wp2
      go_end0
      exact ⟨⟨_, rfl⟩, .inl ⟨_, rfl, hJ⟩⟩
theorem backward_stops (n : Nat) (hn : 1 ≤ n) (Bn n0 : Nat) (B m cp : Nat) (f : Nat → Int) (u : Option Addr) (wL : World) (hv : IsList wL B (.slice u m cp) 2 m (pipeV f)) (hL : wL.heap.size ≤ n0) (hm : m ≤ 2000000)
    (w : World) (hr : rowAt w Bn = some #[.slice u m cp]) (hbw : Below n0 wL w) (hn0 : n0 ≤ w.heap.size) :
    SeqStopsK Fence.wide n Try.prog 96 #[.pointer (some ⟨Bn, 0, none⟩)] (fun x : Bk m => x.enc f) (KpB n0 Bn) (fun ys => ys = bkUpto m m) (fun _ => True) m w :=
  fun l J Jx W hW _ _ hY h0 => backward1_in n hn l Bn n0 B m cp f u wL hv hL hm J Jx hY
    W (hbw.trans (hW.mono hn0)) (Nat.le_trans hn0 hW.size) (brow hW hr) h0
set_option maxHeartbeats 1000000 in
theorem backward_any (a : Option Addr) (n cp : Nat) (w : World) :
    Calls Try.prog 52 #[.slice a n cp] w fun e w' => e = .returned (.func (.func 96) #[] #[.pointer (some ⟨w.heap.size, 0, none⟩)]) ∧ w' = w.alloc (.cells #[.slice a n cp] 52) := by
  go_enter Try.func52, Try.ntmps52
  go_wp2
  go_ret
  exact ⟨rfl, rfl⟩
end Go.Proofs.Ytcdddngdjhjdbaa
