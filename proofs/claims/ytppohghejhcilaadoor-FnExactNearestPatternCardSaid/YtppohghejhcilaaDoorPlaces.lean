/- r.places(): the iterator over all places of a roof, course by course. -/
import Derived.RangeFuncNested
import Derived.RangeFuncBound
import Derived.RangeFuncCalls
import Derived.RangeFuncLeaves
import Derived.Shelf.Abstract
import Derived.Shelf.RegionOpen
import Derived.WalkKit
import Derived.OwnWalkIn
import Derived.TacticsInMore
import Derived.LoopNIn
import Derived.LoopIn
import Derived.Maps.AppendAt
import Derived.Test.YtppohghejhcilaaDoorImplB
namespace Go.Proofs.YtppohghejhcilaaDoor
open Go.RowKit Go.Shelf
attribute [local go_sem] Oper.semAt_some

/-- A place of h courses of w tiles. -/
abbrev Pl (h w : Nat) := { p : Nat × Nat // p.1 < h ∧ p.2 < w }
def Pl.enc {h w : Nat} (x : Pl h w) : Value := .agg #[.int .i8 (x.1.1 : Int), .int .i8 (x.1.2 : Int)]
/-- The first k places. -/
def plUpto (h w : Nat) : Nat → List (Pl h w)
  | 0 => []
  | k + 1 => plUpto h w k ++ (if q : k / w < h ∧ k % w < w then [⟨(k / w, k % w), q⟩] else [])
theorem pl_div {c j w : Nat} (hj : j < w) : (c * w + j) / w = c := by
  rw [Nat.mul_comm, Nat.mul_add_div (by omega), Nat.div_eq_of_lt hj, Nat.add_zero]
theorem pl_mod {c j w : Nat} (hj : j < w) : (c * w + j) % w = j := by
  rw [Nat.mul_comm, Nat.mul_add_mod, Nat.mod_eq_of_lt hj]
theorem plUpto_succ {h w c j : Nat} (hc : c < h) (hj : j < w) : plUpto h w (c * w + j + 1) = plUpto h w (c * w + j) ++ [⟨(c, j), hc, hj⟩] := by
  have e1 := pl_div (c := c) hj
  have e2 := pl_mod (c := c) hj
  simp only [plUpto, e1, e2]
  rw [dif_pos ⟨hc, hj⟩]
theorem plUpto_len (h w : Nat) : ∀ k, (plUpto h w k).length ≤ k
  | 0 => Nat.le_refl _
  | k + 1 => by
    have := plUpto_len h w k
    simp only [plUpto, List.length_append]
    split <;> simp <;> omega

/-- What a round that goes on keeps: the blocks below n, and the roof's box. -/
def KpR (n B : Nat) (W W' : World) : Prop := Below n W W' ∧ ∀ c, rowAt W B = some c → rowAt W' B = some c
theorem KpR.refl (n B : Nat) (W : World) : KpR n B W W := ⟨Below.refl _ _, fun _ h => h⟩
theorem KpR.trans {n B : Nat} {A C D : World} (h : KpR n B A C) (k : KpR n B C D) : KpR n B A D := ⟨h.1.trans k.1, fun c x => k.2 c (h.2 c x)⟩
theorem KpR.put {n B : Nat} {w : World} (hn : n ≤ w.heap.size) (hB : B < w.heap.size) : ∀ (W : World) (l : Nat) (o o' : Obj), w.heap.size ≤ l → W.heap[l]? = some o → o.isCells = false → o.isWalk = false → KpR n B W (W.putObj l o') :=
  fun W l o o' hl ho hc hw => ⟨belowK_b (w := w) hn W l o o' hl ho hc hw, fun c h => by
    obtain ⟨t, ht⟩ := rowAt_some h
    exact rowAt_of_heap (t := t) ((World.putObj_heap_other (by omega)).trans ht)⟩

set_option maxRecDepth 100000 in
set_option maxHeartbeats 2000000 in
theorem places1_in (n : Nat) (hn : 1 ≤ n) (l Bn n0 : Nat) (c : Array Value) (r : Rf) (hh ww : Nat) (hhe : r.h = hh) (hwe : r.w = ww) (h8 : hh ≤ 8) (w8 : ww ≤ 8) (hR : IsRoof c r) (J Jx : List (Pl hh ww) → World → Prop)
    (hY : ∀ (pre : List (Pl hh ww)) (x : Pl hh ww) (W : World), J pre W → pre.length < hh * ww → YieldAt Fence.wide (n - 1) Tryd.prog l #[x.enc] W fun e W' =>
      (e = .returned (.bool true) ∧ J (pre ++ [x]) W' ∧ KpR n0 Bn W W') ∨ (e = .returned (.bool false) ∧ Jx (pre ++ [x]) W'))
    (W : World) (hr : rowAt W Bn = some c) (h0 : J [] W) :
    CallsIn Fence.wide n Tryd.prog 106 #[.func (.yield l) #[] #[], .pointer (some ⟨Bn, 0, none⟩)] W fun e W' => (∃ v, e = .returned v) ∧
      ((∃ ys, ys = plUpto hh ww (hh * ww) ∧ J ys W') ∨ (∃ pre, True ∧ Jx pre W')) := by
  have hc := hR.size
  have k0 : ∀ W, rowAt W Bn = some c → W.cell? ⟨Bn, 0, none⟩ = some (.int .i8 ww) := fun W h => by
    rw [cell_of_rowAt h, Array.getElem?_eq_getElem (by omega), hR.wide (by omega), hwe]
  have k1 : ∀ W, rowAt W Bn = some c → W.cell? ⟨Bn, 1, none⟩ = some (.int .i8 hh) := fun W h => by
    rw [cell_of_rowAt h, Array.getElem?_eq_getElem (by omega), hR.high (by omega), hhe]
  have K0 := Lib.hid k0
  have K1 := Lib.hid k1
  have HY := Lib.hid hY
  clear k0 k1 hY hhe hwe
  have c1 := K1.out W hr
  refine callsIn_of_wp Tryd.func106 rfl trivial ?_ rfl
  simp only [Tryd.ntmps106, List.size_toArray, List.length_cons, List.length_nil, Nat.reduceAdd, Nat.reduceSub, Array.replicate_succ, Array.replicate_zero, List.push_toArray, List.append_toArray, List.nil_append, List.cons_append]
  gi_wp2
  gi_loopw [7] (fun i wr => ∃ k : Nat, k ≤ hh ∧ i = .int .i8 k ∧ J (plUpto hh ww (k * ww)) wr ∧ rowAt wr Bn = some c) (fun i _ => hh - (intOf i).toNat)
  case atStart => exact ⟨0, by omega, rfl, by rw [Nat.zero_mul]; exact h0, hr⟩
  case round =>
    clear c1 h0 hr
    obtain ⟨k, hk, rfl, hJ, hrow⟩ := hrel
    obtain ⟨wo, rfl⟩ : ∃ wo : World, wo = wr := ⟨_, rfl⟩
    by_cases hlt : k < hh
    · have c0 := K0.out _ hrow
      gi_wp2
      gi_loopw [12] (fun i wr => ∃ m : Nat, m ≤ ww ∧ i = .int .i8 m ∧ J (plUpto hh ww (k * ww + m)) wr ∧ rowAt wr Bn = some c) (fun i _ => ww - (intOf i).toNat)
      case atStart => exact ⟨0, by omega, rfl, hJ, hrow⟩
      case round =>
        clear c0 hJ hrow
        obtain ⟨m, hm, rfl, hJ, hrow⟩ := hrel
        by_cases hml : m < ww
        · obtain ⟨fn, tmps, assign, body, hy, hR⟩ := HY.out _ ⟨(k, m), hlt, hml⟩ _ hJ (by
            have h1 := plUpto_len hh ww (k * ww + m)
            have h2 : (k + 1) * ww ≤ hh * ww := Nat.mul_le_mul_right ww hlt
            rw [Nat.succ_mul] at h2
            omega)
          dsimp only [Pl.enc] at hy
          gi_wp2
          refine hR.mono ?_
          rintro e W3 (⟨rfl, hJ3, hk3⟩ | ⟨rfl, hJx3⟩)
          · rw [← plUpto_succ hlt hml] at hJ3
            have hr3 := hk3.2 c hrow
            clear hy hR hJ hrow hk3
            gi_wp2
            go_roundw
            case rel => exact ⟨m + 1, by omega, by go_num, hJ3, hr3⟩
            case measure => simp [intOf]; omega
          · clear hy hR hJ hrow
            gi_wp2
            refine bodyPost_ret (results_none rfl _ _ _) rfl ?_
            exact ⟨⟨_, rfl⟩, .inr ⟨_, trivial, hJx3⟩⟩
        · obtain rfl : m = ww := by omega
          rw [← Nat.succ_mul] at hJ
          gi_wp2
          go_roundw
          case rel => exact ⟨k + 1, by omega, by go_num, hJ, hrow⟩
          case measure => simp [intOf]; omega
    · obtain rfl : k = hh := by omega
      gi_wp2
      go_end0
      exact ⟨⟨_, rfl⟩, .inl ⟨_, rfl, hJ⟩⟩

/-- **r.places() hands back a value that gives all places, in their order.** -/
theorem places_stops (n : Nat) (hn : 1 ≤ n) (Bn n0 : Nat) (c : Array Value) (r : Rf) (hh ww : Nat) (hhe : r.h = hh) (hwe : r.w = ww) (h8 : hh ≤ 8) (w8 : ww ≤ 8) (hR : IsRoof c r) (w : World) (hr : rowAt w Bn = some c) :
    SeqStopsK Fence.wide n Tryd.prog 106 #[.pointer (some ⟨Bn, 0, none⟩)] (fun x : Pl hh ww => #[x.enc]) (KpR n0 Bn) (fun ys => ys = plUpto hh ww (hh * ww)) (fun _ => True) (hh * ww) w :=
  fun l J Jx W hW _ _ hY h0 => places1_in n hn l Bn n0 c r hh ww hhe hwe h8 w8 hR J Jx hY W (brow hW hr) h0

set_option maxHeartbeats 1000000 in
/-- **r.places()**: the receiver is boxed; the function value captures the box. -/
theorem places_any (c : Array Value) (w : World) :
    Calls Tryd.prog 82 #[.agg c] w fun e w' => e = .returned (.func (.func 106) #[] #[.pointer (some ⟨w.heap.size, 0, none⟩)]) ∧ w' = w.alloc (.cells c 28) := by
  go_enter Tryd.func82, Tryd.ntmps82
  go_wp2
  go_ret
  exact ⟨rfl, rfl⟩
end Go.Proofs.YtppohghejhcilaaDoor
