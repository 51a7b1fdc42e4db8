/- s.courses(): the iterator over all courses of a shape; s.course(k), e.wide(). -/
import Derived.RangeFuncNested
import Derived.RangeFuncBound
import Derived.RangeFuncCalls
import Derived.RangeFuncLeaves
import Derived.Shelf.Abstract
import Derived.Shelf.RegionOpen
import Derived.WalkKit
import Derived.OwnWalkIn
import Derived.TacticsInMore
import Derived.LoopNIn
import Derived.LoopIn
import Derived.Test.YtdegfcgknppcoaaShpV
import Derived.Test.YtdegfcgknppcoaaShpG
namespace Go.Proofs.Ytdegfcgknppcoaa
open Go.RowKit Go.Shelf

/-- How far the tiles of course k are shifted. -/
def crS (s : Int) (k : Nat) : Int := if ((k : Int) + s) % 2 = 1 then 4 else 0
/-- Course k as it is laid. -/
def crV (f : Nat → Int) (s : Int) (k : Nat) : Value := .agg #[.int .i64 (f (k * 2)), .int .i64 (f (k * 2 + 1)), .int .i64 (crS s k)]
/-- A course of m. -/
abbrev Co (m : Nat) := { k : Nat // k < m }
def Co.enc {m : Nat} (f : Nat → Int) (s : Int) (x : Co m) : Value := crV f s x.1
/-- The first k courses. -/
def coUpto (m : Nat) : Nat → List (Co m)
  | 0 => []
  | k + 1 => coUpto m k ++ (if q : k < m then [⟨k, q⟩] else [])
theorem coUpto_succ {m k : Nat} (hk : k < m) : coUpto m (k + 1) = coUpto m k ++ [⟨k, hk⟩] := by simp only [coUpto]; rw [dif_pos hk]
theorem coUpto_len (m : Nat) : ∀ k, (coUpto m k).length ≤ k
  | 0 => Nat.le_refl _
  | k + 1 => by
    have := coUpto_len m k
    simp only [coUpto, List.length_append]
    split <;> simp <;> omega

set_option maxRecDepth 100000 in
set_option maxHeartbeats 1000000 in
theorem wide_any (a b : Int) (w : World) (h : -9223372036854775808 ≤ b - a ∧ b - a ≤ 9223372036854775807) :
    Calls Try.prog 83 #[.agg #[.int .i64 a, .int .i64 b]] w fun e w' => e = .returned (.int .i64 (b - a)) ∧ Below w.heap.size w w' := by
  go_enter Try.func83, Try.ntmps83
  go_wp2_with fail
  go_ret
  exact ⟨rfl, (Below.refl _ _).alloc (Nat.le_refl _) _⟩

set_option maxRecDepth 100000 in
set_option maxHeartbeats 1000000 in
theorem course_any (s : Int) (B n cp : Nat) (f : Nat → Int) (u : Option Addr) (k : Nat) (w : World) (hs : 0 ≤ s ∧ s ≤ 255) (hv : IsList w B (.slice u n cp) 2 n (fun i => .int .i16 (f i))) (hn : n ≤ 2000000) (hb : ∀ i, i < n * 2 → -32768 ≤ f i ∧ f i ≤ 32767) (hk : k < n) :
    Calls Try.prog 63 #[.agg #[.int .u8 s, .slice u n cp], .int .i64 k] w fun e w' => e = .returned (crV f s k) ∧ Below w.heap.size w w' := by
  have hb0 := hb (k * 2) (by omega)
  have hb1 := hb (k * 2 + 1) (by omega)
  have HV := Lib.hid (hv.below (show Below w.heap.size w (w.alloc (.cells #[.int .u8 s, .slice u n cp] 29)) from (Below.refl _ _).alloc (Nat.le_refl _) _) (Nat.le_refl _))
  obtain ⟨g, e, c0, c1⟩ := hv.sp hk
  cases e
  have g0 := World.block_lt_of_cell? _ _ c0
  have g1 := Nat.ne_of_lt g0
  have hk0 : 0 ≤ (k : Int) := by omega
  have hk1 : (k : Int) < n := by omega
  have hw : IntKind.i64.wrap ((k : Int) + s) = (k : Int) + s := IntWalk.i64_in _ (by omega)
  have ht : ((k : Int) + s).tmod 2 = ((k : Int) + s) % 2 := Int.tmod_eq_emod_of_nonneg (by omega)
  unfold crV
  clear hb hv
  generalize f (k * 2) = a at *
  generalize f (k * 2 + 1) = b at *
  by_cases hm : ((k : Int) + s) % 2 = 1
  · rw [show crS s k = 4 from if_pos hm]
    have hd : ((((k : Int) + s) % 2) == 1) = true := by simp [hm]
    clear hm ht
    go_enter Try.func63, Try.ntmps63
    go_wp2_with fail
    refine bodyPost_ret (v := .agg #[.int .i64 a, .int .i64 b, .int .i64 4]) (by simp [results, Try.results63, go_sem]) rfl ⟨rfl, ?_⟩
    exact ((((Below.refl _ _).alloc (Nat.le_refl _) _).alloc (by simp) _).alloc (by simp; omega) _).alloc (by simp; omega) _
  · rw [show crS s k = 0 from if_neg hm]
    have hd : ((((k : Int) + s) % 2) == 1) = false := by simp [hm]
    clear hm ht
    go_enter Try.func63, Try.ntmps63
    go_wp2_with fail
    refine bodyPost_ret (v := .agg #[.int .i64 a, .int .i64 b, .int .i64 0]) (by simp [results, Try.results63, go_sem]) rfl ⟨rfl, ?_⟩
    exact ((((Below.refl _ _).alloc (Nat.le_refl _) _).alloc (by simp) _).alloc (by simp; omega) _).alloc (by simp; omega) _

/-- What a round that goes on keeps: the blocks below n, and the shape's box. -/
def KpS (n B : Nat) (W W' : World) : Prop := Below n W W' ∧ ∀ c, rowAt W B = some c → rowAt W' B = some c
theorem KpS.refl (n B : Nat) (W : World) : KpS n B W W := ⟨Below.refl _ _, fun _ h => h⟩
theorem KpS.trans {n B : Nat} {A C D : World} (h : KpS n B A C) (k : KpS n B C D) : KpS n B A D := ⟨h.1.trans k.1, fun c x => k.2 c (h.2 c x)⟩
theorem belowK_s {n : Nat} {w : World} (hn : n ≤ w.heap.size) : ∀ (W : World) (l : Nat) (o o' : Obj), w.heap.size ≤ l → W.heap[l]? = some o → o.isCells = false → o.isWalk = false → Below n W (W.putObj l o') :=
  fun W l _ o' hl _ _ _ => (Below.refl n W).grown (grownBy_putObj' W l o') (by
    rename_i ho _ _
    have := (Array.getElem?_eq_some_iff.1 ho).1
    omega) (fun k hk => by cases hk; omega)
theorem KpS.put {n B : Nat} {w : World} (hn : n ≤ w.heap.size) (hB : B < w.heap.size) : ∀ (W : World) (l : Nat) (o o' : Obj), w.heap.size ≤ l → W.heap[l]? = some o → o.isCells = false → o.isWalk = false → KpS n B W (W.putObj l o') :=
  fun W l o o' hl ho hc hw => ⟨belowK_s (w := w) hn W l o o' hl ho hc hw, fun c h => by
    obtain ⟨t, ht⟩ := rowAt_some h
    exact rowAt_of_heap (t := t) ((World.putObj_heap_other (by omega)).trans ht)⟩

attribute [local go_sem] Oper.semAt_some

set_option maxRecDepth 100000 in
set_option maxHeartbeats 2000000 in
theorem courses1_in (n : Nat) (hn : 1 ≤ n) (l Bn n0 : Nat) (s : Int) (B m cp : Nat) (f : Nat → Int) (u : Option Addr) (wL : World) (hs : 0 ≤ s ∧ s ≤ 255) (hv : IsList wL B (.slice u m cp) 2 m (fun i => .int .i16 (f i))) (hL : wL.heap.size ≤ n0) (hm : m ≤ 2000000) (hb : ∀ i, i < m * 2 → -32768 ≤ f i ∧ f i ≤ 32767) (J Jx : List (Co m) → World → Prop)
    (hY : ∀ (pre : List (Co m)) (x : Co m) (W : World), J pre W → pre.length < m → YieldAt Fence.wide (n - 1) Try.prog l #[x.enc f s] W fun e W' =>
      (e = .returned (.bool true) ∧ J (pre ++ [x]) W' ∧ KpS n0 Bn W W') ∨ (e = .returned (.bool false) ∧ Jx (pre ++ [x]) W'))
    (hJ : ∀ pre W W', J pre W → Below W.heap.size W W' → J pre W')
    (W : World) (hb0 : Below n0 wL W) (hn0 : n0 ≤ W.heap.size) (hr : rowAt W Bn = some #[.int .u8 s, .slice u m cp]) (h0 : J [] W) :
    CallsIn Fence.wide n Try.prog 96 #[.func (.yield l) #[] #[], .pointer (some ⟨Bn, 0, none⟩)] W fun e W' => (∃ v, e = .returned v) ∧
      ((∃ ys, ys = coUpto m m ∧ J ys W') ∨ (∃ pre, True ∧ Jx pre W')) := by
  have HY := Lib.hid hY
  have HJ := Lib.hid hJ
  have HV := Lib.hid hv
  have HB := Lib.hid hb
  clear hY hJ hv hb
  have c1 := cell_of_rowAt hr
  refine callsIn_of_wp Try.func96 rfl trivial ?_ rfl
  simp only [Try.ntmps96, List.size_toArray, List.length_cons, List.length_nil, Nat.reduceAdd, Nat.reduceSub, Array.replicate_succ, Array.replicate_zero, List.push_toArray, List.append_toArray, List.nil_append, List.cons_append]
  gi_wp2
  gi_loopw [7] (fun i wr => ∃ k : Nat, k ≤ m ∧ i = .int .i64 k ∧ J (coUpto m k) wr ∧ rowAt wr Bn = some #[.int .u8 s, .slice u m cp] ∧ Below n0 wL wr ∧ n0 ≤ wr.heap.size) (fun i _ => m - (intOf i).toNat)
  case atStart => exact ⟨0, by omega, rfl, h0, hr, hb0, hn0⟩
  case round =>
    clear c1 h0 hr hb0 hn0
    obtain ⟨k, hk, rfl, hJ, hrow, hbl, hsz⟩ := hrel
    obtain ⟨wo, rfl⟩ : ∃ wo : World, wo = wr := ⟨_, rfl⟩
    have c0 := cell_of_rowAt hrow
    by_cases hlt : k < m
    · have hk1 : (k : Int) < m := by omega
      gi_wp2
      refine ⟨trivial, (callsIn_wide.2 (course_any s B m cp f u k _ hs (HV.out.below hbl hL) hm HB.out hlt)).mono ?_⟩
      rintro e W2 ⟨rfl, b2⟩
      have hJ2 := HJ.out _ _ _ hJ b2
      have hr2 := brow b2 hrow
      have hbl2 := hbl.trans (b2.mono hsz)
      have hsz2 := b2.size
      obtain ⟨fn, tmps, assign, body, hy, hR⟩ := HY.out _ ⟨k, hlt⟩ _ hJ2 (by have := coUpto_len m k; omega)
      dsimp only [Co.enc] at hy
      clear b2 c0 hJ hrow
      gi_wp2
      refine hR.mono ?_
      rintro e W3 (⟨rfl, hJ3, hk3⟩ | ⟨rfl, hJx3⟩)
      · rw [← coUpto_succ hlt] at hJ3
        have hr3 := hk3.2 _ hr2
        have hbl3 := hbl2.trans hk3.1
        have hsz3 := hk3.1.size
        clear hy hR hJ2 hr2 hk3 hbl hbl2
        gi_wp2
        go_roundw
        case rel => exact ⟨k + 1, by omega, by go_num, hJ3, hr3, hbl3, by omega⟩
        case measure => simp [intOf]; omega
      · clear hy hR hJ2 hr2
        gi_wp2
        refine bodyPost_ret (results_none rfl _ _ _) rfl ?_
        exact ⟨⟨_, rfl⟩, .inr ⟨_, trivial, hJx3⟩⟩
    · obtain rfl : k = m := by omega
      gi_wp2
      go_end0
      exact ⟨⟨_, rfl⟩, .inl ⟨_, rfl, hJ⟩⟩

/-- **s.courses() hands back a value that gives all courses, in their order.** -/
theorem courses_stops (n : Nat) (hn : 1 ≤ n) (Bn n0 : Nat) (s : Int) (B m cp : Nat) (f : Nat → Int) (u : Option Addr) (wL : World) (hs : 0 ≤ s ∧ s ≤ 255) (hv : IsList wL B (.slice u m cp) 2 m (fun i => .int .i16 (f i))) (hL : wL.heap.size ≤ n0) (hm : m ≤ 2000000) (hb : ∀ i, i < m * 2 → -32768 ≤ f i ∧ f i ≤ 32767)
    (w : World) (hr : rowAt w Bn = some #[.int .u8 s, .slice u m cp]) (hbw : Below n0 wL w) (hn0 : n0 ≤ w.heap.size) :
    SeqStopsK Fence.wide n Try.prog 96 #[.pointer (some ⟨Bn, 0, none⟩)] (fun x : Co m => #[x.enc f s]) (KpS n0 Bn) (fun ys => ys = coUpto m m) (fun _ => True) m w :=
  fun l J Jx W hW hJ _ hY h0 => courses1_in n hn l Bn n0 s B m cp f u wL hs hv hL hm hb J Jx hY
    (fun pre W W' h b => hJ pre W W' none h ⟨b.os, b.tape, b.output, b.size, fun k hk _ => b.block k hk⟩ (fun r e => by cases e)) W (hbw.trans (hW.mono hn0)) (Nat.le_trans hn0 hW.size) (brow hW hr) h0

set_option maxHeartbeats 1000000 in
/-- **s.courses()**: the receiver is boxed; the function value captures the box. -/
theorem courses_any (c : Array Value) (w : World) :
    Calls Try.prog 82 #[.agg c] w fun e w' => e = .returned (.func (.func 96) #[] #[.pointer (some ⟨w.heap.size, 0, none⟩)]) ∧ w' = w.alloc (.cells c 29) := by
  go_enter Try.func82, Try.ntmps82
  go_wp2
  go_ret
  exact ⟨rfl, rfl⟩
end Go.Proofs.Ytdegfcgknppcoaa
