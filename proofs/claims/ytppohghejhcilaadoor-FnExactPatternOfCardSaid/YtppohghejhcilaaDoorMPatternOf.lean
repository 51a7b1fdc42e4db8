import Derived.Test.YtppohghejhcilaaDoorColO
import Derived.Test.YtppohghejhcilaaDoorColS
import Derived.Test.YtppohghejhcilaaDoorPatX
import Derived.Test.YtppohghejhcilaaDoorEnd
import Derived.Deep.RegionHeld3
import Derived.Test.YtppohghejhcilaaDoorTy
import Derived.OrdersHeld
import Derived.Test.YtppohghejhcilaaDoorList
import Derived.Deep.LoopGhost
import Derived.Deep.Draws
import Derived.Shelf.Abstract
import Derived.Test.YtppohghejhcilaaDoorAsW
import Derived.Test.YtppohghejhcilaaDoorAgeV
import Derived.Test.YtppohghejhcilaaDoorAgeS
import Derived.Test.YtppohghejhcilaaDoorGive
import Derived.Test.YtppohghejhcilaaDoorTxt
import Derived.Test.YtppohghejhcilaaDoorCards
import Derived.Test.YtppohghejhcilaaDoorTie
import Derived.Test.YtppohghejhcilaaDoorLaidN
import Derived.Test.YtppohghejhcilaaDoorLaidA
import Derived.Test.YtppohghejhcilaaDoorBox
import Derived.Test.YtppohghejhcilaaDoorHelp
import Derived.Test.YtppohghejhcilaaDoorOpen

/- How many tiles are not of one colour: both sides. -/
namespace Go.Proofs.YtppohghejhcilaaDoor
open Go.RowKit

/-- How many bits of n bytes are set, and how many are not the same. -/
def popsTo (g : Nat → Nat) (n : Nat) : Int := sumTo (fun i => (pop (g i) 8 : Int)) n
theorem popsTo_bd (g : Nat → Nat) (n : Nat) : 0 ≤ popsTo g n ∧ popsTo g n ≤ n * 8 := sumTo_bd fun i _ => by have := pop_le (g i) 8; omega
theorem popsTo_succ (g : Nat → Nat) (n : Nat) : popsTo g n + (pop (g n) 8 : Int) = popsTo g (n + 1) := rfl
def offs (a b : Nat → Nat) : Nat → Nat := fun i => a i ^^^ b i
theorem offs_lt {a b : Nat → Nat} {i : Nat} (ha : a i < 256) (hb : b i < 256) : offs a b i < 256 := Nat.xor_lt_two_pow (n := 8) ha hb

set_option maxRecDepth 100000 in
set_option maxHeartbeats 1000000 in
theorem offBy_any (c d : Array Value) (a b : Nat → Nat) (w : World) (hA : IsCol c a) (hB : IsCol d b) :
    Calls Tryd.prog 97 #[.agg c, .agg d] w fun e w' => e = .returned (.int .i64 (popsTo (offs a b) 8)) ∧ Below w.heap.size w w' := by
  obtain ⟨p0, p1, pB⟩ := two_boxes w c d 62 62
  have hc := hA.size
  have hd := hB.size
  go_enter Tryd.func97, Tryd.ntmps97
  go_wp2_with fail
  refine gen_world fun W hW => ?_
  rw [← hW] at p0 p1 pB
  clear hW
  have P1 := Lib.hid (cell_of_rowAt p1)
  go_loop [5, 9] (fun s i => ∃ k : Nat, k ≤ 8 ∧ i = .int .i64 k ∧ s = .int .i64 (popsTo (offs a b) k)) (fun _ i => 8 - (intOf i).toNat)
  case atStart => exact ⟨0, by omega, rfl, rfl⟩
  case round =>
    obtain ⟨k, hk, rfl, rfl⟩ := hrel
    by_cases hlt : k < 8
    · have hk1 : k < c.size := by omega
      have h0 := hA.isK.cell k hk1
      have h1 : W.cell? ⟨w.heap.size + 1, k, none⟩ = some (.int .u8 (b k)) := (P1.out k).trans (hB.cell hlt)
      have a8 := hA.hi k hlt
      have b8 := hB.hi k hlt
      have hx := xor8_num a8 b8
      have x0 := popsTo_bd (offs a b) k
      have x1 := pop_le (offs a b k) 8
      have x2 := popsTo_succ (offs a b) k
      have CO := fun W => ones8_any (offs a b k) W (offs_lt a8 b8)
      rw [show a k ^^^ b k = offs a b k from rfl] at hx
      generalize hs : popsTo (offs a b) k = s at *
      clear hs
      generalize (pop (offs a b k) 8) = z at *
      have HX := Lib.hid x2; clear x2
      go_wp2_with fail
      refine (CO _).mono ?_
      rintro e w1 ⟨rfl, rfl⟩
      clear CO
      go_wp2_with fail
      refine ⟨⟨k + 1, by omega, by go_num, by rw [HX.out]⟩, by simp [intOf]; omega⟩
    · obtain rfl : k = 8 := by omega
      go_wp2_with fail
      go_ret
      exact ⟨rfl, pB⟩

set_option maxRecDepth 100000 in
set_option maxHeartbeats 1000000 in
theorem l07Count_any (m : Nat) (d : Array Value) (g : Nat → Nat) (w : World) (hd : rowAt w m = some d) (hC : IsCol d g) :
    Calls Tryd.prog 90 #[.pointer (some ⟨m, 0, none⟩)] w fun e w' => e = .returned (.int .i64 (popsTo g 8)) ∧ w = w' := by
  have HC := Lib.hid (cell_of_rowAt hd)
  go_enter Tryd.func90, Tryd.ntmps90
  go_wp2_with fail
  go_loop [3, 4] (fun s i => ∃ k : Nat, k ≤ 8 ∧ i = .int .i64 k ∧ s = .int .i64 (popsTo g k)) (fun _ i => 8 - (intOf i).toNat)
  case atStart => exact ⟨0, by omega, rfl, rfl⟩
  case round =>
    obtain ⟨k, hk, rfl, rfl⟩ := hrel
    by_cases hlt : k < 8
    · have h0 : w.cell? ⟨m, k, none⟩ = some (.int .u8 (g k)) := (HC.out k).trans (hC.cell hlt)
      have g8 := hC.hi k hlt
      have x0 := popsTo_bd g k
      have x2 := Lib.hid (popsTo_succ g k)
      generalize popsTo g k = s at *
      generalize g k = n at *
      go_wp2_with fail
      go_loop [3, 5] (fun s' i => ∃ j : Nat, j ≤ 8 ∧ i = .int .i64 j ∧ s' = .int .i64 (s + (pop n j : Int))) (fun _ i => 8 - (intOf i).toNat)
      case atStart => exact ⟨0, by omega, rfl, by simp [pop]⟩
      case round =>
        obtain ⟨j, hj, rfl, rfl⟩ := hrel
        have y0 := pop_le n j
        by_cases hjl : j < 8
        · have y1 : pop n (j + 1) = pop n j + n / 2 ^ j % 2 := rfl
          have y2 : n / 2 ^ j ≤ n := Nat.div_le_self _ _
          have y3 : ((n : Int) / 2 ^ j) = ((n / 2 ^ j : Nat) : Int) := by simp
          generalize n / 2 ^ j = q at *
          have HY := Lib.hid y1; clear y1
          generalize pop n j = z at *
          go_wp2_with fail
          refine ⟨⟨j + 1, by omega, by go_num, ?_⟩, by simp [intOf]; omega⟩
          rw [HY.out]
          congr 1
          omega
        · obtain rfl : j = 8 := by omega
          go_wp2_with fail
          refine ⟨⟨k + 1, by omega, by go_num, by rw [x2.out]⟩, by simp [intOf]; omega⟩
    · obtain rfl : k = 8 := by omega
      go_wp2_with fail
      go_ret
      exact ⟨rfl, rfl⟩
end Go.Proofs.YtppohghejhcilaaDoor

/- The nearest pattern of a word that is told by its number. -/
namespace Go.Proofs.YtppohghejhcilaaDoor
open Go.RowKit

@[go_sem ↓] theorem loadAt_pat (v : Value) : Instr.loadAt 113 v = loadWhole 113 v := rfl
@[go_sem ↓] theorem storeAt_pat (a v : Value) : Instr.storeAt 113 a v = storeWhole 113 a v := rfl
@[go_sem] theorem load_pat (w : World) (n o : Nat) : (loadWhole 113 (.pointer (some ⟨n, o, none⟩))).run Tryd.prog w = rowLoad Tryd.prog 113 2 n o w (rowAt w n) := run_load_by Tryd.underlying113 rfl (by kernel_rfl) w n o
@[go_sem] theorem store_pat (vs : Array Value) (w : World) (n o : Nat) : (storeWhole 113 (.pointer (some ⟨n, o, none⟩)) (.agg vs)).run Tryd.prog w = rowStore Tryd.prog 113 2 n o vs w (rowAt w n) := run_store_by (by kernel_rfl) vs w n o
@[go_sem] theorem ones_fi (T : TypeId) (x : Value) (b : Int) : Ones #[.iface T x, .int .i64 b] := by
  intro v hv
  simp at hv
  rcases hv with rfl | rfl <;> rfl
@[go_sem] theorem ones_ni (b : Int) : Ones #[.nilIface, .int .i64 b] := by
  intro v hv
  simp at hv
  rcases hv with rfl | rfl <;> rfl
theorem mkS2N {A B : Prop} (m : B → A) (h : B) : A ∧ B := ⟨m h, h⟩
theorem callBN {A : Prop} {w W w1 : World} (h : A ∧ Below w.heap.size w W) (b : Below W.heap.size W w1) : Below w.heap.size w w1 := bnext h.2 b h.2.size
def offW (s : ByteArray) (g : Nat → Nat) (hh ww st : Nat) : Int := popsTo (offs (colL (patB s st) (plUpto hh ww (hh * ww))) g) 8
theorem offW_bd (s : ByteArray) (g : Nat → Nat) (hh ww st : Nat) : 0 ≤ offW s g hh ww st ∧ offW s g hh ww st ≤ 64 := popsTo_bd _ 8
/-- The first of so many that is least, and how much it is. -/
def leastTo (o : Nat → Int) : Nat → Option (Nat × Int)
  | 0 => none
  | k + 1 => match leastTo o k with
    | none => some (k, o k)
    | some (b, l) => if o k < l then some (k, o k) else some (b, l)
def leastL (p : Option (Nat × Int)) : Int := match p with | none => 9223372036854775807 | some (_, l) => l
def leastR (v : Value) (p : Option (Nat × Int)) : Array Value := match p with | none => #[.nilIface, .int .i64 0] | some (b, _) => #[v, .int .i64 b]
theorem leastTo_bd {o : Nat → Int} (h : ∀ k, 0 ≤ o k ∧ o k ≤ 64) : ∀ k b l, leastTo o k = some (b, l) → b < k ∧ 0 ≤ l ∧ l ≤ 64
  | 0, b, l, e => by cases e
  | k + 1, b, l, e => by
    unfold leastTo at e
    cases hp : leastTo o k with
    | none => rw [hp] at e; cases e; exact ⟨by omega, h k⟩
    | some p =>
      obtain ⟨b', l'⟩ := p
      have ih := leastTo_bd h k b' l' hp
      rw [hp] at e
      by_cases hlt : o k < l'
      · simp only [hlt, if_true] at e; cases e; exact ⟨by omega, h k⟩
      · simp only [hlt, if_false] at e; cases e; exact ⟨by omega, ih.2⟩
theorem leastTo_step (o : Nat → Int) (k : Nat) (h : o k ≤ 64) : leastTo o (k + 1) = if o k < leastL (leastTo o k) then some (k, o k) else leastTo o k := by
  cases hp : leastTo o k with
  | none =>
    have e : leastTo o (k + 1) = some (k, o k) := by simp [leastTo, hp]
    rw [e, if_pos (by simp only [leastL]; omega)]
  | some p =>
    obtain ⟨b, l⟩ := p
    have e : leastTo o (k + 1) = if o k < l then some (k, o k) else some (b, l) := by simp [leastTo, hp]
    rw [e]
    rfl
theorem leastR_size (v : Value) (p : Option (Nat × Int)) : (leastR v p).size = 2 := by cases p with | none => rfl | some p => rfl
theorem leastTo_some (o : Nat → Int) : ∀ k, 1 ≤ k → ∃ b l, leastTo o k = some (b, l)
  | 0, h => by omega
  | k + 1, _ => by
    cases hp : leastTo o k with
    | none => exact ⟨k, o k, by simp [leastTo, hp]⟩
    | some p =>
      obtain ⟨b, l⟩ := p
      by_cases h : o k < l
      · exact ⟨k, o k, by simp [leastTo, hp, h]⟩
      · exact ⟨b, l, by simp [leastTo, hp, h]⟩

set_option maxRecDepth 100000 in
set_option maxHeartbeats 4000000 in
theorem nearT_any (c d : Array Value) (r : Rf) (g : Nat → Nat) (n num hh ww : Nat) (w : World) (hR : IsRoof c r) (hC : IsCol d g) (hhe : r.h = hh) (hwe : r.w = ww) (h8 : hh ≤ 8) (w8 : ww ≤ 8) (hn1 : 1 ≤ n) (hn5 : n ≤ 5) (hnum : num < 32) :
    Calls Tryd.prog 71 #[.agg c, .agg d, triedV n num] w fun e w' => (∃ b l, leastTo (offW (trS n num) g hh ww) n = some (b, l) ∧ e = .returned (.tuple #[.agg #[triedV n num, .int .i64 b], .int .i64 l])) ∧ Below w.heap.size w w' := by
  have hc := hR.size
  have hd := hC.size
  have hd1 := hC.ones
  have CM := fun W => manyT_any n num W
  have n5 : (n : Int) ≤ 5 := by omega
  have n1 : (1 : Int) ≤ n := by omega
  obtain ⟨o, ho⟩ : ∃ o, offW (trS n num) g hh ww = o := ⟨_, rfl⟩
  have hob : ∀ k, 0 ≤ o k ∧ o k ≤ 64 := fun k => by rw [← ho]; exact offW_bd _ _ _ _ _
  have HO := Lib.hid ho
  rw [ho]
  clear ho
  have CC := fun (st : Nat) (hst : st ≤ 12) X hX W => colour_any 96 #[.agg #[triedV n num, .int .i64 st]] #[] (patB (trS n num) st) (enters_of Tryd.func96 (by kernel_rfl) rfl) c r hh ww hhe hwe h8 w8 W hR (patT_pred n num st W hn1 hn5 hnum hst) X hX
  have CO := fun X f (hX : IsCol X f) W => offBy_any X d f g W hX hC
  unfold triedV at CC ⊢
  go_enter Tryd.func71, Tryd.ntmps71
  go_wp2_with fail
  refine gen_callsW fun W0 hW => ?_
  have p0 : rowAt W0 w.heap.size = some c := by rw [hW]; exact (rowAt_alloc_past _ _ _ (by simp; omega)).trans ((rowAt_alloc_past _ _ _ (by simp; omega)).trans ((rowAt_alloc_past _ _ _ (by simp)).trans (rowAt_alloc_at _ _ _ _ rfl)))
  have p1 : rowAt W0 (w.heap.size + 1) = some d := by rw [hW]; exact (rowAt_alloc_past _ _ _ (by simp)).trans ((rowAt_alloc_past _ _ _ (by simp)).trans (rowAt_alloc_at _ _ _ _ (by simp)))
  have p6 : rowAt W0 (w.heap.size + 1 + 1) = some #[.nilIface, .int .i64 0] := by rw [hW]; exact (rowAt_alloc_past _ _ _ (by simp)).trans (rowAt_alloc_at _ _ _ _ (by simp))
  have p8 : rowAt W0 (w.heap.size + 1 + 1 + 1) = some #[.nilIface, .int .i64 0] := by rw [hW]; exact rowAt_alloc_at _ _ _ _ (by simp)
  have pB : Below w.heap.size w W0 := by rw [hW]; exact ((((Below.refl _ _).alloc (Nat.le_refl _) _).alloc (by simp) _).alloc (by simp; omega) _).alloc (by simp; omega) _
  clear hW
  refine (CM _).mono ?_
  rintro e w1 ⟨rfl, b1⟩
  have q0 := brow b1 p0
  have q1 := brow b1 p1
  have q6 := brow b1 p6
  have q8 := brow b1 p8
  have B1 := bnext pB b1 pB.size
  clear b1 p0 p1 p6 p8 pB CM
  go_wp2_with fail
  go_loopw [9, 15] (fun l i W => ∃ k : Nat, k ≤ n ∧ i = .int .i64 k ∧ l = .int .i64 (leastL (leastTo o k)) ∧ rowAt W w.heap.size = some c ∧ rowAt W (w.heap.size + 1) = some d ∧ rowAt W (w.heap.size + 1 + 1) = some #[.nilIface, .int .i64 0] ∧ rowAt W (w.heap.size + 1 + 1 + 1) = some (leastR (.iface 161 (.agg #[.int .i64 n, .int .i64 num])) (leastTo o k)) ∧ Below w.heap.size w W) (fun _ i _ => n - (intOf i).toNat)
  case atStart => exact ⟨0, by omega, rfl, rfl, q0, q1, q6, q8, B1⟩
  case round =>
    clear q0 q1 q6 q8 B1
    obtain ⟨k, hk, rfl, rfl, r0, r1, r6, r8, rB⟩ := hrel
    by_cases hlt : k < n
    · have k0 : (0 : Int) ≤ k := by omega
      have k1 : (k : Int) < n := by omega
      obtain ⟨X, hX⟩ : ∃ X, mkC (colL (patB (trS n num) k) (plUpto hh ww (hh * ww))) = X := ⟨_, rfl⟩
      have hXI : IsCol X (colL (patB (trS n num) k) (plUpto hh ww (hh * ww))) := by rw [← hX]; exact isCol_mkC fun i _ => colL_lt w8 _ i
      have CK := CC k (by omega) X hX
      have CF := fun W => CO X _ hXI W
      have hof : popsTo (offs (colL (patB (trS n num) k) (plUpto hh ww (hh * ww))) g) 8 = o k := by rw [← HO.out]; rfl
      rw [hof] at CF
      have hXs := hXI.size
      have hXo := hXI.ones
      have hok := hob k
      have hst := leastTo_step o k hok.2
      clear hX hof hXI
      go_wp2_with fail
      refine gen_world fun W2 hW => ?_
      have s0 : rowAt W2 w.heap.size = some c := by rw [hW]; exact (rowAt_alloc_past _ _ _ (rowAt_lt r0)).trans r0
      have s1 : rowAt W2 (w.heap.size + 1) = some d := by rw [hW]; exact (rowAt_alloc_past _ _ _ (rowAt_lt r1)).trans r1
      have s6 : rowAt W2 (w.heap.size + 1 + 1) = some #[.nilIface, .int .i64 0] := by rw [hW]; exact (rowAt_alloc_past _ _ _ (rowAt_lt r6)).trans r6
      have s8 : rowAt W2 (w.heap.size + 1 + 1 + 1) = some (leastR (.iface 161 (.agg #[.int .i64 n, .int .i64 num])) (leastTo o k)) := by rw [hW]; exact (rowAt_alloc_past _ _ _ (rowAt_lt r8)).trans r8
      have s11 : rowAt W2 wr.heap.size = some #[.iface 161 (.agg #[.int .i64 n, .int .i64 num]), .int .i64 k] := by rw [hW]; exact rowAt_alloc_at _ _ _ _ rfl
      have sB : Below w.heap.size w W2 := by rw [hW]; exact rB.alloc rB.size _
      have n8 : w.heap.size + 1 + 1 + 1 ≠ wr.heap.size := by have := rowAt_lt r8; omega
      clear hW r0 r1 r6 r8 rB
      have HM := Lib.hid (fun W' (b : Below W2.heap.size W2 W') => (show rowAt W' w.heap.size = some c ∧ rowAt W' (w.heap.size + 1) = some d ∧ rowAt W' wr.heap.size = some #[.iface 161 (.agg #[.int .i64 n, .int .i64 num]), .int .i64 k] from ⟨brow b s0, brow b s1, brow b s11⟩))
      go_region_held3 (fun w' => (rowAt w' w.heap.size = some c ∧ rowAt w' (w.heap.size + 1) = some d ∧ rowAt w' wr.heap.size = some #[.iface 161 (.agg #[.int .i64 n, .int .i64 num]), .int .i64 k]) ∧ Below W2.heap.size W2 w')
        ((refine mkS2N (HM.out _) ?_; first | exact (Below.refl _ _).drew | exact callBN (by assumption) (by assumption)))
        (first | (go_at_call 95; (with_reducible refine (CK _).mono ?_); rintro x wx ⟨rfl, bx⟩) | (go_at_call 97; (with_reducible refine (CF _).mono ?_); rintro x wx ⟨rfl, bx⟩))
      rename_i gq
      obtain ⟨⟨_, _, g11⟩, gB⟩ := gq
      have g0 := brow gB s0
      have g1 := brow gB s1
      have g6 := brow gB s6
      have g8 := brow gB s8
      have GB := bnext sB gB sB.size
      have zr := leastR_size (.iface 161 (.agg #[.int .i64 n, .int .i64 num])) (leastTo o k)
      clear HM s0 s1 s6 s8 s11 sB gB CK CF
      have d0 : w.heap.size ≠ w.heap.size + 1 + 1 + 1 := by omega
      have d1 : w.heap.size + 1 ≠ w.heap.size + 1 + 1 + 1 := by omega
      have d6 : w.heap.size + 1 + 1 ≠ w.heap.size + 1 + 1 + 1 := by omega
      by_cases hlo : o k < leastL (leastTo o k)
      · rw [if_pos hlo] at hst
        have HST := Lib.hid hst
        clear hst
        go_wp2_with fail
        refine ⟨⟨k + 1, by omega, by go_num, by rw [HST.out]; rfl, (rowAt_setRow_ne _ _ _ _ d0).trans g0, (rowAt_setRow_ne _ _ _ _ d1).trans g1, (rowAt_setRow_ne _ _ _ _ d6).trans g6, ?_, below_setRow GB (by omega) _⟩, by simp [intOf]; omega⟩
        rw [HST.out]
        exact rowAt_setRow_at _ _ _ (Option.isSome_iff_exists.2 ⟨_, g8⟩)
      · rw [if_neg hlo] at hst
        have HST := Lib.hid hst
        clear hst
        go_wp2_with fail
        refine ⟨⟨k + 1, by omega, by go_num, by rw [HST.out], g0, g1, g6, by rw [HST.out]; exact g8, GB⟩, by simp [intOf]; omega⟩
    · obtain rfl : k = n := by omega
      obtain ⟨b, l, hbl⟩ := leastTo_some o k hn1
      have r8' : rowAt wr (w.heap.size + 1 + 1 + 1) = some #[.iface 161 (.agg #[.int .i64 k, .int .i64 num]), .int .i64 b] := by rw [r8, hbl]; rfl
      have hll : leastL (leastTo o k) = l := by rw [hbl]; rfl
      rw [hll]
      have HBL := Lib.hid hbl
      clear r8 hll hbl
      go_wp2_with fail
      refine bodyPost_ret (v := .tuple #[.agg #[.iface 161 (.agg #[.int .i64 k, .int .i64 num]), .int .i64 b], .int .i64 l]) (results_row2 (m := 2) rfl _ _ (w.heap.size + 1 + 1) _ _ rfl rfl (rowAt_setRow_at _ _ _ (Option.isSome_iff_exists.2 ⟨_, r6⟩)) Tryd.underlying113 rfl (by kernel_rfl) rfl) rfl ⟨⟨b, l, HBL.out, rfl⟩, ?_⟩
      exact below_setRow rB (by omega) _
end Go.Proofs.YtppohghejhcilaaDoor

/- The first pattern among all words: the mathematics. -/
namespace Go.Proofs.YtppohghejhcilaaDoor
open Go.RowKit

theorem pop_zero : ∀ s : Fin 256, pop s.val 8 = 0 → s.val = 0 := by decide +kernel
theorem xor_zero {a b : Nat} (h : a ^^^ b = 0) : a = b := Nat.eq_of_testBit_eq fun j => by
  have h1 : (a ^^^ b).testBit j = false := by rw [h, Nat.zero_testBit]
  rw [Nat.testBit_xor] at h1
  revert h1
  cases a.testBit j <;> cases b.testBit j <;> simp
theorem sumTo_zero {t : Nat → Int} : ∀ {n : Nat}, (∀ i, i < n → 0 ≤ t i) → (sumTo t n = 0 ↔ ∀ i, i < n → t i = 0)
  | 0, _ => by simp [sumTo]
  | n + 1, h => by
    have ih := sumTo_zero (t := t) (n := n) fun i hi => h i (by omega)
    have hn := h n (by omega)
    have hp : 0 ≤ sumTo t n := by
      clear ih
      induction n with
      | zero => simp [sumTo]
      | succ n ihn =>
        have := h n (by omega)
        have h2 : ∀ i, i < n + 1 → 0 ≤ t i := fun i hi => h i (by omega)
        have := ihn (fun i hi => h2 i (by omega)) (h2 n (by omega))
        simp only [sumTo]
        omega
    simp only [sumTo]
    constructor
    · intro e i hi
      by_cases hin : i = n
      · subst hin; omega
      · exact ih.1 (by omega) i (by omega)
    · intro e
      have h1 := ih.2 fun i hi => e i (by omega)
      have h2 := e n (by omega)
      omega
/-- Colours that are off by 0 are equal. -/
theorem offs_zero {a b : Nat → Nat} (ha : ∀ i, i < 8 → a i < 256) (hb : ∀ i, i < 8 → b i < 256) : popsTo (offs a b) 8 = 0 ↔ ∀ i, i < 8 → a i = b i := by
  unfold popsTo
  rw [sumTo_zero fun i _ => by omega]
  constructor
  · intro h i hi
    have h1 := h i hi
    have h2 : pop (offs a b i) 8 = 0 := by omega
    exact xor_zero (pop_zero ⟨offs a b i, offs_lt (ha i hi) (hb i hi)⟩ h2)
  · intro h i hi
    have : offs a b i = 0 := by unfold offs; rw [h i hi, Nat.xor_self]
    rw [this]; rfl
theorem leastTo_full (o : Nat → Int) : ∀ k b l, leastTo o k = some (b, l) → b < k ∧ o b = l ∧ (∀ j, j < b → l < o j) ∧ ∀ j, j < k → l ≤ o j
  | 0, b, l, e => by cases e
  | k + 1, b, l, e => by
    unfold leastTo at e
    cases hp : leastTo o k with
    | none =>
      rw [hp] at e; cases e
      have h0 : k = 0 := by
        cases k with
        | zero => rfl
        | succ k => obtain ⟨b', l', h⟩ := leastTo_some o (k + 1) (by omega); rw [h] at hp; cases hp
      subst h0
      exact ⟨by omega, rfl, by omega, fun j hj => by rw [show j = 0 by omega]; omega⟩
    | some p =>
      obtain ⟨b', l'⟩ := p
      obtain ⟨i1, i2, i3, i4⟩ := leastTo_full o k b' l' hp
      rw [hp] at e
      by_cases hlt : o k < l'
      · simp only [hlt, if_true] at e; cases e
        refine ⟨by omega, rfl, fun j hj => ?_, fun j hj => ?_⟩
        · have := i4 j hj; omega
        · by_cases hjk : j = k
          · subst hjk; omega
          · have := i4 j (by omega); omega
      · simp only [hlt, if_false] at e; cases e
        refine ⟨by omega, i2, i3, fun j hj => ?_⟩
        by_cases hjk : j = k
        · subst hjk; omega
        · exact i4 j (by omega)
/-- The first word, told by its length and its number, and the first step that are off by 0. -/
structure FirstP (O : Nat → Nat → Nat → Int) (most n num st : Nat) : Prop where
  n1 : 1 ≤ n
  nm : n ≤ most
  hn : num < 2 ^ n
  hs : st < n
  z : O n num st = 0
  sh : ∀ n' num' st', 1 ≤ n' → n' < n → num' < 2 ^ n' → st' < n' → O n' num' st' ≠ 0
  ea : ∀ num' st', num' < num → st' < n → O n num' st' ≠ 0
  st : ∀ st', st' < st → O n num st' ≠ 0
def NoneP (O : Nat → Nat → Nat → Int) (most : Nat) : Prop := ∀ n num st, 1 ≤ n → n ≤ most → num < 2 ^ n → st < n → O n num st ≠ 0
theorem FirstP.one {O : Nat → Nat → Nat → Int} {most n num st n' num' st' : Nat} (h : FirstP O most n num st) (g : FirstP O most n' num' st') : n = n' ∧ num = num' ∧ st = st' := by
  have e1 : n = n' := by
    rcases Nat.lt_trichotomy n n' with e | e | e
    · exact absurd h.z (g.sh n num st h.n1 e h.hn h.hs)
    · exact e
    · exact absurd g.z (h.sh n' num' st' g.n1 e g.hn g.hs)
  subst e1
  have e2 : num = num' := by
    rcases Nat.lt_trichotomy num num' with e | e | e
    · exact absurd h.z (g.ea num st e h.hs)
    · exact e
    · exact absurd g.z (h.ea num' st' e g.hs)
  subst e2
  refine ⟨rfl, rfl, ?_⟩
  rcases Nat.lt_trichotomy st st' with e | e | e
  · exact absurd h.z (g.st st e)
  · exact e
  · exact absurd g.z (h.st st' e)
open Classical in
noncomputable def ptnR (O : Nat → Nat → Nat → Int) (most : Nat) : Option (Nat × Nat × Nat) :=
  if h : ∃ p : Nat × Nat × Nat, FirstP O most p.1 p.2.1 p.2.2 then some h.choose else none
theorem ptnR_some {O : Nat → Nat → Nat → Int} {most n num st : Nat} (h : FirstP O most n num st) : ptnR O most = some (n, num, st) := by
  have he : ∃ p : Nat × Nat × Nat, FirstP O most p.1 p.2.1 p.2.2 := ⟨(n, num, st), h⟩
  unfold ptnR
  rw [dif_pos he]
  obtain ⟨e1, e2, e3⟩ := he.choose_spec.one h
  congr 1
  exact Prod.ext e1 (Prod.ext e2 e3)
theorem ptnR_none {O : Nat → Nat → Nat → Int} {most : Nat} (h : NoneP O most) : ptnR O most = none := by
  unfold ptnR
  rw [dif_neg]
  rintro ⟨p, hp⟩
  exact h p.1 p.2.1 p.2.2 hp.n1 hp.nm hp.hn hp.hs hp.z
/-- None ahead of a word. -/
def AheadP (O : Nat → Nat → Nat → Int) (n num : Nat) : Prop := (∀ n' num' st', 1 ≤ n' → n' < n → num' < 2 ^ n' → st' < n' → O n' num' st' ≠ 0) ∧ ∀ num' st', num' < num → st' < n → O n num' st' ≠ 0
theorem AheadP.start (O : Nat → Nat → Nat → Int) : AheadP O 1 0 := ⟨fun n' _ _ h1 h2 => by omega, fun _ _ h => by omega⟩
theorem AheadP.next {O : Nat → Nat → Nat → Int} {n num : Nat} (h : AheadP O n num) (g : ∀ st, st < n → O n num st ≠ 0) : AheadP O n (num + 1) :=
  ⟨h.1, fun num' st' hn hs => by
    by_cases e : num' = num
    · subst e; exact g st' hs
    · exact h.2 num' st' (by omega) hs⟩
theorem AheadP.over {O : Nat → Nat → Nat → Int} {n : Nat} (h : AheadP O n (2 ^ n)) : AheadP O (n + 1) 0 :=
  ⟨fun n' num' st' h1 h2 h3 h4 => by
    by_cases e : n' = n
    · subst e; exact h.2 num' st' h3 h4
    · exact h.1 n' num' st' h1 (by omega) h3 h4, fun _ _ h => by omega⟩
theorem AheadP.none {O : Nat → Nat → Nat → Int} {most : Nat} (h : AheadP O (most + 1) 0) : NoneP O most := fun n num st h1 h2 h3 h4 => h.1 n num st h1 (by omega) h3 h4
theorem AheadP.first {O : Nat → Nat → Nat → Int} {most n num st : Nat} (h : AheadP O n num) (n1 : 1 ≤ n) (nm : n ≤ most) (hn : num < 2 ^ n) (hs : st < n) (z : O n num st = 0) (hst : ∀ st', st' < st → O n num st' ≠ 0) : FirstP O most n num st :=
  ⟨n1, nm, hn, hs, z, h.1, h.2, hst⟩
theorem pow_32 {n : Nat} (h : n ≤ 5) : 2 ^ n ≤ 32 := Nat.pow_le_pow_right (n := 2) (by omega) h
end Go.Proofs.YtppohghejhcilaaDoor

/- The first pattern among all words: the program's patternOf. -/
namespace Go.Proofs.YtppohghejhcilaaDoor
open Go.RowKit

/-- What patternOf ends with. -/
def PtnE (O : Nat → Nat → Nat → Int) (most : Nat) (w : World) (e : Ending) (w' : World) : Prop :=
  ((∃ n num st, FirstP O most n num st ∧ e = .returned (.tuple #[.agg #[triedV n num, .int .i64 st], .nilIface])) ∨ (NoneP O most ∧ e = .returned (.tuple #[.agg #[.nilIface, .int .i64 0], .iface 129 (.agg #[])]))) ∧ Below w.heap.size w w'

set_option maxRecDepth 100000 in
set_option maxHeartbeats 4000000 in
theorem patternOf_any (c d : Array Value) (r : Rf) (g : Nat → Nat) (most hh ww : Nat) (w : World) (hR : IsRoof c r) (hC : IsCol d g) (hhe : r.h = hh) (hwe : r.w = ww) (h8 : hh ≤ 8) (w8 : ww ≤ 8) (hm : 1 ≤ most ∧ most ≤ 5) :
    Calls Tryd.prog 75 #[.agg c, .agg d, .int .i64 most] w (PtnE (fun n num => offW (trS n num) g hh ww) most w) := by
  have hc := hR.size
  have hd := hC.size
  have hd1 := hC.ones
  have hc1 := hR.ones
  have CN := fun n num W h1 h5 hn => nearT_any c d r g n num hh ww W hR hC hhe hwe h8 w8 h1 h5 hn
  obtain ⟨O, hO⟩ : ∃ O, (fun n num => offW (trS n num) g hh ww) = O := ⟨_, rfl⟩
  have HO := Lib.hid hO
  have hob : ∀ n q st, 0 ≤ O n q st := fun n q st => by rw [← hO]; exact (offW_bd _ _ _ _ _).1
  have HOB := Lib.hid hob
  clear hob
  rw [hO]
  clear hO
  unfold triedV at CN
  go_enter Tryd.func75, Tryd.ntmps75
  go_wp2_with fail
  refine gen_world fun W0 hW => ?_
  have p0 : rowAt W0 w.heap.size = some c := by rw [hW]; exact (rowAt_alloc_past _ _ _ (by simp; omega)).trans ((rowAt_alloc_past _ _ _ (by simp)).trans (rowAt_alloc_at _ _ _ _ rfl))
  have p1 : rowAt W0 (w.heap.size + 1) = some d := by rw [hW]; exact (rowAt_alloc_past _ _ _ (by simp)).trans (rowAt_alloc_at _ _ _ _ (by simp))
  have p6 : rowAt W0 (w.heap.size + 1 + 1) = some #[.nilIface, .int .i64 0] := by rw [hW]; exact rowAt_alloc_at _ _ _ _ (by simp)
  have pB : Below w.heap.size w W0 := by rw [hW]; exact (((Below.refl _ _).alloc (Nat.le_refl _) _).alloc (by simp) _).alloc (by simp; omega) _
  clear hW
  go_loopw [8] (fun lv W => ∃ n : Nat, 1 ≤ n ∧ n ≤ most + 1 ∧ lv = .int .i64 n ∧ Hid (AheadP O n 0) ∧ rowAt W w.heap.size = some c ∧ rowAt W (w.heap.size + 1) = some d ∧ rowAt W (w.heap.size + 1 + 1) = some #[.nilIface, .int .i64 0] ∧ Hid (Below w.heap.size w W)) (fun lv _ => most + 1 - (intOf lv).toNat)
  case atStart => exact ⟨1, by omega, by omega, rfl, Lib.hid (AheadP.start O), p0, p1, p6, Lib.hid pB⟩
  case round =>
    clear p0 p1 p6 pB
    obtain ⟨n, hn1, hnm, rfl, hA, r0, r1, r6, hB⟩ := hrel
    by_cases hlt : n ≤ most
    · have k1 : (n : Int) ≤ most := by omega
      have k0 : 0 ≤ (n : Int) := by omega
      have kz : decide ((n : Int) < 0) = false := by simp
      have p32 := pow_32 (n := n) (by omega)
      obtain ⟨NN, hNN⟩ : ∃ NN : Nat, NN = 2 ^ n := ⟨_, rfl⟩
      have hw2 : wrap64 ((2 : Int) ^ n) = (NN : Int) := by
        have e : ((2 : Int) ^ n) = ((2 ^ n : Nat) : Int) := by push_cast; rfl
        rw [e, ← hNN]; rw [← hNN] at p32; unfold wrap64; omega
      rw [← hNN] at p32
      have HNN := Lib.hid hNN
      clear hNN
      go_wp2_with fail
      rw [hw2]
      clear hw2
      go_loopw [19] (fun nv W => ∃ q : Nat, q ≤ NN ∧ nv = .int .i64 q ∧ Hid (AheadP O n q) ∧ rowAt W w.heap.size = some c ∧ rowAt W (w.heap.size + 1) = some d ∧ rowAt W (w.heap.size + 1 + 1) = some #[.nilIface, .int .i64 0] ∧ Hid (Below w.heap.size w W)) (fun nv _ => NN - (intOf nv).toNat)
      case atStart => exact ⟨0, by omega, rfl, hA, r0, r1, r6, hB⟩
      case round =>
        clear hA r0 r1 r6 hB
        obtain ⟨q, hq, rfl, hA, r0, r1, r6, hB⟩ := hrel
        by_cases hlq : q < NN
        · have q1 : (q : Int) < NN := by omega
          have CK := fun W => CN n q W hn1 (by omega) (by omega)
          rw [show offW (trS n q) g hh ww = O n q by rw [← HO.out]] at CK
          go_wp2_with fail
          refine (CK _).mono ?_
          rintro e w1 ⟨⟨b, l, hbl, rfl⟩, b1⟩
          obtain ⟨f1, f2, f3, f4⟩ := leastTo_full _ _ _ _ hbl
          have s0 := brow b1 r0
          have s1 := brow b1 r1
          have s6 := brow b1 r6
          have hB1 := Lib.hid (bnext hB.out b1 hB.out.size)
          have l6 := rowAt_lt s6
          have n6 : w.heap.size + 1 + 1 ≠ w1.heap.size := by omega
          clear b1 r0 r1 r6 hB CK hbl
          by_cases hl : l = 0
          · have hF := Lib.hid (hA.out.first (most := most) hn1 hlt (by rw [← HNN.out]; exact hlq) f1 (by rw [f2, hl]) (fun st' h => by have := f3 st' h; omega))
            have hlb : (l == 0) = true := by simp [hl]
            clear hl f1 f2 f3 f4
            go_wp2_with fail
            refine bodyPost_ret (v := .tuple #[.agg #[.iface 161 (.agg #[.int .i64 n, .int .i64 q]), .int .i64 b], .nilIface]) (results_row2 (m := 2) rfl _ _ (w.heap.size + 1 + 1) _ _ rfl rfl ((rowAt_alloc_past _ _ _ (by simpa using l6)).trans (rowAt_setRow_at _ _ _ (Option.isSome_iff_exists.2 ⟨_, s6⟩))) Tryd.underlying113 rfl (by kernel_rfl) rfl) rfl ⟨.inl ⟨n, q, b, hF.out, rfl⟩, ?_⟩
            have b9 := below_setRow hB1.out (n := w.heap.size + 1 + 1) (by omega) #[.iface 161 (.agg #[.int .i64 n, .int .i64 q]), .int .i64 b]
            exact b9.alloc b9.size _
          · have hlb : (l == 0) = false := by simp [hl]
            have hAn := Lib.hid (hA.out.next fun st hst => by have := f4 st hst; have h0 := HOB.out n q b; intro e; omega)
            clear hl f1 f2 f3 f4
            go_wp2_with fail
            refine ⟨⟨q + 1, by omega, by go_num, hAn, (rowAt_alloc_past _ _ _ (rowAt_lt s0)).trans s0, (rowAt_alloc_past _ _ _ (rowAt_lt s1)).trans s1, (rowAt_alloc_past _ _ _ l6).trans s6, Lib.hid (hB1.out.alloc hB1.out.size _)⟩, by simp [intOf]; omega⟩
        · obtain rfl : q = NN := by omega
          have q1 : ¬ (q : Int) < q := by omega
          have hAo := Lib.hid (show AheadP O (n + 1) 0 by have := hA.out; rw [HNN.out] at this; exact this.over)
          go_wp2_with fail
          refine ⟨⟨n + 1, by omega, by omega, by go_num, hAo, r0, r1, r6, hB⟩, by simp [intOf]; omega⟩
    · obtain rfl : n = most + 1 := by omega
      have k1 : ¬ ((most + 1 : Nat) : Int) ≤ most := by omega
      go_wp2_with fail
      refine bodyPost_ret (v := .tuple #[.agg #[.nilIface, .int .i64 0], .iface 129 (.agg #[])]) (results_row2 (m := 2) rfl _ _ (w.heap.size + 1 + 1) _ _ rfl rfl (rowAt_setRow_at _ _ _ (Option.isSome_iff_exists.2 ⟨_, r6⟩)) Tryd.underlying113 rfl (by kernel_rfl) rfl) rfl ⟨.inr ⟨hA.out.none, rfl⟩, ?_⟩
      exact below_setRow hB.out (by omega) _
end Go.Proofs.YtppohghejhcilaaDoor

/- A drawn region's condition laid anew in its midst. -/
namespace Go.Proofs.YtppohghejhcilaaDoor
open Go.RowKit

theorem wpAnyH_mono {P : Program} {md : Region.Mode} {ops : Array Oper} {Q : Exit → Act → World → Prop} {S S' : World → Prop} (hs : ∀ w, S' w → S w) :
    ∀ (fuel : Nat) (listed : Array Bool) (a : Act) (w : World), wpAnyH P md ops Q S' fuel listed a w → wpAnyH P md ops Q S fuel listed a w
  | 0, _, _, _, h => h
  | fuel + 1, _, _, _, h => ⟨h.1, fun i hi => wpOp_mono (fun a' w' h' => ⟨hs _ h'.1, wpAnyH_mono hs fuel _ a' w' h'.2⟩) (h.2 i hi)⟩
/-- From here on nothing of the world at hand changes. -/
theorem wpAnyH_now {P : Program} {md : Region.Mode} {ops : Array Oper} {Q : Exit → Act → World → Prop} {B w : World} {fuel : Nat} {listed : Array Bool} {a : Act}
    (hG : Below B.heap.size B w) (h : wpAnyH P md ops Q (fun w' => Below w.heap.size w w') fuel listed a w) : wpAnyH P md ops Q (fun w' => Below B.heap.size B w') fuel listed a w :=
  wpAnyH_mono (fun _ b => hG.trans (b.mono hG.size)) fuel listed a w h
end Go.Proofs.YtppohghejhcilaaDoor

/- The first number below another one of which something holds. -/
namespace Go.Proofs.YtppohghejhcilaaDoor
open Go.RowKit

/-- The first k below n of which p holds, or -1. -/
def firstI (p : Nat → Bool) : Nat → Int
  | 0 => -1
  | n + 1 => if 0 ≤ firstI p n then firstI p n else if p n then n else -1
theorem firstI_miss {p : Nat → Bool} : ∀ {n : Nat}, (∀ j, j < n → p j = false) → firstI p n = -1
  | 0, _ => rfl
  | n + 1, h => by
    have := firstI_miss (n := n) fun j hj => h j (by omega)
    unfold firstI
    rw [this, if_neg (by omega), h n (by omega)]
    rfl
theorem firstI_hit {p : Nat → Bool} : ∀ {n k : Nat}, k < n → (∀ j, j < k → p j = false) → p k = true → firstI p n = k
  | 0, k, hk, _, _ => by omega
  | n + 1, k, hk, h, hp => by
    unfold firstI
    by_cases e : k = n
    · subst e
      rw [firstI_miss h, if_neg (by omega), hp]; rfl
    · rw [firstI_hit (n := n) (by omega) h hp, if_pos (by omega)]
theorem firstI_bd (p : Nat → Bool) : ∀ n : Nat, -1 ≤ firstI p n ∧ firstI p n < n
  | 0 => by simp [firstI]
  | n + 1 => by
    have := firstI_bd p n
    unfold firstI
    split
    · omega
    · split <;> omega
theorem firstI_of {p : Nat → Bool} {n : Nat} (h : firstI p n = -1) : ∀ j, j < n → p j = false := by
  induction n with
  | zero => intro j hj; omega
  | succ n ih =>
    intro j hj
    unfold firstI at h
    split at h
    · omega
    · rename_i h1
      have h2 : firstI p n = -1 := by have := firstI_bd p n; omega
      split at h
      · omega
      · rename_i h3
        by_cases e : j = n
        · subst e; simpa using h3
        · exact ih h2 j (by omega)
theorem firstI_congr {p q : Nat → Bool} : ∀ {n : Nat}, (∀ j, j < n → p j = q j) → firstI p n = firstI q n
  | 0, _ => rfl
  | n + 1, h => by unfold firstI; rw [firstI_congr fun j hj => h j (by omega), h n (by omega)]
/-- Some k below n of which p holds. -/
def anyI (p : Nat → Bool) (n : Nat) : Bool := decide (0 ≤ firstI p n)
theorem anyI_f {p : Nat → Bool} {n : Nat} : anyI p n = false ↔ ∀ j, j < n → p j = false := by
  unfold anyI
  constructor
  · intro h
    have := firstI_bd p n
    exact firstI_of (by simp at h; omega)
  · intro h
    rw [firstI_miss h]; rfl

theorem anyI_succ (p : Nat → Bool) (n : Nat) : anyI p (n + 1) = (anyI p n || p n) := by
  have hb := firstI_bd p n
  unfold anyI
  rw [show firstI p (n + 1) = (if 0 ≤ firstI p n then firstI p n else if p n then (n : Int) else -1) from rfl]
  by_cases h : 0 ≤ firstI p n
  · rw [if_pos h]; simp [h]
  · rw [if_neg h]
    cases hp : p n <;> simp [h]
theorem anyI_zero (p : Nat → Bool) : anyI p 0 = false := rfl
theorem anyI_t {p : Nat → Bool} {n k : Nat} (hk : k < n) (h : p k = true) : anyI p n = true := by
  cases hq : anyI p n with
  | true => rfl
  | false => rw [anyI_f.1 hq k hk] at h; cases h
end Go.Proofs.YtppohghejhcilaaDoor

/- Numbers and their bounds: the program's own check. -/
namespace Go.Proofs.YtppohghejhcilaaDoor
open Go.RowKit

/-- A number outside its bounds. -/
def outB (x lo hi : Int) : Bool := decide (x < lo ∨ hi < x)
theorem isOutside_any (x lo hi : Int) (w : World) :
    Calls Tryd.prog 74 #[.agg #[.int .i64 x, .int .i64 lo, .int .i64 hi]] w fun e w' => e = .returned (.bool (outB x lo hi)) ∧ Below w.heap.size w w' := by
  by_cases h1 : x < lo
  · have hd : decide (x < lo) = true := by simp [h1]
    have hV : outB x lo hi = true := by simp [outB, h1]
    rw [hV]
    clear hV
    go_enter Tryd.func74, Tryd.ntmps74
    go_wp2_with fail
    go_ret
    exact ⟨rfl, (Below.refl _ _).alloc (Nat.le_refl _) _⟩
  · by_cases h2 : hi < x
    · have hV : outB x lo hi = true := by simp [outB, h2]
      rw [hV]
      clear hV
      go_enter Tryd.func74, Tryd.ntmps74
      go_wp2_with fail
      go_ret
      exact ⟨rfl, (Below.refl _ _).alloc (Nat.le_refl _) _⟩
    · have hV : outB x lo hi = false := by simp [outB]; omega
      rw [hV]
      clear hV
      go_enter Tryd.func74, Tryd.ntmps74
      go_wp2_with fail
      go_ret
      exact ⟨rfl, (Below.refl _ _).alloc (Nat.le_refl _) _⟩

/-- Which of k bounded numbers is outside. -/
def outs (h : Nat → Int) (i : Nat) : Bool := outB (h (i * 3)) (h (i * 3 + 1)) (h (i * 3 + 2))
theorem IsList.bnd {w : World} {base n : Nat} {a : Option Addr} {cap : Nat} {f : Nat → Int} (h : IsList w base (.slice a n cap) 3 n (fun i => .int .i64 (f i))) {k : Nat} (hk : k < n) :
    ∃ g, a = some ⟨g, 0, none⟩ ∧ w.cell? ⟨g, k * 3, none⟩ = some (.int .i64 (f (k * 3))) ∧ w.cell? ⟨g, k * 3 + 1, none⟩ = some (.int .i64 (f (k * 3 + 1))) ∧ w.cell? ⟨g, k * 3 + 2, none⟩ = some (.int .i64 (f (k * 3 + 2))) := by
  rcases h with ⟨h0, _⟩ | ⟨g, cap', cur, e, hg, hr, hs, hf⟩
  · omega
  · cases e
    exact ⟨g, rfl, by rw [cell_of_rowAt hr]; exact hf _ (by omega), by rw [cell_of_rowAt hr]; exact hf _ (by omega), by rw [cell_of_rowAt hr]; exact hf _ (by omega)⟩

set_option maxHeartbeats 1000000 in
theorem idxOut_any (b n : Nat) (v : Value) (f : Nat → Int) (w : World) (hv : IsList w b v 3 n (fun i => .int .i64 (f i))) (hn : n ≤ 2000000) :
    Calls Tryd.prog 105 #[v, .func (.func 74) #[] #[]] w fun e w' => e = .returned (.int .i64 (firstI (outs f) n)) ∧ Below w.heap.size w w' := by
  have HV := Lib.hid hv
  obtain ⟨a, cap, rfl⟩ := hv.shape
  clear hv
  go_enter Tryd.func105, Tryd.ntmps105
  go_wp2_with fail
  go_loopg [5, 8] n (fun gg _ i W => ∃ k : Nat, k ≤ n ∧ n - k ≤ gg ∧ i = .int .i64 k ∧ Hid (∀ j, j < k → outs f j = false) ∧ Below w.heap.size w W)
  case atStart => exact ⟨0, by omega, by omega, rfl, Lib.hid (by omega), Below.refl _ _⟩
  case round =>
    obtain ⟨k, hk, hg, rfl, hF, hB⟩ := hrel
    by_cases hlt : k < n
    · obtain ⟨b', rfl, c0, c1, c2⟩ := (HV.out.below hB (Nat.le_refl _)).bnd hlt
      have hi0 : 0 ≤ (k : Int) := by omega
      have hi1 : (k : Int) < n := by omega
      have HB := Lib.hid hB
      clear hB
      have hcall := fun W => isOutside_any (f (k * 3)) (f (k * 3 + 1)) (f (k * 3 + 2)) W
      cases hq : outB (f (k * 3)) (f (k * 3 + 1)) (f (k * 3 + 2)) with
      | true =>
        rw [hq] at hcall
        have HQ : Hid (outs f k = true) := Lib.hid hq
        clear hq
        go_wp2_with fail
        refine (hcall _).mono ?_
        rintro e w' ⟨rfl, b'⟩
        have B2 := bnext HB.out b' HB.out.size
        clear hcall b' c0 c1 c2
        go_wp2_with fail
        go_ret
        exact ⟨by rw [firstI_hit hlt hF.out HQ.out]; rfl, B2⟩
      | false =>
        rw [hq] at hcall
        have HQ : Hid (outs f k = false) := Lib.hid hq
        clear hq
        go_wp2_with fail
        refine (hcall _).mono ?_
        rintro e w' ⟨rfl, b'⟩
        have B2 := bnext HB.out b' HB.out.size
        clear hcall b' c0 c1 c2
        go_wp2_with fail
        go_roundg (n - (k + 1))
        case measure => omega
        case rel => exact ⟨k + 1, by omega, by omega, by go_num, Lib.hid (fun j hj => by
          by_cases e : j = k
          · subst e; exact HQ.out
          · exact hF.out j (by omega)), B2⟩
    · obtain rfl : k = n := by omega
      go_wp2_with fail
      go_ret
      exact ⟨by rw [firstI_miss hF.out]; rfl, hB⟩
theorem hasOut_any (b n : Nat) (v : Value) (f : Nat → Int) (w : World) (hv : IsList w b v 3 n (fun i => .int .i64 (f i))) (hn : n ≤ 2000000) :
    Calls Tryd.prog 81 #[v, .func (.func 74) #[] #[]] w fun e w' => e = .returned (.bool (anyI (outs f) n)) ∧ Below w.heap.size w w' := by
  have hbd := firstI_bd (outs f) n
  have CX := idxOut_any b n v f w hv hn
  obtain ⟨a, cap, rfl⟩ := hv.shape
  unfold anyI
  generalize firstI (outs f) n = z at *
  clear hv
  by_cases hz : 0 ≤ z
  · have hd : decide (0 ≤ z) = true := by simp [hz]
    rw [hd]
    go_enter Tryd.func81, Tryd.ntmps81
    go_wp2_with fail
    refine CX.mono ?_
    rintro e w1 ⟨rfl, b1⟩
    go_wp2_with fail
    go_ret
    exact ⟨rfl, b1⟩
  · have hd : decide (0 ≤ z) = false := by simp; omega
    rw [hd]
    go_enter Tryd.func81, Tryd.ntmps81
    go_wp2_with fail
    refine CX.mono ?_
    rintro e w1 ⟨rfl, b1⟩
    go_wp2_with fail
    go_ret
    exact ⟨rfl, b1⟩

/-- Numbers that all are as told. -/
def fineB (h : Nat → Int) (k : Nat) : Bool := !(anyI (outs h) k)

end Go.Proofs.YtppohghejhcilaaDoor

/- Chapter 7's refusals: their codes; the check of ages and numbers; the model's. -/
namespace Go.Proofs.YtppohghejhcilaaDoor
open Go.RowKit

def bn3 (x lo hi : Int) : Nat → Int := fun i => if i = 0 then x else if i = 1 then lo else hi
theorem IsList.li3 {w : World} {n base cap : Nat} {x lo hi : Int} (hr : rowAt w n = some #[.int .i64 x, .int .i64 lo, .int .i64 hi]) (hb : base ≤ n) : IsList w base (.slice (some ⟨n, 0, none⟩) 1 cap) 3 1 (fun i => .int .i64 (bn3 x lo hi i)) :=
  .inr ⟨n, cap, _, rfl, hb, hr, by simp, fun i hi => by
    have : i = 0 ∨ i = 1 ∨ i = 2 := by omega
    rcases this with rfl | rfl | rfl <;> simp [bn3]⟩
theorem fineB_bn3 (x lo hi : Int) : fineB (bn3 x lo hi) 1 = inB x lo hi := by
  unfold fineB anyI firstI firstI outs outB bn3 inB
  by_cases h1 : x < lo <;> by_cases h2 : hi < x <;> simp [h1, h2] <;> omega
def bn6 (x lo hi y l2 h2 : Int) : Nat → Int := fun i => if i = 0 then x else if i = 1 then lo else if i = 2 then hi else if i = 3 then y else if i = 4 then l2 else h2
theorem IsList.li6 {w : World} {n base cap : Nat} {x lo hi y l2 h2 : Int} (hr : rowAt w n = some #[.int .i64 x, .int .i64 lo, .int .i64 hi, .int .i64 y, .int .i64 l2, .int .i64 h2]) (hb : base ≤ n) : IsList w base (.slice (some ⟨n, 0, none⟩) 2 cap) 3 2 (fun i => .int .i64 (bn6 x lo hi y l2 h2 i)) :=
  .inr ⟨n, cap, _, rfl, hb, hr, by simp, fun i hi => by
    have : i = 0 ∨ i = 1 ∨ i = 2 ∨ i = 3 ∨ i = 4 ∨ i = 5 := by omega
    rcases this with rfl | rfl | rfl | rfl | rfl | rfl <;> simp [bn6]⟩
theorem fineB_bn6 (x lo hi y l2 h2 : Int) : fineB (bn6 x lo hi y l2 h2) 2 = (inB x lo hi && inB y l2 h2) := by
  unfold fineB
  rw [anyI_succ, anyI_succ, anyI_zero, Bool.false_or]
  unfold outs outB bn6 inB
  by_cases a1 : x < lo <;> by_cases a2 : hi < x <;> by_cases a3 : y < l2 <;> by_cases a4 : h2 < y <;> simp [a1, a2, a3, a4] <;> omega
theorem IsList.no3 (w : World) (base : Nat) : IsList w base (.slice none 0 0) 3 0 (fun i => .int .i64 ((fun _ => 0 : Nat → Int) i)) := .inl ⟨rfl, none, 0, rfl⟩
/-- The code of ages and numbers. -/
noncomputable def Rf.ageC (r : Rf) (t : Nat → Int) (fine : Bool) : Int := if r.aok t = true then (if fine = true then 0 else 2) else 1
theorem Rf.ageC_v {r : Rf} {t : Nat → Int} {fine : Bool} (h : ¬ r.Aged t) : r.ageC t fine = 1 := by simp [Rf.ageC, Rf.aok_f h]
theorem Rf.ageC_r {r : Rf} {t : Nat → Int} {fine : Bool} (h : r.Aged t) (hf : fine = false) : r.ageC t fine = 2 := by simp [Rf.ageC, Rf.aok_t h, hf]
theorem Rf.ageC_ok {r : Rf} {t : Nat → Int} {fine : Bool} (h : r.Aged t) (hf : fine = true) : r.ageC t fine = 0 := by simp [Rf.ageC, Rf.aok_t h, hf]

set_option maxHeartbeats 1000000 in
theorem yearCode_V (w : World) (hT : ErrT w) : Calls Tryd.prog 41 #[.iface 130 (.agg #[])] w fun e w' => e = .returned (.int .i64 1) ∧ Below w.heap.size w w' := by
  go_enter Tryd.func41, Tryd.ntmps41
  go_wp2_with fail
  refine gen_callsW fun W hW => ?_
  have B0 : Below w.heap.size w W := by rw [hW]; exact (((Below.refl _ _).alloc (Nat.le_refl _) _).alloc (by simp) _).alloc (by simp; omega) _
  have T0 := hT.below B0
  clear hW
  refine (as_VV _ _ T0).mono ?_
  rintro e w1 ⟨rfl, b1⟩
  have B1 := bnext B0 b1 B0.size
  have T1 := T0.below b1
  clear b1 B0 T0
  go_wp2_with fail
  clear T1
  go_ret
  exact ⟨rfl, B1⟩

set_option maxHeartbeats 1000000 in
theorem yearCode_R (w : World) (hT : ErrT w) : Calls Tryd.prog 41 #[.iface 131 (.agg #[])] w fun e w' => e = .returned (.int .i64 2) ∧ Below w.heap.size w w' := by
  go_enter Tryd.func41, Tryd.ntmps41
  go_wp2_with fail
  refine gen_callsW fun W hW => ?_
  have B0 : Below w.heap.size w W := by rw [hW]; exact (((Below.refl _ _).alloc (Nat.le_refl _) _).alloc (by simp) _).alloc (by simp; omega) _
  have T0 := hT.below B0
  clear hW
  refine (as_RV _ _ T0).mono ?_
  rintro e w1 ⟨rfl, b1⟩
  have B1 := bnext B0 b1 B0.size
  have T1 := T0.below b1
  clear b1 B0 T0
  go_wp2_with fail
  refine (as_RR _ _ T1).mono ?_
  rintro e w2 ⟨rfl, b2⟩
  have B2 := bnext B1 b2 B1.size
  have T2 := T1.below b2
  clear b2 B1 T1
  go_wp2_with fail
  clear T2
  go_ret
  exact ⟨rfl, B2⟩

set_option maxHeartbeats 1000000 in
theorem yearCode_T (w : World) (hT : ErrT w) : Calls Tryd.prog 41 #[.iface 129 (.agg #[])] w fun e w' => e = .returned (.int .i64 6) ∧ Below w.heap.size w w' := by
  go_enter Tryd.func41, Tryd.ntmps41
  go_wp2_with fail
  refine gen_callsW fun W hW => ?_
  have B0 : Below w.heap.size w W := by rw [hW]; exact (((Below.refl _ _).alloc (Nat.le_refl _) _).alloc (by simp) _).alloc (by simp; omega) _
  have T0 := hT.below B0
  clear hW
  refine (as_TV _ _ T0).mono ?_
  rintro e w1 ⟨rfl, b1⟩
  have B1 := bnext B0 b1 B0.size
  have T1 := T0.below b1
  clear b1 B0 T0
  go_wp2_with fail
  refine (as_TR _ _ T1).mono ?_
  rintro e w2 ⟨rfl, b2⟩
  have B2 := bnext B1 b2 B1.size
  have T2 := T1.below b2
  clear b2 B1 T1
  go_wp2_with fail
  refine (as_TL _ _ T2).mono ?_
  rintro e w3 ⟨rfl, b3⟩
  have B3 := bnext B2 b3 B2.size
  have T3 := T2.below b3
  clear b3 B2 T2
  go_wp2_with fail
  clear T3
  go_ret
  exact ⟨rfl, B3⟩

set_option maxHeartbeats 1000000 in
theorem yearCode_L (w : World) (hT : ErrT w) : Calls Tryd.prog 41 #[.iface 132 (.agg #[])] w fun e w' => e = .returned (.int .i64 3) ∧ Below w.heap.size w w' := by
  go_enter Tryd.func41, Tryd.ntmps41
  go_wp2_with fail
  refine gen_callsW fun W hW => ?_
  have B0 : Below w.heap.size w W := by rw [hW]; exact (((Below.refl _ _).alloc (Nat.le_refl _) _).alloc (by simp) _).alloc (by simp; omega) _
  have T0 := hT.below B0
  clear hW
  refine (as_LV _ _ T0).mono ?_
  rintro e w1 ⟨rfl, b1⟩
  have B1 := bnext B0 b1 B0.size
  have T1 := T0.below b1
  clear b1 B0 T0
  go_wp2_with fail
  refine (as_LR _ _ T1).mono ?_
  rintro e w2 ⟨rfl, b2⟩
  have B2 := bnext B1 b2 B1.size
  have T2 := T1.below b2
  clear b2 B1 T1
  go_wp2_with fail
  refine (as_LL _ _ T2).mono ?_
  rintro e w3 ⟨rfl, b3⟩
  have B3 := bnext B2 b3 B2.size
  have T3 := T2.below b3
  clear b3 B2 T2
  go_wp2_with fail
  clear T3
  go_ret
  exact ⟨rfl, B3⟩

set_option maxRecDepth 100000 in
set_option maxHeartbeats 1000000 in
theorem checkAges_v (c d : Array Value) (r : Rf) (t : Nat → Int) (v : Value) (w : World) (hR : IsRoof c r) (hA : IsU8 d 64 t) (h : ¬ r.Aged t) :
    Calls Tryd.prog 50 #[.agg c, .agg d, v] w fun e w' => e = .returned (.iface 130 (.agg #[])) ∧ Below w.heap.size w w' := by
  obtain ⟨p0, p1, pB⟩ := two_boxes w c d 28 30
  have hc := hR.size
  have hd := hA.size
  go_enter Tryd.func50, Tryd.ntmps50
  go_wp2_with fail
  refine (implValidAges_f c d r t _ hR hA h).mono ?_
  rintro e w1 ⟨rfl, b1⟩
  have B1 := bnext pB b1 pB.size
  clear b1 p0 p1 pB
  go_wp2_with fail
  go_ret
  exact ⟨rfl, B1⟩
set_option maxRecDepth 100000 in
set_option maxHeartbeats 1000000 in
theorem checkAges_r (b n : Nat) (c d : Array Value) (r : Rf) (t : Nat → Int) (v : Value) (h : Nat → Int) (w : World) (hR : IsRoof c r) (hA : IsU8 d 64 t) (ha : r.Aged t) (hv : IsList w b v 3 n (fun i => .int .i64 (h i))) (hn : n ≤ 2000000) (hf : fineB h n = false) :
    Calls Tryd.prog 50 #[.agg c, .agg d, v] w fun e w' => e = .returned (.iface 131 (.agg #[])) ∧ Below w.heap.size w w' := by
  obtain ⟨p0, p1, pB⟩ := two_boxes w c d 28 30
  have hc := hR.size
  have hd := hA.size
  have HV := Lib.hid hv
  have hany : anyI (outs h) n = true := by simpa [fineB] using hf
  have HO := fun W H => hasOut_any b n v h W H hn
  rw [hany] at HO
  clear hany hf hv
  go_enter Tryd.func50, Tryd.ntmps50
  go_wp2_with fail
  refine (implValidAges_t c d r t _ hR hA ha).mono ?_
  rintro e w1 ⟨rfl, b1⟩
  have B1 := bnext pB b1 pB.size
  clear b1 p0 p1 pB
  go_wp2_with fail
  refine (HO _ (HV.out.below B1 (Nat.le_refl _))).mono ?_
  rintro e w2 ⟨rfl, b2⟩
  have B2 := bnext B1 b2 B1.size
  clear b2 B1 HO
  go_wp2_with fail
  go_ret
  exact ⟨rfl, B2⟩
set_option maxRecDepth 100000 in
set_option maxHeartbeats 1000000 in
theorem checkAges_ok (b n : Nat) (c d : Array Value) (r : Rf) (t : Nat → Int) (v : Value) (h : Nat → Int) (w : World) (hR : IsRoof c r) (hA : IsU8 d 64 t) (ha : r.Aged t) (hv : IsList w b v 3 n (fun i => .int .i64 (h i))) (hn : n ≤ 2000000) (hf : fineB h n = true) :
    Calls Tryd.prog 50 #[.agg c, .agg d, v] w fun e w' => e = .returned .nilIface ∧ Below w.heap.size w w' := by
  obtain ⟨p0, p1, pB⟩ := two_boxes w c d 28 30
  have hc := hR.size
  have hd := hA.size
  have HV := Lib.hid hv
  have hany : anyI (outs h) n = false := by simpa [fineB] using hf
  have HO := fun W H => hasOut_any b n v h W H hn
  rw [hany] at HO
  clear hany hf hv
  go_enter Tryd.func50, Tryd.ntmps50
  go_wp2_with fail
  refine (implValidAges_t c d r t _ hR hA ha).mono ?_
  rintro e w1 ⟨rfl, b1⟩
  have B1 := bnext pB b1 pB.size
  clear b1 p0 p1 pB
  go_wp2_with fail
  refine (HO _ (HV.out.below B1 (Nat.le_refl _))).mono ?_
  rintro e w2 ⟨rfl, b2⟩
  have B2 := bnext B1 b2 B1.size
  clear b2 B1 HO
  go_wp2_with fail
  go_ret
  exact ⟨rfl, B2⟩

set_option maxHeartbeats 1000000 in
theorem lived_any (x : Int) (w : World) : Calls Tryd.prog 55 #[.int .i64 x] w fun e w' => e = .returned (.agg #[.int .i64 x, .int .i64 1, .int .i64 100]) ∧ Below w.heap.size w w' := by
  go_enter Tryd.func55, Tryd.ntmps55
  go_wp2_with fail
  exact bodyPost_ret (v := .agg #[.int .i64 x, .int .i64 1, .int .i64 100]) (by simp [results, Tryd.results55, go_sem]) rfl ⟨rfl, (Below.refl _ _).alloc (Nat.le_refl _) _⟩

set_option maxHeartbeats 1000000 in
theorem gone_any (x : Int) (w : World) : Calls Tryd.prog 61 #[.int .i64 x] w fun e w' => e = .returned (.agg #[.int .i64 x, .int .i64 0, .int .i64 200]) ∧ Below w.heap.size w w' := by
  go_enter Tryd.func61, Tryd.ntmps61
  go_wp2_with fail
  exact bodyPost_ret (v := .agg #[.int .i64 x, .int .i64 0, .int .i64 200]) (by simp [results, Tryd.results61, go_sem]) rfl ⟨rfl, (Below.refl _ _).alloc (Nat.le_refl _) _⟩
theorem l07Life_any (k : Int) (w : World) :
    Calls Tryd.prog 44 #[.int .i64 k] w fun e w' => e = .returned (.bool (inB k 1 100)) ∧ w = w' := by
  go_enter Tryd.func44, Tryd.ntmps44
  go_wp2_with fail
  refine (l00In_any _ _ _ _).mono ?_
  rintro e w' ⟨rfl, rfl⟩
  go_wp2
  go_ret
  exact ⟨rfl, rfl⟩
theorem l07Years_any (k : Int) (w : World) :
    Calls Tryd.prog 45 #[.int .i64 k] w fun e w' => e = .returned (.bool (inB k 0 200)) ∧ w = w' := by
  go_enter Tryd.func45, Tryd.ntmps45
  go_wp2_with fail
  refine (l00In_any _ _ _ _).mono ?_
  rintro e w' ⟨rfl, rfl⟩
  go_wp2
  go_ret
  exact ⟨rfl, rfl⟩

set_option maxHeartbeats 1000000 in
theorem l07Asked_any (n p : Nat) (c d : Array Value) (r : Rf) (t : Nat → Int) (fine : Bool) (w : World) (hr : rowAt w n = some c) (hR : IsRoof c r) (hp : rowAt w p = some d) (hA : IsU8 d 64 t) :
    Calls Tryd.prog 43 #[.pointer (some ⟨n, 0, none⟩), .pointer (some ⟨p, 0, none⟩), .bool fine] w fun e w' => e = .returned (.int .i64 (r.ageC t fine)) ∧ Below w.heap.size w w' := by
  by_cases h : r.Aged t
  · cases fine with
    | true =>
      rw [Rf.ageC_ok h rfl]
      go_enter Tryd.func43, Tryd.ntmps43
      go_wp2_with fail
      refine (l07Ages_t n p c d r t _ hr hR hp hA h).mono ?_
      rintro e w1 ⟨rfl, b1⟩
      go_wp2_with fail
      go_ret
      exact ⟨rfl, b1⟩
    | false =>
      rw [Rf.ageC_r h rfl]
      go_enter Tryd.func43, Tryd.ntmps43
      go_wp2_with fail
      refine (l07Ages_t n p c d r t _ hr hR hp hA h).mono ?_
      rintro e w1 ⟨rfl, b1⟩
      go_wp2_with fail
      go_ret
      exact ⟨rfl, b1⟩
  · rw [Rf.ageC_v h]
    go_enter Tryd.func43, Tryd.ntmps43
    go_wp2_with fail
    refine (l07Ages_f n p c d r t _ hr hR hp hA h).mono ?_
    rintro e w1 ⟨rfl, b1⟩
    go_wp2_with fail
    go_ret
    exact ⟨rfl, b1⟩
def maxI (a b : Int) : Int := if b < a then a else b
end Go.Proofs.YtppohghejhcilaaDoor

/- PatternOf: the program. -/
namespace Go.Proofs.YtppohghejhcilaaDoor
open Go.RowKit

/-- The pattern that is found: the length, the number and the step; its text, its step, the code. -/
noncomputable def Rf.ptO (r : Rf) (g : Nat → Nat) : Nat → Nat → Nat → Int := fun n num => offW (trS n num) g r.h.toNat r.w.toNat
noncomputable def Rf.ptR (r : Rf) (g : Nat → Nat) (y : Int) : Option (Nat × Nat × Nat) := if r.cok g = true ∧ 1 ≤ y ∧ y ≤ 5 then ptnR (r.ptO g) y.toNat else none
def ptS : Option (Nat × Nat × Nat) → ByteArray
  | some (n, num, _) => trS n num
  | none => ⟨#[]⟩
def ptT : Option (Nat × Nat × Nat) → Int
  | some (_, _, st) => st
  | none => 0
noncomputable def Rf.ptC (r : Rf) (g : Nat → Nat) (y : Int) : Int := if r.cok g = true then (if 1 ≤ y ∧ y ≤ 5 then (match ptnR (r.ptO g) y.toNat with | some _ => 0 | none => 6) else 2) else 1
theorem ptR_bad {r : Rf} {g : Nat → Nat} {y : Int} (h : ¬ r.Cols g) : r.ptR g y = none ∧ r.ptC g y = 1 := by
  unfold Rf.ptR Rf.ptC
  rw [Rf.cok_f h]
  simp
theorem ptR_rng {r : Rf} {g : Nat → Nat} {y : Int} (h : r.Cols g) (hy : ¬ (1 ≤ y ∧ y ≤ 5)) : r.ptR g y = none ∧ r.ptC g y = 2 := by
  unfold Rf.ptR Rf.ptC
  rw [Rf.cok_t h, if_neg (by simpa using fun a b => hy ⟨a, b⟩), if_pos rfl, if_neg hy]
  exact ⟨rfl, rfl⟩
theorem ptR_hit {r : Rf} {g : Nat → Nat} {y : Int} {n num st : Nat} (h : r.Cols g) (hy : 1 ≤ y ∧ y ≤ 5) (hf : FirstP (r.ptO g) y.toNat n num st) : r.ptR g y = some (n, num, st) ∧ r.ptC g y = 0 := by
  unfold Rf.ptR Rf.ptC
  rw [Rf.cok_t h, if_pos ⟨rfl, hy⟩, if_pos rfl, if_pos hy, ptnR_some hf]
  exact ⟨rfl, rfl⟩
theorem ptR_miss {r : Rf} {g : Nat → Nat} {y : Int} (h : r.Cols g) (hy : 1 ≤ y ∧ y ≤ 5) (hf : NoneP (r.ptO g) y.toNat) : r.ptR g y = none ∧ r.ptC g y = 6 := by
  unfold Rf.ptR Rf.ptC
  rw [Rf.cok_t h, if_pos ⟨rfl, hy⟩, if_pos rfl, if_pos hy, ptnR_none hf]
  exact ⟨rfl, rfl⟩

set_option maxRecDepth 100000 in
set_option maxHeartbeats 4000000 in
theorem implPatternOf_any (c d : Array Value) (r : Rf) (g : Nat → Nat) (y : Int) (w : World) (hR : IsRoof c r) (hC : IsCol d g) (hT : ErrT w) :
    Calls Tryd.prog 36 #[.agg c, .agg d, .int .i64 y] w fun e w' => e = .returned (.tuple #[.string (ptS (r.ptR g y)), .int .i64 (ptT (r.ptR g y)), .int .i64 (r.ptC g y)]) ∧ Below w.heap.size w w' := by
  obtain ⟨p0, p1, pB⟩ := two_boxes w c d 28 62
  have hc := hR.size
  have hd := hC.size
  by_cases h : r.Cols g
  · have CV := fun W => implValidCol_t c d r g W hR hC h
    by_cases hy : 1 ≤ y ∧ y ≤ 5
    · have ho : outB y 1 5 = false := by simp [outB]; omega
      have CO := fun W => isOutside_any y 1 5 W
      rw [ho] at CO
      obtain ⟨o1, o2, o3, o4, _⟩ := id h.1
      obtain ⟨hh, hhe⟩ : ∃ hh : Nat, r.h = hh := Int.eq_ofNat_of_zero_le (by omega)
      obtain ⟨ww, hwe⟩ : ∃ ww : Nat, r.w = ww := Int.eq_ofNat_of_zero_le (by omega)
      obtain ⟨most, rfl⟩ : ∃ most : Nat, y = most := Int.eq_ofNat_of_zero_le (by omega)
      have hO : (fun n num => offW (trS n num) g hh ww) = r.ptO g := by unfold Rf.ptO; rw [hhe, hwe]; rfl
      have CP := fun W => patternOf_any c d r g most hh ww W hR hC hhe hwe (by omega) (by omega) (by omega)
      rw [hO] at CP
      have HIT := Lib.hid (fun n num st hf => ptR_hit (n := n) (num := num) (st := st) h hy hf)
      have MISS := Lib.hid (fun hf => ptR_miss h hy hf)
      generalize r.ptR g most = RR at *
      generalize r.ptC g most = RC at *
      generalize r.ptO g = O at *
      have hm5 : most ≤ 5 := by omega
      clear hO o1 o2 o3 o4 hhe hwe h hy ho
      have HT := Lib.hid hT
      clear hT
      go_enter Tryd.func36, Tryd.ntmps36
      go_wp2_with fail
      refine gen_callsW fun W0 hW => ?_
      rw [← hW] at p0 p1 pB
      clear hW
      refine (CV _).mono ?_
      rintro e w1 ⟨rfl, b1⟩
      have q0 := brow b1 p0
      have q1 := brow b1 p1
      have B1 := bnext pB b1 pB.size
      clear b1 p0 p1 pB CV
      go_wp2_with fail
      refine (CO _).mono ?_
      rintro e w2 ⟨rfl, b2⟩
      have s0 := brow b2 q0
      have s1 := brow b2 q1
      have B2 := bnext B1 b2 B1.size
      clear b2 q0 q1 B1 CO
      go_wp2_with fail
      refine (CP _).mono ?_
      rintro e w3 ⟨he, b3⟩
      have B3 := bnext B2 b3 B2.size
      clear b3 s0 s1 B2 CP
      rcases he with ⟨n, num, st, hf, rfl⟩ | ⟨hf, rfl⟩
      · obtain ⟨e1, e2⟩ := HIT.out n num st hf
        have hn1 := hf.n1
        have hn5 : n ≤ 5 := by have := hf.nm; omega
        have hnum : num < 32 := by have := pow_32 hn5; have := hf.hn; omega
        have CT := fun W => textOfT_any n num W hn1 hn5 hnum
        subst e1 e2
        clear hf HIT MISS
        unfold triedV at *
        go_wp2_with fail
        refine gen_world fun W4 hW => ?_
        have x4 : rowAt W4 w3.heap.size = some #[.iface 161 (.agg #[.int .i64 n, .int .i64 num]), .int .i64 st] := by rw [hW]; exact rowAt_alloc_at _ _ _ _ rfl
        have B4 : Below w.heap.size w W4 := by rw [hW]; exact B3.alloc B3.size _
        clear hW B3
        generalize w3.heap.size = PK at *
        refine wp_region_held_drew (S := fun w' => Below W4.heap.size W4 w') (by kernel_rfl) ((Below.refl _ _).drew) (fun hH => ?_)
        refine wpAnyH_take (i := 0) (oi := { dst := some 29, op := Op.fieldAddr 113 (Operand.tmp 9) 0, type := 0, pos := "l07_years.go:175", after := #[], guard := none }) (v := .pointer (some ⟨PK, 0, none⟩)) rfl (by kernel_rfl) (by kernel_rfl) (by kernel_rfl) (fun _ _ _ h => h) (Or.inl ⟨by rfl, ?_⟩) hH ?_
        · intro w1 hS; (try dsimp only at hS); go_simp
        try simp only [Act.put, List.setIfInBounds_toArray, List.set_cons_zero, List.set_cons_succ]
        refine wpAnyH_take (i := 1) (oi := { dst := some 30, op := Op.load 111 (Operand.tmp 29), type := 111, pos := "l07_years.go:175", after := #[{ on := 0, ground := Ground.data }], guard := none }) (v := .iface 161 (.agg #[.int .i64 n, .int .i64 num])) rfl (by kernel_rfl) (by kernel_rfl) (by kernel_rfl) (fun _ _ _ h => h) (Or.inl ⟨by rfl, ?_⟩) hH ?_
        · intro w1 hS; (try dsimp only at hS); have s0 : w1.cell? ⟨PK, 0, none⟩ = some (.iface 161 (.agg #[.int .i64 n, .int .i64 num])) := (by rw [cell_of_rowAt (brow hS x4)]; rfl); go_simp
        try simp only [Act.put, List.setIfInBounds_toArray, List.set_cons_zero, List.set_cons_succ]
        refine wpAnyH_take (i := 3) (oi := { dst := some 32, op := Op.fieldAddr 113 (Operand.tmp 9) 1, type := 0, pos := "l07_years.go:175", after := #[{ on := 5, ground := Ground.gcOnly Departure.lateStores }], guard := none }) (v := .pointer (some ⟨PK, 1, none⟩)) rfl (by kernel_rfl) (by kernel_rfl) (by kernel_rfl) (fun _ _ _ h => h) (Or.inl ⟨by rfl, ?_⟩) hH ?_
        · intro w1 hS; (try dsimp only at hS); go_simp
        try simp only [Act.put, List.setIfInBounds_toArray, List.set_cons_zero, List.set_cons_succ]
        refine wpAnyH_take (i := 4) (oi := { dst := some 33, op := Op.load 2 (Operand.tmp 32), type := 2, pos := "l07_years.go:175", after := #[{ on := 3, ground := Ground.data }, { on := 5, ground := Ground.gcOnly Departure.lateStores }], guard := none }) (v := .int .i64 st) rfl (by kernel_rfl) (by kernel_rfl) (by kernel_rfl) (fun _ _ _ h => h) (Or.inl ⟨by rfl, ?_⟩) hH ?_
        · intro w1 hS; (try dsimp only at hS); have s0 : w1.cell? ⟨PK, 1, none⟩ = some (.int .i64 st) := (by rw [cell_of_rowAt (brow hS x4)]; rfl); go_simp
        try simp only [Act.put, List.setIfInBounds_toArray, List.set_cons_zero, List.set_cons_succ]
        refine wpAnyH_ready (rs := [2]) (by kernel_rfl) (by simp) (AllReadyH.cons (o := { dst := some 31, op := Op.call { callee := Callee.value (Operand.func 76), args := #[Operand.tmp 30], argTypes := #[111] }, type := 9, pos := "l07_years.go:175", after := #[{ on := 1, ground := Ground.data }], guard := none }) rfl (fun K hK => ?_) AllReadyH.nil)
        go_simp
        refine (CT _).mono ?_
        rintro x w5 ⟨rfl, bx⟩
        go_simp
        refine hK.out _ _ (bnext hH bx hH.size) (fun hG => ?_)
        clear hK K
        refine wpAnyH_now hG ?_
        clear hG hH
        replace bx := ((Below.refl W4.heap.size W4).drew).trans bx
        have B5 := bnext B4 bx B4.size
        clear bx
        have hH := Below.refl w5.heap.size w5
        try simp only [Act.put, List.setIfInBounds_toArray, List.set_cons_zero, List.set_cons_succ]
        refine wpAnyH_take (i := 5) (oi := { dst := some 6, op := Op.assign (Operand.tmp 31), type := 9, pos := "l07_years.go:175", after := #[{ on := 2, ground := Ground.data }, { on := 2, ground := Ground.chain }, { on := 0, ground := Ground.phase }, { on := 1, ground := Ground.phase }, { on := 2, ground := Ground.phase }, { on := 3, ground := Ground.textOnly Departure.lateStores }, { on := 4, ground := Ground.textOnly Departure.lateStores }], guard := none }) (v := .string (trS n num)) rfl (by kernel_rfl) (by kernel_rfl) (by kernel_rfl) (fun _ _ _ h => h) (Or.inl ⟨by rfl, ?_⟩) hH ?_
        · intro w1 hS; (try dsimp only at hS); go_simp
        try simp only [Act.put, List.setIfInBounds_toArray, List.set_cons_zero, List.set_cons_succ]
        refine wpAnyH_take (i := 6) (oi := { dst := some 7, op := Op.assign (Operand.tmp 33), type := 2, pos := "l07_years.go:175", after := #[{ on := 4, ground := Ground.data }, { on := 5, ground := Ground.chain }, { on := 0, ground := Ground.phase }, { on := 1, ground := Ground.phase }, { on := 2, ground := Ground.phase }, { on := 3, ground := Ground.phase }, { on := 4, ground := Ground.phase }, { on := 5, ground := Ground.phase }], guard := none }) (v := .int .i64 st) rfl (by kernel_rfl) (by kernel_rfl) (by kernel_rfl) (fun _ _ _ h => h) (Or.inl ⟨by rfl, ?_⟩) hH ?_
        · intro w1 hS; (try dsimp only at hS); go_simp
        try simp only [Act.put, List.setIfInBounds_toArray, List.set_cons_zero, List.set_cons_succ]
        refine wpAnyH_take (i := 7) (oi := { dst := some 8, op := Op.assign (Operand.const (Value.int IntKind.i64 0)), type := 2, pos := "l07_years.go:175", after := #[{ on := 6, ground := Ground.chain }, { on := 0, ground := Ground.phase }, { on := 1, ground := Ground.phase }, { on := 2, ground := Ground.phase }, { on := 3, ground := Ground.phase }, { on := 4, ground := Ground.phase }, { on := 5, ground := Ground.phase }, { on := 6, ground := Ground.phase }], guard := none }) (v := .int .i64 0) (fuel := 0) rfl (by kernel_rfl) (by kernel_rfl) (by kernel_rfl) (fun _ _ _ h => h) (Or.inl ⟨by rfl, ?_⟩) hH ?_
        · intro w1 hS; (try dsimp only at hS); go_simp
        try simp only [Act.put, List.setIfInBounds_toArray, List.set_cons_zero, List.set_cons_succ]
        refine wpAnyH_done (by kernel_rfl) ?_ _
        go_wp2_with fail
        go_ret3
        exact ⟨rfl, B5⟩
      · obtain ⟨e1, e2⟩ := MISS.out hf
        subst e1 e2
        clear hf HIT MISS
        go_wp2_with fail
        refine gen_callsW fun W4 hW => ?_
        have B4 : Below w.heap.size w W4 := by rw [hW]; exact B3.alloc B3.size _
        clear hW B3
        refine (yearCode_T _ (HT.out.below B4)).mono ?_
        rintro e w5 ⟨rfl, b5⟩
        have B5 := bnext B4 b5 B4.size
        clear b5 B4
        go_wp2_with fail
        go_ret3
        exact ⟨rfl, B5⟩
    · have ho : outB y 1 5 = true := by simp [outB]; omega
      have CO := fun W => isOutside_any y 1 5 W
      rw [ho] at CO
      obtain ⟨e1, e2⟩ := ptR_rng h hy
      rw [e1, e2]
      clear e1 e2 h hy ho
      go_enter Tryd.func36, Tryd.ntmps36
      go_wp2_with fail
      refine gen_callsW fun W0 hW => ?_
      rw [← hW] at p0 p1 pB
      clear hW
      refine (CV _).mono ?_
      rintro e w1 ⟨rfl, b1⟩
      have B1 := bnext pB b1 pB.size
      clear b1 p0 p1 pB CV
      go_wp2_with fail
      refine (CO _).mono ?_
      rintro e w2 ⟨rfl, b2⟩
      have B2 := bnext B1 b2 B1.size
      clear b2 B1 CO
      go_wp2_with fail
      go_ret3
      exact ⟨rfl, B2⟩
  · have CV := fun W => implValidCol_f c d r g W hR hC h
    obtain ⟨e1, e2⟩ := ptR_bad (y := y) h
    rw [e1, e2]
    clear e1 e2 h
    go_enter Tryd.func36, Tryd.ntmps36
    go_wp2_with fail
    refine gen_callsW fun W0 hW => ?_
    rw [← hW] at p0 p1 pB
    clear hW
    refine (CV _).mono ?_
    rintro e w1 ⟨rfl, b1⟩
    have B1 := bnext pB b1 pB.size
    clear b1 p0 p1 pB CV
    go_wp2_with fail
    go_ret3
    exact ⟨rfl, B1⟩
end Go.Proofs.YtppohghejhcilaaDoor

/- PatternOf: the model. -/
namespace Go.Proofs.YtppohghejhcilaaDoor
open Go.RowKit

/-- The text of the first letters of a word that is told by its number. -/
def trL (n q j : Nat) : List UInt8 := (List.range j).map (trB n q)
theorem trL_len (n q j : Nat) : (trL n q j).length = j := by simp [trL]
theorem trL_succ (n q j : Nat) : trL n q j ++ [trB n q j] = trL n q (j + 1) := by simp [trL, List.range_succ]
theorem trL_all (n q : Nat) : (⟨(trL n q n).toArray⟩ : ByteArray) = trS n q := rfl
theorem colsEq {d X : Array Value} {g f : Nat → Nat} (hC : IsCol d g) (hX : IsCol X f) (W : World) (h : popsTo (offs f g) 8 = 0) : (Op.equalIn 10000 62 (.agg X) (.agg d)).run Tryd.prog W = .ok true W :=
  run_equalIn_ints_t Tryd.underlying62 Tryd.underlying5 (by kernel_rfl) X d (fun i => (f i : Int)) (fun i => (g i : Int)) (fun i hi => hX.cell hi) (fun i hi => hC.cell hi) (fun i hi => by have := (offs_zero hX.hi hC.hi).1 h i hi; simp [this]) 9998 W
theorem colsNe {d X : Array Value} {g f : Nat → Nat} (hC : IsCol d g) (hX : IsCol X f) (W : World) (h : popsTo (offs f g) 8 ≠ 0) : (Op.equalIn 10000 62 (.agg X) (.agg d)).run Tryd.prog W = .ok false W :=
  run_equalIn_ints_f Tryd.underlying62 Tryd.underlying5 (by kernel_rfl) X d (fun i => (f i : Int)) (fun i => (g i : Int)) (fun i hi => hX.cell hi) (fun i hi => hC.cell hi) (fun e => h ((offs_zero hX.hi hC.hi).2 fun i hi => by have := e i hi; omega)) 9998 W

set_option maxRecDepth 100000 in
set_option maxHeartbeats 4000000 in
theorem specPatternOf_any (c d : Array Value) (r : Rf) (g : Nat → Nat) (y : Int) (w : World) (hR : IsRoof c r) (hC : IsCol d g) :
    Calls Tryd.prog 35 #[.agg c, .agg d, .int .i64 y] w fun e w' => e = .returned (.tuple #[.string (ptS (r.ptR g y)), .int .i64 (ptT (r.ptR g y)), .int .i64 (r.ptC g y)]) ∧ Below w.heap.size w w' := by
  obtain ⟨p0, p1, pB⟩ := two_boxes w c d 28 62
  have hc := hR.size
  have hd := hC.size
  by_cases h : r.Cols g
  · have CV := fun W h0 h1 => l07Colours_t w.heap.size (w.heap.size + 1) c d r g W h0 hR h1 hC h
    by_cases hy : 1 ≤ y ∧ y ≤ 5
    · have ho : inB y 1 5 = true := by simp [inB]; omega
      have CO := fun W => l00In_any y 1 5 W
      rw [ho] at CO
      obtain ⟨o1, o2, o3, o4, _⟩ := id h.1
      obtain ⟨hh, hhe⟩ : ∃ hh : Nat, r.h = hh := Int.eq_ofNat_of_zero_le (by omega)
      obtain ⟨ww, hwe⟩ : ∃ ww : Nat, r.w = ww := Int.eq_ofNat_of_zero_le (by omega)
      obtain ⟨most, rfl⟩ : ∃ most : Nat, y = most := Int.eq_ofNat_of_zero_le (by omega)
      have hO : ∀ n num st, r.ptO g n num st = popsTo (offs (colL (patB (trS n num) st) (plUpto hh ww (hh * ww))) g) 8 := fun n num st => by unfold Rf.ptO; rw [hhe, hwe]; rfl
      have CM := fun s st W h0 hs hst X hF => l07Make_any w.heap.size c r s st hh ww hhe hwe (by omega) (by omega) W h0 hR hs hst X hF
      have HIT := Lib.hid (fun n num st hf => ptR_hit (n := n) (num := num) (st := st) h hy hf)
      have MISS := Lib.hid (fun hf => ptR_miss h hy hf)
      generalize r.ptR g most = RR at *
      generalize r.ptC g most = RC at *
      generalize r.ptO g = O at *
      have HO := Lib.hid hO
      have hm5 : most ≤ 5 := by omega
      have hm1 : 1 ≤ most := by omega
      have w8 : ww ≤ 8 := by omega
      clear hO o1 o2 o3 o4 hhe hwe h hy ho
      go_enter Tryd.func35, Tryd.ntmps35
      go_wp2_with fail
      refine gen_callsW fun W0 hW => ?_
      rw [← hW] at p0 p1 pB
      clear hW
      refine (CV _ p0 p1).mono ?_
      rintro e w1 ⟨rfl, b1⟩
      have q0 := brow b1 p0
      have q1 := brow b1 p1
      have B1 := bnext pB b1 pB.size
      clear b1 p0 p1 pB CV
      go_wp2_with fail
      refine (CO _).mono ?_
      rintro e w2 ⟨rfl, hw2⟩
      subst hw2
      have s0 := q0
      have s1 := q1
      have B2 := B1
      clear q0 q1 B1 CO
      go_wp2_with fail
      go_loopw [9] (fun nv W => ∃ n : Nat, 1 ≤ n ∧ n ≤ most + 1 ∧ nv = .int .i64 n ∧ Hid (AheadP O n 0) ∧ rowAt W w.heap.size = some c ∧ rowAt W (w.heap.size + 1) = some d ∧ Hid (Below w.heap.size w W)) (fun nv _ => most + 1 - (intOf nv).toNat)
      case atStart => exact ⟨1, by omega, by omega, rfl, Lib.hid (AheadP.start O), s0, s1, Lib.hid B2⟩
      case round =>
        clear s0 s1 B2
        obtain ⟨n, hn1, hnm, rfl, hA, r0, r1, hB⟩ := hrel
        by_cases hlt : n ≤ most
        · have k1 : (n : Int) ≤ most := by omega
          have k0 : 0 ≤ (n : Int) := by omega
          have p32 := pow_32 (n := n) (by omega)
          obtain ⟨NN, hNN⟩ : ∃ NN : Nat, NN = 2 ^ n := ⟨_, rfl⟩
          have hw2 : wrap64 ((2 : Int) ^ n) = (NN : Int) := by
            have e : ((2 : Int) ^ n) = ((2 ^ n : Nat) : Int) := by push_cast; rfl
            rw [e, ← hNN]; rw [← hNN] at p32; unfold wrap64; omega
          have wu : IntKind.u64.wrap (n : Int) = n := by rw [IntKind.wrap_u64]; omega
          rw [← hNN] at p32
          have HNN := Lib.hid hNN
          have HW2 := Lib.hid hw2
          clear hNN hw2
          go_wp2_with fail
          go_loopw [10] (fun qv W => ∃ q : Nat, q ≤ NN ∧ qv = .int .i64 q ∧ Hid (AheadP O n q) ∧ rowAt W w.heap.size = some c ∧ rowAt W (w.heap.size + 1) = some d ∧ Hid (Below w.heap.size w W)) (fun qv _ => NN - (intOf qv).toNat)
          case atStart => exact ⟨0, by omega, rfl, hA, r0, r1, hB⟩
          case round =>
            clear hA r0 r1 hB
            obtain ⟨q, hq, rfl, hA, r0, r1, hB⟩ := hrel
            have hw2 := HW2.out
            by_cases hlq : q < NN
            · have q1 : (q : Int) < NN := by omega
              have wn1 : IntKind.i64.wrap ((n : Int) - 1) = (n : Int) - 1 := by rw [IntKind.wrap_i64]; omega
              go_wp2_with fail
              clear hw2
              go_loopw [11, 12] (fun wv kv W => ∃ j : Nat, j ≤ n ∧ kv = .int .i64 ((n : Int) - 1 - j) ∧ wv = .string ⟨(trL n q j).toArray⟩ ∧ rowAt W w.heap.size = some c ∧ rowAt W (w.heap.size + 1) = some d ∧ Hid (Below w.heap.size w W)) (fun _ kv _ => ((intOf kv) + 1).toNat)
              case atStart => exact ⟨0, by omega, by simp, rfl, r0, r1, hB⟩
              case round =>
                clear r0 r1 hB
                obtain ⟨j, hj, rfl, rfl, r0, r1, hB⟩ := hrel
                by_cases hlj : j < n
                · obtain ⟨sh, hsh⟩ : ∃ sh : Nat, sh = n - 1 - j := ⟨_, rfl⟩
                  have hse : (n : Int) - 1 - j = (sh : Int) := by omega
                  rw [hse]
                  have s0 : (0 : Int) ≤ sh := by omega
                  have wsh : IntKind.u64.wrap (sh : Int) = sh := by rw [IntKind.wrap_u64]; omega
                  have ws1 : IntKind.i64.wrap ((sh : Int) - 1) = (sh : Int) - 1 := by rw [IntKind.wrap_i64]; omega
                  have s64 : min sh 64 = sh := by omega
                  have eq2 : ((q : Int) / 2 ^ min sh 64).tmod 2 = ((q / 2 ^ sh % 2 : Nat) : Int) := by
                    rw [s64, Int.tmod_eq_emod_of_nonneg (Int.ediv_nonneg (by omega) (Int.pow_nonneg (by omega)))]
                    push_cast; rfl
                  have bt := Nat.testBit_eq_decide_div_mod_eq (x := q) (i := sh)
                  have hlen := trL_len n q j
                  have hsu := trL_succ n q j
                  have htr : trB n q j = if q.testBit sh then 114 else 98 := by unfold trB; rw [hsh]
                  have sne : (sh : Int) - 1 = (n : Int) - 1 - (j + 1 : Nat) := by omega
                  have HSNE := Lib.hid sne
                  have hT0 : ¬ 9223372036854775807 < (trL n q j).length + 1 := by rw [hlen]; omega
                  clear sne s64
                  cases hb : q.testBit sh with
                  | true =>
                    rw [hb] at bt htr
                    simp only [if_true] at htr
                    have e1 : q / 2 ^ sh % 2 = 1 := by have := of_decide_eq_true bt.symm; omega
                    rw [e1] at eq2
                    have hcat : (⟨(trL n q j).toArray⟩ : ByteArray) ++ (⟨#[98, 114]⟩ : ByteArray).extract 1 2 = ⟨(trL n q (j + 1)).toArray⟩ := by
                      rw [show (⟨#[98, 114]⟩ : ByteArray).extract 1 2 = ⟨[114].toArray⟩ by rfl, txt_add, ← hsu, htr]
                    have HC2 := Lib.hid hcat
                    clear hsu htr bt e1 hb hse hsh hlen hcat
                    go_wp2_with fail
                    refine ⟨⟨j + 1, by omega, by rw [HSNE.out], by rw [← HC2.out], r0, r1, hB⟩, by simp [intOf]⟩
                  | false =>
                    rw [hb] at bt htr
                    simp only [Bool.false_eq_true, if_false] at htr
                    have e1 : q / 2 ^ sh % 2 = 0 := by
                      have := of_decide_eq_false bt.symm; omega
                    rw [e1] at eq2
                    have hcat : (⟨(trL n q j).toArray⟩ : ByteArray) ++ (⟨#[98, 114]⟩ : ByteArray).extract 0 1 = ⟨(trL n q (j + 1)).toArray⟩ := by
                      rw [show (⟨#[98, 114]⟩ : ByteArray).extract 0 1 = ⟨[98].toArray⟩ by rfl, txt_add, ← hsu, htr]
                    have HC2 := Lib.hid hcat
                    clear hsu htr bt e1 hb hse hsh hlen hcat
                    go_wp2_with fail
                    refine ⟨⟨j + 1, by omega, by rw [HSNE.out], by rw [← HC2.out], r0, r1, hB⟩, by simp [intOf]⟩
                · obtain rfl : j = n := by omega
                  have hneg : ¬ (0 : Int) ≤ (j : Int) - 1 - j := by omega
                  rw [trL_all]
                  have hws : 1 ≤ (trS j q).size ∧ (trS j q).size ≤ 12 := by rw [trS_size]; omega
                  go_wp2_with fail
                  go_loopw [13] (fun sv W => ∃ st : Nat, st ≤ j ∧ sv = .int .i64 st ∧ Hid (∀ st', st' < st → O j q st' ≠ 0) ∧ rowAt W w.heap.size = some c ∧ rowAt W (w.heap.size + 1) = some d ∧ Hid (Below w.heap.size w W)) (fun sv _ => j - (intOf sv).toNat)
                  case atStart => exact ⟨0, by omega, rfl, Lib.hid (by omega), r0, r1, hB⟩
                  case round =>
                    clear r0 r1 hB
                    obtain ⟨st, hst, rfl, hN, r0, r1, hB⟩ := hrel
                    by_cases hls : st < j
                    · have st1 : (st : Int) < j := by omega
                      obtain ⟨X, hX⟩ : ∃ X, mkC (colL (patB (trS j q) st) (plUpto hh ww (hh * ww))) = X := ⟨_, rfl⟩
                      have hXI : IsCol X (colL (patB (trS j q) st) (plUpto hh ww (hh * ww))) := by rw [← hX]; exact isCol_mkC fun i _ => colL_lt w8 _ i
                      have CK := fun W h0 => CM (trS j q) st W h0 hws (by omega) X hX
                      have hXs := hXI.size
                      have hXo := hXI.ones
                      have hoe := HO.out j q st
                      clear hX
                      by_cases hz : O j q st = 0
                      · have heq := fun W => colsEq hC hXI W (by rw [← hoe]; exact hz)
                        have HEQ := Lib.hid heq
                        obtain ⟨e1, e2⟩ := HIT.out j q st (hA.out.first (most := (most : Int).toNat) hn1 (by omega) (by rw [← HNN.out]; exact hlq) hls hz hN.out)
                        subst e1 e2
                        clear heq hoe hz hXI HIT MISS
                        go_wp2_with fail
                        refine (CK _ r0).mono ?_
                        rintro e w3 ⟨rfl, b3⟩
                        have t1 := brow b3 r1
                        have hB3 := Lib.hid (bnext hB.out b3 hB.out.size)
                        have l1 := rowAt_lt t1
                        have t2 : rowAt (w3.alloc (.cells X 62)) (w.heap.size + 1) = some d := (rowAt_alloc_past _ _ _ l1).trans t1
                        have heq := HEQ.out
                        clear b3 CK r0 r1 hB
                        go_wp2_with fail
                        go_ret3
                        exact ⟨rfl, hB3.out.alloc hB3.out.size _⟩
                      · have heq := fun W => colsNe hC hXI W (by rw [← hoe]; exact hz)
                        have HEQ := Lib.hid heq
                        have hN2 := Lib.hid (show ∀ st', st' < st + 1 → O j q st' ≠ 0 from fun st' h => by
                          by_cases e : st' = st
                          · subst e; exact hz
                          · exact hN.out st' (by omega))
                        clear heq hoe hz hXI
                        go_wp2_with fail
                        refine (CK _ r0).mono ?_
                        rintro e w3 ⟨rfl, b3⟩
                        have t0 := brow b3 r0
                        have t1 := brow b3 r1
                        have hB3 := Lib.hid (bnext hB.out b3 hB.out.size)
                        have l1 := rowAt_lt t1
                        have l0 := rowAt_lt t0
                        have t2 : rowAt (w3.alloc (.cells X 62)) (w.heap.size + 1) = some d := (rowAt_alloc_past _ _ _ l1).trans t1
                        have heq := HEQ.out
                        clear b3 CK r0 r1 hB
                        go_wp2_with fail
                        refine ⟨⟨st + 1, by omega, by go_num, hN2, (rowAt_alloc_past _ _ _ l0).trans t0, t2, Lib.hid (hB3.out.alloc hB3.out.size _)⟩, by simp [intOf]; omega⟩
                    · obtain rfl : st = j := by omega
                      have hAn := Lib.hid (hA.out.next hN.out)
                      go_wp2_with fail
                      refine ⟨⟨q + 1, by omega, by go_num, hAn, r0, r1, hB⟩, by simp [intOf]; omega⟩
            · obtain rfl : q = NN := by omega
              have q1 : ¬ (q : Int) < q := by omega
              have hAo := Lib.hid (show AheadP O (n + 1) 0 by have := hA.out; rw [HNN.out] at this; exact this.over)
              go_wp2_with fail
              refine ⟨⟨n + 1, by omega, by omega, by go_num, hAo, r0, r1, hB⟩, by simp [intOf]; omega⟩
        · obtain rfl : n = most + 1 := by omega
          have k1 : ¬ ((most + 1 : Nat) : Int) ≤ most := by omega
          obtain ⟨e1, e2⟩ := MISS.out (by rw [Int.toNat_natCast]; exact hA.out.none)
          subst e1 e2
          clear HIT MISS
          go_wp2_with fail
          go_ret3
          exact ⟨rfl, hB.out⟩
    · have ho : inB y 1 5 = false := by simp [inB]; omega
      have CO := fun W => l00In_any y 1 5 W
      rw [ho] at CO
      obtain ⟨e1, e2⟩ := ptR_rng h hy
      rw [e1, e2]
      clear e1 e2 h hy ho
      go_enter Tryd.func35, Tryd.ntmps35
      go_wp2_with fail
      refine gen_callsW fun W0 hW => ?_
      rw [← hW] at p0 p1 pB
      clear hW
      refine (CV _ p0 p1).mono ?_
      rintro e w1 ⟨rfl, b1⟩
      have B1 := bnext pB b1 pB.size
      clear b1 p0 p1 pB CV
      go_wp2_with fail
      refine (CO _).mono ?_
      rintro e w2 ⟨rfl, hw2⟩
      subst hw2
      clear CO
      go_wp2_with fail
      go_ret3
      exact ⟨rfl, B1⟩
  · have CV := fun W h0 h1 => l07Colours_f w.heap.size (w.heap.size + 1) c d r g W h0 hR h1 hC h
    obtain ⟨e1, e2⟩ := ptR_bad (y := y) h
    rw [e1, e2]
    clear e1 e2 h
    go_enter Tryd.func35, Tryd.ntmps35
    go_wp2_with fail
    refine gen_callsW fun W0 hW => ?_
    rw [← hW] at p0 p1 pB
    clear hW
    refine (CV _ p0 p1).mono ?_
    rintro e w1 ⟨rfl, b1⟩
    have B1 := bnext pB b1 pB.size
    clear b1 p0 p1 pB CV
    go_wp2_with fail
    go_ret3
    exact ⟨rfl, B1⟩
end Go.Proofs.YtppohghejhcilaaDoor

/- laws.FnExactPatternOf returns true for every roof, colours and number, and leaves them as they were. The variable errors.errorType is listed, and tied by the card. -/
namespace Go.Proofs.YtppohghejhcilaaDoor
open Go.RowKit

set_option maxRecDepth 100000 in
set_option maxHeartbeats 4000000 in
theorem law_walk_FnExactPatternOf {w : World} {c : Array Value} {r : Rf} (hR : IsRoof c r) {d : Array Value} {g : Nat → Nat} (hC : IsCol d g) {y : Int} (_hy : -9223372036854775808 ≤ y ∧ y ≤ 9223372036854775807) (hE : ErrT w) :
    Calls Tryd.prog 5 #[.agg c, .agg d, .int .i64 y] w fun e w' => e = .returned (.bool true) ∧ Below w.heap.size w w' := by
  obtain ⟨p0, p1, pB⟩ := two_boxes w c d 56 25
  have hc := hR.size
  have hd := hC.size
  have HE := Lib.hid hE
  clear hE
  have CS := fun w => specPatternOf_any c d r g y w hR hC
  have CI := fun w hT => implPatternOf_any c d r g y w hR hC hT
  generalize ptS (r.ptR g y) = v0 at *
  have hne1 : ((ptT (r.ptR g y)) != (ptT (r.ptR g y))) = false := by simp
  generalize (ptT (r.ptR g y)) = v1 at *
  have hne2 : ((r.ptC g y) != (r.ptC g y)) = false := by simp
  generalize (r.ptC g y) = v2 at *
  go_enter Tryd.func5, Tryd.ntmps5
  go_wp2_with fail
  refine gen_world fun W hW => ?_
  rw [← hW] at p0 p1 pB
  clear hW
  refine wp_region_held_drew (S := fun w' => Below W.heap.size W w') (by kernel_rfl) ((Below.refl _ _).drew) (fun hH => ?_)
  refine wpAnyH_take (i := 0) (oi := { dst := some 14, op := Op.load 56 (Operand.tmp 3), type := 56, pos := "exact.go:4023", after := #[], guard := none }) (v := .agg c) rfl (by kernel_rfl) (by kernel_rfl) (by kernel_rfl) (fun _ _ _ h => h) (Or.inl ⟨by rfl, ?_⟩) hH ?_
  · intro w1 hS; (try dsimp only at hS); have s0 := brow hS p0; go_simp
  try simp only [Act.put, List.setIfInBounds_toArray, List.set_cons_zero, List.set_cons_succ]
  refine wpAnyH_take (i := 2) (oi := { dst := some 16, op := Op.load 25 (Operand.tmp 4), type := 25, pos := "exact.go:4023", after := #[], guard := none }) (v := .agg d) rfl (by kernel_rfl) (by kernel_rfl) (by kernel_rfl) (fun _ _ _ h => h) (Or.inl ⟨by rfl, ?_⟩) hH ?_
  · intro w1 hS; (try dsimp only at hS); have s1 := brow hS p1; go_simp
  try simp only [Act.put, List.setIfInBounds_toArray, List.set_cons_zero, List.set_cons_succ]
  refine wpAnyH_take (i := 4) (oi := { dst := some 18, op := Op.move (Operand.tmp 2), type := 2, pos := "exact.go:4023", after := #[], guard := none }) (v := .int .i64 y) rfl (by kernel_rfl) (by kernel_rfl) (by kernel_rfl) (fun _ _ _ h => h) (Or.inl ⟨by rfl, ?_⟩) hH ?_
  · intro w1 hS; (try dsimp only at hS); go_simp
  try simp only [Act.put, List.setIfInBounds_toArray, List.set_cons_zero, List.set_cons_succ]
  refine wpAnyH_ready (rs := [1]) (by kernel_rfl) (by simp) (AllReadyH.cons (o := { dst := some 15, op := Op.call { callee := Callee.value (Operand.func 30), args := #[Operand.tmp 14], argTypes := #[56] }, type := 28, pos := "exact.go:4023", after := #[{ on := 0, ground := Ground.data }], guard := none }) rfl (fun K hK => ?_) AllReadyH.nil)
  go_simp
  refine (toRoof_any c r _ hR).mono ?_
  rintro x wa1 ⟨rfl, bx⟩
  go_simp
  refine hK.out _ _ (bnext hH bx hH.size) (fun hG => ?_)
  clear hK K
  refine wpAnyH_now hG ?_
  clear hG hH
  replace bx := ((Below.refl W.heap.size W).drew).trans bx
  replace p0 := brow bx p0
  replace p1 := brow bx p1
  replace pB := bnext pB bx pB.size
  clear bx
  have hH := Below.refl wa1.heap.size wa1
  try simp only [Act.put, List.setIfInBounds_toArray, List.set_cons_zero, List.set_cons_succ]
  refine wpAnyH_ready (rs := [3]) (by kernel_rfl) (by simp) (AllReadyH.cons (o := { dst := some 17, op := Op.call { callee := Callee.value (Operand.func 31), args := #[Operand.tmp 16], argTypes := #[25] }, type := 62, pos := "exact.go:4023", after := #[{ on := 2, ground := Ground.data }, { on := 1, ground := Ground.chain }], guard := none }) rfl (fun K hK => ?_) AllReadyH.nil)
  go_simp
  refine (toCol_any d g _ hC).mono ?_
  rintro x wb1 ⟨rfl, bx⟩
  go_simp
  refine hK.out _ _ (bnext hH bx hH.size) (fun hG => ?_)
  clear hK K
  refine wpAnyH_now hG ?_
  clear hG hH
  replace p0 := brow bx p0
  replace p1 := brow bx p1
  replace pB := bnext pB bx pB.size
  clear bx
  have hH := Below.refl wb1.heap.size wb1
  try simp only [Act.put, List.setIfInBounds_toArray, List.set_cons_zero, List.set_cons_succ]
  refine wpAnyH_ready (rs := [5]) (by kernel_rfl) (by simp) (AllReadyH.cons (o := { dst := some 19, op := Op.call { callee := Callee.value (Operand.func 35), args := #[Operand.tmp 15, Operand.tmp 17, Operand.tmp 18], argTypes := #[28, 62, 2] }, type := 67, pos := "exact.go:4023", after := #[{ on := 1, ground := Ground.data }, { on := 3, ground := Ground.data }, { on := 4, ground := Ground.data }, { on := 3, ground := Ground.chain }], guard := none }) rfl (fun K hK => ?_) AllReadyH.nil)
  go_simp
  refine (CS _).mono ?_
  rintro x wc1 ⟨rfl, bx⟩
  go_simp
  refine hK.out _ _ (bnext hH bx hH.size) (fun hG => ?_)
  clear hK K
  refine wpAnyH_now hG ?_
  clear hG hH
  replace p0 := brow bx p0
  replace p1 := brow bx p1
  replace pB := bnext pB bx pB.size
  clear bx
  have hH := Below.refl wc1.heap.size wc1
  try simp only [Act.put, List.setIfInBounds_toArray, List.set_cons_zero, List.set_cons_succ]
  refine wpAnyH_take (i := 6) (oi := { dst := some 13, op := Op.move (Operand.tmp 19), type := 67, pos := "exact.go:4023", after := #[{ on := 5, ground := Ground.data }], guard := none }) (v := .tuple #[.string v0, .int .i64 v1, .int .i64 v2]) rfl (by kernel_rfl) (by kernel_rfl) (by kernel_rfl) (fun _ _ _ h => h) (Or.inl ⟨by rfl, ?_⟩) hH ?_
  · intro w1 hS; (try dsimp only at hS); go_simp
  try simp only [Act.put, List.setIfInBounds_toArray, List.set_cons_zero, List.set_cons_succ]
  refine wpAnyH_take (i := 7) (oi := { dst := some 20, op := Op.extract (Operand.tmp 13) 0, type := 9, pos := "exact.go:4023", after := #[{ on := 6, ground := Ground.data }], guard := none }) (v := .string v0) rfl (by kernel_rfl) (by kernel_rfl) (by kernel_rfl) (fun _ _ _ h => h) (Or.inl ⟨by rfl, ?_⟩) hH ?_
  · intro w1 hS; (try dsimp only at hS); go_simp
  try simp only [Act.put, List.setIfInBounds_toArray, List.set_cons_zero, List.set_cons_succ]
  refine wpAnyH_take (i := 8) (oi := { dst := some 21, op := Op.extract (Operand.tmp 13) 1, type := 2, pos := "exact.go:4023", after := #[{ on := 6, ground := Ground.data }, { on := 10, ground := Ground.gcOnly Departure.lateStores }], guard := none }) (v := .int .i64 v1) rfl (by kernel_rfl) (by kernel_rfl) (by kernel_rfl) (fun _ _ _ h => h) (Or.inl ⟨by rfl, ?_⟩) hH ?_
  · intro w1 hS; (try dsimp only at hS); go_simp
  try simp only [Act.put, List.setIfInBounds_toArray, List.set_cons_zero, List.set_cons_succ]
  refine wpAnyH_take (i := 9) (oi := { dst := some 22, op := Op.extract (Operand.tmp 13) 2, type := 2, pos := "exact.go:4023", after := #[{ on := 6, ground := Ground.data }, { on := 11, ground := Ground.gcOnly Departure.lateStores }], guard := none }) (v := .int .i64 v2) rfl (by kernel_rfl) (by kernel_rfl) (by kernel_rfl) (fun _ _ _ h => h) (Or.inl ⟨by rfl, ?_⟩) hH ?_
  · intro w1 hS; (try dsimp only at hS); go_simp
  try simp only [Act.put, List.setIfInBounds_toArray, List.set_cons_zero, List.set_cons_succ]
  refine wpAnyH_take (i := 10) (oi := { dst := some 7, op := Op.assign (Operand.tmp 20), type := 9, pos := "exact.go:4023", after := #[{ on := 7, ground := Ground.data }, { on := 5, ground := Ground.chain }, { on := 0, ground := Ground.phase }, { on := 1, ground := Ground.phase }, { on := 2, ground := Ground.phase }, { on := 3, ground := Ground.phase }, { on := 4, ground := Ground.phase }, { on := 5, ground := Ground.phase }, { on := 6, ground := Ground.phase }, { on := 7, ground := Ground.phase }, { on := 8, ground := Ground.textOnly Departure.lateStores }, { on := 9, ground := Ground.textOnly Departure.lateStores }], guard := none }) (v := .string v0) rfl (by kernel_rfl) (by kernel_rfl) (by kernel_rfl) (fun _ _ _ h => h) (Or.inl ⟨by rfl, ?_⟩) hH ?_
  · intro w1 hS; (try dsimp only at hS); go_simp
  try simp only [Act.put, List.setIfInBounds_toArray, List.set_cons_zero, List.set_cons_succ]
  refine wpAnyH_take (i := 11) (oi := { dst := some 8, op := Op.assign (Operand.tmp 21), type := 2, pos := "exact.go:4023", after := #[{ on := 8, ground := Ground.data }, { on := 10, ground := Ground.chain }, { on := 0, ground := Ground.phase }, { on := 1, ground := Ground.phase }, { on := 2, ground := Ground.phase }, { on := 3, ground := Ground.phase }, { on := 4, ground := Ground.phase }, { on := 5, ground := Ground.phase }, { on := 6, ground := Ground.phase }, { on := 7, ground := Ground.phase }, { on := 8, ground := Ground.phase }, { on := 9, ground := Ground.textOnly Departure.lateStores }, { on := 10, ground := Ground.phase }], guard := none }) (v := .int .i64 v1) rfl (by kernel_rfl) (by kernel_rfl) (by kernel_rfl) (fun _ _ _ h => h) (Or.inl ⟨by rfl, ?_⟩) hH ?_
  · intro w1 hS; (try dsimp only at hS); go_simp
  try simp only [Act.put, List.setIfInBounds_toArray, List.set_cons_zero, List.set_cons_succ]
  refine wpAnyH_take (i := 12) (oi := { dst := some 9, op := Op.assign (Operand.tmp 22), type := 2, pos := "exact.go:4023", after := #[{ on := 9, ground := Ground.data }, { on := 11, ground := Ground.chain }, { on := 0, ground := Ground.phase }, { on := 1, ground := Ground.phase }, { on := 2, ground := Ground.phase }, { on := 3, ground := Ground.phase }, { on := 4, ground := Ground.phase }, { on := 5, ground := Ground.phase }, { on := 6, ground := Ground.phase }, { on := 7, ground := Ground.phase }, { on := 8, ground := Ground.phase }, { on := 9, ground := Ground.phase }, { on := 10, ground := Ground.phase }, { on := 11, ground := Ground.phase }], guard := none }) (v := .int .i64 v2) (fuel := 0) rfl (by kernel_rfl) (by kernel_rfl) (by kernel_rfl) (fun _ _ _ h => h) (Or.inl ⟨by rfl, ?_⟩) hH ?_
  · intro w1 hS; (try dsimp only at hS); go_simp
  try simp only [Act.put, List.setIfInBounds_toArray, List.set_cons_zero, List.set_cons_succ]
  refine wpAnyH_done (by kernel_rfl) ?_ _
  go_wp2_with fail
  refine wp_region_held_drew (S := fun w' => Below wc1.heap.size wc1 w') (by kernel_rfl) ((Below.refl _ _).drew) (fun hH => ?_)
  refine wpAnyH_take (i := 0) (oi := { dst := some 24, op := Op.load 56 (Operand.tmp 3), type := 56, pos := "exact.go:4024", after := #[], guard := none }) (v := .agg c) rfl (by kernel_rfl) (by kernel_rfl) (by kernel_rfl) (fun _ _ _ h => h) (Or.inl ⟨by rfl, ?_⟩) hH ?_
  · intro w1 hS; (try dsimp only at hS); have s0 := brow hS p0; go_simp
  try simp only [Act.put, List.setIfInBounds_toArray, List.set_cons_zero, List.set_cons_succ]
  refine wpAnyH_take (i := 2) (oi := { dst := some 26, op := Op.load 25 (Operand.tmp 4), type := 25, pos := "exact.go:4024", after := #[], guard := none }) (v := .agg d) rfl (by kernel_rfl) (by kernel_rfl) (by kernel_rfl) (fun _ _ _ h => h) (Or.inl ⟨by rfl, ?_⟩) hH ?_
  · intro w1 hS; (try dsimp only at hS); have s1 := brow hS p1; go_simp
  try simp only [Act.put, List.setIfInBounds_toArray, List.set_cons_zero, List.set_cons_succ]
  refine wpAnyH_take (i := 4) (oi := { dst := some 28, op := Op.move (Operand.tmp 2), type := 2, pos := "exact.go:4024", after := #[], guard := none }) (v := .int .i64 y) rfl (by kernel_rfl) (by kernel_rfl) (by kernel_rfl) (fun _ _ _ h => h) (Or.inl ⟨by rfl, ?_⟩) hH ?_
  · intro w1 hS; (try dsimp only at hS); go_simp
  try simp only [Act.put, List.setIfInBounds_toArray, List.set_cons_zero, List.set_cons_succ]
  refine wpAnyH_ready (rs := [1]) (by kernel_rfl) (by simp) (AllReadyH.cons (o := { dst := some 25, op := Op.call { callee := Callee.value (Operand.func 30), args := #[Operand.tmp 24], argTypes := #[56] }, type := 28, pos := "exact.go:4024", after := #[{ on := 0, ground := Ground.data }], guard := none }) rfl (fun K hK => ?_) AllReadyH.nil)
  go_simp
  refine (toRoof_any c r _ hR).mono ?_
  rintro x wa2 ⟨rfl, bx⟩
  go_simp
  refine hK.out _ _ (bnext hH bx hH.size) (fun hG => ?_)
  clear hK K
  refine wpAnyH_now hG ?_
  clear hG hH
  replace bx := ((Below.refl wc1.heap.size wc1).drew).trans bx
  replace p0 := brow bx p0
  replace p1 := brow bx p1
  replace pB := bnext pB bx pB.size
  clear bx
  have hH := Below.refl wa2.heap.size wa2
  try simp only [Act.put, List.setIfInBounds_toArray, List.set_cons_zero, List.set_cons_succ]
  refine wpAnyH_ready (rs := [3]) (by kernel_rfl) (by simp) (AllReadyH.cons (o := { dst := some 27, op := Op.call { callee := Callee.value (Operand.func 31), args := #[Operand.tmp 26], argTypes := #[25] }, type := 62, pos := "exact.go:4024", after := #[{ on := 2, ground := Ground.data }, { on := 1, ground := Ground.chain }], guard := none }) rfl (fun K hK => ?_) AllReadyH.nil)
  go_simp
  refine (toCol_any d g _ hC).mono ?_
  rintro x wb2 ⟨rfl, bx⟩
  go_simp
  refine hK.out _ _ (bnext hH bx hH.size) (fun hG => ?_)
  clear hK K
  refine wpAnyH_now hG ?_
  clear hG hH
  replace p0 := brow bx p0
  replace p1 := brow bx p1
  replace pB := bnext pB bx pB.size
  clear bx
  have hH := Below.refl wb2.heap.size wb2
  try simp only [Act.put, List.setIfInBounds_toArray, List.set_cons_zero, List.set_cons_succ]
  refine wpAnyH_ready (rs := [5]) (by kernel_rfl) (by simp) (AllReadyH.cons (o := { dst := some 29, op := Op.call { callee := Callee.value (Operand.func 36), args := #[Operand.tmp 25, Operand.tmp 27, Operand.tmp 28], argTypes := #[28, 62, 2] }, type := 67, pos := "exact.go:4024", after := #[{ on := 1, ground := Ground.data }, { on := 3, ground := Ground.data }, { on := 4, ground := Ground.data }, { on := 3, ground := Ground.chain }], guard := none }) rfl (fun K hK => ?_) AllReadyH.nil)
  go_simp
  refine (CI _ (HE.out.below pB)).mono ?_
  rintro x wc2 ⟨rfl, bx⟩
  go_simp
  refine hK.out _ _ (bnext hH bx hH.size) (fun hG => ?_)
  clear hK K
  refine wpAnyH_now hG ?_
  clear hG hH
  replace p0 := brow bx p0
  replace p1 := brow bx p1
  replace pB := bnext pB bx pB.size
  clear bx
  have hH := Below.refl wc2.heap.size wc2
  try simp only [Act.put, List.setIfInBounds_toArray, List.set_cons_zero, List.set_cons_succ]
  refine wpAnyH_take (i := 6) (oi := { dst := some 23, op := Op.move (Operand.tmp 29), type := 67, pos := "exact.go:4024", after := #[{ on := 5, ground := Ground.data }], guard := none }) (v := .tuple #[.string v0, .int .i64 v1, .int .i64 v2]) rfl (by kernel_rfl) (by kernel_rfl) (by kernel_rfl) (fun _ _ _ h => h) (Or.inl ⟨by rfl, ?_⟩) hH ?_
  · intro w1 hS; (try dsimp only at hS); go_simp
  try simp only [Act.put, List.setIfInBounds_toArray, List.set_cons_zero, List.set_cons_succ]
  refine wpAnyH_take (i := 7) (oi := { dst := some 30, op := Op.extract (Operand.tmp 23) 0, type := 9, pos := "exact.go:4024", after := #[{ on := 6, ground := Ground.data }], guard := none }) (v := .string v0) rfl (by kernel_rfl) (by kernel_rfl) (by kernel_rfl) (fun _ _ _ h => h) (Or.inl ⟨by rfl, ?_⟩) hH ?_
  · intro w1 hS; (try dsimp only at hS); go_simp
  try simp only [Act.put, List.setIfInBounds_toArray, List.set_cons_zero, List.set_cons_succ]
  refine wpAnyH_take (i := 8) (oi := { dst := some 31, op := Op.extract (Operand.tmp 23) 1, type := 2, pos := "exact.go:4024", after := #[{ on := 6, ground := Ground.data }, { on := 10, ground := Ground.gcOnly Departure.lateStores }], guard := none }) (v := .int .i64 v1) rfl (by kernel_rfl) (by kernel_rfl) (by kernel_rfl) (fun _ _ _ h => h) (Or.inl ⟨by rfl, ?_⟩) hH ?_
  · intro w1 hS; (try dsimp only at hS); go_simp
  try simp only [Act.put, List.setIfInBounds_toArray, List.set_cons_zero, List.set_cons_succ]
  refine wpAnyH_take (i := 9) (oi := { dst := some 32, op := Op.extract (Operand.tmp 23) 2, type := 2, pos := "exact.go:4024", after := #[{ on := 6, ground := Ground.data }, { on := 11, ground := Ground.gcOnly Departure.lateStores }], guard := none }) (v := .int .i64 v2) rfl (by kernel_rfl) (by kernel_rfl) (by kernel_rfl) (fun _ _ _ h => h) (Or.inl ⟨by rfl, ?_⟩) hH ?_
  · intro w1 hS; (try dsimp only at hS); go_simp
  try simp only [Act.put, List.setIfInBounds_toArray, List.set_cons_zero, List.set_cons_succ]
  refine wpAnyH_take (i := 10) (oi := { dst := some 10, op := Op.assign (Operand.tmp 30), type := 9, pos := "exact.go:4024", after := #[{ on := 7, ground := Ground.data }, { on := 5, ground := Ground.chain }, { on := 0, ground := Ground.phase }, { on := 1, ground := Ground.phase }, { on := 2, ground := Ground.phase }, { on := 3, ground := Ground.phase }, { on := 4, ground := Ground.phase }, { on := 5, ground := Ground.phase }, { on := 6, ground := Ground.phase }, { on := 7, ground := Ground.phase }, { on := 8, ground := Ground.textOnly Departure.lateStores }, { on := 9, ground := Ground.textOnly Departure.lateStores }], guard := none }) (v := .string v0) rfl (by kernel_rfl) (by kernel_rfl) (by kernel_rfl) (fun _ _ _ h => h) (Or.inl ⟨by rfl, ?_⟩) hH ?_
  · intro w1 hS; (try dsimp only at hS); go_simp
  try simp only [Act.put, List.setIfInBounds_toArray, List.set_cons_zero, List.set_cons_succ]
  refine wpAnyH_take (i := 11) (oi := { dst := some 11, op := Op.assign (Operand.tmp 31), type := 2, pos := "exact.go:4024", after := #[{ on := 8, ground := Ground.data }, { on := 10, ground := Ground.chain }, { on := 0, ground := Ground.phase }, { on := 1, ground := Ground.phase }, { on := 2, ground := Ground.phase }, { on := 3, ground := Ground.phase }, { on := 4, ground := Ground.phase }, { on := 5, ground := Ground.phase }, { on := 6, ground := Ground.phase }, { on := 7, ground := Ground.phase }, { on := 8, ground := Ground.phase }, { on := 9, ground := Ground.textOnly Departure.lateStores }, { on := 10, ground := Ground.phase }], guard := none }) (v := .int .i64 v1) rfl (by kernel_rfl) (by kernel_rfl) (by kernel_rfl) (fun _ _ _ h => h) (Or.inl ⟨by rfl, ?_⟩) hH ?_
  · intro w1 hS; (try dsimp only at hS); go_simp
  try simp only [Act.put, List.setIfInBounds_toArray, List.set_cons_zero, List.set_cons_succ]
  refine wpAnyH_take (i := 12) (oi := { dst := some 12, op := Op.assign (Operand.tmp 32), type := 2, pos := "exact.go:4024", after := #[{ on := 9, ground := Ground.data }, { on := 11, ground := Ground.chain }, { on := 0, ground := Ground.phase }, { on := 1, ground := Ground.phase }, { on := 2, ground := Ground.phase }, { on := 3, ground := Ground.phase }, { on := 4, ground := Ground.phase }, { on := 5, ground := Ground.phase }, { on := 6, ground := Ground.phase }, { on := 7, ground := Ground.phase }, { on := 8, ground := Ground.phase }, { on := 9, ground := Ground.phase }, { on := 10, ground := Ground.phase }, { on := 11, ground := Ground.phase }], guard := none }) (v := .int .i64 v2) (fuel := 0) rfl (by kernel_rfl) (by kernel_rfl) (by kernel_rfl) (fun _ _ _ h => h) (Or.inl ⟨by rfl, ?_⟩) hH ?_
  · intro w1 hS; (try dsimp only at hS); go_simp
  try simp only [Act.put, List.setIfInBounds_toArray, List.set_cons_zero, List.set_cons_succ]
  refine wpAnyH_done (by kernel_rfl) ?_ _
  go_wp2_with fail
  go_ret
  exact ⟨rfl, pB⟩

namespace LFnExactPatternOf
open Go.RowKit Go.ChangeShapes Go.WideShapes Go.ChangeAt
theorem own : ownKnob Tryd.prog.godebug = none := by kernel_rfl
theorem laidOut : laidOutB Tryd.prog = true := by kernel_rfl
theorem door_met (os : Os) (args : Array Value) : laidMetH Tryd.prog Rows.fnExactPatternOfRow.laid ((World.doorLaid Tryd.prog 400 os).forCall (fun _ _ => 0) ⟨#[], args, []⟩).memory :=
  laidMetH_of_parts3 (fuel := 8) (laidMet_of_run' 8 (by kernel_rfl) (by kernel_rfl)) (by kernel_rfl) (by kernel_rfl)
set_option maxRecDepth 100000 in
theorem lifted (os : Os) (started : os.Started) (H : Type) (enc : TypeId × Value → H) :
    ReturnsInHanded {} Tryd.checked os 5 .any (fun w args => (Rows.fnExactPatternOfSpec.pre enc Tryd.prog Tryd.f5 [] false w args ∧ laidMetH Tryd.prog Rows.fnExactPatternOfRow.laid w) ∧ sizedMet enc Tryd.prog Tryd.f5 (OpenSpec.ofChange Rows.fnExactPatternOfSpec) false w args)
      (Rows.fnExactPatternOfSpec.post enc Tryd.prog Tryd.f5 false true false false) := by
  refine returnsInHanded_of_change_and (C := Tryd.checked) (X := fun w _ => laidMetH Tryd.prog Rows.fnExactPatternOfRow.laid w) (fun _ _ _ hh h => h.of_heap hh) own started (by kernel_rfl) Tryd.func5
    (ChangeSpec.witness_shaped (enc := enc) (C := Tryd.checked) (os := os) (X := fun w _ => laidMetH Tryd.prog Rows.fnExactPatternOfRow.laid w) false (World.doorLaid Tryd.prog 400 os) #[.agg Tryd.zeroCells56, .agg (Array.replicate 8 (.int .u8 0)), .int .i64 0] 8 rfl (World.shaped_of_RefB (by kernel_rfl) (by kernel_rfl)) (by kernel_rfl) (by kernel_rfl) (by kernel_rfl) (door_met os _)) ?_
  intro W base args ds gs before hval0 hW _ _ hL _
  have hval : ∀ (j : Nat) t v, Tryd.f5.params[j]? = some t → args[j]? = some v → Value.okWide Tryd.prog W .any base t v := hval0
  have hW' := hW
  obtain ⟨p, q, hA0, hV, rfl, hfz, hnd⟩ := hW
  have hA : DataW.TrodAll enc Tryd.prog W 0 (fun _ => true) true Tryd.f5.params.toList args.toList ds p := hA0
  rw [Tryd.params5] at hA hval
  obtain ⟨v0, vs0, d0, ds0, p0, q0, hargs, rfl, rfl, h0, r0⟩ := trodAll_cons hA
  obtain ⟨v1, vs1, d1, ds1, p1, q1, rfl, rfl, rfl, h1, r1⟩ := trodAll_cons r0
  obtain ⟨v2, vs2, d2, ds2, p2, q2, rfl, rfl, rfl, h2, r2⟩ := trodAll_cons r1
  obtain ⟨rfl, rfl, rfl⟩ := trodAll_nil r2
  obtain rfl : args = #[v0, v1, v2] := by cases args; simp_all
  obtain ⟨rfl, rfl⟩ := trodVars_none hV
  have k0 := h0
  have lt0 : ∀ x ∈ p0, x.block < W.heap.size := by obtain ⟨m, hm⟩ := k0; exact DataW.trod_lt m _ _ _ hm
  have k1 := h1
  have lt1 : ∀ x ∈ p1, x.block < W.heap.size := by obtain ⟨m, hm⟩ := k1; exact DataW.trod_lt m _ _ _ hm
  obtain ⟨c0, f0, rfl, wf0⟩ := open_roof (hval 0 56 v0 rfl rfl) h0
  obtain ⟨c1, f1, rfl, wf1⟩ := open_col (hval 1 25 v1 rfl rfl) h1
  obtain ⟨n2, rfl, rfl, rfl, wf2⟩ := open_int Tryd.underlying2 (hval 2 2 v2 rfl rfl) h2
  clear hA0 hval0
  refine ((law_walk_FnExactPatternOf wf0 wf1 (bounds_i64 wf2) (errT_of hL))).mono fun e W' ⟨he, bel⟩ => ?_
  subst he
  exact ⟨_, rfl, _, _, _, [], _, [], hW', trodAll_mk1 (shut_bool Tryd.underlying4 _), (trodAll_cons_mk (Below.trod laidOut (by kernel_rfl) (of_decide_eq_true (by kernel_rfl)) k0 bel lt0) (trodAll_cons_mk (Below.trod laidOut (by kernel_rfl) (of_decide_eq_true (by kernel_rfl)) k1 bel lt1) (trodAll_cons_mk (shut_int Tryd.underlying2 wf2) trodAll_mk0))), rfl, bel.frame _, fun h => by cases h⟩

theorem over : Rows.FnExactPatternOfSaid :=
  OpenClaim.holds_of_wide 5 Tryd.f5 rfl rfl rfl rfl rfl rfl rfl ⟨rfl, rfl, rfl, rfl, rfl⟩ rfl rfl rfl rfl rfl (by kernel_rfl) Tryd.func5 (by kernel_rfl)
    (of_decide_eq_true (by kernel_rfl)) (by unfold Func.isWrapper; first | (rw [if_pos (by decide +kernel)]; kernel_rfl) | (rw [if_neg (by decide +kernel)]; exact ⟨rfl, rfl⟩))
    (fun os started H enc _ => lifted os started H enc)

theorem proved : Rows.FnExactPatternOfCardSaid :=
  Claim7.holds_tied_plain_at .later [] Rows.fnExactPatternOfCard.laidKinds true Rows.fnExactPatternOfCard.stood.harness Rows.fnExactPatternOfCard.stood.looks
    over (fun _ h => by cases h) (by kernel_rfl) (fun _ h => by cases h) fnExactPatternOf_row_tie rfl ⟨rfl, rfl⟩ (by kernel_rfl) rfl
    (fun f fn hf hfn => by
      obtain rfl : f = 5 := Option.some.inj ((show Tryd.prog.funcNamed "loop.example/g01376/laws.FnExactPatternOf" = some 5 by kernel_rfl).symm.trans hf) |>.symm
      obtain rfl : fn = Tryd.f5 := (Option.some.inj (Tryd.func5.symm.trans hfn)).symm
      exact ⟨by kernel_rfl, fun j t ht => by
        rw [Tryd.params5] at ht
        have hm : t ∈ [56, 25, 2] := by simpa using Array.mem_of_getElem? ht
        have hall : ([56, 25, 2].all fun u => !Tryd.prog.wantsStandIn u) = true := by kernel_rfl
        exact (show Tryd.prog.wantsStandIn t = false by simpa using List.all_eq_true.1 hall t hm)⟩)
    (by kernel_rfl)
end LFnExactPatternOf

end Go.Proofs.YtppohghejhcilaaDoor
