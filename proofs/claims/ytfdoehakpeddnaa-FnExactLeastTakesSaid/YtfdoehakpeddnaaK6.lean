import Derived.Test.YtfdoehakpeddnaaLs
import Derived.Maps.AppendAt
import Derived.OwnWalk
import Derived.Test.YtfdoehakpeddnaaToS
import Derived.Test.YtfdoehakpeddnaaAll
import Derived.Test.YtfdoehakpeddnaaWatV
import Derived.Test.YtfdoehakpeddnaaAskI
import Derived.Test.YtfdoehakpeddnaaOuts
import Derived.Test.YtfdoehakpeddnaaList
import Derived.Laws.AppendOwn
import Derived.Below
import Derived.Deep.RegionHeld3
import Derived.Deep.RegionLawGrows
import Derived.Test.YtfdoehakpeddnaaTy
import Derived.Test.YtfdoehakpeddnaaRoof
import Derived.Lib.SliceRun
import Derived.Defers
import Derived.Test.YtfdoehakpeddnaaFlu
import Derived.Test.YtfdoehakpeddnaaAnyI
import Derived.Test.YtfdoehakpeddnaaSpecA

/- Lists of numbers that grow, told by a function. -/
namespace Go.Proofs.Ytfdoehakpeddnaa
open Go.RowKit

def intsV (f : Nat → Int) (n : Nat) : List Value := (List.range n).map fun i => .int .i64 (f i)
theorem intsV_succ (f : Nat → Int) (n : Nat) : intsV f n ++ [.int .i64 (f n)] = intsV f (n + 1) := by simp [intsV, List.range_succ]
theorem IsList.of_intsV {w : World} {base n : Nat} {e : TypeId} {v : Value} {f : Nat → Int} (h : w.ownsRow base e 1 v n (intsV f n)) : IsList w base v 1 n fun i => .int .i64 (f i) := by
  obtain ⟨hl, h | ⟨g, cap, cur, rfl, hg, hh, hn, hm, hs, ht⟩⟩ := h
  · exact .inl ⟨h.2, none, 0, by rw [h.1]⟩
  · refine .inr ⟨g, cap, cur, rfl, hg, rowAt_of_heap hh, by omega, fun i hi => ?_⟩
    have h1 : cur[i]? = (cur.toList.take (n * 1))[i]? := by rw [List.getElem?_take, if_pos hi, Array.getElem?_toList]
    rw [h1, ht]
    rw [intsV, List.getElem?_map, List.getElem?_range (by omega)]; rfl
theorem A_infoIw : (Try.prog.info? 2).map (fun i => (i.zero, i.size, i.bytes)) = some (some (.int .i64 0), 1, 8) := by kernel_rfl
end Go.Proofs.Ytfdoehakpeddnaa

/- FlowsTo: both sides. -/
namespace Go.Proofs.Ytfdoehakpeddnaa
open Go.RowKit

noncomputable def Gt.fN (g : Gt) : Nat := if g.ok = true then g.n.toNat else 0
noncomputable def Gt.cd (g : Gt) : Int := if g.ok = true then 0 else 1
theorem Gt.fN_t {g : Gt} (h : g.ok = true) : g.fN = g.n.toNat := if_pos h
theorem Gt.fN_f {g : Gt} (h : g.ok = false) : g.fN = 0 := if_neg (by simp [h])
theorem Gt.cd_t {g : Gt} (h : g.ok = true) : g.cd = 0 := if_pos h
theorem Gt.cd_f {g : Gt} (h : g.ok = false) : g.cd = 1 := if_neg (by simp [h])
theorem Gt.fN_le (g : Gt) : g.fN ≤ 2000000 := by
  cases h : g.ok with
  | true => have := (Gt.Ok_of h).n17; rw [Gt.fN_t h]; omega
  | false => rw [Gt.fN_f h]; omega
theorem own_start (c : Array Value) (w : World) : ((w.alloc (.cells c 37)).alloc (.cells #[] 2)).ownsRow (w.heap.size + 1) 2 1 (.slice (some ⟨w.heap.size + 1, 0, none⟩) 0 0) 0 [] := by
  have := owns_empty (w.alloc (.cells c 37)) 2 1
  simpa using this

end Go.Proofs.Ytfdoehakpeddnaa

/- EndOf: both sides. -/
namespace Go.Proofs.Ytfdoehakpeddnaa
open Go.RowKit

theorem Gt.to_cases {g : Gt} {j : Nat} (hj : (j : Int) < g.n) : g.to j = -1 ∨ ∃ q : Nat, g.to j = q ∧ (q : Int) < g.n ∧ g.h q < g.h j := by
  unfold Gt.to Gt.toB
  by_cases h : g.pipe j = true ∨ g.leaf j = true
  · rw [if_pos h]; exact .inl rfl
  rw [if_neg h]
  simp only [Gt.toK]
  by_cases h1 : 0 < j ∧ g.h (j - 1) < g.h j
  · rw [if_pos h1, if_pos h1]
    by_cases h2 : (j : Int) + 1 < g.n ∧ g.h (j + 1) < g.h (j - 1)
    · rw [if_pos h2]; exact .inr ⟨j + 1, by omega, by omega, by omega⟩
    · rw [if_neg h2]; exact .inr ⟨j - 1, by omega, by omega, h1.2⟩
  · rw [if_neg h1, if_neg h1]
    by_cases h2 : (j : Int) + 1 < g.n ∧ g.h (j + 1) < g.h j
    · rw [if_pos h2]; exact .inr ⟨j + 1, by omega, by omega, h2.2⟩
    · rw [if_neg h2]; exact .inl rfl
/-- The water of a cell ends in a cell. -/
inductive Gt.Ends (g : Gt) : Nat → Nat → Prop
  | stay (j : Nat) : g.to j = -1 → Gt.Ends g j j
  | go (j q e : Nat) : g.to j = q → Gt.Ends g q e → Gt.Ends g j e
theorem Gt.ends_ex {g : Gt} (ho : g.Ok) : ∀ (m j : Nat), (g.h j).toNat ≤ m → (j : Int) < g.n → ∃ e, g.Ends j e ∧ (e : Int) < g.n
  | m, j, hm, hj => by
    rcases Gt.to_cases hj with h | ⟨q, hq, hn, hh⟩
    · exact ⟨j, .stay j h, hj⟩
    · have h0 := (ho.hs q (by have := ho.n17; omega)).1
      cases m with
      | zero => have := (ho.hs j (by have := ho.n17; omega)).1; omega
      | succ m =>
        obtain ⟨e, he, hen⟩ := Gt.ends_ex ho m q (by omega) hn
        exact ⟨e, .go j q e hq he, hen⟩
open Classical in
noncomputable def Gt.endN (g : Gt) (j : Nat) : Nat := if h : ∃ e, g.Ends j e ∧ (e : Int) < g.n then h.choose else 0
theorem Gt.endN_is {g : Gt} {j : Nat} (ho : g.Ok) (hj : (j : Int) < g.n) : g.Ends j (g.endN j) ∧ (g.endN j : Int) < g.n := by
  have h := Gt.ends_ex ho _ j (Nat.le_refl _) hj
  unfold Gt.endN
  rw [dif_pos h]
  exact h.choose_spec
theorem Gt.Ends.at_stay {g : Gt} {j e : Nat} (h : g.Ends j e) (hs : g.to j = -1) : e = j := by
  cases h with
  | stay _ _ => rfl
  | go _ q _ hq _ => omega
theorem Gt.Ends.at_go {g : Gt} {j q e : Nat} (h : g.Ends j e) (hs : g.to j = q) : g.Ends q e := by
  cases h with
  | stay _ h => omega
  | go _ q' _ hq hr => obtain rfl : q' = q := by omega
                       exact hr

set_option maxRecDepth 100000 in
set_option maxHeartbeats 2000000 in
theorem endOf_any (b N j : Nat) (g : Gt) (v : Value) (w : World) (hv : IsList w b v 1 N (fun i => .int .i64 (g.to i))) (ho : g.Ok) (hN : g.n = N) (hj : j < N) :
    Calls Try.prog 106 #[v, .int .i64 j] w fun e w' => e = .returned (.int .i64 (g.endN j)) ∧ w = w' := by
  have hE := (Gt.endN_is ho (by omega) : g.Ends j (g.endN j) ∧ _).1
  have HC := Lib.hid (fun q (hq : q < N) => Gt.to_cases (g := g) (j := q) (by omega))
  have HH := Lib.hid (fun q (hq : q < N) => (ho.hs q (by have := ho.n17; omega)).1)
  have h17 := ho.n17
  have HV := Lib.hid hv
  obtain ⟨a, cap, rfl⟩ := hv.shape
  have HNN := Lib.hid hN
  generalize g.endN j = E at *
  have HEE := Lib.hid hE
  have hN17 : N ≤ 17 := by omega
  clear hv ho hN hE h17
  go_enter Try.func106, Try.ntmps106
  go_wp2_with fail
  go_loopw [1] (fun i W => ∃ q : Nat, q < N ∧ i = .int .i64 q ∧ Hid (g.Ends q E) ∧ W = w) (fun i _ => (g.h (intOf i).toNat).toNat)
  case atStart => exact ⟨j, hj, rfl, HEE, rfl⟩
  case round =>
    obtain ⟨q, hq, rfl, hF, rfl⟩ := hrel
    have q0 : 0 ≤ (q : Int) := by omega
    have q1 : (q : Int) < N := by omega
    obtain ⟨g', rfl, hg', c0⟩ : ∃ g', a = some ⟨g', 0, none⟩ ∧ g' < wr.heap.size ∧ wr.cell? ⟨g', q, none⟩ = some (.int .i64 (g.to q)) := by
      rcases HV.out with ⟨h0, _⟩ | ⟨g', cap', cur', e, hg, hr', hs', hf'⟩
      · omega
      · cases e
        exact ⟨g', rfl, rowAt_lt hr', by rw [cell_of_rowAt hr']; exact hf' _ (by omega)⟩
    rcases HC.out q hq with h | ⟨p, hp, hpn, hh⟩
    · have hX := Lib.hid (hF.out.at_stay h)
      rw [h] at c0
      clear h
      go_wp2_with fail
      go_ret
      exact ⟨by rw [hX.out]; rfl, rfl⟩
    · have hG := Lib.hid (hF.out.at_go hp)
      rw [hp] at c0
      have hne : ((p : Int) != -1) = true := by simp
      have h0 := HH.out p (by have := HNN.out; omega)
      have hpN : p < N := by have := HNN.out; omega
      have HHH := Lib.hid hh
      clear hp hh hpn
      go_wp2_with fail
      refine ⟨⟨p, hpN, rfl, hG, trivial⟩, ?_⟩
      have := HHH.out
      simp [intOf]
      omega

set_option maxRecDepth 100000 in
set_option maxHeartbeats 2000000 in
theorem l06End_any (k b N j : Nat) (c : Array Value) (g : Gt) (v : Value) (w : World) (hA : GutAt w k c g v b) (ho : g.Ok) (hN : g.n = N) (hj : j < N) (hm : g.m ≤ 2000000) :
    Calls Try.prog 76 #[.pointer (some ⟨k, 0, none⟩), .int .i64 j] w fun e w' => e = .returned (.int .i64 (g.endN j)) ∧ Below w.heap.size w w' := by
  have hE := (Gt.endN_is ho (by omega) : g.Ends j (g.endN j) ∧ _).1
  have HC := Lib.hid (fun q (hq : q < N) => Gt.to_cases (g := g) (j := q) (by omega))
  have HH := Lib.hid (fun q (hq : q < N) => (ho.hs q (by have := ho.n17; omega)).1)
  have h17 := ho.n17
  have CT := fun W (q : Nat) H (hq : q < N) => l06To_any k b c g v q W H (by omega) h17 hm
  have HA := Lib.hid hA
  have HNN := Lib.hid hN
  generalize g.endN j = E at *
  have HEE := Lib.hid hE
  have hN17 : N ≤ 17 := by omega
  clear hA ho hN hE h17
  go_enter Try.func76, Try.ntmps76
  go_wp2_with fail
  refine (CT _ j HA.out hj).mono ?_
  rintro e w1 ⟨rfl, b1⟩
  have A1 := Lib.hid (HA.out.below b1 (Nat.le_refl _))
  go_wp2_with fail
  go_loopw [1, 5] (fun i t W => ∃ q : Nat, q < N ∧ i = .int .i64 q ∧ t = .int .i64 (g.to q) ∧ Hid (g.Ends q E) ∧ Below w.heap.size w W) (fun i _ _ => (g.h (intOf i).toNat).toNat)
  case atStart => exact ⟨j, hj, rfl, rfl, HEE, b1⟩
  case round =>
    clear b1 A1
    obtain ⟨q, hq, rfl, rfl, hF, hB⟩ := hrel
    have HAW := Lib.hid (HA.out.below hB (Nat.le_refl _))
    have HB := Lib.hid hB
    clear hB
    have q0 : 0 ≤ (q : Int) := by omega
    rcases HC.out q hq with h | ⟨p, hp, hpn, hh⟩
    · have hX := Lib.hid (hF.out.at_stay h)
      rw [h]
      have hd : ¬ (0 : Int) ≤ -1 := by omega
      clear h
      go_wp2_with fail
      go_ret
      exact ⟨by rw [hX.out]; rfl, HB.out⟩
    · have hG := Lib.hid (hF.out.at_go hp)
      rw [hp]
      have h0 := HH.out p (by have := HNN.out; omega)
      have hpN : p < N := by have := HNN.out; omega
      have HHH := Lib.hid hh
      have p0 : 0 ≤ (p : Int) := by omega
      clear hp hh hpn
      go_wp2_with fail
      refine (CT _ p HAW.out hpN).mono ?_
      rintro e w2 ⟨rfl, b2⟩
      have B2 := bnext HB.out b2 HB.out.size
      clear b2
      go_wp2_with fail
      refine ⟨⟨p, hpN, rfl, rfl, hG, B2⟩, ?_⟩
      have := HHH.out
      simp [intOf]
      omega

/-- The code of a gutter and of a number that has to be as told. -/
noncomputable def Gt.ask (g : Gt) (fine : Bool) : Int := if g.ok = true then (if fine = true then 0 else 2) else 1
theorem l06Asked_any (k b : Nat) (c : Array Value) (g : Gt) (v : Value) (fine : Bool) (w : World) (hA : GutAt w k c g v b) (hm : g.m ≤ 2000000) :
    Calls Try.prog 53 #[.pointer (some ⟨k, 0, none⟩), .bool fine] w fun e w' => e = .returned (.int .i64 (g.ask fine)) ∧ Below w.heap.size w w' := by
  have CK := fun W H => l06Ok_any k b c g v W H hm
  unfold Gt.ask
  generalize g.ok = kk at *
  cases kk with
  | false =>
    go_enter Try.func53, Try.ntmps53
    go_wp2_with fail
    refine (CK _ hA).mono ?_
    rintro e w1 ⟨rfl, b1⟩
    go_wp2_with fail
    go_ret
    exact ⟨rfl, b1⟩
  | true =>
    cases fine with
    | false =>
      go_enter Try.func53, Try.ntmps53
      go_wp2_with fail
      refine (CK _ hA).mono ?_
      rintro e w1 ⟨rfl, b1⟩
      go_wp2_with fail
      go_ret
      exact ⟨rfl, b1⟩
    | true =>
      go_enter Try.func53, Try.ntmps53
      go_wp2_with fail
      refine (CK _ hA).mono ?_
      rintro e w1 ⟨rfl, b1⟩
      go_wp2_with fail
      go_ret
      exact ⟨rfl, b1⟩
theorem l06Cell_any (k b : Nat) (c : Array Value) (g : Gt) (v : Value) (x : Int) (w : World) (hA : GutAt w k c g v b) :
    Calls Try.prog 75 #[.pointer (some ⟨k, 0, none⟩), .int .i64 x] w fun e w' => e = .returned (.bool (inB x 0 (g.n - 1))) ∧ Below w.heap.size w w' := by
  have z0 : w.cell? ⟨k, 0, none⟩ = some (.int .i8 g.n) := by rw [cell_of_rowAt hA.row]; exact hA.is.get0
  have n0 := hA.is.n0
  have n1 := hA.is.n1
  have lt := hA.lt
  clear hA
  go_enter Try.func75, Try.ntmps75
  go_wp2_with fail
  refine (l00In_any _ _ _ _).mono ?_
  rintro e w1 ⟨rfl, rfl⟩
  go_wp2_with fail
  go_ret
  exact ⟨rfl, Below.refl _ _⟩
theorem outB_in {x : Int} {g : Gt} : outB x 0 (g.n - 1) = !(inB x 0 (g.n - 1)) := by
  unfold outB inB
  by_cases h : 0 ≤ x ∧ x ≤ g.n - 1
  · simp [h] <;> omega
  · simp [h] <;> omega
theorem checkCell_any (b : Nat) (c : Array Value) (g : Gt) (v : Value) (x : Int) (w : World) (hG : IsGut c g v) (hv : IsList w b v 2 g.m (pipeV g.p)) (hm : g.m ≤ 2000000) :
    Calls Try.prog 77 #[.agg c, .int .i64 x] w fun e w' => e = .returned (.int .i64 (g.ask (inB x 0 (g.n - 1)))) ∧ Below w.heap.size w w' := by
  have hc := hG.size
  have rA : rowAt (w.alloc (.cells c 37)) w.heap.size = some c := rowAt_alloc_at _ _ _ _ rfl
  have hBA : Below w.heap.size w (w.alloc (.cells c 37)) := (Below.refl _ _).alloc (Nat.le_refl _) _
  have hV := Lib.hid (hv.below hBA (Nat.le_refl _))
  have CK := fun W H => implValidGutter_any b c g v W hG H hm
  have CN := fun W => cellNumberG_any c g v x W hG
  have HO := Lib.hid (outB_in (x := x) (g := g))
  unfold Gt.ask
  generalize g.ok = kk at *
  generalize inB x 0 (g.n - 1) = fine at *
  clear hG hv
  cases kk with
  | false =>
    go_enter Try.func77, Try.ntmps77
    go_wp2_with fail
    refine (CK _ hV.out).mono ?_
    rintro e w1 ⟨rfl, b1⟩
    have B1 := bnext hBA b1 hBA.size
    clear b1 rA
    go_wp2_with fail
    go_ret
    exact ⟨rfl, B1⟩
  | true =>
    cases fine with
    | false =>
      go_enter Try.func77, Try.ntmps77
      go_wp2_with fail
      refine (CK _ hV.out).mono ?_
      rintro e w1 ⟨rfl, b1⟩
      have r1 := brow b1 rA
      have B1 := bnext hBA b1 hBA.size
      clear b1 rA
      go_wp2_with fail
      refine (CN _).mono ?_
      rintro e w2 ⟨rfl, b2⟩
      have B2 := bnext B1 b2 B1.size
      clear b2 r1
      go_wp2_with fail
      refine (isOutside_any _ _ _ _).mono ?_
      rw [HO.out]
      rintro e w3 ⟨rfl, b3⟩
      have B3 := bnext B2 b3 B2.size
      clear b3
      go_wp2_with fail
      go_ret
      exact ⟨rfl, B3⟩
    | true =>
      go_enter Try.func77, Try.ntmps77
      go_wp2_with fail
      refine (CK _ hV.out).mono ?_
      rintro e w1 ⟨rfl, b1⟩
      have r1 := brow b1 rA
      have B1 := bnext hBA b1 hBA.size
      clear b1 rA
      go_wp2_with fail
      refine (CN _).mono ?_
      rintro e w2 ⟨rfl, b2⟩
      have B2 := bnext B1 b2 B1.size
      clear b2 r1
      go_wp2_with fail
      refine (isOutside_any _ _ _ _).mono ?_
      rw [HO.out]
      rintro e w3 ⟨rfl, b3⟩
      have B3 := bnext B2 b3 B2.size
      clear b3
      go_wp2_with fail
      go_ret
      exact ⟨rfl, B3⟩

noncomputable def Gt.endV (g : Gt) (y : Int) : Int := if g.ask (inB y 0 (g.n - 1)) = 0 then (g.endN y.toNat : Int) else 0
theorem Gt.ask_0 {g : Gt} {fine : Bool} (h : g.ask fine = 0) : g.Ok ∧ fine = true := by
  unfold Gt.ask at h
  split at h
  · rename_i h1
    split at h
    · rename_i h2; exact ⟨Gt.Ok_of h1, h2⟩
    · omega
  · omega
theorem inB_of {x lo hi : Int} (h : inB x lo hi = true) : lo ≤ x ∧ x ≤ hi := by simpa [inB] using h

end Go.Proofs.Ytfdoehakpeddnaa

/- Rain upon a gutter, and the codes of minutes: the model. -/
namespace Go.Proofs.Ytfdoehakpeddnaa
open Go.RowKit

/-- Rain is as told for a gutter. -/
def Gt.Rn (g : Gt) (n : Nat) (r : Nat → Int) : Prop := (∀ i, i < n → 0 ≤ r i ∧ r i ≤ 1000) ∧ (n : Int) = g.n
open Classical in
noncomputable def Gt.rnB (g : Gt) (n : Nat) (r : Nat → Int) : Bool := decide (g.Rn n r)
theorem Gt.rnB_t {g : Gt} {n : Nat} {r : Nat → Int} (h : g.Rn n r) : g.rnB n r = true := by simp only [Gt.rnB, decide_eq_true_eq]; exact h
theorem Gt.rnB_f {g : Gt} {n : Nat} {r : Nat → Int} (h : ¬ g.Rn n r) : g.rnB n r = false := by simp only [Gt.rnB, decide_eq_false_iff_not]; exact h
theorem Gt.rnB_of {g : Gt} {n : Nat} {r : Nat → Int} (h : g.rnB n r = true) : g.Rn n r := by simpa only [Gt.rnB, decide_eq_true_eq] using h

set_option maxRecDepth 100000 in
set_option maxHeartbeats 1000000 in
theorem l06Rain_any (k b br n : Nat) (c : Array Value) (g : Gt) (v u : Value) (r : Nat → Int) (w : World) (hA : GutAt w k c g v b) (hr : IsList w br u 1 n (fun i => .int .i64 (r i))) (hn : n ≤ 2000000) :
    Calls Try.prog 47 #[.pointer (some ⟨k, 0, none⟩), u] w fun e w' => e = .returned (.bool (g.rnB n r)) ∧ Below w.heap.size w w' := by
  have HA := Lib.hid hA
  have z0 : w.cell? ⟨k, 0, none⟩ = some (.int .i8 g.n) := by rw [cell_of_rowAt hA.row]; exact hA.is.get0
  have lt := hA.lt
  have HL := Lib.hid hr
  have HT := Lib.hid (show (∀ i, i < n → 0 ≤ r i ∧ r i ≤ 1000) → (n : Int) = g.n → g.rnB n r = true from fun a b => Gt.rnB_t ⟨a, b⟩)
  have HF := Lib.hid (show ∀ i, i < n → ¬ (0 ≤ r i ∧ r i ≤ 1000) → g.rnB n r = false from fun i hi h => Gt.rnB_f fun x => h (x.1 i hi))
  have HN := Lib.hid (show (n : Int) ≠ g.n → g.rnB n r = false from fun h => Gt.rnB_f fun x => h x.2)
  have x0 := hA.is.n0
  have x1 := hA.is.n1
  obtain ⟨a, cap, rfl⟩ := hr.shape
  clear hA hr
  go_enter Try.func47, Try.ntmps47
  go_wp2_with fail
  go_loopw [5] (fun i W => ∃ j : Nat, j ≤ n ∧ i = .int .i64 j ∧ Hid (∀ q, q < j → 0 ≤ r q ∧ r q ≤ 1000) ∧ W = w) (fun i _ => n - (intOf i).toNat)
  case atStart => exact ⟨0, by omega, rfl, Lib.hid (by omega), rfl⟩
  case round =>
    obtain ⟨j, hj, rfl, hF, hW⟩ := hrel
    subst hW
    by_cases hlt : j < n
    · obtain ⟨g', rfl, c0⟩ : ∃ g', a = some ⟨g', 0, none⟩ ∧ wr.cell? ⟨g', j, none⟩ = some (.int .i64 (r j)) := by
        rcases HL.out with ⟨h0, _⟩ | ⟨g', cap', cur', e, hg, hr', hs', hf'⟩
        · omega
        · cases e
          exact ⟨g', rfl, by rw [cell_of_rowAt hr']; exact hf' _ (by omega)⟩
      have j0 : 0 ≤ (j : Int) := by omega
      have j1 : (j : Int) < n := by omega
      by_cases hq : 0 ≤ r j ∧ r j ≤ 1000
      · have nx := Lib.hid (show ∀ q, q < j + 1 → 0 ≤ r q ∧ r q ≤ 1000 from fun q h => by
          by_cases e : q < j
          · exact hF.out q e
          · obtain rfl : q = j := by omega
            exact hq)
        go_wp2_with fail
        refine (l06Deep_tq _ _ hq).mono ?_
        rintro e w1 ⟨rfl, rfl⟩
        go_wp2_with fail
        refine ⟨⟨j + 1, by omega, by go_num, nx, trivial⟩, by simp [intOf]; omega⟩
      · have HX := Lib.hid (HF.out j hlt hq)
        go_wp2_with fail
        refine (l06Deep_fq _ _ hq).mono ?_
        rintro e w1 ⟨rfl, rfl⟩
        go_wp2_with fail
        go_ret
        exact ⟨by rw [HX.out]; rfl, Below.refl _ _⟩
    · obtain rfl : j = n := by omega
      by_cases he : (j : Int) = g.n
      · have hd : ((j : Int) == g.n) = true := by simpa using he
        have HX := Lib.hid (HT.out hF.out he)
        clear he
        go_wp2_with fail
        go_ret
        exact ⟨by rw [HX.out]; rfl, Below.refl _ _⟩
      · have hd : ((j : Int) == g.n) = false := by simpa using he
        have HX := Lib.hid (HN.out he)
        clear he
        go_wp2_with fail
        go_ret
        exact ⟨by rw [HX.out]; rfl, Below.refl _ _⟩

/-- The code of a gutter, water, and whether numbers are as told. -/
noncomputable def Gt.wet (g : Gt) (t : Nat → Int) (fine : Bool) : Int := if g.watB t = true then (if fine = true then 0 else 2) else 1
theorem l06Wet_any (k b kw : Nat) (c d : Array Value) (g : Gt) (t : Nat → Int) (v : Value) (fine : Bool) (w : World) (hA : GutAt w k c g v b) (hR : rowAt w kw = some d) (hD : IsWat d t) (hm : g.m ≤ 2000000) :
    Calls Try.prog 46 #[.pointer (some ⟨k, 0, none⟩), .pointer (some ⟨kw, 0, none⟩), .bool fine] w fun e w' => e = .returned (.int .i64 (g.wet t fine)) ∧ Below w.heap.size w w' := by
  have CK := l06Water_any k b kw c d g t v w hA hR hD hm
  unfold Gt.wet
  generalize g.watB t = kk at *
  clear hA hR hD
  cases kk with
  | false =>
    go_enter Try.func46, Try.ntmps46
    go_wp2_with fail
    refine CK.mono ?_
    rintro e w1 ⟨rfl, b1⟩
    clear CK
    go_wp2_with fail
    go_ret
    exact ⟨rfl, b1⟩
  | true =>
    cases fine with
    | false =>
      go_enter Try.func46, Try.ntmps46
      go_wp2_with fail
      refine CK.mono ?_
      rintro e w1 ⟨rfl, b1⟩
      clear CK
      go_wp2_with fail
      go_ret
      exact ⟨rfl, b1⟩
    | true =>
      go_enter Try.func46, Try.ntmps46
      go_wp2_with fail
      refine CK.mono ?_
      rintro e w1 ⟨rfl, b1⟩
      clear CK
      go_wp2_with fail
      go_ret
      exact ⟨rfl, b1⟩
end Go.Proofs.Ytfdoehakpeddnaa

/- Rain and minutes: the program's checks. -/
namespace Go.Proofs.Ytfdoehakpeddnaa
open Go.RowKit

theorem noRain_any (x : Int) (w : World) :
    Calls Try.prog 88 #[.int .i64 x] w fun e w' => e = .returned (.bool (outB x 0 1000)) ∧ Below w.heap.size w w' := by
  have CO := isOutside_any x 0 1000
  generalize outB x 0 1000 = z at *
  go_enter Try.func88, Try.ntmps88
  go_wp2_with fail
  refine (CO _).mono ?_
  rintro e w1 ⟨rfl, b1⟩
  go_wp2_with fail
  go_ret
  exact ⟨rfl, b1⟩
theorem noRain_pred (w : World) : PredI 88 #[] (fun x => outB x 0 1000) w := fun x W _ => noRain_any x W
theorem rain_outs {n : Nat} {r : Nat → Int} : anyI (fun i => outB (r i) 0 1000) n = false ↔ ∀ i, i < n → 0 ≤ r i ∧ r i ≤ 1000 := by
  rw [anyI_f]
  constructor
  · intro h i hi
    have := h i hi
    simp [outB] at this
    omega
  · intro h i hi
    have := h i hi
    simp [outB]
    omega
/-- The code of rain and numbers. -/
noncomputable def Gt.rnC (g : Gt) (n : Nat) (r : Nat → Int) (k : Nat) (f : Nat → Int) : Int := g.ask (g.rnB n r && !anyI (outs f) k)
set_option maxRecDepth 100000 in
set_option maxHeartbeats 2000000 in
theorem checkRain_any (b br bk n k : Nat) (c : Array Value) (g : Gt) (v u x : Value) (r f : Nat → Int) (w : World) (hG : IsGut c g v) (hv : IsList w b v 2 g.m (pipeV g.p)) (hm : g.m ≤ 2000000) (hr : IsList w br u 1 n (fun i => .int .i64 (r i))) (hn : n ≤ 2000000) (hk : IsList w bk x 3 k (fun i => .int .i64 (f i))) (hkn : k ≤ 2000000) :
    Calls Try.prog 55 #[.agg c, u, x] w fun e w' => e = .returned (.int .i64 (g.rnC n r k f)) ∧ Below w.heap.size w w' := by
  have CV := fun W H => implValidGutter_any b c g v W hG H hm
  have CR := fun W H => hasFuncI_any 88 #[] (fun x => outB x 0 1000) (fun _ _ => rfl) u n r W (noRain_pred W) H hn
  have CO := fun W H => hasOut_any bk k x f W H hkn
  have hc := hG.size
  have hco := hG.ones
  have rA : rowAt (w.alloc (.cells c 37)) w.heap.size = some c := rowAt_alloc_at _ _ _ _ rfl
  have hB0 : Below w.heap.size w (w.alloc (.cells c 37)) := (Below.refl _ _).alloc (Nat.le_refl _) _
  have hV := Lib.hid (hv.below hB0 (Nat.le_refl _))
  have HR := Lib.hid hr
  have HK := Lib.hid hk
  have HG := Lib.hid hG
  have g0 := hG.n0
  have g1 := hG.n1
  obtain ⟨a, cap, rfl⟩ := hr.shape
  obtain ⟨a2, cap2, rfl⟩ := hk.shape
  unfold Gt.rnC Gt.ask
  clear hG hv hr hk
  cases hok : g.ok with
  | false =>
    rw [hok] at CV
    clear hok
    go_enter Try.func55, Try.ntmps55
    go_wp2_with fail
    refine (CV _ hV.out).mono ?_
    rintro e w1 ⟨rfl, b1⟩
    have B1 := bnext hB0 b1 hB0.size
    clear b1 CV CR CO
    go_wp2_with fail
    go_ret
    exact ⟨rfl, B1⟩
  | true =>
    rw [hok] at CV
    have hO := Gt.Ok_of hok
    have HO := Lib.hid hO
    clear hok hO
    by_cases hne : (n : Int) = g.n
    · have hnb : ((n : Int) != g.n) = false := by simp [hne]
      have HNE := Lib.hid hne
      clear hne
      cases hra : anyI (fun i => outB (r i) 0 1000) n with
      | true =>
        rw [hra] at CR
        have hX := Lib.hid (show g.rnB n r = false from Gt.rnB_f fun h => by rw [rain_outs.2 h.1] at hra; cases hra)
        rw [hX.out]
        show Calls _ _ _ _ (fun e w' => e = .returned (.int .i64 2) ∧ Below w.heap.size w w')
        clear hra
        go_enter Try.func55, Try.ntmps55
        go_wp2_with fail
        refine (CV _ hV.out).mono ?_
        rintro e w1 ⟨rfl, b1⟩
        have B1 := bnext hB0 b1 hB0.size
        have r1 := brow b1 rA
        have z0 : w1.cell? ⟨w.heap.size, 0, none⟩ = some (.int .i8 g.n) := by rw [cell_of_rowAt r1]; exact HG.out.get0
        have l1 := rowAt_lt r1
        clear b1 CV r1
        go_wp2_with fail
        refine (CR _ (HR.out.below B1 (Nat.le_refl _)).nums).mono ?_
        rintro e w2 ⟨rfl, b2⟩
        have B2 := bnext B1 b2 B1.size
        clear b2 CR
        go_wp2_with fail
        go_ret
        exact ⟨rfl, B2⟩
      | false =>
        rw [hra] at CR
        have hX := Lib.hid (show g.rnB n r = true from Gt.rnB_t ⟨rain_outs.1 hra, HNE.out⟩)
        rw [hX.out]
        clear hra
        cases hou : anyI (outs f) k with
        | true =>
          rw [hou] at CO
          show Calls _ _ _ _ (fun e w' => e = .returned (.int .i64 2) ∧ Below w.heap.size w w')
          clear hou
          go_enter Try.func55, Try.ntmps55
          go_wp2_with fail
          refine (CV _ hV.out).mono ?_
          rintro e w1 ⟨rfl, b1⟩
          have B1 := bnext hB0 b1 hB0.size
          have r1 := brow b1 rA
          have z0 : w1.cell? ⟨w.heap.size, 0, none⟩ = some (.int .i8 g.n) := by rw [cell_of_rowAt r1]; exact HG.out.get0
          have l1 := rowAt_lt r1
          clear b1 CV r1
          go_wp2_with fail
          refine (CR _ (HR.out.below B1 (Nat.le_refl _)).nums).mono ?_
          rintro e w2 ⟨rfl, b2⟩
          have B2 := bnext B1 b2 B1.size
          clear b2 CR
          go_wp2_with fail
          refine (CO _ (HK.out.below B2 (Nat.le_refl _))).mono ?_
          rintro e w3 ⟨rfl, b3⟩
          have B3 := bnext B2 b3 B2.size
          clear b3 CO
          go_wp2_with fail
          go_ret
          exact ⟨rfl, B3⟩
        | false =>
          rw [hou] at CO
          show Calls _ _ _ _ (fun e w' => e = .returned (.int .i64 0) ∧ Below w.heap.size w w')
          clear hou
          go_enter Try.func55, Try.ntmps55
          go_wp2_with fail
          refine (CV _ hV.out).mono ?_
          rintro e w1 ⟨rfl, b1⟩
          have B1 := bnext hB0 b1 hB0.size
          have r1 := brow b1 rA
          have z0 : w1.cell? ⟨w.heap.size, 0, none⟩ = some (.int .i8 g.n) := by rw [cell_of_rowAt r1]; exact HG.out.get0
          have l1 := rowAt_lt r1
          clear b1 CV r1
          go_wp2_with fail
          refine (CR _ (HR.out.below B1 (Nat.le_refl _)).nums).mono ?_
          rintro e w2 ⟨rfl, b2⟩
          have B2 := bnext B1 b2 B1.size
          clear b2 CR
          go_wp2_with fail
          refine (CO _ (HK.out.below B2 (Nat.le_refl _))).mono ?_
          rintro e w3 ⟨rfl, b3⟩
          have B3 := bnext B2 b3 B2.size
          clear b3 CO
          go_wp2_with fail
          go_ret
          exact ⟨rfl, B3⟩
    · have hnb : ((n : Int) != g.n) = true := by simp [hne]
      have hX := Lib.hid (show g.rnB n r = false from Gt.rnB_f fun h => hne h.2)
      rw [hX.out]
      show Calls _ _ _ _ (fun e w' => e = .returned (.int .i64 2) ∧ Below w.heap.size w w')
      clear hne
      go_enter Try.func55, Try.ntmps55
      go_wp2_with fail
      refine (CV _ hV.out).mono ?_
      rintro e w1 ⟨rfl, b1⟩
      have B1 := bnext hB0 b1 hB0.size
      have r1 := brow b1 rA
      have z0 : w1.cell? ⟨w.heap.size, 0, none⟩ = some (.int .i8 g.n) := by rw [cell_of_rowAt r1]; exact HG.out.get0
      have l1 := rowAt_lt r1
      clear b1 CV r1
      go_wp2_with fail
      go_ret
      exact ⟨rfl, B1⟩

theorem IsList.lit3 {w : World} {n base cap : Nat} {y lo hi : Int} (hr : rowAt w n = some #[.int .i64 y, .int .i64 lo, .int .i64 hi]) (hb : base ≤ n) : IsList w base (.slice (some ⟨n, 0, none⟩) 1 cap) 3 1 (fun i => .int .i64 (if i = 0 then y else if i = 1 then lo else hi)) :=
  .inr ⟨n, cap, _, rfl, hb, hr, by simp, fun i hi => by
    match i with
    | 0 => rfl
    | 1 => rfl
    | 2 => rfl
    | n + 3 => omega⟩
theorem outs_one (y lo hi : Int) : anyI (outs (fun i => if i = 0 then y else if i = 1 then lo else hi)) 1 = outB y lo hi := by
  cases h : outB y lo hi with
  | true =>
    cases hx : anyI (outs (fun i => if i = 0 then y else if i = 1 then lo else hi)) 1 with
    | true => rfl
    | false =>
      have := anyI_f.1 hx 0 (by omega)
      simp [outs, h] at this
  | false =>
    rw [anyI_f]
    intro j hj
    obtain rfl : j = 0 := by omega
    simpa [outs] using h
theorem outB_inB (y lo hi : Int) : (!outB y lo hi) = inB y lo hi := by
  unfold outB inB
  by_cases h : y < lo ∨ hi < y
  · rw [decide_eq_true h]; symm; simp; omega
  · rw [decide_eq_false h]; symm; simp; omega
set_option maxRecDepth 100000 in
set_option maxHeartbeats 2000000 in
theorem checkMinutes_any (b br n : Nat) (c : Array Value) (g : Gt) (v u : Value) (d : Array Value) (t r : Nat → Int) (y : Int) (w : World) (hG : IsGut c g v) (hv : IsList w b v 2 g.m (pipeV g.p)) (hm : g.m ≤ 2000000) (hD : IsWat d t) (hr : IsList w br u 1 n (fun i => .int .i64 (r i))) (hn : n ≤ 2000000) :
    Calls Try.prog 50 #[.agg c, .agg d, u, .int .i64 y] w fun e w' => e = .returned (.int .i64 (g.wet t (g.rnB n r && inB y 0 200))) ∧ Below w.heap.size w w' := by
  have CV := fun W H => implValidWater_any b c g v d t W hG H hm hD
  have CR := fun W bk x h1 h2 h3 => checkRain_any b br bk n 1 c g v u x r (fun i => if i = 0 then y else if i = 1 then 0 else 200) W hG h1 hm h2 hn h3 (by omega)
  unfold Gt.rnC at CR
  rw [outs_one, outB_inB] at CR
  have hc := hG.size
  have hco := hG.ones
  have hds := hD.size
  have hdo := hD.ones
  have rA : rowAt ((w.alloc (.cells c 37)).alloc (.cells d 32)) w.heap.size = some c := (rowAt_alloc_past _ _ _ (by simp)).trans (rowAt_alloc_at _ _ _ _ rfl)
  have rD : rowAt ((w.alloc (.cells c 37)).alloc (.cells d 32)) (w.heap.size + 1) = some d := rowAt_alloc_at _ _ _ _ (by simp)
  have hB0 : Below w.heap.size w ((w.alloc (.cells c 37)).alloc (.cells d 32)) := ((Below.refl _ _).alloc (Nat.le_refl _) _).alloc (by simp) _
  have HV := Lib.hid hv
  have HR := Lib.hid hr
  obtain ⟨a, cap, rfl⟩ := hr.shape
  unfold Gt.wet
  clear hG hv hr hD
  cases hwb : g.watB t with
  | false =>
    rw [hwb] at CV
    clear hwb
    go_enter Try.func50, Try.ntmps50
    go_wp2_with fail
    refine (CV _ (HV.out.below hB0 (Nat.le_refl _))).mono ?_
    rintro e w1 ⟨rfl, b1⟩
    have B1 := bnext hB0 b1 hB0.size
    clear b1 CV CR
    go_wp2_with fail
    go_ret
    exact ⟨rfl, B1⟩
  | true =>
    rw [hwb] at CV
    have hok : g.ok = true := by have := (Gt.watB_of hwb).1; simpa [Gt.ok] using this
    unfold Gt.ask at CR
    rw [hok] at CR
    clear hwb hok
    generalize (g.rnB n r && inB y 0 200) = fine at *
    rw [if_pos rfl] at CR ⊢
    generalize (if fine = true then (0 : Int) else 2) = z at *
    go_enter Try.func50, Try.ntmps50
    go_wp2_with fail
    refine (CV _ (HV.out.below hB0 (Nat.le_refl _))).mono ?_
    rintro e w1 ⟨rfl, b1⟩
    have r1 := brow b1 rA
    have B1 := bnext hB0 b1 hB0.size
    have l1 := rowAt_lt r1
    clear b1 CV rA rD hB0
    go_wp2_with fail
    refine gen_callsW fun W hW => ?_
    have qK : rowAt W w1.heap.size = some #[.int .i64 y, .int .i64 0, .int .i64 200] := by rw [hW]; exact rowAt_alloc_at _ _ _ _ rfl
    have qB : Below w.heap.size w W := by rw [hW]; exact B1.alloc B1.size _
    clear hW
    refine (CR _ _ _ (HV.out.below qB (Nat.le_refl _)) (HR.out.below qB (Nat.le_refl _)) (IsList.lit3 qK (Nat.zero_le _))).mono ?_
    rintro e w2 ⟨rfl, b2⟩
    have B2 := bnext qB b2 qB.size
    clear b2 CR qK qB
    go_wp2_with fail
    go_ret
    exact ⟨rfl, B2⟩
end Go.Proofs.Ytfdoehakpeddnaa

/- FewestPipes: both sides. -/
namespace Go.Proofs.Ytfdoehakpeddnaa
open Go.RowKit

/-- The numbers below n of which P holds, as values. -/
def pickV (P : Nat → Bool) (n : Nat) : List Value := ((List.range n).filter P).map fun (i : Nat) => .int .i64 (i : Int)
def pickN (P : Nat → Bool) (n : Nat) : Nat := ((List.range n).filter P).length
def pickF (P : Nat → Bool) (n i : Nat) : Int := (((List.range n).filter P).getD i 0 : Nat)
theorem pickV_t {P : Nat → Bool} {n : Nat} (h : P n = true) : pickV P n ++ [.int .i64 n] = pickV P (n + 1) := by simp [pickV, List.range_succ, List.filter_append, h]
theorem pickV_f {P : Nat → Bool} {n : Nat} (h : P n = false) : pickV P (n + 1) = pickV P n := by simp [pickV, List.range_succ, List.filter_append, h]
theorem pickN_t {P : Nat → Bool} {n : Nat} (h : P n = true) : pickN P (n + 1) = pickN P n + 1 := by simp [pickN, List.range_succ, List.filter_append, h]
theorem pickN_f {P : Nat → Bool} {n : Nat} (h : P n = false) : pickN P (n + 1) = pickN P n := by simp [pickN, List.range_succ, List.filter_append, h]
theorem pickN_le (P : Nat → Bool) (n : Nat) : pickN P n ≤ n := by
  have := List.length_filter_le P (List.range n)
  rw [List.length_range] at this
  exact this
theorem IsList.of_pick {w : World} {base n : Nat} {e : TypeId} {v : Value} {P : Nat → Bool} (h : w.ownsRow base e 1 v (pickN P n) (pickV P n)) : IsList w base v 1 (pickN P n) fun i => .int .i64 (pickF P n i) := by
  obtain ⟨hl, h | ⟨g, cap, cur, rfl, hg, hh, hn, hm, hs, ht⟩⟩ := h
  · exact .inl ⟨h.2, none, 0, by rw [h.1]⟩
  · refine .inr ⟨g, cap, cur, rfl, hg, rowAt_of_heap hh, by omega, fun i hi => ?_⟩
    have h1 : cur[i]? = (cur.toList.take (pickN P n * 1))[i]? := by rw [List.getElem?_take, if_pos hi, Array.getElem?_toList]
    have h2 : i < ((List.range n).filter P).length := by unfold pickN at hi; omega
    show _ = some (Value.int .i64 (pickF P n i))
    unfold pickF
    rw [h1, ht, pickV, List.getElem?_map, List.getD_eq_getElem?_getD, List.getElem?_eq_getElem h2]; rfl

theorem rowAt_grown {w w' : World} {row : Option Nat} {k : Nat} {c : Array Value} (h : w.grownBy w' row) (hr : rowAt w k = some c) (hne : row ≠ some k) : rowAt w' k = some c := by
  rw [← hr]; unfold rowAt; rw [h.block k (rowAt_lt hr) (Ne.symm hne)]
/-- The gutter without its pipes. -/
def Gt.plain (g : Gt) : Gt := { g with m := 0 }
theorem Gt.plain_n (g : Gt) : g.plain.n = g.n := rfl
theorem Gt.plain_m (g : Gt) : g.plain.m = 0 := rfl
theorem Gt.plain_ok {g : Gt} (h : g.Ok) : g.plain.Ok := ⟨h.n1, h.n17, h.d0, h.d1, h.lv, by rw [Gt.plain_m]; omega, h.hs, fun i hi => by rw [Gt.plain_m] at hi; omega⟩
theorem IsGut.plain {c : Array Value} {g : Gt} {v : Value} (h : IsGut c g v) (a : Option Addr) (cap : Nat) : IsGut (Proofs.Ytfdoehakpeddnaa.setP c (.slice a 0 cap)) g.plain (.slice a 0 cap) := by
  have hs := h.size
  refine IsGut.of_get (by simpa using hs) ?_ ?_ (fun i hi => ?_) ?_ ?_ ⟨h.n0, h.n1⟩ ⟨h.d0, h.d1⟩ (fun i hi => ⟨h.h0 i hi, h.h1 i hi⟩) ⟨h.l0, h.l1⟩ (fun i hi => by rw [Gt.plain_m] at hi; omega) ⟨a, cap, rfl⟩
  · unfold Proofs.Ytfdoehakpeddnaa.setP; rw [Array.getElem?_setIfInBounds_ne (by omega)]; exact h.get0
  · unfold Proofs.Ytfdoehakpeddnaa.setP; rw [Array.getElem?_setIfInBounds_ne (by omega)]; exact h.get1
  · unfold Proofs.Ytfdoehakpeddnaa.setP; rw [Array.getElem?_setIfInBounds_ne (by omega)]; exact h.getH hi
  · unfold Proofs.Ytfdoehakpeddnaa.setP; rw [Array.getElem?_setIfInBounds_ne (by omega)]; exact h.getL
  · unfold Proofs.Ytfdoehakpeddnaa.setP; rw [Array.getElem?_setIfInBounds_self_of_lt (by omega)]
/-- A cell that flows to no other one, were there no pipes. -/
noncomputable def Gt.sink (g : Gt) (j : Nat) : Bool := decide (g.plain.to j < 0)
theorem Gt.sink_eq {g : Gt} {j : Nat} (hj : (j : Int) < g.n) : g.sink j = decide (g.plain.to j = -1) := by
  unfold Gt.sink
  rcases Gt.to_cases (g := g.plain) (j := j) (by rw [Gt.plain_n]; exact hj) with h | ⟨q, hq, _, _⟩
  · rw [h]; rfl
  · rw [hq, decide_eq_decide]; omega
noncomputable def Gt.fewN (g : Gt) : Nat := if g.ok = true then pickN g.sink g.n.toNat else 0
theorem Gt.fewN_t {g : Gt} (h : g.ok = true) : g.fewN = pickN g.sink g.n.toNat := if_pos h
theorem Gt.fewN_f {g : Gt} (h : g.ok = false) : g.fewN = 0 := if_neg (by simp [h])
theorem Gt.fewN_le (g : Gt) : g.fewN ≤ 2000000 := by
  cases h : g.ok with
  | true => have := (Gt.Ok_of h).n17; rw [Gt.fewN_t h]; have := pickN_le g.sink g.n.toNat; omega
  | false => rw [Gt.fewN_f h]; omega

end Go.Proofs.Ytfdoehakpeddnaa

/- Lists that grow by append, their cells told by a function. Laws over any program. -/
namespace Go.Proofs.Ytfdoehakpeddnaa
open Go.RowKit

/-- The first n cells. -/
def cellsTo (k : IntKind) (F : Nat → Int) (n : Nat) : List Value := (List.range n).map fun i => .int k (F i)
theorem cellsTo_len (k : IntKind) (F : Nat → Int) (n : Nat) : (cellsTo k F n).length = n := by simp [cellsTo]
theorem cellsTo_two (k : IntKind) (F : Nat → Int) (n : Nat) {a b : Int} (ha : F (n * 2) = a) (hb : F (n * 2 + 1) = b) : cellsTo k F ((n + 1) * 2) = cellsTo k F (n * 2) ++ [.int k a, .int k b] := by
  rw [show (n + 1) * 2 = n * 2 + 1 + 1 from by omega]
  simp [cellsTo, List.range_succ, ha, hb]
theorem cellsTo_one (k : IntKind) (F : Nat → Int) (n : Nat) {a : Int} (ha : F n = a) : cellsTo k F (n + 1) = cellsTo k F n ++ [.int k a] := by
  simp [cellsTo, List.range_succ, ha]
theorem owns_nil (w : World) (base : Nat) (e : TypeId) (size : Nat) (k : IntKind) (F : Nat → Int) : w.ownsRow base e size (.slice none 0 0) 0 (cellsTo k F 0) := ⟨by simp [cellsTo], .inl ⟨rfl, rfl⟩⟩
theorem owns_list {w : World} {base : Nat} {e : TypeId} {v : Value} {sz n : Nat} {k : IntKind} {F : Nat → Int} (o : w.ownsRow base e sz v n (cellsTo k F (n * sz))) : IsList w base v sz n (fun i => .int k (F i)) := by
  obtain ⟨hl, h | ⟨g, cap, cur, rfl, hg, hh, hn, hm, hs, ht⟩⟩ := o
  · exact .inl ⟨h.2, none, 0, by rw [h.1]⟩
  · refine .inr ⟨g, cap, cur, rfl, hg, rowAt_of_heap hh, ?_, fun i hi => ?_⟩
    · rw [hs]; exact Nat.mul_le_mul_right sz hn
    · have h1 : cur[i]? = (cur.toList.take (n * sz))[i]? := by rw [List.getElem?_take, if_pos hi, Array.getElem?_toList]
      rw [h1, ht]
      simp [cellsTo, hi]
theorem owns_kept {w w' : World} {base B : Nat} {e : TypeId} {size : Nat} {v : Value} {n : Nat} {xs : List Value} (h : w.ownsRow base e size v n xs) (b : Below B w w') (hB : w.heap.size ≤ B) : w'.ownsRow base e size v n xs := by
  obtain ⟨hl, h | ⟨g, cap, cur, rfl, hg, hh, hr⟩⟩ := h
  · exact ⟨hl, .inl h⟩
  · exact ⟨hl, .inr ⟨g, cap, cur, rfl, hg, (b.block g (Nat.lt_of_lt_of_le (Array.getElem?_eq_some_iff.1 hh).1 hB)).trans hh, hr⟩⟩
theorem owns_setCell {w : World} {base : Nat} {e : TypeId} {size : Nat} {v : Value} {n : Nat} {xs : List Value} (h : w.ownsRow base e size v n xs) {m : Nat} (hm : m < base) (o : Nat) (x : Value) : (w.setCell ⟨m, o, none⟩ x).ownsRow base e size v n xs := by
  obtain ⟨hl, h | ⟨g, cap, cur, rfl, hg, hh, hr⟩⟩ := h
  · exact ⟨hl, .inl h⟩
  · exact ⟨hl, .inr ⟨g, cap, cur, rfl, hg, (heap_setCell_other w ⟨m, o, none⟩ g x (by simp; omega)).trans hh, hr⟩⟩
theorem owns_base' {W : World} {base : Nat} {e : TypeId} {size n : Nat} {v : Value} {xs : List Value} (h : W.ownsRow base e size v n xs) : ∀ x, v.ownBlock = some x → base ≤ x := fun x hx => by
  obtain ⟨_, ⟨rfl, _⟩ | ⟨g, cap, cur, rfl, hg, _⟩⟩ := h
  · simp [Value.ownBlock] at hx
  · obtain rfl : g = x := by simpa [Value.ownBlock] using hx
    exact hg
theorem owns_shape {W : World} {base : Nat} {e : TypeId} {size n : Nat} {v : Value} {xs : List Value} (h : W.ownsRow base e size v n xs) : ∃ a cap, v = .slice a n cap := by
  obtain ⟨_, ⟨rfl, rfl⟩ | ⟨g, cap, cur, rfl, hg, _⟩⟩ := h
  · exact ⟨none, 0, rfl⟩
  · exact ⟨_, cap, rfl⟩
/-- A row below the grown list's base stays. -/
theorem grown_below {w w' : World} {row : Option Nat} {base : Nat} (h : w.grownBy w' row) {n : Nat} (hn : n < w.heap.size) (hr : ∀ x, row = some x → base ≤ x) (hb : n < base) : rowAt w' n = rowAt w n := by
  unfold rowAt
  rw [h.block n hn (fun e => by have := hr n e.symm; omega)]
theorem cells_new2 {w : World} {n : Nat} (hn : n = w.heap.size) (a b : Value) (t : TypeId) : ∀ j u, ([a, b] : List Value)[j]? = some u → (w.alloc (.cells #[a, b] t)).cell? ((⟨n, 0, none⟩ : Addr).add j) = some u := by
  subst hn
  exact cell_two_new _ _ _ _
/-- append to a list of the call's own, as one step of a region that draws its order. -/
theorem step_append_own {P : Program} {ops : Array Oper} {o : Oper} {a : Act} {w : World} {K : Act → World → Prop} {Q : Exit → Act → World → Prop} {E : Prop}
    (hg : o.guard = none) (s x : Operand) (t : TypeId) (hop : o.op = Op.call { callee := Callee.builtin Builtin.append, args := #[s, x], argTypes := #[t, t] })
    (base : Nat) (e : TypeId) (i : TypeInfo) (z : Value) (size bytes : Nat) (h1 : P.underlying t = some (.slice e)) (h2 : P.info? e = some i) (h3 : i.zero = some z) (h4 : i.size = size) (h5 : i.bytes = bytes) (h6 : z.cells.size = size) (h7 : 0 < size)
    (v : Value) (n : Nat) (xs : List Value) (hs : a.eval s = v) (hown : w.ownsRow base e size v n xs)
    (ad : Addr) (m c : Nat) (news : List Value) (hx : a.eval x = .slice (some ad) m c) (hn : news.length = m * size) (hc : ∀ j u, news[j]? = some u → w.cell? (ad.add j) = some u) (h1c : ∀ u ∈ news, u.oneCell' = true)
    (b1 : n + m ≤ maxLen) (b2 : (n + m) * bytes ≤ 140737488355328) (hb : base ≤ w.heap.size)
    (hK : ∀ v' w', w'.ownsRow base e size v' (n + m) (xs ++ news) → w.grownBy w' v.ownBlock → K (a.put o.dst v') w') :
    if Region.wanted o (yielded ops a.tmps) = true then Oper.wp P o a w K Q else E := by
  have hw : Region.wanted o (yielded ops a.tmps) = true := by simp [Region.wanted, hg]
  rw [if_pos hw]
  obtain ⟨v', w', hrun, r1, r2, _⟩ := run_append_own (P := P) w base t o.type e i z size bytes h1 h2 h3 h4 h5 h6 h7 v n xs hown ad m c news hn hc h1c b1 b2 hb
  unfold Oper.wp
  simp [execOp, hop, resolve, invoke, builtin, hs, hx, hrun, Result.andThen]
  exact hK v' w' r1 r2
theorem owns_zero (w : World) (e : TypeId) (size : Nat) : (w.alloc (.cells #[] e)).ownsRow w.heap.size e size (.slice (some ⟨w.heap.size, 0, none⟩) 0 0) 0 [] :=
  ⟨by simp, .inr ⟨_, 0, #[], rfl, Nat.le_refl _, heap_alloc_new w _, Nat.le_refl _, Nat.zero_le _, by simp, by simp⟩⟩
end Go.Proofs.Ytfdoehakpeddnaa

/- append of another list of the call's own, one that may be empty. Laws over any program. -/
namespace Go.Proofs.Ytfdoehakpeddnaa
open Go.RowKit

theorem append_none {P : Program} {w : World} {t ty e : TypeId} {i : TypeInfo} (ht : P.underlying t = some (.slice e)) (hi : P.info? e = some i) (va : Option Addr) (vn vc : Nat) (hvc : vn ≤ vc) (c : Nat) (ad : Addr) :
    (Builtin.append_ #[t, t] ty #[.slice va vn vc, .slice none 0 c]).run P w = (Builtin.append_ #[t, t] ty #[.slice va vn vc, .slice (some ad) 0 c]).run P w := by
  simp [Builtin.append_, run_underlying ht, sizeOf, typeInfo, hi, Builtin.lenOf, Builtin.firstCells, loadCells, loadCellsFrom, hvc]
theorem owns_shapeC {W : World} {base : Nat} {e : TypeId} {size n : Nat} {v : Value} {xs : List Value} (h : W.ownsRow base e size v n xs) : ∃ a cap, v = .slice a n cap ∧ n ≤ cap := by
  obtain ⟨_, ⟨rfl, rfl⟩ | ⟨g, cap, cur, rfl, hg, _, hn, _⟩⟩ := h
  · exact ⟨none, 0, rfl, Nat.le_refl _⟩
  · exact ⟨_, cap, rfl, hn⟩
/-- append of a list of the call's own, as one step. -/
theorem run_append_list {P : Program} (w : World) (base base' : Nat) (t ty e : TypeId) (i : TypeInfo) (z : Value) (size bytes : Nat) (ht : P.underlying t = some (.slice e)) (hi : P.info? e = some i) (hz : i.zero = some z)
    (hsize : i.size = size) (hby : i.bytes = bytes) (hzs : z.cells.size = size) (hsz : 0 < size)
    (v : Value) (n : Nat) (xs : List Value) (hown : w.ownsRow base e size v n xs)
    (u : Value) (m : Nat) (news : List Value) (hu : IsList w base' u size m (fun j => news.getD j undef)) (hl : news.length = m * size) (h1 : ∀ u ∈ news, u.oneCell' = true)
    (h63 : n + m ≤ maxLen) (hbytes : (n + m) * bytes ≤ 140737488355328) (hbase : base ≤ w.heap.size) :
    ∃ v' w', (Builtin.append_ #[t, t] ty #[v, u]).run P w = .ok v' w' ∧ w'.ownsRow base e size v' (n + m) (xs ++ news) ∧ w.grownBy w' v.ownBlock := by
  rcases hu with ⟨rfl, a, cap, rfl⟩ | ⟨g, cap, cur, rfl, hg, hr, hs, hf⟩
  · obtain rfl : news = [] := List.eq_nil_of_length_eq_zero (by simpa using hl)
    cases a with
    | some a =>
      obtain ⟨v', w', r, o, gr, _⟩ := run_append_own (P := P) w base t ty e i z size bytes ht hi hz hsize hby hzs hsz v n xs hown a 0 cap [] (by simp) (by simp) (by simp) h63 hbytes hbase
      exact ⟨v', w', r, o, gr⟩
    | none =>
      obtain ⟨va, vc, rfl, hvc⟩ := owns_shapeC hown
      obtain ⟨v', w', r, o, gr, _⟩ := run_append_own (P := P) w base t ty e i z size bytes ht hi hz hsize hby hzs hsz _ n xs hown ⟨0, 0, none⟩ 0 cap [] (by simp) (by simp) (by simp) h63 hbytes hbase
      exact ⟨v', w', (append_none ht hi va n vc hvc cap ⟨0, 0, none⟩).trans r, o, gr⟩
  · obtain ⟨v', w', r, o, gr, _⟩ := run_append_own (P := P) w base t ty e i z size bytes ht hi hz hsize hby hzs hsz v n xs hown ⟨g, 0, none⟩ m cap news hl (fun j x hj => by
      have hjl : j < news.length := (List.getElem?_eq_some_iff.1 hj).1
      have := hf j (by omega)
      dsimp only at this
      rw [List.getD_eq_getElem?_getD, hj] at this
      have ea : (⟨g, 0, none⟩ : Addr).add j = ⟨g, j, none⟩ := by unfold Addr.add; split <;> simp_all
      rw [ea, cell_of_rowAt hr]
      exact this) h1 h63 hbytes hbase
    exact ⟨v', w', r, o, gr⟩
theorem step_append_list {P : Program} {ops : Array Oper} {o : Oper} {a : Act} {w : World} {K : Act → World → Prop} {Q : Exit → Act → World → Prop} {E : Prop}
    (hg : o.guard = none) (s x : Operand) (t : TypeId) (hop : o.op = Op.call { callee := Callee.builtin Builtin.append, args := #[s, x], argTypes := #[t, t] })
    (base base' : Nat) (e : TypeId) (i : TypeInfo) (z : Value) (size bytes : Nat) (h1 : P.underlying t = some (.slice e)) (h2 : P.info? e = some i) (h3 : i.zero = some z) (h4 : i.size = size) (h5 : i.bytes = bytes) (h6 : z.cells.size = size) (h7 : 0 < size)
    (v : Value) (n : Nat) (xs : List Value) (hs : a.eval s = v) (hown : w.ownsRow base e size v n xs)
    (u : Value) (m : Nat) (news : List Value) (hx : a.eval x = u) (hu : IsList w base' u size m (fun j => news.getD j undef)) (hn : news.length = m * size) (h1c : ∀ u ∈ news, u.oneCell' = true)
    (b1 : n + m ≤ maxLen) (b2 : (n + m) * bytes ≤ 140737488355328) (hb : base ≤ w.heap.size)
    (hK : ∀ v' w', w'.ownsRow base e size v' (n + m) (xs ++ news) → w.grownBy w' v.ownBlock → K (a.put o.dst v') w') :
    if Region.wanted o (yielded ops a.tmps) = true then Oper.wp P o a w K Q else E := by
  have hw : Region.wanted o (yielded ops a.tmps) = true := by simp [Region.wanted, hg]
  rw [if_pos hw]
  obtain ⟨v', w', hrun, r1, r2⟩ := run_append_list (P := P) w base base' t o.type e i z size bytes h1 h2 h3 h4 h5 h6 h7 v n xs hown u m news hu hn h1c b1 b2 hb
  unfold Oper.wp
  simp [execOp, hop, resolve, invoke, builtin, hs, hx, hrun, Result.andThen]
  exact hK v' w' r1 r2
theorem wpList_append_list {P : Program} {w : World} {ops : Array Oper} {rest : List Oper} {o : Oper} {a : Act} {Q : Exit → Act → World → Prop} (hgd : o.guard = none) (s x : Operand) (t : TypeId)
    (ho : o.op = .call { callee := .builtin .append, args := #[s, x], argTypes := #[t, t] })
    (base base' : Nat) (e : TypeId) (i : TypeInfo) (z : Value) (size bytes : Nat) (ht : P.underlying t = some (.slice e)) (hi : P.info? e = some i) (hz : i.zero = some z)
    (hsize : i.size = size) (hby : i.bytes = bytes) (hzs : z.cells.size = size) (hsz : 0 < size)
    (v : Value) (n : Nat) (xs : List Value) (hs : a.eval s = v) (hown : w.ownsRow base e size v n xs)
    (u : Value) (m : Nat) (news : List Value) (hx : a.eval x = u) (hu : IsList w base' u size m (fun j => news.getD j undef)) (hl : news.length = m * size) (h1 : ∀ u ∈ news, u.oneCell' = true)
    (h63 : n + m ≤ maxLen) (hbytes : (n + m) * bytes ≤ 140737488355328) (hbase : base ≤ w.heap.size)
    (h : ∀ v' w', w'.ownsRow base e size v' (n + m) (xs ++ news) → w.grownBy w' v.ownBlock → wpList P ops Q rest (a.put o.dst v') w') :
    wpList P ops Q (o :: rest) a w := by
  refine wpList_plain hgd fun K hK => ?_
  obtain ⟨v', w', hr, h2, h3⟩ := run_append_list (P := P) w base base' t o.type e i z size bytes ht hi hz hsize hby hzs hsz v n xs hown u m news hu hl h1 h63 hbytes hbase
  unfold Oper.wp execOp
  simp only [ho, resolve, invoke, builtin, Sem.run_bind, Sem.run_pure, Result.andThen_ok, List.map_toArray, List.map_cons, List.map_nil, hs, hx, hr]
  exact hK _ _ (h v' w' h2 h3)
end Go.Proofs.Ytfdoehakpeddnaa

/- The ends of functions that return a struct and a code. -/
namespace Go.Proofs.Ytfdoehakpeddnaa
open Go.RowKit
section
variable {P : Program} {ty : TypeId} {d : TypeDesc} {m : Nat}
theorem results_row2 {fn : Func} {p u : Tmp} (h : fn.results = #[.cell p ty, .tmp u]) (tmps : Array Value) (w : World) (n : Nat) (c : Array Value) (x : Value) (hp : tmps.getD p undef = .pointer (some ⟨n, 0, none⟩))
    (hx : tmps.getD u undef = x) (hr : rowAt w n = some c) (hu : P.underlying ty = some d) (hd : (match d with | .struct _ | .array _ _ => true | _ => false) = true) (hi : (P.info? ty).map (·.size) = some m) (hm : c.size = m) :
    (results fn tmps).run P w = .ok (.tuple #[.agg c, x]) w := by
  obtain ⟨t, ht⟩ := rowAt_some hr
  subst hm
  have hp' : tmps[p]?.getD undef = .pointer (some ⟨n, 0, none⟩) := by simpa using hp
  have hx' : tmps[u]?.getD undef = x := by simpa using hx
  simp [results, h, hp', hx', asAddr, run_loadVar_row w n t ty c _ d ht hu hd hi]
end

@[go_sem] theorem Ones.set {c : Array Value} (h : Ones c) (i : Nat) (v : Value) (hv : v.oneCell' = true) : Ones (c.setIfInBounds i v) := by
  refine Ones.of_get fun j hj => ?_
  have hj' : j < c.size := by simpa using hj
  rw [Array.getElem_setIfInBounds hj']
  split
  · exact hv
  · exact h _ (Array.getElem_mem _)
@[go_sem] theorem oneCell_int (k : IntKind) (n : Int) : (Value.int k n).oneCell' = true := rfl

theorem get_of {c : Array Value} {i : Nat} {v : Value} (h : c[i]? = some v) (hi : i < c.size) : c[i] = v := by
  rw [Array.getElem?_eq_getElem hi] at h; exact Option.some.inj h

/-- A roof with other numbers at its head. -/
theorem IsRoof.head {c : Array Value} {r : Rf} (h : IsRoof c r) (a b s : Int) (ha : -128 ≤ a ∧ a ≤ 127) (hb : -128 ≤ b ∧ b ≤ 127) (hs : 0 ≤ s ∧ s ≤ 255) :
    IsRoof (((c.setIfInBounds 0 (.int .i8 a)).setIfInBounds 1 (.int .i8 b)).setIfInBounds 2 (.int .u8 s)) ⟨a, b, s, r.t⟩ where
  size := by simpa using h.size
  wide hh := get_of (by have := h.size; simp [this]) hh
  high hh := get_of (by have := h.size; simp [this]) hh
  shift hh := get_of (by have := h.size; simp [this]) hh
  tiles := ⟨by have := h.size; simp [this], fun i hi => by
    have hs := h.size
    have hi' : i < 64 := by simp [hs] at hi; omega
    refine get_of ?_ hi
    rw [get_extract _ _ _ _ (by omega) (by simp [hs])]
    simp only [Array.getElem?_setIfInBounds_ne (show 2 ≠ 3 + i by omega), Array.getElem?_setIfInBounds_ne (show 1 ≠ 3 + i by omega), Array.getElem?_setIfInBounds_ne (show 0 ≠ 3 + i by omega)]
    rw [Array.getElem?_eq_getElem (by omega), h.tile _ _ (by omega), show 3 + i - 3 = i from by omega], h.tiles.lo, h.tiles.hi⟩
  w0 := ha.1
  w1 := ha.2
  h0 := hb.1
  h1 := hb.2
  s0 := hs.1
  s1 := hs.2

/-- What a region's walk keeps: a roof's row and a place's row, and the place's two cells. -/
theorem keepP {B n m : Nat} {w W w1 : World} {c : Array Value} {x y : Value} (b : Below W.heap.size W w1)
    (h : rowAt W n = some c ∧ (W.cell? ⟨m, 0, none⟩ = some x ∧ W.cell? ⟨m, 1, none⟩ = some y) ∧ rowAt W m = some #[x, y] ∧ Below B w W ∧ B ≤ W.heap.size) :
    rowAt w1 n = some c ∧ (w1.cell? ⟨m, 0, none⟩ = some x ∧ w1.cell? ⟨m, 1, none⟩ = some y) ∧ rowAt w1 m = some #[x, y] ∧ Below B w w1 ∧ B ≤ w1.heap.size :=
  have q := brow b h.2.2.1
  ⟨brow b h.1, ⟨by rw [cell_of_rowAt q]; rfl, by rw [cell_of_rowAt q]; rfl⟩, q, bnext h.2.2.2.1 b h.2.2.2.2, Nat.le_trans h.2.2.2.2 b.size⟩
theorem keepP0 {B n m : Nat} {w W : World} {c : Array Value} {x y : Value} (h0 : rowAt W n = some c) (h1 : rowAt W m = some #[x, y]) (hB : Below B w W) (hs : B ≤ W.heap.size) :
    rowAt W.drew n = some c ∧ (W.drew.cell? ⟨m, 0, none⟩ = some x ∧ W.drew.cell? ⟨m, 1, none⟩ = some y) ∧ rowAt W.drew m = some #[x, y] ∧ Below B w W.drew ∧ B ≤ W.drew.heap.size :=
  ⟨h0, ⟨(cell_of_rowAt h1 0).trans rfl, (cell_of_rowAt h1 1).trans rfl⟩, h1, hB.drew, hs⟩
end Go.Proofs.Ytfdoehakpeddnaa

/- Pipes copied, and gutters without leaves in a cell. -/
namespace Go.Proofs.Ytfdoehakpeddnaa
open Go.RowKit

def pipesV (f : Nat → Int) (n : Nat) : List Value := (List.range (n * 2)).map (pipeV f)
theorem pipesV_len (f : Nat → Int) (n : Nat) : (pipesV f n).length = n * 2 := by simp [pipesV]
theorem pipesV_get {f : Nat → Int} {n i : Nat} (h : i < n * 2) : (pipesV f n).getD i undef = pipeV f i := by
  rw [List.getD_eq_getElem?_getD, pipesV, List.getElem?_map, List.getElem?_range h]; rfl
theorem pipesV_one (f : Nat → Int) (n : Nat) : ∀ u ∈ pipesV f n, u.oneCell' = true := by
  intro u hu
  simp only [pipesV, List.mem_map] at hu
  obtain ⟨i, _, rfl⟩ := hu
  unfold pipeV
  split <;> rfl
theorem IsList.news {w : World} {b n : Nat} {v : Value} {f : Nat → Int} (h : IsList w b v 2 n (pipeV f)) : IsList w b v 2 n (fun j => (pipesV f n).getD j undef) := by
  rcases h with h | ⟨g, cap, cur, rfl, hg, hr, hs, hf⟩
  · exact .inl h
  · exact .inr ⟨g, cap, cur, rfl, hg, hr, hs, fun i hi => by rw [hf i hi]; exact congrArg some (pipesV_get (by omega)).symm⟩
theorem IsList.of_pipesV {w : World} {base n : Nat} {e : TypeId} {v : Value} {f : Nat → Int} (h : w.ownsRow base e 2 v n (pipesV f n)) : IsList w base v 2 n (pipeV f) := by
  obtain ⟨hl, h | ⟨g, cap, cur, rfl, hg, hh, hn, hm, hs, ht⟩⟩ := h
  · exact .inl ⟨h.2, none, 0, by rw [h.1]⟩
  · refine .inr ⟨g, cap, cur, rfl, hg, rowAt_of_heap hh, by have := Nat.mul_le_mul_right 2 hn; omega, fun i hi => ?_⟩
    have h1 : cur[i]? = (cur.toList.take (n * 2))[i]? := by rw [List.getElem?_take, if_pos (by omega), Array.getElem?_toList]
    rw [h1, ht, pipesV, List.getElem?_map, List.getElem?_range (by omega)]; rfl

set_option maxRecDepth 100000 in
set_option maxHeartbeats 1000000 in
theorem clonePp_any (b n : Nat) (v : Value) (f : Nat → Int) (w : World) (hv : IsList w b v 2 n (pipeV f)) (hn : n ≤ 2000000) :
    Calls Try.prog 95 #[v] w fun e w' => ∃ a cap, e = .returned (.slice a n cap) ∧ IsList w' w.heap.size (.slice a n cap) 2 n (pipeV f) ∧ Below w.heap.size w w' := by
  obtain ⟨i0, hi0, hz0, hz1, hz2⟩ := info_parts A_infoPp
  have HV := Lib.hid hv
  obtain ⟨a, cap, rfl⟩ := hv.shape
  have hnil := fun W : World => Lib.run_eql_slice_nil (P := Try.prog) W 35 98 a n cap 0 0 Try.underlying35
  have own : (w.alloc (.cells #[] 98)).ownsRow w.heap.size 98 2 (.slice (some ⟨w.heap.size, 0, none⟩) 0 0) 0 [] := owns_empty w 98 2
  have hl1 : IsList (w.alloc (.cells #[] 98)) b (.slice a n cap) 2 n (fun j => (pipesV f n).getD j undef) := (hv.below ((Below.refl _ _).alloc (Nat.le_refl _) _) (Nat.le_refl _)).news
  cases a with
  | none =>
    have h0 : n = 0 := by
      rcases hv with ⟨h, _⟩ | ⟨g, cap', cur, h, _⟩
      · exact h
      · cases h
    subst h0
    simp only [Option.isNone_none] at hnil
    clear hv own hl1
    go_enter Try.func95, Try.ntmps95
    go_wp2_with fail
    go_ret
    exact ⟨none, 0, rfl, .inl ⟨rfl, _, _, rfl⟩, Below.refl _ _⟩
  | some a =>
    simp only [Option.isNone_some] at hnil
    have HL := Lib.hid hl1
    have HO := Lib.hid own
    clear hv own hl1
    go_enter Try.func95, Try.ntmps95
    go_wp2_with (at_builtin; refine wpList_append_list rfl _ _ 35 rfl w.heap.size b 98 i0 (.agg #[.int .i8 0, .int .i16 0]) 2 4 Try.underlying35 hi0 hz0 hz1 hz2 rfl (by decide) _ _ _ rfl HO.out _ n (pipesV f n) rfl HL.out (pipesV_len f n) (pipesV_one f n) (by unfold maxLen; omega) (by omega) (by simp) ?_; intro v3 w3 own3 grow3)
    have B3 : Below w.heap.size w w3 := ((Below.refl w.heap.size w).alloc (Nat.le_refl _) _).grown grow3 (by simp) (by intro x hx; cases hx; exact Nat.le_refl _)
    rw [Nat.zero_add, List.nil_append] at own3
    have hl := IsList.of_pipesV own3
    obtain ⟨a3, cap3, rfl⟩ := hl.shape
    clear own3 grow3
    go_wp2_with fail
    go_ret
    exact ⟨a3, cap3, rfl, hl, B3⟩

theorem grown3 {w w3 : World} {z c : Array Value} {t1 t2 t3 : TypeId} (h : (((w.alloc (.cells z t1)).alloc (.cells c t2)).alloc (.cells #[] t3)).grownBy w3 (some (w.heap.size + 1 + 1))) :
    rowAt w3 w.heap.size = some z ∧ rowAt w3 (w.heap.size + 1) = some c ∧ Below w.heap.size w w3 := by
  refine ⟨rowAt_grown h ((rowAt_alloc_past _ _ _ (by simp; omega)).trans ((rowAt_alloc_past _ _ _ (by simp)).trans (rowAt_alloc_at _ _ _ _ rfl))) (by simp; omega), rowAt_grown h ((rowAt_alloc_past _ _ _ (by simp)).trans (rowAt_alloc_at _ _ _ _ (by simp))) (by simp), ?_⟩
  exact ((((Below.refl _ _).alloc (Nat.le_refl _) _).alloc (by simp) _).alloc (by simp; omega) _).grown h (by simp; omega) (by intro x hx; cases hx; omega)
theorem own_at {W : World} {n : Nat} {e : TypeId} {size : Nat} (h : W.heap.size = n) : (W.alloc (.cells #[] e)).ownsRow n e size (.slice (some ⟨n, 0, none⟩) 0 0) 0 [] := by subst h; exact owns_empty W e size
set_option maxRecDepth 100000 in
set_option maxHeartbeats 2000000 in
theorem l06Own_any (k b : Nat) (c : Array Value) (g : Gt) (v : Value) (w : World) (hA : GutAt w k c g v b) (hm : g.m ≤ 2000000) :
    Calls Try.prog 64 #[.pointer (some ⟨k, 0, none⟩)] w fun e w' => ∃ a cap, e = .returned (.agg (setP c (.slice a g.m cap))) ∧ IsList w' w.heap.size (.slice a g.m cap) 2 g.m (pipeV g.p) ∧ Below w.heap.size w w' := by
  obtain ⟨i0, hi0, hz0, hz1, hz2⟩ := info_parts A_infoPp
  have HA := Lib.hid hA
  have hr := hA.row
  have hc := hA.is.size
  have ho := hA.is.ones
  have hlt := hA.lt
  obtain ⟨a, cap, rfl⟩ := hA.pipes.shape
  have z20 : w.cell? ⟨k, 20, none⟩ = some (.slice a g.m cap) := by rw [cell_of_rowAt hr]; exact hA.is.getP
  have hlt1 : k < w.heap.size + 1 := by omega
  have hlt2 : k < w.heap.size + 1 + 1 := by omega
  have hl0 : w.heap.size ≠ k := by omega
  have hl1 : w.heap.size + 1 ≠ k := by omega
  have hl2 : w.heap.size + 1 + 1 ≠ k := by omega
  clear hA
  go_enter Try.func64, Try.ntmps64
  go_wp2_with (at_builtin; refine wpList_append_list rfl _ _ 35 rfl (w.heap.size + 1 + 1) b 98 i0 (.agg #[.int .i8 0, .int .i16 0]) 2 4 Try.underlying35 hi0 hz0 hz1 hz2 rfl (by decide) _ _ _ rfl (own_at (by simp)) _ g.m (pipesV g.p g.m) rfl (HA.out.pipes.below ((((Below.refl _ _).alloc (Nat.le_refl _) _).alloc (by simp) _).alloc (by simp; omega) _) (Nat.le_refl _)).news (pipesV_len g.p g.m) (pipesV_one g.p g.m) (by unfold maxLen; omega) (by omega) (by simp) ?_)
  intro v3 w3 own3 grow3
  obtain ⟨g0, g1, gB⟩ := grown3 grow3
  clear grow3
  try rw [Nat.zero_add] at own3
  try rw [List.nil_append] at own3
  have hl3 := IsList.of_pipesV own3
  clear own3
  obtain ⟨a3, cap3, rfl⟩ := hl3.shape
  have cl1 := cell_of_rowAt g1
  have f1 := frozen_of_rowAt g1
  have x20 : w3.cell? ⟨w.heap.size + 1, 20, none⟩ = some (c[20]'(by omega)) := by rw [cl1, Array.getElem?_eq_getElem]
  clear cl1
  have lt1 := rowAt_lt g1
  have lt0 := rowAt_lt g0
  have hso : Ones (c.setIfInBounds 20 (.slice a3 g.m cap3)) := (HA.out.is.setP' a3 cap3).ones
  have hss : (c.setIfInBounds 20 (.slice a3 g.m cap3)).size = 21 := by simpa using hc
  have ne01 : w.heap.size ≠ w.heap.size + 1 := by omega
  repeat go_step
  refine bodyPost_ret (v := .agg (setP c (.slice a3 g.m cap3))) (results_row1 rfl _ _ w.heap.size _ rfl (rowAt_setRow_at _ _ _ (by rw [rowAt_setCell_ne _ _ _ _ _ ne01, g0]; rfl)) Try.underlying37 rfl (by kernel_rfl) hss) rfl ⟨a3, cap3, rfl, ?_, below_setRow (gB.setCell (p := ⟨_, _, none⟩) (by simp) _) (Nat.le_refl _) _⟩
  rcases hl3 with h | ⟨gb, cc, cur, e, hg, hr, hs, hf⟩
  · exact .inl h
  · refine .inr ⟨gb, cc, cur, e, by omega, ?_, hs, hf⟩
    rw [rowAt_setRow_ne _ _ _ _ (by omega), rowAt_setCell_ne _ _ _ _ _ (by omega)]
    exact hr

theorem bits_u32 (op : BinOp) (x y : Int) : 0 ≤ bits op .u32 x y ∧ bits op .u32 x y ≤ 4294967295 := by
  unfold bits IntKind.wrap
  simp only [IntKind.bits, IntKind.signed, Bool.false_and, Bool.false_eq_true, if_false]
  omega
/-- The gutter without leaves in a cell. -/
def Gt.clrL (g : Gt) (j : Nat) : Int := bits .andNot .u32 g.l (IntKind.u32.wrap (2 ^ j))
def Gt.clr (g : Gt) (j : Nat) : Gt := { g with l := g.clrL j }
theorem Gt.clr_m (g : Gt) (j : Nat) : (g.clr j).m = g.m := rfl
theorem Gt.clr_p (g : Gt) (j : Nat) : (g.clr j).p = g.p := rfl
theorem IsGut.clr {c : Array Value} {g : Gt} {v : Value} (h : IsGut c g v) (j : Nat) : IsGut (c.setIfInBounds 19 (.int .u32 (g.clrL j))) (g.clr j) v := by
  have hs := h.size
  refine IsGut.of_get (by simpa using hs) ?_ ?_ (fun i hi => ?_) ?_ ?_ ⟨h.n0, h.n1⟩ ⟨h.d0, h.d1⟩ (fun i hi => ⟨h.h0 i hi, h.h1 i hi⟩) (show 0 ≤ g.clrL j ∧ g.clrL j ≤ 4294967295 from bits_u32 _ _ _) h.p0 h.vs
  · rw [Array.getElem?_setIfInBounds_ne (by omega)]; exact h.get0
  · rw [Array.getElem?_setIfInBounds_ne (by omega)]; exact h.get1
  · rw [Array.getElem?_setIfInBounds_ne (by omega)]; exact h.getH hi
  · rw [Array.getElem?_setIfInBounds_self_of_lt (by omega)]; rfl
  · rw [Array.getElem?_setIfInBounds_ne (by omega)]; exact h.getP

set_option maxRecDepth 100000 in
set_option maxHeartbeats 2000000 in
theorem cleaned_any (b : Nat) (c : Array Value) (g : Gt) (v : Value) (j : Nat) (w : World) (hG : IsGut c g v) (hv : IsList w b v 2 g.m (pipeV g.p)) (hj : j < 32) (hm : g.m ≤ 2000000) :
    Calls Try.prog 63 #[.agg c, .int .i64 j] w fun e w' => ∃ a cap, e = .returned (.agg (setP (c.setIfInBounds 19 (.int .u32 (g.clrL j))) (.slice a g.m cap))) ∧ IsList w' w.heap.size (.slice a g.m cap) 2 g.m (pipeV g.p) ∧ Below w.heap.size w w' := by
  have HG := Lib.hid hG
  have hc := hG.size
  have ho := hG.ones
  have k19 := hG.leaves
  have l0 := hG.l0
  have l1 := hG.l1
  have j0 : 0 ≤ (j : Int) := by omega
  have jn : (j : Int).toNat = j := by omega
  clear hG
  go_enter Try.func63, Try.ntmps63
  go_wp2_with fail
  refine gen_world fun W hW => ?_
  have q0 : rowAt W w.heap.size = some c := by rw [hW]; exact (rowAt_alloc_past _ _ _ (by simp)).trans (rowAt_alloc_at _ _ _ _ rfl)
  obtain ⟨z, q1, hz⟩ : ∃ z : Array Value, rowAt W (w.heap.size + 1) = some z ∧ z.size = 21 := by rw [hW]; exact ⟨_, rowAt_alloc_at _ _ _ _ (by simp), by simp⟩
  have B0 : Below w.heap.size w W := by rw [hW]; exact ((Below.refl _ _).alloc (Nat.le_refl _) _).alloc (by simp) _
  clear hW
  obtain ⟨a, cap, rfl⟩ := hv.shape
  have z20 : W.cell? ⟨w.heap.size, 20, none⟩ = some (.slice a g.m cap) := by rw [cell_of_rowAt q0]; exact HG.out.getP
  have z19 : W.cell? ⟨w.heap.size, 19, none⟩ = some (.int .u32 g.l) := by rw [cell_of_rowAt q0, Array.getElem?_eq_getElem (by omega), k19]
  have f0 := frozen_of_rowAt q0
  have lt0 := rowAt_lt q0
  go_still_tail 6, (by kernel_rfl)
  change wpList _ _ _ _ _ W.drew
  repeat go_step
  refine gen_callsW fun W1 hW1 => ?_
  have p0 : rowAt W1 w.heap.size = some (c.setIfInBounds 19 (.int .u32 (g.clrL j))) := by
    rw [hW1]
    have := rowAt_setCell_at W w.heap.size 19 (.int .u32 (g.clrL j)) (by rw [q0]; rfl)
    rw [q0, Option.getD_some] at this
    exact this
  have p1 : rowAt W1 (w.heap.size + 1) = some z := by rw [hW1]; exact (rowAt_setCell_ne _ _ _ _ _ (by omega)).trans q1
  have PB : Below w.heap.size w W1 := by rw [hW1]; exact (B0.setCell (p := ⟨w.heap.size, 19, none⟩) (Nat.le_refl _) _).drew
  have HC := Lib.hid (HG.out.clr j)
  have hc1 : (c.setIfInBounds 19 (.int .u32 (g.clrL j))).size = 21 := by simpa using hc
  clear hW1 q0 q1 B0 z19 z20 f0 lt0 k19
  obtain ⟨c1, hX⟩ : ∃ c1, c.setIfInBounds 19 (.int .u32 (g.clrL j)) = c1 := ⟨_, rfl⟩
  rw [hX] at p0 HC hc1
  have HX := Lib.hid hX
  clear hX
  refine (clonePp_any b g.m _ g.p W1 (hv.below PB (Nat.le_refl _)) hm).mono ?_
  rintro e w2 ⟨a2, cap2, rfl, l2, b2⟩
  have s0 := brow b2 p0
  have s1 := brow b2 p1
  have SB := bnext PB b2 PB.size
  have x20 : w2.cell? ⟨w.heap.size, 20, none⟩ = some (c1[20]'(by omega)) := by rw [cell_of_rowAt s0, Array.getElem?_eq_getElem]
  have f1 := frozen_of_rowAt s0
  have lt1 := rowAt_lt s1
  have lt0 := rowAt_lt s0
  have hso : Ones (c1.setIfInBounds 20 (.slice a2 g.m cap2)) := (HC.out.setP' a2 cap2).ones
  have hss : (c1.setIfInBounds 20 (.slice a2 g.m cap2)).size = 21 := by simpa using hc1
  have ne01 : w.heap.size + 1 ≠ w.heap.size := by omega
  have HL := Lib.hid l2
  have lt2 : w.heap.size + 1 < W1.heap.size := rowAt_lt p1
  have HLT := Lib.hid lt2
  clear b2 p0 p1 PB l2 lt2
  go_wp2_with fail
  refine bodyPost_ret (v := .agg (setP c1 (.slice a2 g.m cap2))) (results_row1 rfl _ _ (w.heap.size + 1) _ rfl (rowAt_setRow_at _ _ _ (by rw [rowAt_setCell_ne _ _ _ _ _ ne01, s1]; rfl)) Try.underlying37 rfl (by kernel_rfl) hss) rfl ⟨a2, cap2, by rw [HX.out], ?_, below_setRow (SB.setCell (p := ⟨_, _, none⟩) (Nat.le_refl _) _) (by omega) _⟩
  have hB2 := HLT.out
  rcases HL.out with h | ⟨gb, cc, cur, e, hg, hr, hs, hf⟩
  · exact .inl h
  · refine .inr ⟨gb, cc, cur, e, by omega, ?_, hs, hf⟩
    rw [rowAt_setRow_ne _ _ _ _ (by omega), rowAt_setCell_ne _ _ _ _ _ (by omega)]
    exact hr

/-- The gutter of nothing. -/
def Gt.zero : Gt := ⟨0, 0, fun _ => 0, 0, 0, fun _ => 0⟩
def zeroG : Array Value := #[.int .i8 0, .int .i16 0, .int .i8 0, .int .i8 0, .int .i8 0, .int .i8 0, .int .i8 0, .int .i8 0, .int .i8 0, .int .i8 0, .int .i8 0, .int .i8 0, .int .i8 0, .int .i8 0, .int .i8 0, .int .i8 0, .int .i8 0, .int .i8 0, .int .i8 0, .int .u32 0, .slice none 0 0]
theorem isGut_zero : IsGut zeroG Gt.zero (.slice none 0 0) := by
  refine IsGut.of_get rfl rfl rfl (fun i hi => ?_) rfl rfl ⟨by decide, by decide⟩ ⟨by decide, by decide⟩ (fun i hi => ⟨by show (-128 : Int) ≤ 0; omega, by show (0 : Int) ≤ 127; omega⟩) ⟨by decide, by decide⟩ (fun i hi => absurd hi (Nat.not_lt_zero i)) ⟨_, _, rfl⟩
  match i with
  | 0 => rfl
  | 1 => rfl
  | 2 => rfl
  | 3 => rfl
  | 4 => rfl
  | 5 => rfl
  | 6 => rfl
  | 7 => rfl
  | 8 => rfl
  | 9 => rfl
  | 10 => rfl
  | 11 => rfl
  | 12 => rfl
  | 13 => rfl
  | 14 => rfl
  | 15 => rfl
  | 16 => rfl
  | n + 17 => omega
/-- The answer of CleanLeaf. -/
noncomputable def Gt.clG (g : Gt) (y : Int) : Gt := if g.ask (inB y 0 (g.n - 1)) = 0 ∧ g.leaf y.toNat = true then g.clr y.toNat else Gt.zero
noncomputable def Gt.clC (g : Gt) (y : Int) : Int := if g.ask (inB y 0 (g.n - 1)) = 0 then (if g.leaf y.toNat = true then 0 else 4) else g.ask (inB y 0 (g.n - 1))
theorem Gt.clG_le (g : Gt) (y : Int) (h : g.m ≤ 2000000) : (g.clG y).m ≤ 2000000 := by
  unfold Gt.clG
  split
  · exact h
  · exact Nat.zero_le _
theorem Gt.cl_a {g : Gt} {y : Int} (h : g.ask (inB y 0 (g.n - 1)) ≠ 0) : g.clG y = Gt.zero ∧ g.clC y = g.ask (inB y 0 (g.n - 1)) := ⟨if_neg fun x => h x.1, if_neg h⟩
theorem Gt.cl_b {g : Gt} {y : Int} (h : g.ask (inB y 0 (g.n - 1)) = 0) (k : g.leaf y.toNat = false) : g.clG y = Gt.zero ∧ g.clC y = 4 := ⟨if_neg (fun x => by rw [k] at x; cases x.2), by unfold Gt.clC; rw [if_pos h, k]; rfl⟩
theorem Gt.cl_c {g : Gt} {y : Int} (h : g.ask (inB y 0 (g.n - 1)) = 0) (k : g.leaf y.toNat = true) : g.clG y = g.clr y.toNat ∧ g.clC y = 0 := ⟨if_pos (And.intro h k), by unfold Gt.clC; rw [if_pos h, k]; rfl⟩
end Go.Proofs.Ytfdoehakpeddnaa

/- How high a cell of a slope is. -/
namespace Go.Proofs.Ytfdoehakpeddnaa
open Go.RowKit

/-- How far two cells are from each other. -/
def farC (a b : Int) : Int := if a - b < b - a then b - a else a - b
/-- How high cell i is behind k pipes. -/
def sloK (p : Nat → Int) (i : Int) : Nat → Int
  | 0 => 9
  | k + 1 => if farC (p (k * 2)) i < sloK p i k then farC (p (k * 2)) i else sloK p i k
theorem farC_bd {a b : Int} (ha : 0 ≤ a ∧ a < 17) (hb : 0 ≤ b ∧ b < 17) : 0 ≤ farC a b ∧ farC a b ≤ 16 := by unfold farC; split <;> omega
theorem sloK_bd {p : Nat → Int} {i : Int} (hi : 0 ≤ i ∧ i < 17) : ∀ k : Nat, (∀ q, q < k → 0 ≤ p (q * 2) ∧ p (q * 2) < 17) → 0 ≤ sloK p i k ∧ sloK p i k ≤ 9
  | 0, _ => by unfold sloK; omega
  | k + 1, h => by
    have h1 := sloK_bd hi k fun q hq => h q (by omega)
    have h2 := farC_bd (h k (by omega)) hi
    unfold sloK
    split <;> omega

theorem l00MinS_any (a R : Int) (w : World) :
    Calls Try.prog 84 #[.int .i64 a, .int .i64 R] w fun e w' => e = .returned (.int .i64 (if R < a then R else a)) ∧ w = w' := by
  by_cases h : R < a
  · rw [if_pos h]
    have hd : decide (a < R) = false := by simp; omega
    clear h
    go_enter Try.func84, Try.ntmps84
    go_wp2_with fail
    go_ret
    exact ⟨rfl, rfl⟩
  · rw [if_neg h]
    by_cases e : a = R
    · subst e
      have hd : decide (a < a) = false := by simp
      clear h
      go_enter Try.func84, Try.ntmps84
      go_wp2_with fail
      go_ret
      exact ⟨rfl, rfl⟩
    · have hd : decide (a < R) = true := by simp; omega
      clear h e
      go_enter Try.func84, Try.ntmps84
      go_wp2_with fail
      go_ret
      exact ⟨rfl, rfl⟩

/-- A gutter with pipes, whose first k cells have their slope. -/
def sloT (y z : Int) (m : Nat) (p : Nat → Int) (k : Nat) : Gt := ⟨y, z, fun i => if i < k then sloK p i m else 0, 0, m, p⟩
theorem sloT_m (y z : Int) (m : Nat) (p : Nat → Int) (k : Nat) : (sloT y z m p k).m = m := rfl
def sloL (y z : Int) (v : Value) : Array Value := #[.int .i8 y, .int .i16 z, .int .i8 0, .int .i8 0, .int .i8 0, .int .i8 0, .int .i8 0, .int .i8 0, .int .i8 0, .int .i8 0, .int .i8 0, .int .i8 0, .int .i8 0, .int .i8 0, .int .i8 0, .int .i8 0, .int .i8 0, .int .i8 0, .int .i8 0, .int .u32 0, v]
theorem sloL_is {y z : Int} {m : Nat} {p : Nat → Int} {v : Value} (hy : 1 ≤ y ∧ y ≤ 17) (hz : 0 ≤ z ∧ z ≤ 1000) (hb : pipeB p m) (hv : ∃ a cap, v = .slice a m cap) : IsGut (sloL y z v) (sloT y z m p 0) v := by
  refine IsGut.of_get rfl rfl rfl (fun i hi => ?_) rfl rfl ⟨by show (-128 : Int) ≤ y; omega, by show y ≤ 127; omega⟩ ⟨by show (-32768 : Int) ≤ z; omega, by show z ≤ 32767; omega⟩ (fun i hi => ⟨by simp [sloT], by simp [sloT]⟩) ⟨by show (0 : Int) ≤ 0; omega, by show (0 : Int) ≤ 4294967295; omega⟩ hb hv
  match i with
  | 0 => rfl
  | 1 => rfl
  | 2 => rfl
  | 3 => rfl
  | 4 => rfl
  | 5 => rfl
  | 6 => rfl
  | 7 => rfl
  | 8 => rfl
  | 9 => rfl
  | 10 => rfl
  | 11 => rfl
  | 12 => rfl
  | 13 => rfl
  | 14 => rfl
  | 15 => rfl
  | 16 => rfl
  | n + 17 => omega
theorem IsGut.sloH {c : Array Value} {y z : Int} {m : Nat} {p : Nat → Int} {k : Nat} {v : Value} (h : IsGut c (sloT y z m p k) v) (hk : k < 17) (hs : 0 ≤ sloK p k m ∧ sloK p k m ≤ 9) : IsGut (c.setIfInBounds (2 + k) (.int .i8 (sloK p k m))) (sloT y z m p (k + 1)) v := by
  have hz := h.size
  refine IsGut.of_get (by simpa using hz) ?_ ?_ (fun i hi => ?_) ?_ ?_ ⟨h.n0, h.n1⟩ ⟨h.d0, h.d1⟩ (fun i hi => ?_) ⟨h.l0, h.l1⟩ h.p0 h.vs
  · rw [Array.getElem?_setIfInBounds_ne (by omega)]; exact h.get0
  · rw [Array.getElem?_setIfInBounds_ne (by omega)]; exact h.get1
  · by_cases e : i = k
    · subst e
      rw [Array.getElem?_setIfInBounds_self_of_lt (by omega)]
      simp [sloT]
    · rw [Array.getElem?_setIfInBounds_ne (by omega), h.getH hi]
      simp only [sloT]
      congr 2
      by_cases e2 : i < k
      · rw [if_pos e2, if_pos (by omega)]
      · rw [if_neg e2, if_neg (by omega)]
  · rw [Array.getElem?_setIfInBounds_ne (by omega)]; exact h.getL
  · rw [Array.getElem?_setIfInBounds_ne (by omega)]; exact h.getP
  · have a := h.h0 i hi
    have b := h.h1 i hi
    simp only [sloT] at a b ⊢
    by_cases e : i = k
    · subst e; rw [if_pos (by omega)]; omega
    · by_cases e2 : i < k
      · rw [if_pos e2] at a b; rw [if_pos (by omega)]; exact ⟨a, b⟩
      · rw [if_neg (by omega)]; omega
/-- The answer of SlopeTo. -/
noncomputable def sloC (y z : Int) (m : Nat) (p : Nat → Int) : Int :=
  if (1 ≤ y ∧ y ≤ 17) ∧ (0 ≤ z ∧ z ≤ 1000) then (if (sloT y z m p 0).ok = true then (if m = 0 then 6 else 0) else 2) else 2
noncomputable def sloR (y z : Int) (m : Nat) (p : Nat → Int) : Gt := if sloC y z m p = 0 then sloT y z m p y.toNat else Gt.zero
theorem slo_a {y z : Int} {m : Nat} {p : Nat → Int} (h : ¬ ((1 ≤ y ∧ y ≤ 17) ∧ (0 ≤ z ∧ z ≤ 1000))) : sloC y z m p = 2 ∧ sloR y z m p = Gt.zero := by
  have e : sloC y z m p = 2 := if_neg h
  exact ⟨e, by unfold sloR; rw [e]; rfl⟩
theorem slo_b {y z : Int} {m : Nat} {p : Nat → Int} (h : (1 ≤ y ∧ y ≤ 17) ∧ (0 ≤ z ∧ z ≤ 1000)) (k : (sloT y z m p 0).ok = false) : sloC y z m p = 2 ∧ sloR y z m p = Gt.zero := by
  have e : sloC y z m p = 2 := by unfold sloC; rw [if_pos h, k]; rfl
  exact ⟨e, by unfold sloR; rw [e]; rfl⟩
theorem slo_c {y z : Int} {m : Nat} {p : Nat → Int} (h : (1 ≤ y ∧ y ≤ 17) ∧ (0 ≤ z ∧ z ≤ 1000)) (k : (sloT y z m p 0).ok = true) (hm : m = 0) : sloC y z m p = 6 ∧ sloR y z m p = Gt.zero := by
  have e : sloC y z m p = 6 := by unfold sloC; rw [if_pos h, k, if_pos rfl, if_pos hm]
  exact ⟨e, by unfold sloR; rw [e]; rfl⟩
theorem slo_d {y z : Int} {m : Nat} {p : Nat → Int} (h : (1 ≤ y ∧ y ≤ 17) ∧ (0 ≤ z ∧ z ≤ 1000)) (k : (sloT y z m p 0).ok = true) (hm : m ≠ 0) : sloC y z m p = 0 ∧ sloR y z m p = sloT y z m p y.toNat := by
  have e : sloC y z m p = 0 := by unfold sloC; rw [if_pos h, k, if_pos rfl, if_neg hm]
  exact ⟨e, by unfold sloR; rw [e]; rfl⟩
theorem sloR_le {y z : Int} {m : Nat} {p : Nat → Int} (h : m ≤ 2000000) : (sloR y z m p).m ≤ 2000000 := by
  unfold sloR
  split
  · exact h
  · exact Nat.zero_le _
end Go.Proofs.Ytfdoehakpeddnaa

/- A minute: mathematics, and the model's l06Minute. -/
namespace Go.Proofs.Ytfdoehakpeddnaa
open Go.RowKit

/-- Water after the rain on the first k cells. -/
def rnT (t r : Nat → Int) (k i : Nat) : Int := if i < k then t i + r i else t i
theorem rnT_succ (t r : Nat → Int) (k : Nat) : (fun i => if i = k then rnT t r k k + r k else rnT t r k i) = rnT t r (k + 1) := by
  funext i
  unfold rnT
  by_cases h : i = k
  · subst h; rw [if_pos rfl, if_neg (by omega), if_pos (by omega)]
  · rw [if_neg h]
    by_cases h2 : i < k
    · rw [if_pos h2, if_pos (by omega)]
    · rw [if_neg h2, if_neg (by omega)]
def minC (a x : Int) : Int := if x < a then x else a
def zeroW : Array Value := #[.int .i32 0, .int .i32 0, .int .i32 0, .int .i32 0, .int .i32 0, .int .i32 0, .int .i32 0, .int .i32 0, .int .i32 0, .int .i32 0, .int .i32 0, .int .i32 0, .int .i32 0, .int .i32 0, .int .i32 0, .int .i32 0, .int .i32 0]
theorem zeroW_is : IsK .i32 zeroW 17 (fun _ => 0) := IsK.of_get rfl fun i hi => by
  match i with
  | 0 => rfl
  | 1 => rfl
  | 2 => rfl
  | 3 => rfl
  | 4 => rfl
  | 5 => rfl
  | 6 => rfl
  | 7 => rfl
  | 8 => rfl
  | 9 => rfl
  | 10 => rfl
  | 11 => rfl
  | 12 => rfl
  | 13 => rfl
  | 14 => rfl
  | 15 => rfl
  | 16 => rfl
  | n + 17 => omega
/-- Water, of whose first k cells that which is too much has run over, and how much this is. -/
def oT (dp : Int) (t : Nat → Int) (k i : Nat) : Int := if i < k then (if dp < t i then dp else t i) else t i
def oS (dp : Int) (t : Nat → Int) : Nat → Int
  | 0 => 0
  | k + 1 => oS dp t k + (if dp < t k then t k - dp else 0)
theorem oT_hi {dp : Int} {t : Nat → Int} {k : Nat} (h : dp < t k) : oT dp t (k + 1) = upd (oT dp t k) k dp := by
  funext i
  unfold oT upd
  dsimp only
  by_cases e : i = k
  · subst e; rw [if_pos (by omega), if_pos h, if_pos rfl]
  · rw [if_neg e]
    by_cases e2 : i < k
    · rw [if_pos e2, if_pos (by omega)]
    · rw [if_neg e2, if_neg (by omega)]
theorem oT_lo {dp : Int} {t : Nat → Int} {k : Nat} (h : ¬ dp < t k) : oT dp t (k + 1) = oT dp t k := by
  funext i
  unfold oT
  by_cases e : i = k
  · subst e; rw [if_pos (by omega), if_neg h, if_neg (by omega)]
  · by_cases e2 : i < k
    · rw [if_pos e2, if_pos (by omega)]
    · rw [if_neg e2, if_neg (by omega)]
theorem oS_succ (dp : Int) (t : Nat → Int) (k : Nat) : oS dp t (k + 1) = oS dp t k + (if dp < t k then t k - dp else 0) := rfl
theorem oS_bd {dp B : Int} {t : Nat → Int} (hd : 0 ≤ dp) (ht : ∀ i, i < 17 → 0 ≤ t i ∧ t i ≤ B) : ∀ k : Nat, k ≤ 17 → 0 ≤ oS dp t k ∧ oS dp t k ≤ k * B
  | 0, _ => by unfold oS; simp
  | k + 1, h => by
    have a := oS_bd hd ht k (by omega)
    have b := ht k (by omega)
    have f : ((k + 1 : Nat) : Int) * B = k * B + B := by rw [Int.natCast_add, Int.add_mul]; simp
    rw [f]
    unfold oS
    split <;> omega
/-- Where the water of a cell goes. -/
noncomputable def Gt.nx (g : Gt) (j : Nat) : Nat := if g.to j < 0 then j else (g.to j).toNat
/-- The water that has come from k cells. -/
noncomputable def Gt.nT (g : Gt) (t : Nat → Int) : Nat → Nat → Int
  | 0 => fun _ => 0
  | k + 1 => upd (g.nT t k) (g.nx k) (g.nT t k (g.nx k) + t k)
theorem Gt.nT_bd {g : Gt} {t : Nat → Int} {B : Int} (ht : ∀ i, i < 17 → 0 ≤ t i ∧ t i ≤ B) : ∀ k : Nat, k ≤ 17 → ∀ i, 0 ≤ g.nT t k i ∧ g.nT t k i ≤ k * B
  | 0, _, i => by unfold Gt.nT; simp
  | k + 1, h, i => by
    have a := Gt.nT_bd (g := g) ht k (by omega)
    have b := ht k (by omega)
    have f : ((k + 1 : Nat) : Int) * B = k * B + B := by rw [Int.natCast_add, Int.add_mul]; simp
    rw [f]
    unfold Gt.nT upd
    split
    · have c := a (g.nx k); omega
    · have c := a i; omega
theorem Gt.nx_lt {g : Gt} {j : Nat} (hj : (j : Int) < g.n) : (g.nx j : Int) < g.n := by
  unfold Gt.nx
  split
  · exact hj
  · rcases Gt.to_cases hj with h | ⟨q, hq, hn, _⟩
    · omega
    · rw [hq]; omega
/-- Water behind k pipes, and what they took. -/
def pT (p t : Nat → Int) : Nat → Nat → Int
  | 0 => t
  | q + 1 => fun i => if i = (p (q * 2)).toNat then pT p t q i - minC (pT p t q i) (p (q * 2 + 1)) else pT p t q i
def pS (p t : Nat → Int) : Nat → Int
  | 0 => 0
  | q + 1 => pS p t q + minC (pT p t q (p (q * 2)).toNat) (p (q * 2 + 1))
theorem pT_bd {p t : Nat → Int} {B : Int} (ht : ∀ i, i < 17 → 0 ≤ t i ∧ t i ≤ B) : ∀ q : Nat, (∀ x, x < q → 0 ≤ p (x * 2 + 1)) → ∀ i, i < 17 → 0 ≤ pT p t q i ∧ pT p t q i ≤ B
  | 0, _, i, hi => ht i hi
  | q + 1, h, i, hi => by
    have a := pT_bd ht q (fun x hx => h x (by omega)) i hi
    have b := h q (by omega)
    unfold pT minC
    split
    · split <;> omega
    · exact a
theorem pS_bd {p t : Nat → Int} {B : Int} (ht : ∀ i, i < 17 → 0 ≤ t i ∧ t i ≤ B) : ∀ q : Nat, (∀ x, x < q → 0 ≤ p (x * 2 + 1) ∧ 0 ≤ p (x * 2) ∧ p (x * 2) < 17) → 0 ≤ pS p t q ∧ pS p t q ≤ q * B
  | 0, _ => by unfold pS; simp
  | q + 1, h => by
    have a := pS_bd ht q (fun x hx => h x (by omega))
    obtain ⟨b, c, d⟩ := h q (by omega)
    have e := pT_bd ht q (fun x hx => (h x (by omega)).1) (p (q * 2)).toNat (by omega)
    have f : ((q + 1 : Nat) : Int) * B = q * B + B := by rw [Int.natCast_add, Int.add_mul]; simp
    rw [f]
    unfold pS minC
    split <;> omega

/-- A minute: what the pipes take, the water afterwards, and what runs over. -/
def Gt.minS (g : Gt) (t r : Nat → Int) (n : Nat) : Int := pS g.p (rnT t r n) g.m
noncomputable def Gt.minN (g : Gt) (t r : Nat → Int) (n : Nat) : Nat → Int := g.nT (pT g.p (rnT t r n) g.m) g.n.toNat
noncomputable def Gt.minT (g : Gt) (t r : Nat → Int) (n : Nat) : Nat → Int := oT g.d (g.minN t r n) g.n.toNat
noncomputable def Gt.minO (g : Gt) (t r : Nat → Int) (n : Nat) : Int := oS g.d (g.minN t r n) g.n.toNat
/-- Nothing below B has changed for whatever B below a row that is written and the heap's end. -/
def LeB (kw : Nat) (w W : World) : Prop := w.heap.size ≤ W.heap.size ∧ ∀ B, B ≤ kw → B ≤ w.heap.size → Below B w W
theorem LeB.refl (kw : Nat) (w : World) : LeB kw w w := ⟨Nat.le_refl _, fun _ _ _ => Below.refl _ _⟩
theorem LeB.setC {kw : Nat} {w W : World} (h : LeB kw w W) {p : Addr} (u : Value) (hp : p.block = kw ∨ w.heap.size ≤ p.block) : LeB kw w (W.setCell p u) :=
  ⟨by simpa using h.1, fun B b1 b2 => (h.2 B b1 b2).setCell (by omega) _⟩
theorem LeB.setR {kw : Nat} {w W : World} (h : LeB kw w W) (c : Array Value) : LeB kw w (W.setRow kw c) := ⟨by simpa using h.1, fun B b1 b2 => below_setRow (h.2 B b1 b2) b1 _⟩
theorem LeB.drew {kw : Nat} {w W : World} (h : LeB kw w W) : LeB kw w W.drew := ⟨h.1, fun B b1 b2 => (h.2 B b1 b2).drew⟩
theorem LeB.drewN {kw : Nat} {w W : World} (h : LeB kw w W) (n : Nat) : LeB kw w (W.drewN n) := ⟨h.1, fun B b1 b2 => below_drewN (h.2 B b1 b2) _⟩
theorem LeB.alloc {kw : Nat} {w W : World} (h : LeB kw w W) (o : Obj) : LeB kw w (W.alloc o) := ⟨by have := h.1; simp; omega, fun B b1 b2 => (h.2 B b1 b2).alloc (Nat.le_trans b2 h.1) _⟩
theorem LeB.bel {kw : Nat} {w W X : World} (h : LeB kw w W) (b : Below W.heap.size W X) : LeB kw w X := ⟨Nat.le_trans h.1 b.size, fun B b1 b2 => (h.2 B b1 b2).trans (b.mono (Nat.le_trans b2 h.1))⟩

set_option maxRecDepth 100000 in
set_option maxHeartbeats 4000000 in
theorem l06Minute_1 (k b kw br n : Nat) (c d : Array Value) (g : Gt) (t r : Nat → Int) (v u : Value) (w : World) (hA : GutAt w k c g v b) (hR : rowAt w kw = some d) (hD : IsK .i32 d 17 t) (hr : IsList w br u 1 n (fun i => .int .i64 (r i)))
    (hn : n ≤ 17) (ht : ∀ i, i < 17 → 0 ≤ t i ∧ t i ≤ 1000) (hrb : ∀ i, i < n → 0 ≤ r i ∧ r i ≤ 1000) (hk : k ≠ kw) (huk : 0 < n → ∀ gb cap, u = .slice (some ⟨gb, 0, none⟩) n cap → gb ≠ kw) (hvk : 0 < g.m → ∀ gb cap, v = .slice (some ⟨gb, 0, none⟩) g.m cap → gb ≠ kw) (hok : g.Ok) (hm : g.m ≤ 2000000) :
    Calls Try.prog 49 #[.pointer (some ⟨k, 0, none⟩), .pointer (some ⟨kw, 0, none⟩), u] w fun e w' => e = .returned (.tuple #[.int .i64 (g.minS t r n), .int .i64 (g.minO t r n)]) ∧ (∃ cur, rowAt w' kw = some cur ∧ IsK .i32 cur 17 (g.minT t r n)) ∧ (∀ gb, gb ≠ kw → gb < w.heap.size → rowAt w' gb = rowAt w gb) ∧ LeB kw w w' := by
  have HL := Lib.hid hr
  have lt := rowAt_lt hR
  obtain ⟨a, cap, rfl⟩ := hr.shape
  obtain ⟨pa, pc, rfl⟩ := hA.pipes.shape
  have HT := Lib.hid ht
  have HRB := Lib.hid hrb
  clear hr ht hrb
  go_enter Try.func49, Try.ntmps49
  go_wp2_with fail
  go_loopw [8] (fun i W => ∃ (j : Nat) (cur : Array Value), j ≤ n ∧ i = .int .i64 j ∧ rowAt W kw = some cur ∧ Hid (IsK .i32 cur 17 (rnT t r j)) ∧ Hid (∀ gb, gb ≠ kw → gb < w.heap.size → rowAt W gb = rowAt w gb) ∧ LeB kw w W) (fun i _ => n - (intOf i).toNat)
  case atStart => exact ⟨0, d, by omega, rfl, hR, Lib.hid hD, Lib.hid (fun _ _ _ => rfl), LeB.refl _ _⟩
  case round =>
    obtain ⟨j, cur, hj, rfl, hr, hI, hO, hsz⟩ := hrel
    have hLB := Lib.hid hsz
    replace hsz := hsz.1
    by_cases hlt : j < n
    · obtain ⟨g', rfl, c0⟩ : ∃ g', a = some ⟨g', 0, none⟩ ∧ wr.cell? ⟨g', j, none⟩ = some (.int .i64 (r j)) := by
        rcases HL.out with ⟨h0, _⟩ | ⟨g', cap', cur', e, hg, hr', hs', hf'⟩
        · omega
        · cases e
          have lg := rowAt_lt hr'
          exact ⟨g', rfl, by rw [cell_of_rowAt ((hO.out g' (huk (by omega) g' _ rfl) lg).trans hr')]; exact hf' _ (by omega)⟩
      have j0 : 0 ≤ (j : Int) := by omega
      have j1 : (j : Int) < n := by omega
      have j17 : (j : Int) < 17 := by omega
      have d0 : wr.cell? ⟨kw, j, none⟩ = some (.int .i32 (rnT t r j j)) := by rw [cell_of_rowAt hr]; exact hI.out.get (by omega)
      have fr := frozen_of_rowAt hr
      have lk := rowAt_lt hr
      have tb := HT.out j (by omega)
      have rb := HRB.out j hlt
      have e0 : rnT t r j j = t j := if_neg (by omega)
      have x0 : IntKind.i32.wrap (r j) = r j := IntWalk.i32_in _ (by omega)
      have x1 : IntKind.i32.wrap (rnT t r j j + r j) = rnT t r j j + r j := IntWalk.i32_in _ (by omega)
      have HE := Lib.hid e0
      have nx := Lib.hid (show IsK .i32 (cur.setIfInBounds j (.int .i32 (rnT t r j j + r j))) 17 (rnT t r (j + 1)) by rw [← rnT_succ]; exact hI.out.set j _)
      have HRR := Lib.hid hr
      clear e0
      generalize rnT t r j j = tj at *
      generalize r j = rj at *
      go_wp2_with fail
      go_still_tail 13, (by kernel_rfl)
      change wpList _ _ _ _ _ wr.drew
      repeat go_step
      have R3 := rowAt_setCell_at wr kw j (.int .i32 (tj + rj)) (by rw [HRR.out]; rfl)
      rw [HRR.out, Option.getD_some] at R3
      refine ⟨⟨j + 1, _, by omega, by go_num, R3, nx, Lib.hid fun gb h1 h2 => (rowAt_setCell_ne _ _ _ _ _ h1).trans (hO.out gb h1 h2), by first | exact hLB.out.setC _ (.inl rfl) | exact hLB.out.drew.setC _ (.inl rfl)⟩, by simp [intOf]; omega⟩
    · obtain rfl : j = n := by omega
      have HT2 := Lib.hid (show ∀ i, i < 17 → 0 ≤ rnT t r j i ∧ rnT t r j i ≤ 2000 from fun i hi => by
        have a := HT.out i hi
        unfold rnT
        split
        · rename_i h; have b := HRB.out i h; omega
        · omega)
      go_wp2_with fail
      obtain ⟨T, hTT⟩ : ∃ T, T = rnT t r j := ⟨_, rfl⟩
      rw [← hTT] at hI HT2
      have hO0 := hO
      have hsz0 := hLB.out
      clear hO hsz
      go_loopw [9, 10, 11, 12] (fun s i _ _ W => ∃ (q : Nat) (cur : Array Value), q ≤ g.m ∧ i = .int .i64 q ∧ s = .int .i64 (pS g.p T q) ∧ rowAt W kw = some cur ∧ Hid (IsK .i32 cur 17 (pT g.p T q)) ∧ Hid (∀ gb, gb ≠ kw → gb < w.heap.size → rowAt W gb = rowAt w gb) ∧ LeB kw w W) (fun _ i _ _ _ => g.m - (intOf i).toNat)
      case atStart => exact ⟨0, cur, by omega, rfl, rfl, hr, hI, hO0, hsz0⟩
      case round =>
        clear hr hI
        obtain ⟨q, cur, hq, rfl, rfl, hr, hI, hO, hsz⟩ := hrel
        have hLB := Lib.hid hsz
        replace hsz := hsz.1
        have rk : rowAt wr k = some c := (hO.out k hk (hA.lt)).trans hA.row
        have z20 : wr.cell? ⟨k, 20, none⟩ = some (.slice pa g.m pc) := by rw [cell_of_rowAt rk]; exact hA.is.getP
        have lk := rowAt_lt rk
        by_cases hlt : q < g.m
        · obtain ⟨g2, rfl, c0, c1⟩ : ∃ g2, pa = some ⟨g2, 0, none⟩ ∧ wr.cell? ⟨g2, q * 2, none⟩ = some (.int .i8 (g.p (q * 2))) ∧ wr.cell? ⟨g2, q * 2 + 1, none⟩ = some (.int .i16 (g.p (q * 2 + 1))) := by
            rcases hA.pipes with ⟨h0, _⟩ | ⟨g', cap', cur', e, hg, hr', hs', hf'⟩
            · omega
            · cases e
              have lg := rowAt_lt hr'
              have rr := (hO.out g' (hvk (by omega) g' _ rfl) lg).trans hr'
              exact ⟨g', rfl, by rw [cell_of_rowAt rr, hf' _ (by omega), pipeV_0], by rw [cell_of_rowAt rr, hf' _ (by omega), pipeV_1]⟩
          have hp := hok.ps q hlt
          have hp0 := hp.1
          have hp1 := hp.2.1
          have hp2 := hp.2.2.1
          have hp3 := hp.2.2.2.1
          have h17 := hok.n17
          have q0 : 0 ≤ (q : Int) := by omega
          have q1 : (q : Int) < g.m := by omega
          obtain ⟨P, hP⟩ := Int.eq_ofNat_of_zero_le hp0
          have hP17 : P < 17 := by omega
          have d0 : wr.cell? ⟨kw, P, none⟩ = some (.int .i32 (pT g.p T q P)) := by rw [cell_of_rowAt hr]; exact hI.out.get hP17
          have hPt : (g.p (q * 2)).toNat = P := by omega
          have tb := pT_bd HT2.out q (fun x hx => (hok.ps x (by omega)).2.2.1) P hP17
          have X1 := Lib.hid (show pT g.p T (q + 1) = upd (pT g.p T q) P (pT g.p T q P - minC (pT g.p T q P) (g.p (q * 2 + 1))) by
            funext i
            show (if i = (g.p (q * 2)).toNat then _ else _) = _
            rw [hPt]; unfold upd
            by_cases e : i = P
            · rw [if_pos e, if_pos e, e]
            · rw [if_neg e, if_neg e])
          have X2 := Lib.hid (show pS g.p T (q + 1) = pS g.p T q + minC (pT g.p T q P) (g.p (q * 2 + 1)) by rw [pS, hPt])
          have sb := pS_bd HT2.out q (fun x hx => ⟨(hok.ps x (by omega)).2.2.1, (hok.ps x (by omega)).1, by have := (hok.ps x (by omega)).2.1; omega⟩)
          have lkw := rowAt_lt hr
          have fr := frozen_of_rowAt hr
          have nx := Lib.hid (show IsK .i32 (cur.setIfInBounds P (.int .i32 (pT g.p T q P - minC (pT g.p T q P) (g.p (q * 2 + 1))))) 17 (pT g.p T (q + 1)) by rw [X1.out]; exact hI.out.set P _)
          have HRR := Lib.hid hr
          have HOK := Lib.hid hok
          have HAA := Lib.hid hA
          have m4 := hok.m4
          rw [hP] at c0
          generalize g.p (q * 2 + 1) = takes at *
          generalize pT g.p T q P = tP at *
          clear hp hok hA rk hP hp0 hp1 hPt
          go_wp2_with fail
          refine gen_world fun V hV => ?_
          have y0 : V.cell? ⟨wr.heap.size, 0, none⟩ = some (.int .i8 (P : Int)) := by rw [hV]; simp [go_sem]
          have y1 : V.cell? ⟨wr.heap.size, 1, none⟩ = some (.int .i16 takes) := by rw [hV]; simp [go_sem]
          have rV : rowAt V kw = some cur := by rw [hV]; exact (rowAt_alloc_past _ _ _ lkw).trans hr
          have dV : V.cell? ⟨kw, P, none⟩ = some (.int .i32 tP) := by rw [cell_of_rowAt rV, ← cell_of_rowAt hr]; exact d0
          have lV : w.heap.size ≤ V.heap.size := by rw [hV]; simp; omega
          have OV := Lib.hid (show ∀ gb, gb ≠ kw → gb < w.heap.size → rowAt V gb = rowAt w gb by rw [hV]; exact fun gb h1 h2 => (rowAt_alloc_past _ _ _ (by omega)).trans (hO.out gb h1 h2))
          have fV := frozen_of_rowAt rV
          have nV : wr.heap.size ≠ kw := by omega
          have lkV := rowAt_lt rV
          have P0 : 0 ≤ (P : Int) := by omega
          have P1 : (P : Int) < 17 := by omega
          have RV := Lib.hid rV
          have LV := Lib.hid lV
          have LVB := Lib.hid (show LeB kw w V by rw [hV]; first | exact hLB.out.alloc _ | (simp only [go_sem]; exact hLB.out.alloc _))
          clear hV c0 c1 d0 fr hr hO hsz lV
          go_quiet ((go_at_call 84; exact Calls.quiet_of_same ((l00MinS_any _ _ _).mono fun _ _ h => ⟨h.1, h.2.symm⟩)))
          have hmc : (if takes < tP then takes else tP) = minC tP takes := rfl
          rw [hmc]
          have mb : 0 ≤ minC tP takes ∧ minC tP takes ≤ tP := by unfold minC; split <;> omega
          have mb0 := mb.1
          have mb1 := mb.2
          have w1 : IntKind.i32.wrap (minC tP takes) = minC tP takes := IntWalk.i32_in _ (by omega)
          have w2 : IntKind.i32.wrap (tP - minC tP takes) = tP - minC tP takes := IntWalk.i32_in _ (by omega)
          have RV2 := Lib.hid (show rowAt (V.drewN nq) kw = some cur from RV.out)
          have OV2 := Lib.hid (show ∀ gb, gb ≠ kw → gb < w.heap.size → rowAt (V.drewN nq) gb = rowAt w gb from OV.out)
          have LV2 := Lib.hid (show w.heap.size ≤ (V.drewN nq).heap.size from LV.out)
          have LB2 := Lib.hid (show LeB kw w (V.drewN nq) from LVB.out.drewN nq)
          have a0 : (V.drewN nq).cell? ⟨wr.heap.size, 0, none⟩ = some (.int .i8 (P : Int)) := y0
          have a1 : (V.drewN nq).cell? ⟨kw, P, none⟩ = some (.int .i32 tP) := dV
          have aF : ∀ i, (V.drewN nq).frozen? ⟨kw, i, none⟩ = false := fV
          have aL : kw < (V.drewN nq).heap.size := lkV
          have ps0 : -9223372036854775808 ≤ pS g.p T q + minC tP takes ∧ pS g.p T q + minC tP takes ≤ 9223372036854775807 := by
            have : (q : Int) * 2000 ≤ 8000 := by omega
            omega
          generalize V.drewN nq = V2 at *
          generalize minC tP takes = mk at *
          generalize pS g.p T q = s0 at *
          clear y0 y1 rV dV fV lkV RV OV LV hmc mb
          go_wp2_with fail
          go_still_tail 11, (by kernel_rfl)
          change wpList _ _ _ _ _ V2.drew
          repeat go_step
          have R3 := rowAt_setCell_at V2 kw P (.int .i32 (tP - mk)) (by rw [RV2.out]; rfl)
          rw [RV2.out, Option.getD_some] at R3
          refine ⟨⟨q + 1, _, by omega, by go_num, by rw [X2.out], R3, nx, Lib.hid fun gb h1 h2 => (rowAt_setCell_ne _ _ _ _ _ h1).trans (OV2.out gb h1 h2), by first | exact LB2.out.setC _ (.inl rfl) | exact LB2.out.drew.setC _ (.inl rfl)⟩, by simp [intOf]; omega⟩
        · obtain rfl : q = g.m := by omega
          have HT3 := Lib.hid (pT_bd HT2.out g.m (fun x hx => (hok.ps x (by omega)).2.2.1))
          generalize hT3e : pT g.p T g.m = T3 at *
          generalize hS3e : pS g.p T g.m = s3 at *
          replace hT3e := Lib.hid hT3e
          replace hS3e := Lib.hid hS3e
          obtain ⟨N, hN⟩ := Int.eq_ofNat_of_zero_le (show 0 ≤ g.n by have := hok.n1; omega)
          have hN17 : N ≤ 17 := by have := hok.n17; omega
          have hzo := zeroW_is.ones
          unfold zeroW at hzo
          go_wp2_with fail
          have HR3 := Lib.hid hr
          have W3B := Lib.hid hsz
          have lkw := rowAt_lt hr
          obtain ⟨V, hV⟩ : ∃ V, V = wr.alloc (.cells zeroW 32) := ⟨_, rfl⟩
          have v1 : rowAt V kw = some cur := by rw [hV]; exact (rowAt_alloc_past _ _ _ lkw).trans hr
          have v2 : rowAt V wr.heap.size = some zeroW := by rw [hV]; exact rowAt_alloc_at _ _ _ _ rfl
          have v3 := Lib.hid (show ∀ gb, gb ≠ kw → gb < w.heap.size → rowAt V gb = rowAt w gb by rw [hV]; exact fun gb h1 h2 => (rowAt_alloc_past _ _ _ (by omega)).trans (hO.out gb h1 h2))
          have v4 : LeB kw w V := by rw [hV]; exact hLB.out.alloc _
          have nk : kw ≠ wr.heap.size := by omega
          have nw := Lib.hid (show w.heap.size ≤ wr.heap.size from hsz)
          unfold zeroW at hV
          rw [← hV]
          clear hV hr hO hsz lkw rk z20
          generalize wr.heap.size = NB at *
          go_loopw [14, 15] (fun i _ W => ∃ (x : Nat) (nx : Array Value), x ≤ N ∧ i = .int .i64 x ∧ rowAt W NB = some nx ∧ Hid (IsK .i32 nx 17 (g.nT T3 x)) ∧ rowAt W kw = some cur ∧ Hid (∀ gb, gb ≠ kw → gb < w.heap.size → rowAt W gb = rowAt w gb) ∧ LeB kw w W) (fun i _ _ => N - (intOf i).toNat)
          case atStart => exact ⟨0, zeroW, by omega, rfl, v2, Lib.hid zeroW_is, v1, v3, v4⟩
          case round =>
            clear v1 v2 v3 v4
            obtain ⟨x, nx, hx, rfl, hr, hX, hc1, hO, hsz⟩ := hrel
            have hLB := Lib.hid hsz
            replace hsz := hsz.1
            have rk : rowAt wr k = some c := (hO.out k hk hA.lt).trans hA.row
            have z0 : wr.cell? ⟨k, 0, none⟩ = some (.int .i8 (N : Int)) := by rw [cell_of_rowAt rk, ← hN]; exact hA.is.get0
            have lk := rowAt_lt rk
            by_cases hlt : x < N
            · have GA : GutAt wr k c g (.slice pa g.m pc) b := ⟨rk, hA.is, by
                rcases Nat.eq_zero_or_pos g.m with h0 | h0
                · exact .inl ⟨h0, pa, pc, by rw [h0]⟩
                · rcases hA.pipes with h | ⟨g', cap', cur', e, hg, hr', hs', hf'⟩
                  · exact .inl h
                  · exact .inr ⟨g', cap', cur', e, hg, (hO.out g' (hvk h0 g' _ (by rw [e])) (rowAt_lt hr')).trans hr', hs', hf'⟩⟩
              have CT := l06To_any k b c g (.slice pa g.m pc) x wr GA (by omega) (by omega) hm
              have x0 : 0 ≤ (x : Int) := by omega
              have x1 : (x : Int) < N := by omega
              have x17 : (x : Int) < 17 := by omega
              have ny := Gt.nx_lt (g := g) (j := x) (by omega)
              have nyN : g.nx x < 17 := by omega
              have nb := Gt.nT_bd (g := g) (t := T3) HT3.out x (by omega) (g.nx x)
              have tb := HT3.out x (by omega)
              have HXX := Lib.hid (show IsK .i32 (nx.setIfInBounds (g.nx x) (.int .i32 (g.nT T3 x (g.nx x) + T3 x))) 17 (g.nT T3 (x + 1)) from hX.out.set _ _)
              have HTV := Lib.hid (show (if g.to x < 0 then (x : Int) else g.to x) = (g.nx x : Int) by
                unfold Gt.nx
                split
                · rfl
                · omega)
              have hc2 := hX.out.get nyN
              have hc3 := hI.out.get (show x < 17 by omega)
              have nb17 : g.nT T3 x (g.nx x) ≤ 34000 := by
                have : (x : Int) * 2000 ≤ 34000 := by omega
                omega
              have nb0 := nb.1
              by_cases hto : g.to x < 0
              · have hYx : g.nx x = x := if_pos hto
                rw [hYx] at HXX hc2 nb17 nb0 nyN
                have hd : decide (g.to x < 0) = true := by simpa using hto
                clear nb hYx ny HTV
                generalize g.to x = tx at *
                go_wp2_with fail
                refine CT.mono ?_
                rintro e w5 ⟨rfl, b5⟩
                have R5 := brow b5 hr
                have K5 := brow b5 hc1
                have O5 := Lib.hid (show ∀ gb, gb ≠ kw → gb < w.heap.size → rowAt w5 gb = rowAt w gb from fun gb h1 h2 => (rowAt_below b5 gb (by omega)).trans (hO.out gb h1 h2))
                have S5 := Lib.hid (show LeB kw w w5 from hLB.out.bel b5)
                have c2 : w5.cell? ⟨NB, x, none⟩ = some (.int .i32 (g.nT T3 x x)) := by rw [cell_of_rowAt R5]; exact hc2
                have c3 : w5.cell? ⟨kw, x, none⟩ = some (.int .i32 (T3 x)) := by rw [cell_of_rowAt K5]; exact hc3
                have f5 := frozen_of_rowAt R5
                have l5 := rowAt_lt R5
                have l6 := rowAt_lt K5
                have HR5 := Lib.hid R5
                have HK5 := Lib.hid K5
                have wr1 : IntKind.i32.wrap (g.nT T3 x x + T3 x) = g.nT T3 x x + T3 x := IntWalk.i32_in _ (by omega)
                clear b5 hr hc1 hO hsz CT GA R5 K5 hc2 hc3 rk z0
                generalize g.nT T3 x x = nv at *
                generalize T3 x = tv at *
                go_wp2_with fail
                go_still_tail 10, (by kernel_rfl)
                change wpList _ _ _ _ _ w5.drew
                repeat go_step
                have R9 := rowAt_setCell_at w5 NB x (.int .i32 (nv + tv)) (by rw [HR5.out]; rfl)
                rw [HR5.out, Option.getD_some] at R9
                have hnw := nw.out
                refine ⟨⟨x + 1, _, by omega, by go_num, R9, HXX, (rowAt_setCell_ne _ _ _ _ _ nk).trans HK5.out, Lib.hid fun gb h1 h2 => (rowAt_setCell_ne _ _ _ _ _ (by omega)).trans (O5.out gb h1 h2), by first | exact S5.out.setC _ (.inr hnw) | exact S5.out.drew.setC _ (.inr hnw)⟩, by simp [intOf]; omega⟩
              · obtain ⟨Y, hY⟩ := Int.eq_ofNat_of_zero_le (show 0 ≤ g.to x by omega)
                have hYx : g.nx x = Y := by unfold Gt.nx; rw [if_neg hto]; omega
                rw [hYx] at HXX hc2 nb17 nb0 nyN
                have hd : decide ((Y : Int) < 0) = false := by simp
                have Y0 : 0 ≤ (Y : Int) := by omega
                have Y17 : (Y : Int) < 17 := by omega
                rw [hY] at CT
                clear nb hYx ny HTV hto hY
                go_wp2_with fail
                refine CT.mono ?_
                rintro e w5 ⟨rfl, b5⟩
                have R5 := brow b5 hr
                have K5 := brow b5 hc1
                have O5 := Lib.hid (show ∀ gb, gb ≠ kw → gb < w.heap.size → rowAt w5 gb = rowAt w gb from fun gb h1 h2 => (rowAt_below b5 gb (by omega)).trans (hO.out gb h1 h2))
                have S5 := Lib.hid (show LeB kw w w5 from hLB.out.bel b5)
                have c2 : w5.cell? ⟨NB, Y, none⟩ = some (.int .i32 (g.nT T3 x Y)) := by rw [cell_of_rowAt R5]; exact hc2
                have c3 : w5.cell? ⟨kw, x, none⟩ = some (.int .i32 (T3 x)) := by rw [cell_of_rowAt K5]; exact hc3
                have f5 := frozen_of_rowAt R5
                have l5 := rowAt_lt R5
                have l6 := rowAt_lt K5
                have HR5 := Lib.hid R5
                have HK5 := Lib.hid K5
                have wr1 : IntKind.i32.wrap (g.nT T3 x Y + T3 x) = g.nT T3 x Y + T3 x := IntWalk.i32_in _ (by omega)
                clear b5 hr hc1 hO hsz CT GA R5 K5 hc2 hc3 rk z0
                generalize g.nT T3 x Y = nv at *
                generalize T3 x = tv at *
                go_wp2_with fail
                go_still_tail 10, (by kernel_rfl)
                change wpList _ _ _ _ _ w5.drew
                repeat go_step
                have R9 := rowAt_setCell_at w5 NB Y (.int .i32 (nv + tv)) (by rw [HR5.out]; rfl)
                rw [HR5.out, Option.getD_some] at R9
                have hnw := nw.out
                refine ⟨⟨x + 1, _, by omega, by go_num, R9, HXX, (rowAt_setCell_ne _ _ _ _ _ nk).trans HK5.out, Lib.hid fun gb h1 h2 => (rowAt_setCell_ne _ _ _ _ _ (by omega)).trans (O5.out gb h1 h2), by first | exact S5.out.setC _ (.inr hnw) | exact S5.out.drew.setC _ (.inr hnw)⟩, by simp [intOf]; omega⟩
            · obtain rfl : x = N := by omega
              have HT5 := Lib.hid (show ∀ i, i < 17 → 0 ≤ g.nT T3 x i ∧ g.nT T3 x i ≤ 34000 from fun i hi => by
                have a := Gt.nT_bd (g := g) (t := T3) HT3.out x (by omega) i
                have : (x : Int) * 2000 ≤ 34000 := by omega
                omega)
              obtain ⟨T4, hT4⟩ : ∃ T4, T4 = g.nT T3 x := ⟨_, rfl⟩
              rw [← hT4] at hX HT5
              have HNX := Lib.hid (show ∀ i, x ≤ i → True from fun _ _ => trivial)
              have dp0 := hok.d0
              have dp1 := hok.d1
              have hO0 := hO
              have hsz0 := hLB.out
              have hc0 := hc1
              clear hO hsz HNX
              go_wp2_with fail
              clear rk z0 lk hc1
              go_loopw [16, 17, 18] (fun s i _ W => ∃ (y : Nat) (nx : Array Value), y ≤ x ∧ i = .int .i64 y ∧ s = .int .i64 (oS g.d T4 y) ∧ rowAt W NB = some nx ∧ Hid (IsK .i32 nx 17 (oT g.d T4 y)) ∧ rowAt W kw = some cur ∧ Hid (∀ gb, gb ≠ kw → gb < w.heap.size → rowAt W gb = rowAt w gb) ∧ LeB kw w W) (fun _ i _ _ => x - (intOf i).toNat)
              case atStart => exact ⟨0, nx, by omega, rfl, rfl, hr, hX, hc0, hO0, hsz0⟩
              case round =>
                clear hr hX hc0 hO0 hsz0
                obtain ⟨y, nx, hy, rfl, rfl, hr, hX, hc1, hO, hsz⟩ := hrel
                have hLB := Lib.hid hsz
                replace hsz := hsz.1
                have rk : rowAt wr k = some c := (hO.out k hk hA.lt).trans hA.row
                have z0 : wr.cell? ⟨k, 0, none⟩ = some (.int .i8 (x : Int)) := by rw [cell_of_rowAt rk, ← hN]; exact hA.is.get0
                have z1 : wr.cell? ⟨k, 1, none⟩ = some (.int .i16 g.d) := by rw [cell_of_rowAt rk]; exact hA.is.get1
                have lk := rowAt_lt rk
                by_cases hlt : y < x
                · have tb := HT5.out y (by omega)
                  have tb0 := tb.1
                  have tb1 := tb.2
                  have sb := oS_bd (dp := g.d) (t := T4) dp0 HT5.out y (by omega)
                  have sb0 := sb.1
                  have sb1 : oS g.d T4 y ≤ 578000 := by
                    have : (y : Int) * 34000 ≤ 578000 := by omega
                    omega
                  have e0 : oT g.d T4 y y = T4 y := if_neg (by omega)
                  have d0 : wr.cell? ⟨NB, y, none⟩ = some (.int .i32 (T4 y)) := by rw [cell_of_rowAt hr, hX.out.get (by omega), e0]
                  have y0 : 0 ≤ (y : Int) := by omega
                  have y1 : (y : Int) < x := by omega
                  have y17 : (y : Int) < 17 := by omega
                  have fr := frozen_of_rowAt hr
                  have ln := rowAt_lt hr
                  have HRR := Lib.hid hr
                  have HC1 := Lib.hid hc1
                  have HOO := Lib.hid hO.out
                  have HSZ := hLB
                  have hnw := nw.out
                  by_cases hdp : g.d < T4 y
                  · have hd : decide (g.d < T4 y) = true := by simpa using hdp
                    have HXX := Lib.hid (show IsK .i32 (nx.setIfInBounds y (.int .i32 g.d)) 17 (oT g.d T4 (y + 1)) by rw [oT_hi hdp]; exact hX.out.set _ _)
                    have HS := Lib.hid (show oS g.d T4 (y + 1) = oS g.d T4 y + (T4 y - g.d) by rw [oS_succ, if_pos hdp])
                    clear e0 sb tb rk hr hc1 hO hsz hX
                    generalize oS g.d T4 y = sv at *
                    generalize T4 y = tv at *
                    go_wp2_with fail
                    go_quiet (fail)
                    go_wp2_with fail
                    have R9 := rowAt_setCell_at (wr.drewN nq) NB y (.int .i32 g.d) (by rw [show rowAt (wr.drewN nq) NB = some nx from HRR.out]; rfl)
                    rw [show rowAt (wr.drewN nq) NB = some nx from HRR.out, Option.getD_some] at R9
                    refine ⟨⟨y + 1, _, by omega, by go_num, by rw [HS.out], R9, HXX, (rowAt_setCell_ne _ _ _ _ _ nk).trans HC1.out, Lib.hid fun gb h1 h2 => (rowAt_setCell_ne _ _ _ _ _ (by omega)).trans (HOO.out gb h1 h2), by first | exact HSZ.out.setC _ (.inr hnw) | exact (HSZ.out.drewN nq).setC _ (.inr hnw)⟩, by simp [intOf]; omega⟩
                  · have hd : decide (g.d < T4 y) = false := by simpa using hdp
                    have hle : T4 y ≤ g.d := by omega
                    have HXX := Lib.hid (show IsK .i32 nx 17 (oT g.d T4 (y + 1)) by rw [oT_lo hdp]; exact hX.out)
                    have HS := Lib.hid (show oS g.d T4 (y + 1) = oS g.d T4 y by rw [oS_succ, if_neg hdp, Int.add_zero])
                    clear e0 sb tb rk hr hc1 hO hsz hX hdp
                    generalize oS g.d T4 y = sv at *
                    generalize T4 y = tv at *
                    go_wp2_with fail
                    go_quiet (fail)
                    go_wp2_with fail
                    refine ⟨⟨y + 1, nx, by omega, by go_num, by rw [HS.out], HRR.out, HXX, HC1.out, Lib.hid HOO.out, by first | exact HSZ.out | exact HSZ.out.drewN nq⟩, by simp [intOf]; omega⟩
                · obtain rfl : y = x := by omega
                  have xs := hX.out.size
                  have xo := hX.out.ones
                  have cs := hI.out.size
                  have lkw := rowAt_lt hc1
                  have ln := rowAt_lt hr
                  have HC1 := Lib.hid hc1
                  have HOO := Lib.hid hO.out
                  have HSZ := hLB
                  have hyN : g.n.toNat = y := by rw [hN]; rfl
                  clear hsz
                  have es : g.minS t r j = s3 := by unfold Gt.minS; rw [← hTT]; exact hS3e.out
                  have eT4 : g.minN t r j = T4 := by unfold Gt.minN; rw [← hTT, hT3e.out, hyN]; exact hT4.symm
                  have eo : g.minO t r j = oS g.d T4 y := by unfold Gt.minO; rw [eT4, hyN]
                  have et : g.minT t r j = oT g.d T4 y := by unfold Gt.minT; rw [eT4, hyN]
                  have ES := Lib.hid es
                  have EO := Lib.hid eo
                  have ET := Lib.hid et
                  clear es eT4 eo et
                  go_wp2_with fail
                  go_ret2
                  refine ⟨by rw [ES.out, EO.out]; rfl, ⟨nx, rowAt_setRow_at _ _ _ (by rw [HC1.out]; rfl), by rw [ET.out]; exact hX.out⟩, fun gb h1 h2 => (rowAt_setRow_ne _ _ _ _ h1).trans (HOO.out gb h1 h2), by first | exact HSZ.out.setR _ | exact HSZ.out.drew.setR _⟩
end Go.Proofs.Ytfdoehakpeddnaa

/- The program's spill, and the deferred closure that calls it. -/
namespace Go.Proofs.Ytfdoehakpeddnaa
open Go.RowKit

theorem oT_all {dp : Int} {t : Nat → Int} {N : Nat} (hd : 0 ≤ dp) (hN : N ≤ 17) (hz : ∀ i, N ≤ i → t i = 0) : oT dp t 17 = oT dp t N := by
  funext i
  unfold oT
  by_cases h : i < N
  · rw [if_pos h, if_pos (by omega)]
  · rw [if_neg h, hz i (by omega)]
    split
    · rw [if_neg (by omega)]
    · rfl
theorem oS_from {dp : Int} {t : Nat → Int} {N : Nat} (hd : 0 ≤ dp) (hz : ∀ i, N ≤ i → t i = 0) : ∀ k : Nat, oS dp t (N + k) = oS dp t N
  | 0 => rfl
  | k + 1 => by
    show oS dp t (N + k) + (if dp < t (N + k) then t (N + k) - dp else 0) = _
    rw [oS_from hd hz k, hz (N + k) (by omega), if_neg (by omega), Int.add_zero]
theorem oS_all {dp : Int} {t : Nat → Int} {N : Nat} (hd : 0 ≤ dp) (hN : N ≤ 17) (hz : ∀ i, N ≤ i → t i = 0) : oS dp t 17 = oS dp t N := by
  obtain ⟨k, hk⟩ : ∃ k, 17 = N + k := ⟨17 - N, by omega⟩
  rw [hk]; exact oS_from hd hz k
theorem Gt.nT_zero {g : Gt} {t : Nat → Int} : ∀ k : Nat, (k : Int) ≤ g.n → ∀ i : Nat, g.n ≤ i → g.nT t k i = 0
  | 0, _, _, _ => rfl
  | k + 1, h, i, hi => by
    have a := Gt.nT_zero (g := g) (t := t) k (by omega) i hi
    have b := Gt.nx_lt (g := g) (j := k) (by omega)
    unfold Gt.nT upd
    rw [if_neg (by omega)]
    exact a

set_option maxRecDepth 100000 in
set_option maxHeartbeats 4000000 in
theorem spill_any (kn : Nat) (d : Array Value) (dp : Int) (t : Nat → Int) (w : World) (hR : rowAt w kn = some d) (hD : IsK .i32 d 17 t) (hd0 : 0 ≤ dp) (hd1 : dp ≤ 1000) (ht : ∀ i, i < 17 → 0 ≤ t i ∧ t i ≤ 34000) :
    Calls Try.prog 93 #[.pointer (some ⟨kn, 0, none⟩), .int .i32 dp] w fun e w' => e = .returned (.int .i64 (oS dp t 17)) ∧ (∃ cur, rowAt w' kn = some cur ∧ IsK .i32 cur 17 (oT dp t 17)) ∧ (∀ gb, gb ≠ kn → rowAt w' gb = rowAt w gb) ∧ (∀ B, B ≤ kn → Below B w w') ∧ w'.heap.size = w.heap.size := by
  have HT := Lib.hid ht
  clear ht
  go_enter Try.func93, Try.ntmps93
  go_wp2_with fail
  go_loopw [5, 6, 7, 9] (fun s _ _ i W => ∃ (y : Nat) (nx : Array Value), y ≤ 17 ∧ i = .int .i64 y ∧ s = .int .i64 (oS dp t y) ∧ rowAt W kn = some nx ∧ Hid (IsK .i32 nx 17 (oT dp t y)) ∧ Hid (∀ gb, gb ≠ kn → rowAt W gb = rowAt w gb) ∧ Hid (∀ B, B ≤ kn → Below B w W) ∧ Hid (W.heap.size = w.heap.size)) (fun _ _ _ i _ => 17 - (intOf i).toNat)
  case atStart => exact ⟨0, d, by omega, rfl, rfl, hR, Lib.hid hD, Lib.hid (fun _ _ => rfl), Lib.hid (fun _ _ => Below.refl _ _), Lib.hid rfl⟩
  case round =>
    clear hR hD
    obtain ⟨y, nx, hy, rfl, rfl, hr, hX, hO, hB, hsz⟩ := hrel
    by_cases hlt : y < 17
    · have tb := HT.out y hlt
      have tb0 := tb.1
      have tb1 := tb.2
      have sb := oS_bd (dp := dp) (t := t) hd0 HT.out y (by omega)
      have sb0 := sb.1
      have sb1 : oS dp t y ≤ 578000 := by
        have : (y : Int) * 34000 ≤ 578000 := by omega
        omega
      have e0 : oT dp t y y = t y := if_neg (by omega)
      have d0 : wr.cell? ⟨kn, y, none⟩ = some (.int .i32 (t y)) := by rw [cell_of_rowAt hr, hX.out.get (by omega), e0]
      have y0 : 0 ≤ (y : Int) := by omega
      have y17 : (y : Int) < 17 := by omega
      have fr := frozen_of_rowAt hr
      have ln := rowAt_lt hr
      have HRR := Lib.hid hr
      by_cases hdp : dp < t y
      · have HXX := Lib.hid (show IsK .i32 (nx.setIfInBounds y (.int .i32 dp)) 17 (oT dp t (y + 1)) by rw [oT_hi hdp]; exact hX.out.set _ _)
        have HS := Lib.hid (show oS dp t (y + 1) = oS dp t y + (t y - dp) by rw [oS_succ, if_pos hdp])
        clear e0 sb tb hr hX
        generalize oS dp t y = sv at *
        generalize t y = tv at *
        go_wp2_with fail
        go_quiet (fail)
        go_wp2_with fail
        have R9 := rowAt_setCell_at (wr.drewN nq) kn y (.int .i32 dp) (by rw [show rowAt (wr.drewN nq) kn = some nx from HRR.out]; rfl)
        rw [show rowAt (wr.drewN nq) kn = some nx from HRR.out, Option.getD_some] at R9
        refine ⟨⟨y + 1, _, by omega, by go_num, by rw [HS.out], R9, HXX, Lib.hid fun gb h1 => (rowAt_setCell_ne _ _ _ _ _ h1).trans (hO.out gb h1), Lib.hid fun B hb => (below_drewN (hB.out B hb) _).setCell (by simpa using hb) _, Lib.hid (by simpa using hsz.out)⟩, by simp [intOf]; omega⟩
      · have HXX := Lib.hid (show IsK .i32 (nx.setIfInBounds y (.int .i32 (t y))) 17 (oT dp t (y + 1)) by
          rw [oT_lo hdp]
          have := hX.out.set y (t y)
          have hu : upd (oT dp t y) y (t y) = oT dp t y := by
            funext i
            unfold upd
            by_cases e : i = y
            · rw [if_pos e, e, e0]
            · rw [if_neg e]
          rwa [hu] at this)
        have HS := Lib.hid (show oS dp t (y + 1) = oS dp t y by rw [oS_succ, if_neg hdp, Int.add_zero])
        clear e0 sb tb hr hX
        generalize oS dp t y = sv at *
        generalize t y = tv at *
        go_wp2_with fail
        go_quiet (fail)
        go_wp2_with fail
        have R9 := rowAt_setCell_at (wr.drewN nq) kn y (.int .i32 tv) (by rw [show rowAt (wr.drewN nq) kn = some nx from HRR.out]; rfl)
        rw [show rowAt (wr.drewN nq) kn = some nx from HRR.out, Option.getD_some] at R9
        refine ⟨⟨y + 1, _, by omega, by go_num, by rw [HS.out], R9, HXX, Lib.hid fun gb h1 => (rowAt_setCell_ne _ _ _ _ _ h1).trans (hO.out gb h1), Lib.hid fun B hb => (below_drewN (hB.out B hb) _).setCell (by simpa using hb) _, Lib.hid (by simpa using hsz.out)⟩, by simp [intOf]; omega⟩
    · obtain rfl : y = 17 := by omega
      go_wp2_with fail
      go_ret
      exact ⟨rfl, ⟨nx, hr, hX.out⟩, hO.out, hB.out, hsz.out⟩

set_option maxRecDepth 100000 in
set_option maxHeartbeats 4000000 in
theorem after_deferred (kn ks ko : Nat) (d : Array Value) (dp : Int) (vo vf vr : Value) (z : Int) (t : Nat → Int) (w : World) (hR : rowAt w kn = some d) (hD : IsK .i32 d 17 t) (hd0 : 0 ≤ dp) (hd1 : dp ≤ 1000) (ht : ∀ i, i < 17 → 0 ≤ t i ∧ t i ≤ 34000)
    (hS : rowAt w ks = some #[.int .i32 dp, vo, vf, vr]) (hZ : rowAt w ko = some #[.int .i64 z]) (h1 : kn ≠ ko) (u : FrameMode) :
    CallsD Try.prog 92 #[.pointer (some ⟨kn, 0, none⟩), .pointer (some ⟨ks, 0, none⟩), .pointer (some ⟨ko, 0, none⟩)] u w fun e u' w' => u' = u ∧ (e = .returned (.tuple #[]) ∧ (∃ cur, rowAt w' kn = some cur ∧ IsK .i32 cur 17 (oT dp t 17)) ∧ rowAt w' ko = some #[.int .i64 (oS dp t 17)] ∧ (∀ B, B ≤ kn → B ≤ ko → Below B w w')) := by
  have CS := spill_any kn d dp t w hR hD hd0 hd1 ht
  have l1 := rowAt_lt hS
  have l2 := rowAt_lt hZ
  have l3 := rowAt_lt hR
  have c0 : w.cell? ⟨ks, 0, none⟩ = some (.int .i32 dp) := by rw [cell_of_rowAt hS]; rfl
  generalize oS dp t 17 = s17 at *
  go_enter_d Try.func92, Try.ntmps92
  go_wp2_with fail
  refine CS.mono ?_
  rintro e w1 ⟨rfl, hC, hO, hB, hz⟩
  have r1 := (hO ko (Ne.symm h1)).trans hZ
  have HC := Lib.hid hC
  have HB := Lib.hid hB
  have l4 := rowAt_lt r1
  have f4 := frozen_of_rowAt r1
  have c4 : w1.cell? ⟨ko, 0, none⟩ = some (.int .i64 z) := by rw [cell_of_rowAt r1]; rfl
  have HR := Lib.hid r1
  clear CS hB hC
  go_wp2_with fail
  go_end0
  have R9 := rowAt_setCell_at w1 ko 0 (.int .i64 s17) (by rw [HR.out]; rfl)
  rw [HR.out] at R9
  refine ⟨rfl, ?_, R9, ?_⟩
  · obtain ⟨cur, a, b⟩ := HC.out
    exact ⟨cur, (rowAt_setCell_ne _ _ _ _ _ h1).trans a, b⟩
  · exact fun B b1 b2 => (HB.out B b1).setCell (by simpa using b2) _
end Go.Proofs.Ytfdoehakpeddnaa

/- The program's minute. -/
namespace Go.Proofs.Ytfdoehakpeddnaa
open Go.RowKit

@[go_sem] theorem makeFn (fn : Fn) (first cap : Array Value) (w : World) : (Instr.makeFunc fn first cap).run Try.prog w = .ok (.func fn first cap) w := rfl
theorem Gt.minN_bd {g : Gt} {t r : Nat → Int} {n : Nat} (hok : g.Ok) (ht : ∀ i, i < 17 → 0 ≤ t i ∧ t i ≤ 1000) (hr : ∀ i, i < n → 0 ≤ r i ∧ r i ≤ 1000) : ∀ i, 0 ≤ g.minN t r n i ∧ g.minN t r n i ≤ 34000 := by
  intro i
  have h17 := hok.n17
  have h1 := hok.n1
  have a := Gt.nT_bd (g := g) (t := pT g.p (rnT t r n) g.m) (B := 2000) (pT_bd (fun i hi => by
    have a := ht i hi
    unfold rnT
    split
    · rename_i h; have b := hr i h; omega
    · omega) g.m (fun x hx => (hok.ps x hx).2.2.1)) g.n.toNat (by omega) i
  have : ((g.n.toNat : Nat) : Int) * 2000 ≤ 34000 := by omega
  unfold Gt.minN
  omega
theorem Gt.minT_bd {g : Gt} {t r : Nat → Int} {n : Nat} (hok : g.Ok) (ht : ∀ i, i < 17 → 0 ≤ t i ∧ t i ≤ 1000) (hr : ∀ i, i < n → 0 ≤ r i ∧ r i ≤ 1000) : ∀ i, i < 17 → 0 ≤ g.minT t r n i ∧ g.minT t r n i ≤ 1000 := by
  intro i hi
  have h17 := hok.n17
  have h1 := hok.n1
  have d0 := hok.d0
  have d1 := hok.d1
  have a := Gt.minN_bd hok ht hr i
  unfold Gt.minT oT
  split
  · split <;> omega
  · have z : g.minN t r n i = 0 := Gt.nT_zero _ (by omega) i (by omega)
    omega
theorem Gt.minO_bd {g : Gt} {t r : Nat → Int} {n : Nat} (hok : g.Ok) (ht : ∀ i, i < 17 → 0 ≤ t i ∧ t i ≤ 1000) (hr : ∀ i, i < n → 0 ≤ r i ∧ r i ≤ 1000) : 0 ≤ g.minO t r n ∧ g.minO t r n ≤ 578000 := by
  have h17 := hok.n17
  have h1 := hok.n1
  have a := oS_bd (dp := g.d) (t := g.minN t r n) (B := 34000) hok.d0 (fun i _ => Gt.minN_bd hok ht hr i) g.n.toNat (by omega)
  have : ((g.n.toNat : Nat) : Int) * 34000 ≤ 578000 := by omega
  unfold Gt.minO
  omega
theorem Gt.minS_bd {g : Gt} {t r : Nat → Int} {n : Nat} (hok : g.Ok) (ht : ∀ i, i < 17 → 0 ≤ t i ∧ t i ≤ 1000) (hr : ∀ i, i < n → 0 ≤ r i ∧ r i ≤ 1000) : 0 ≤ g.minS t r n ∧ g.minS t r n ≤ 8000 := by
  have m4 := hok.m4
  have a := pS_bd (p := g.p) (t := rnT t r n) (B := 2000) (fun i hi => by
    have a := ht i hi
    unfold rnT
    split
    · rename_i h; have b := hr i h; omega
    · omega) g.m (fun x hx => ⟨(hok.ps x hx).2.2.1, (hok.ps x hx).1, by have := (hok.ps x hx).2.1; have := hok.n17; omega⟩)
  have : (g.m : Int) * 2000 ≤ 8000 := by omega
  unfold Gt.minS
  omega

theorem loadVar_wat (w : World) (n : Nat) (c : Array Value) (hr : rowAt w n = some c) (hs : c.size = 17) : (loadVar 32 ⟨n, 0, none⟩).run Try.prog w = .ok (.agg c) w := by
  have h := load_wat w n 0
  rw [hr] at h
  have e : (rowLoad Try.prog 32 17 n 0 w (some c)) = .ok (.agg c) w := by
    simp [rowLoad, hs]
  rw [e] at h
  exact h

theorem results_ctc {P : Program} {fn : Func} {p u q : Tmp} {ty ty2 : TypeId} (h : fn.results = #[.cell p ty, .tmp u, .cell q ty2]) (tmps : Array Value) (w : World) (a a2 : Addr) (x y : Value)
    (h1 : tmps.getD p undef = .pointer (some a)) (h2 : tmps.getD q undef = .pointer (some a2)) (k1 : (loadVar ty a).run P w = .ok x w) (k2 : (loadVar ty2 a2).run P w = .ok y w) : (results fn tmps).run P w = .ok (.tuple #[x, tmps.getD u undef, y]) w := by
  have e1 : (asAddr (tmps.getD p undef)).run P w = .ok a w := by rw [h1]; rfl
  have e2 : (asAddr (tmps.getD q undef)).run P w = .ok a2 w := by rw [h2]; rfl
  simp only [results, h]
  rw [Array.getD_eq_getD_getElem?] at e1 e2
  simp [Sem.run_bind, Result.andThen, e1, e2, k1, k2]

def OnlyN6 (Q : Exit → Act → World → Prop) : Exit → Act → World → Prop
  | .normal, a, w => Q .normal a w
  | _, _, _ => False
theorem onlyN_out6 {Q : Exit → Act → World → Prop} : ∀ e a w, OnlyN6 Q e a w → Q e a w
  | .normal, _, _, h => h
  | .ret, _, _, h => h.elim
  | .panic _, _, _, h => h.elim
  | .exit _, _, _, h => h.elim
  | .goto _, _, _, h => h.elim
  | .outgrown, _, _, h => h.elim

set_option maxRecDepth 100000 in
set_option maxHeartbeats 4000000 in
theorem minute_any (b N n : Nat) (g : Gt) (vo vf vr : Value) (r t : Nat → Int) (d : Array Value) (w : World) (hO : IsList w b vo 2 g.m (outC g.p)) (hF : IsList w b vf 1 N (fun i => .int .i64 (g.to i))) (hr : IsList w b vr 1 n (fun i => .int .i64 (r i)))
    (hN : g.n = N) (hn : n ≤ N) (hok : g.Ok) (hD : IsK .i32 d 17 t) (ht : ∀ i, i < 17 → 0 ≤ t i ∧ t i ≤ 1000) (hrb : ∀ i, i < n → 0 ≤ r i ∧ r i ≤ 1000) :
    Calls Try.prog 59 #[.agg #[.int .i32 g.d, vo, vf, vr], .agg d] w fun e w' => ∃ cur, e = .returned (.tuple #[.agg cur, .int .i64 (g.minS t r n), .int .i64 (g.minO t r n)]) ∧ IsK .i32 cur 17 (g.minT t r n) ∧ Below w.heap.size w w' := by
  have hN17 : N ≤ 17 := by have := hok.n17; omega
  have hN0 : 0 < N := by have := hok.n1; omega
  have d0 := hok.d0
  have d1 := hok.d1
  have m4 := hok.m4
  obtain ⟨ao, co, rfl⟩ := hO.shape
  obtain ⟨af, cf, rfl⟩ := hF.shape
  obtain ⟨ar, cr, rfl⟩ := hr.shape
  have HO := Lib.hid hO
  have HF := Lib.hid hF
  have HL := Lib.hid hr
  have HT := Lib.hid ht
  have HRB := Lib.hid hrb
  have HD := Lib.hid hD
  have HOK := Lib.hid hok
  have HN := Lib.hid hN
  have hds := hD.size
  clear hO hF hr ht hrb hD hok hN
  have hzo := zeroW_is.ones
  unfold zeroW at hzo
  go_enter_defers Try.func59, Try.ntmps59
  go_wp2_with fail
  refine gen_world fun W hW => ?_
  have q0 : rowAt W w.heap.size = some #[.int .i32 g.d, .slice ao g.m co, .slice af N cf, .slice ar n cr] := by rw [hW]; exact (rowAt_alloc_past _ _ _ (by simp; try omega)).trans ((rowAt_alloc_past _ _ _ (by simp; try omega)).trans ((rowAt_alloc_past _ _ _ (by simp; try omega)).trans (rowAt_alloc_at _ _ _ _ (by simp))))
  have q1 : rowAt W (w.heap.size + 1) = some d := by rw [hW]; exact (rowAt_alloc_past _ _ _ (by simp; try omega)).trans ((rowAt_alloc_past _ _ _ (by simp; try omega)).trans (rowAt_alloc_at _ _ _ _ (by simp)))
  have q2 : rowAt W (w.heap.size + 1 + 1) = some zeroW := by rw [hW]; exact (rowAt_alloc_past _ _ _ (by simp; try omega)).trans (rowAt_alloc_at _ _ _ _ (by simp))
  have q3 : rowAt W (w.heap.size + 1 + 1 + 1) = some #[.int .i64 0] := by rw [hW]; exact rowAt_alloc_at _ _ _ _ (by simp)
  have BW : Below w.heap.size w W := by rw [hW]; exact ((((Below.refl _ _).alloc (Nat.le_refl _) _).alloc (by simp) _).alloc (by simp; omega) _).alloc (by simp; omega) _
  have k01 : w.heap.size ≠ w.heap.size + 1 := by omega
  have k12 : w.heap.size + 1 ≠ w.heap.size + 1 + 1 := by omega
  have k02 : w.heap.size ≠ w.heap.size + 1 + 1 := by omega
  have k13 : w.heap.size + 1 ≠ w.heap.size + 1 + 1 + 1 := by omega
  have k23 : w.heap.size + 1 + 1 ≠ w.heap.size + 1 + 1 + 1 := by omega
  have k03 : w.heap.size ≠ w.heap.size + 1 + 1 + 1 := by omega
  have b1 : w.heap.size ≤ w.heap.size + 1 := by omega
  have b2 : w.heap.size ≤ w.heap.size + 1 + 1 := by omega
  have b3 : w.heap.size ≤ w.heap.size + 1 + 1 + 1 := by omega
  clear hW
  generalize w.heap.size + 1 + 1 + 1 = K3 at *
  generalize w.heap.size + 1 + 1 = K2 at *
  generalize w.heap.size + 1 = K1 at *
  obtain ⟨x, hx⟩ : ∃ x : Array Value, x = #[.int .i32 g.d, .slice ao g.m co, .slice af N cf, .slice ar n cr] := ⟨_, rfl⟩
  have x1 : x[1]? = some (.slice ao g.m co) := by rw [hx]; rfl
  have x2 : x[2]? = some (.slice af N cf) := by rw [hx]; rfl
  rw [← hx] at q0
  have HX := Lib.hid hx
  clear hx
  go_loopw [7, 8, 18] (fun _ _ i V => ∃ (j : Nat) (cur : Array Value), j ≤ n ∧ i = .int .i64 j ∧ rowAt V K1 = some cur ∧ Hid (IsK .i32 cur 17 (rnT t r j)) ∧ rowAt V w.heap.size = some x ∧ rowAt V K2 = some zeroW ∧ rowAt V K3 = some #[.int .i64 0] ∧ Below w.heap.size w V) (fun _ _ i _ => n - (intOf i).toNat)
  case atStart => exact ⟨0, d, by omega, rfl, q1, Lib.hid (show IsK .i32 d 17 (rnT t r 0) from HD.out), q0, q2, q3, BW⟩
  case round =>
    clear q0 q1 q2 q3 BW
    obtain ⟨j, cur, hj, rfl, q1, hI, q0, q2, q3, hB⟩ := hrel
    by_cases hlt : j < n
    · obtain ⟨g', rfl, c0⟩ : ∃ g', ar = some ⟨g', 0, none⟩ ∧ wr.cell? ⟨g', j, none⟩ = some (.int .i64 (r j)) := by
        rcases (HL.out.below hB (Nat.le_refl _)) with ⟨h0, _⟩ | ⟨g', cap', cur', e, hg, hr', hs', hf'⟩
        · omega
        · cases e
          exact ⟨g', rfl, by rw [cell_of_rowAt hr']; exact hf' _ (by omega)⟩
      have j0 : 0 ≤ (j : Int) := by omega
      have j1 : (j : Int) < n := by omega
      have j17 : (j : Int) < 17 := by omega
      have c1 : wr.cell? ⟨K1, j, none⟩ = some (.int .i32 (rnT t r j j)) := by rw [cell_of_rowAt q1]; exact hI.out.get (by omega)
      have fr := frozen_of_rowAt q1
      have lk := rowAt_lt q1
      have tb := HT.out j (by omega)
      have rb := HRB.out j hlt
      have e0 : rnT t r j j = t j := if_neg (by omega)
      have y0 : IntKind.i32.wrap (r j) = r j := IntWalk.i32_in _ (by omega)
      have y1 : IntKind.i32.wrap (rnT t r j j + r j) = rnT t r j j + r j := IntWalk.i32_in _ (by omega)
      have nx := Lib.hid (show IsK .i32 (cur.setIfInBounds j (.int .i32 (rnT t r j j + r j))) 17 (rnT t r (j + 1)) by rw [← rnT_succ]; exact hI.out.set j _)
      have HRR := Lib.hid q1
      have HB := Lib.hid hB
      have Q0 := Lib.hid q0
      have Q2 := Lib.hid q2
      have Q3 := Lib.hid q3
      clear e0 hB q0 q1 q2 q3
      generalize rnT t r j j = tj at *
      generalize r j = rj at *
      go_wp2_with fail
      have R3 := rowAt_setCell_at wr K1 j (.int .i32 (tj + rj)) (by rw [HRR.out]; rfl)
      rw [HRR.out, Option.getD_some] at R3
      refine ⟨⟨j + 1, _, by omega, by go_num, R3, nx, (rowAt_setCell_ne _ _ _ _ _ k01).trans Q0.out, (rowAt_setCell_ne _ _ _ _ _ (Ne.symm k12)).trans Q2.out, (rowAt_setCell_ne _ _ _ _ _ (Ne.symm k13)).trans Q3.out, HB.out.setCell (by simpa using b1) _⟩, by simp [intOf]; omega⟩
    · obtain rfl : j = n := by omega
      have HT2 := Lib.hid (show ∀ i, i < 17 → 0 ≤ rnT t r j i ∧ rnT t r j i ≤ 2000 from fun i hi => by
        have a := HT.out i hi
        unfold rnT
        split
        · rename_i h; have b := HRB.out i h; omega
        · omega)
      have c0 : wr.cell? ⟨w.heap.size, 1, none⟩ = some (.slice ao g.m co) := by rw [cell_of_rowAt q0]; exact x1
      have lk := rowAt_lt q0
      go_wp2_with fail
      clear c0 lk
      obtain ⟨T, hTT⟩ : ∃ T, T = rnT t r j := ⟨_, rfl⟩
      rw [← hTT] at hI HT2
      replace hTT := Lib.hid hTT
      go_loopw [5, 10, 11, 34] (fun tk _ _ i V => ∃ (q : Nat) (cur : Array Value), q ≤ g.m ∧ i = .int .i64 q ∧ tk = .int .i64 (pS g.p T q) ∧ rowAt V K1 = some cur ∧ Hid (IsK .i32 cur 17 (pT g.p T q)) ∧ rowAt V w.heap.size = some x ∧ rowAt V K2 = some zeroW ∧ rowAt V K3 = some #[.int .i64 0] ∧ Below w.heap.size w V) (fun _ _ _ i _ => g.m - (intOf i).toNat)
      case atStart => exact ⟨0, cur, by omega, rfl, rfl, q1, hI, q0, q2, q3, hB⟩
      case round =>
        clear q0 q1 q2 q3 hB hI
        obtain ⟨q, cur, hq, rfl, rfl, q1, hI, q0, q2, q3, hB⟩ := hrel
        by_cases hlt : q < g.m
        · obtain ⟨g2, rfl, c0, c1⟩ : ∃ g2, ao = some ⟨g2, 0, none⟩ ∧ wr.cell? ⟨g2, q * 2, none⟩ = some (.int .i64 (g.p (q * 2))) ∧ wr.cell? ⟨g2, q * 2 + 1, none⟩ = some (.int .i32 (g.p (q * 2 + 1))) := by
            rcases (HO.out.below hB (Nat.le_refl _)) with ⟨h0, _⟩ | ⟨g', cap', cur', e, hg, hr', hs', hf'⟩
            · omega
            · cases e
              exact ⟨g', rfl, by rw [cell_of_rowAt hr', hf' _ (by omega), outC_0], by rw [cell_of_rowAt hr', hf' _ (by omega), outC_1]⟩
          have hp := HOK.out.ps q hlt
          have hp0 := hp.1
          have hp1 := hp.2.1
          have hp2 := hp.2.2.1
          have hp3 := hp.2.2.2.1
          have h17 := HOK.out.n17
          have q0' : 0 ≤ (q : Int) := by omega
          have q1' : (q : Int) < g.m := by omega
          obtain ⟨P, hP⟩ := Int.eq_ofNat_of_zero_le hp0
          have hP17 : P < 17 := by omega
          have hPt : (g.p (q * 2)).toNat = P := by omega
          have tb := pT_bd HT2.out q (fun x hx => (HOK.out.ps x (by omega)).2.2.1) P hP17
          have X1 := Lib.hid (show pT g.p T (q + 1) = upd (pT g.p T q) P (pT g.p T q P - minC (pT g.p T q P) (g.p (q * 2 + 1))) by
            funext i
            show (if i = (g.p (q * 2)).toNat then _ else _) = _
            rw [hPt]; unfold upd
            by_cases e : i = P
            · rw [if_pos e, if_pos e, e]
            · rw [if_neg e, if_neg e])
          have X2 := Lib.hid (show pS g.p T (q + 1) = pS g.p T q + minC (pT g.p T q P) (g.p (q * 2 + 1)) by rw [pS, hPt])
          have sb := pS_bd HT2.out q (fun x hx => ⟨(HOK.out.ps x (by omega)).2.2.1, (HOK.out.ps x (by omega)).1, by have := (HOK.out.ps x (by omega)).2.1; omega⟩)
          have cP := hI.out.get hP17
          have nx := Lib.hid (show IsK .i32 (cur.setIfInBounds P (.int .i32 (pT g.p T q P - minC (pT g.p T q P) (g.p (q * 2 + 1))))) 17 (pT g.p T (q + 1)) by rw [X1.out]; exact hI.out.set P _)
          have HB := Lib.hid hB
          have Q0 := Lib.hid q0
          have Q1 := Lib.hid q1
          have Q2 := Lib.hid q2
          have Q3 := Lib.hid q3
          have hcs := hI.out.size
          rw [hP] at c0
          generalize g.p (q * 2 + 1) = takes at *
          generalize pT g.p T q P = tP at *
          clear hp hP hp0 hp1 hPt hB q0 q1 q2 q3
          go_wp2_with fail
          refine gen_world fun V hV => ?_
          have NBe : wr.heap.size ≠ K1 := by have := rowAt_lt Q1.out; omega
          have rV : rowAt V wr.heap.size = some #[.int .i64 (P : Int), .int .i32 takes] := by rw [hV]; simpa using rowAt_alloc_at wr #[.int .i64 (P : Int), .int .i32 takes] 139 _ rfl
          have rV0 : rowAt V w.heap.size = some x := by rw [hV]; simpa using (rowAt_alloc_past _ _ _ (rowAt_lt Q0.out)).trans Q0.out
          have rV1 : rowAt V K1 = some cur := by rw [hV]; simpa using (rowAt_alloc_past _ _ _ (rowAt_lt Q1.out)).trans Q1.out
          have rV2 : rowAt V K2 = some zeroW := by rw [hV]; simpa using (rowAt_alloc_past _ _ _ (rowAt_lt Q2.out)).trans Q2.out
          have rV3 : rowAt V K3 = some #[.int .i64 0] := by rw [hV]; simpa using (rowAt_alloc_past _ _ _ (rowAt_lt Q3.out)).trans Q3.out
          have BV := Lib.hid (show Below w.heap.size w V by rw [hV]; simpa using HB.out.alloc HB.out.size _)
          clear hV Q0 Q1 Q2 Q3 HB c0 c1
          generalize wr.heap.size = NB at *
          have P0 : 0 ≤ (P : Int) := by omega
          have P17 : (P : Int) < 17 := by omega
          have sb' : 0 ≤ pS g.p T q ∧ pS g.p T q ≤ 8000 := by
            have : (q : Int) * 2000 ≤ 8000 := by omega
            omega
          by_cases hmn : takes < tP
          · have hmk : minC tP takes = takes := if_pos hmn
            rw [hmk] at X1 X2 nx
            clear hmk
            refine Code.wp_mono onlyN_out6 ?_
            refine wp_region_held_drew (S := fun w' => Below V.heap.size V w') (by kernel_rfl) ((Below.refl _ _).drew) (fun hH => ?_)
            refine wpAnyH_take (i := 0) (v := .pointer (some ⟨NB, 0, none⟩)) rfl (by kernel_rfl) (by kernel_rfl) (by kernel_rfl) (fun _ _ _ h => h) (Or.inl ⟨by rfl, ?_⟩) hH ?_
            · intro w1 hS; (try dsimp only at hS); go_simp
            (try simp only [List.getElem_toArray]); (try simp only [List.getElem_cons_succ]); (try simp only [List.getElem_cons_zero]); (try simp only [Act.put]); (try simp only [List.setIfInBounds_toArray]); (try simp only [List.set_cons_succ]); (try simp only [List.set_cons_zero])
            refine wpAnyH_take (i := 1) (v := .agg #[.int .i64 (P : Int)]) rfl (by kernel_rfl) (by kernel_rfl) (by kernel_rfl) (fun _ _ _ h => h) (Or.inl ⟨by rfl, ?_⟩) hH ?_
            · intro w1 hS; (try dsimp only at hS); have s0 : w1.cell? ⟨NB, 0, none⟩ = some (.int .i64 (P : Int)) := (by rw [cell_of_rowAt (brow hS rV)]; rfl); go_simp
            (try simp only [List.getElem_toArray]); (try simp only [List.getElem_cons_succ]); (try simp only [List.getElem_cons_zero]); (try simp only [Act.put]); (try simp only [List.setIfInBounds_toArray]); (try simp only [List.set_cons_succ]); (try simp only [List.set_cons_zero])
            refine wpAnyH_take (i := 5) (v := .pointer (some ⟨NB, 1, none⟩)) rfl (by kernel_rfl) (by kernel_rfl) (by kernel_rfl) (fun _ _ _ h => h) (Or.inl ⟨by rfl, ?_⟩) hH ?_
            · intro w1 hS; (try dsimp only at hS); go_simp
            (try simp only [List.getElem_toArray]); (try simp only [List.getElem_cons_succ]); (try simp only [List.getElem_cons_zero]); (try simp only [Act.put]); (try simp only [List.setIfInBounds_toArray]); (try simp only [List.set_cons_succ]); (try simp only [List.set_cons_zero])
            refine wpAnyH_take (i := 6) (v := .int .i32 takes) rfl (by kernel_rfl) (by kernel_rfl) (by kernel_rfl) (fun _ _ _ h => h) (Or.inl ⟨by rfl, ?_⟩) hH ?_
            · intro w1 hS; (try dsimp only at hS); have s0 : w1.cell? ⟨NB, 1, none⟩ = some (.int .i32 takes) := (by rw [cell_of_rowAt (brow hS rV)]; rfl); go_simp
            (try simp only [List.getElem_toArray]); (try simp only [List.getElem_cons_succ]); (try simp only [List.getElem_cons_zero]); (try simp only [Act.put]); (try simp only [List.setIfInBounds_toArray]); (try simp only [List.set_cons_succ]); (try simp only [List.set_cons_zero])
            refine wpAnyH_ready (rs := [2]) (by kernel_rfl) (by simp) (AllReadyH.cons rfl (fun K hK => ?_) AllReadyH.nil)
            go_simp
            refine (spotAt_any (P : Int) _).mono ?_
            rintro x wx ⟨rfl, bx⟩
            go_simp
            refine hK.out _ _ (bnext hH bx hH.size) (fun hG => ?_)
            clear hK K hH bx
            replace hH := hG
            clear hG
            (try simp only [List.getElem_toArray]); (try simp only [List.getElem_cons_succ]); (try simp only [List.getElem_cons_zero]); (try simp only [Act.put]); (try simp only [List.setIfInBounds_toArray]); (try simp only [List.set_cons_succ]); (try simp only [List.set_cons_zero])
            refine wpAnyH_take (i := 3) (v := .pointer (some ⟨K1, P, none⟩)) rfl (by kernel_rfl) (by kernel_rfl) (by kernel_rfl) (fun _ _ _ h => h) (Or.inl ⟨by rfl, ?_⟩) hH ?_
            · intro w1 hS; (try dsimp only at hS); go_simp
            (try simp only [List.getElem_toArray]); (try simp only [List.getElem_cons_succ]); (try simp only [List.getElem_cons_zero]); (try simp only [Act.put]); (try simp only [List.setIfInBounds_toArray]); (try simp only [List.set_cons_succ]); (try simp only [List.set_cons_zero])
            refine wpAnyH_take (i := 4) (v := .int .i32 tP) rfl (by kernel_rfl) (by kernel_rfl) (by kernel_rfl) (fun _ _ _ h => h) (Or.inl ⟨by rfl, ?_⟩) hH ?_
            · intro w1 hS; (try dsimp only at hS); have s0 : w1.cell? ⟨K1, P, none⟩ = some (.int .i32 tP) := (by rw [cell_of_rowAt (brow hS rV1)]; exact cP); go_simp
            (try simp only [List.getElem_toArray]); (try simp only [List.getElem_cons_succ]); (try simp only [List.getElem_cons_zero]); (try simp only [Act.put]); (try simp only [List.setIfInBounds_toArray]); (try simp only [List.set_cons_succ]); (try simp only [List.set_cons_zero])
            refine wpAnyH_take (i := 7) (v := .int .i32 takes) rfl (by kernel_rfl) (by kernel_rfl) (by kernel_rfl) (fun _ _ _ h => h) (Or.inl ⟨by rfl, ?_⟩) hH ?_
            · intro w1 hS; (try dsimp only at hS); go_simp
            (try simp only [List.getElem_toArray]); (try simp only [List.getElem_cons_succ]); (try simp only [List.getElem_cons_zero]); (try simp only [Act.put]); (try simp only [List.setIfInBounds_toArray]); (try simp only [List.set_cons_succ]); (try simp only [List.set_cons_zero])
            refine wpAnyH_take (i := 8) (v := .int .i32 takes) rfl (by kernel_rfl) (by kernel_rfl) (by kernel_rfl) (fun _ _ _ h => h) (Or.inl ⟨by rfl, ?_⟩) hH ?_
            · intro w1 hS; (try dsimp only at hS); go_simp
            (try simp only [List.getElem_toArray]); (try simp only [List.getElem_cons_succ]); (try simp only [List.getElem_cons_zero]); (try simp only [Act.put]); (try simp only [List.setIfInBounds_toArray]); (try simp only [List.set_cons_succ]); (try simp only [List.set_cons_zero])
            refine wpAnyH_done (by kernel_rfl) ?_ _
            dsimp only [OnlyN6]
            have r1 := brow hH rV1
            have r0 := brow hH rV0
            have r2 := brow hH rV2
            have r3 := brow hH rV3
            have rn := brow hH rV
            have BB := Lib.hid (bnext BV.out hH BV.out.size)
            clear hH rV rV0 rV1 rV2 rV3 BV
            have e0 : wx.cell? ⟨NB, 0, none⟩ = some (.int .i64 (P : Int)) := by rw [cell_of_rowAt rn]; rfl
            have ln := rowAt_lt rn
            clear rn
            have R0 := Lib.hid r0
            have R2 := Lib.hid r2
            have R3 := Lib.hid r3
            clear r0 r2 r3
            go_wp2_with fail
            refine (spotAt_any (P : Int) _).mono ?_
            rintro e w5 ⟨rfl, b5⟩
            have s1 := brow b5 r1
            have s0 := brow b5 R0.out
            have s2 := brow b5 R2.out
            have s3 := brow b5 R3.out
            have B5 := bnext BB.out b5 BB.out.size
            have c4 : w5.cell? ⟨K1, P, none⟩ = some (.int .i32 tP) := by rw [cell_of_rowAt s1]; exact cP
            have fr := frozen_of_rowAt s1
            have lk := rowAt_lt s1
            have S1 := Lib.hid s1
            have S0 := Lib.hid s0
            have S2 := Lib.hid s2
            have S3 := Lib.hid s3
            have BB5 := Lib.hid B5
            clear b5 e0 ln r1 s0 s1 s2 s3 B5
            have y2 : IntKind.i32.wrap (tP - takes) = tP - takes := IntWalk.i32_in _ (by omega)
            generalize pS g.p T q = s0 at *
            go_wp2_with fail
            have R9 := rowAt_setCell_at w5 K1 P (.int .i32 (tP - takes)) (by rw [S1.out]; rfl)
            rw [S1.out, Option.getD_some] at R9
            refine ⟨⟨q + 1, _, by omega, by go_num, by rw [X2.out], R9, nx, (rowAt_setCell_ne _ _ _ _ _ k01).trans S0.out, (rowAt_setCell_ne _ _ _ _ _ (Ne.symm k12)).trans S2.out, (rowAt_setCell_ne _ _ _ _ _ (Ne.symm k13)).trans S3.out, BB5.out.setCell (by simpa using b1) _⟩, by simp [intOf]; omega⟩
          · have hmk : minC tP takes = tP := if_neg hmn
            rw [hmk] at X1 X2 nx
            clear hmk
            refine Code.wp_mono onlyN_out6 ?_
            refine wp_region_held_drew (S := fun w' => Below V.heap.size V w') (by kernel_rfl) ((Below.refl _ _).drew) (fun hH => ?_)
            refine wpAnyH_take (i := 0) (v := .pointer (some ⟨NB, 0, none⟩)) rfl (by kernel_rfl) (by kernel_rfl) (by kernel_rfl) (fun _ _ _ h => h) (Or.inl ⟨by rfl, ?_⟩) hH ?_
            · intro w1 hS; (try dsimp only at hS); go_simp
            (try simp only [List.getElem_toArray]); (try simp only [List.getElem_cons_succ]); (try simp only [List.getElem_cons_zero]); (try simp only [Act.put]); (try simp only [List.setIfInBounds_toArray]); (try simp only [List.set_cons_succ]); (try simp only [List.set_cons_zero])
            refine wpAnyH_take (i := 1) (v := .agg #[.int .i64 (P : Int)]) rfl (by kernel_rfl) (by kernel_rfl) (by kernel_rfl) (fun _ _ _ h => h) (Or.inl ⟨by rfl, ?_⟩) hH ?_
            · intro w1 hS; (try dsimp only at hS); have s0 : w1.cell? ⟨NB, 0, none⟩ = some (.int .i64 (P : Int)) := (by rw [cell_of_rowAt (brow hS rV)]; rfl); go_simp
            (try simp only [List.getElem_toArray]); (try simp only [List.getElem_cons_succ]); (try simp only [List.getElem_cons_zero]); (try simp only [Act.put]); (try simp only [List.setIfInBounds_toArray]); (try simp only [List.set_cons_succ]); (try simp only [List.set_cons_zero])
            refine wpAnyH_take (i := 5) (v := .pointer (some ⟨NB, 1, none⟩)) rfl (by kernel_rfl) (by kernel_rfl) (by kernel_rfl) (fun _ _ _ h => h) (Or.inl ⟨by rfl, ?_⟩) hH ?_
            · intro w1 hS; (try dsimp only at hS); go_simp
            (try simp only [List.getElem_toArray]); (try simp only [List.getElem_cons_succ]); (try simp only [List.getElem_cons_zero]); (try simp only [Act.put]); (try simp only [List.setIfInBounds_toArray]); (try simp only [List.set_cons_succ]); (try simp only [List.set_cons_zero])
            refine wpAnyH_take (i := 6) (v := .int .i32 takes) rfl (by kernel_rfl) (by kernel_rfl) (by kernel_rfl) (fun _ _ _ h => h) (Or.inl ⟨by rfl, ?_⟩) hH ?_
            · intro w1 hS; (try dsimp only at hS); have s0 : w1.cell? ⟨NB, 1, none⟩ = some (.int .i32 takes) := (by rw [cell_of_rowAt (brow hS rV)]; rfl); go_simp
            (try simp only [List.getElem_toArray]); (try simp only [List.getElem_cons_succ]); (try simp only [List.getElem_cons_zero]); (try simp only [Act.put]); (try simp only [List.setIfInBounds_toArray]); (try simp only [List.set_cons_succ]); (try simp only [List.set_cons_zero])
            refine wpAnyH_ready (rs := [2]) (by kernel_rfl) (by simp) (AllReadyH.cons rfl (fun K hK => ?_) AllReadyH.nil)
            go_simp
            refine (spotAt_any (P : Int) _).mono ?_
            rintro x wx ⟨rfl, bx⟩
            go_simp
            refine hK.out _ _ (bnext hH bx hH.size) (fun hG => ?_)
            clear hK K hH bx
            replace hH := hG
            clear hG
            (try simp only [List.getElem_toArray]); (try simp only [List.getElem_cons_succ]); (try simp only [List.getElem_cons_zero]); (try simp only [Act.put]); (try simp only [List.setIfInBounds_toArray]); (try simp only [List.set_cons_succ]); (try simp only [List.set_cons_zero])
            refine wpAnyH_take (i := 3) (v := .pointer (some ⟨K1, P, none⟩)) rfl (by kernel_rfl) (by kernel_rfl) (by kernel_rfl) (fun _ _ _ h => h) (Or.inl ⟨by rfl, ?_⟩) hH ?_
            · intro w1 hS; (try dsimp only at hS); go_simp
            (try simp only [List.getElem_toArray]); (try simp only [List.getElem_cons_succ]); (try simp only [List.getElem_cons_zero]); (try simp only [Act.put]); (try simp only [List.setIfInBounds_toArray]); (try simp only [List.set_cons_succ]); (try simp only [List.set_cons_zero])
            refine wpAnyH_take (i := 4) (v := .int .i32 tP) rfl (by kernel_rfl) (by kernel_rfl) (by kernel_rfl) (fun _ _ _ h => h) (Or.inl ⟨by rfl, ?_⟩) hH ?_
            · intro w1 hS; (try dsimp only at hS); have s0 : w1.cell? ⟨K1, P, none⟩ = some (.int .i32 tP) := (by rw [cell_of_rowAt (brow hS rV1)]; exact cP); go_simp
            (try simp only [List.getElem_toArray]); (try simp only [List.getElem_cons_succ]); (try simp only [List.getElem_cons_zero]); (try simp only [Act.put]); (try simp only [List.setIfInBounds_toArray]); (try simp only [List.set_cons_succ]); (try simp only [List.set_cons_zero])
            refine wpAnyH_take (i := 7) (v := .int .i32 tP) rfl (by kernel_rfl) (by kernel_rfl) (by kernel_rfl) (fun _ _ _ h => h) (Or.inl ⟨by rfl, ?_⟩) hH ?_
            · intro w1 hS; (try dsimp only at hS); go_simp
            (try simp only [List.getElem_toArray]); (try simp only [List.getElem_cons_succ]); (try simp only [List.getElem_cons_zero]); (try simp only [Act.put]); (try simp only [List.setIfInBounds_toArray]); (try simp only [List.set_cons_succ]); (try simp only [List.set_cons_zero])
            refine wpAnyH_take (i := 8) (v := .int .i32 tP) rfl (by kernel_rfl) (by kernel_rfl) (by kernel_rfl) (fun _ _ _ h => h) (Or.inl ⟨by rfl, ?_⟩) hH ?_
            · intro w1 hS; (try dsimp only at hS); go_simp
            (try simp only [List.getElem_toArray]); (try simp only [List.getElem_cons_succ]); (try simp only [List.getElem_cons_zero]); (try simp only [Act.put]); (try simp only [List.setIfInBounds_toArray]); (try simp only [List.set_cons_succ]); (try simp only [List.set_cons_zero])
            refine wpAnyH_done (by kernel_rfl) ?_ _
            dsimp only [OnlyN6]
            have r1 := brow hH rV1
            have r0 := brow hH rV0
            have r2 := brow hH rV2
            have r3 := brow hH rV3
            have rn := brow hH rV
            have BB := Lib.hid (bnext BV.out hH BV.out.size)
            clear hH rV rV0 rV1 rV2 rV3 BV
            have e0 : wx.cell? ⟨NB, 0, none⟩ = some (.int .i64 (P : Int)) := by rw [cell_of_rowAt rn]; rfl
            have ln := rowAt_lt rn
            clear rn
            have R0 := Lib.hid r0
            have R2 := Lib.hid r2
            have R3 := Lib.hid r3
            clear r0 r2 r3
            go_wp2_with fail
            refine (spotAt_any (P : Int) _).mono ?_
            rintro e w5 ⟨rfl, b5⟩
            have s1 := brow b5 r1
            have s0 := brow b5 R0.out
            have s2 := brow b5 R2.out
            have s3 := brow b5 R3.out
            have B5 := bnext BB.out b5 BB.out.size
            have c4 : w5.cell? ⟨K1, P, none⟩ = some (.int .i32 tP) := by rw [cell_of_rowAt s1]; exact cP
            have fr := frozen_of_rowAt s1
            have lk := rowAt_lt s1
            have S1 := Lib.hid s1
            have S0 := Lib.hid s0
            have S2 := Lib.hid s2
            have S3 := Lib.hid s3
            have BB5 := Lib.hid B5
            clear b5 e0 ln r1 s0 s1 s2 s3 B5
            have y2 : IntKind.i32.wrap (tP - tP) = tP - tP := IntWalk.i32_in _ (by omega)
            generalize pS g.p T q = s0 at *
            go_wp2_with fail
            have R9 := rowAt_setCell_at w5 K1 P (.int .i32 (tP - tP)) (by rw [S1.out]; rfl)
            rw [S1.out, Option.getD_some] at R9
            rw [Int.sub_self] at R9 nx
            refine ⟨⟨q + 1, _, by omega, by go_num, by rw [X2.out], R9, nx, (rowAt_setCell_ne _ _ _ _ _ k01).trans S0.out, (rowAt_setCell_ne _ _ _ _ _ (Ne.symm k12)).trans S2.out, (rowAt_setCell_ne _ _ _ _ _ (Ne.symm k13)).trans S3.out, BB5.out.setCell (by simpa using b1) _⟩, by simp [intOf]; omega⟩
        · obtain rfl : q = g.m := by omega
          have HT3 := Lib.hid (pT_bd HT2.out g.m (fun x hx => (HOK.out.ps x (by omega)).2.2.1))
          have c0 : wr.cell? ⟨w.heap.size, 2, none⟩ = some (.slice af N cf) := by rw [cell_of_rowAt q0]; exact x2
          have lk := rowAt_lt q0
          generalize hT3e : pT g.p T g.m = T3 at *
          generalize hS3e : pS g.p T g.m = s3 at *
          replace hT3e := Lib.hid hT3e
          replace hS3e := Lib.hid hS3e
          have HI := Lib.hid hI.out
          clear hI
          go_wp2_with fail
          clear c0 lk
          go_loopw [12, 13, 62] (fun _ _ i V => ∃ (y : Nat) (nx : Array Value), y ≤ N ∧ i = .int .i64 y ∧ rowAt V K2 = some nx ∧ Hid (IsK .i32 nx 17 (g.nT T3 y)) ∧ rowAt V w.heap.size = some x ∧ rowAt V K1 = some cur ∧ rowAt V K3 = some #[.int .i64 0] ∧ Below w.heap.size w V) (fun _ _ i _ => N - (intOf i).toNat)
          case atStart => exact ⟨0, zeroW, by omega, rfl, q2, Lib.hid zeroW_is, q0, q1, q3, hB⟩
          case round =>
            clear q0 q1 q2 q3 hB
            obtain ⟨y, nx, hy, rfl, q2, hX, q0, q1, q3, hB⟩ := hrel
            by_cases hlt : y < N
            · obtain ⟨g2, rfl, c0⟩ : ∃ g2, af = some ⟨g2, 0, none⟩ ∧ wr.cell? ⟨g2, y, none⟩ = some (.int .i64 (g.to y)) := by
                rcases (HF.out.below hB (Nat.le_refl _)) with ⟨h0, _⟩ | ⟨g', cap', cur', e, hg, hr', hs', hf'⟩
                · omega
                · cases e
                  exact ⟨g', rfl, by rw [cell_of_rowAt hr', hf' _ (by omega)]⟩
              have hgn := HN.out
              have y0 : 0 ≤ (y : Int) := by omega
              have y1 : (y : Int) < N := by omega
              have y17 : (y : Int) < 17 := by omega
              have ny := Gt.nx_lt (g := g) (j := y) (by omega)
              have nyN : g.nx y < 17 := by omega
              have nb := Gt.nT_bd (g := g) (t := T3) HT3.out y (by omega) (g.nx y)
              have tb := HT3.out y (by omega)
              have HXX := Lib.hid (show IsK .i32 (nx.setIfInBounds (g.nx y) (.int .i32 (g.nT T3 y (g.nx y) + T3 y))) 17 (g.nT T3 (y + 1)) from hX.out.set _ _)
              have hc2 := hX.out.get nyN
              have hc3 := HI.out.get (show y < 17 by omega)
              have nb17 : g.nT T3 y (g.nx y) ≤ 34000 := by
                have : (y : Int) * 2000 ≤ 34000 := by omega
                omega
              have nb0 := nb.1
              have c2 : wr.cell? ⟨K1, y, none⟩ = some (.int .i32 (T3 y)) := by rw [cell_of_rowAt q1]; exact hc3
              have c3 : wr.cell? ⟨K2, g.nx y, none⟩ = some (.int .i32 (g.nT T3 y (g.nx y))) := by rw [cell_of_rowAt q2]; exact hc2
              have fr := frozen_of_rowAt q2
              have l1 := rowAt_lt q1
              have l2 := rowAt_lt q2
              have Q0 := Lib.hid q0
              have Q1 := Lib.hid q1
              have Q2 := Lib.hid q2
              have Q3 := Lib.hid q3
              have HB := Lib.hid hB
              have wr1 : IntKind.i32.wrap (g.nT T3 y (g.nx y) + T3 y) = g.nT T3 y (g.nx y) + T3 y := IntWalk.i32_in _ (by omega)
              by_cases hto : g.to y < 0
              · have hYx : g.nx y = y := if_pos hto
                have hm1 : g.to y = -1 := by
                  rcases Gt.to_cases (g := g) (j := y) (by omega) with h | ⟨q, hq, _, _⟩
                  · exact h
                  · omega
                rw [hYx] at HXX c3 nb17 nb0 nyN wr1
                rw [hm1] at c0
                clear nb hYx ny hto hm1 hB q0 q1 q2 q3 hX hgn hc2 hc3
                generalize g.nT T3 y y = nv at *
                generalize T3 y = tv at *
                go_wp2_with fail
                go_still_tail 8, (by kernel_rfl)
                change wpList _ _ _ _ _ wr.drew
                repeat go_step
                have R9 := rowAt_setCell_at wr K2 y (.int .i32 (nv + tv)) (by rw [Q2.out]; rfl)
                rw [Q2.out, Option.getD_some] at R9
                refine ⟨⟨y + 1, _, by omega, by go_num, R9, HXX, (rowAt_setCell_ne _ _ _ _ _ k02).trans Q0.out, (rowAt_setCell_ne _ _ _ _ _ k12).trans Q1.out, (rowAt_setCell_ne _ _ _ _ _ (Ne.symm k23)).trans Q3.out, HB.out.drew.setCell (by simpa using b2) _⟩, by simp [intOf]; omega⟩
              · obtain ⟨Y, hY⟩ := Int.eq_ofNat_of_zero_le (show 0 ≤ g.to y by omega)
                have hYx : g.nx y = Y := by unfold Gt.nx; rw [if_neg hto, hY]; rfl
                rw [hYx] at HXX c3 nb17 nb0 nyN wr1
                rw [hY] at c0
                have hne : ((Y : Int) == -1) = false := by first | (simp; done) | (simp; omega)
                have Y0 : 0 ≤ (Y : Int) := by omega
                have Y17 : (Y : Int) < 17 := by omega
                clear nb hYx ny hto hB q0 q1 q2 q3 hX hgn hc2 hc3 hY
                generalize g.nT T3 y Y = nv at *
                generalize T3 y = tv at *
                go_wp2_with fail
                go_still_tail 8, (by kernel_rfl)
                change wpList _ _ _ _ _ wr.drew
                repeat go_step
                have R9 := rowAt_setCell_at wr K2 Y (.int .i32 (nv + tv)) (by rw [Q2.out]; rfl)
                rw [Q2.out, Option.getD_some] at R9
                refine ⟨⟨y + 1, _, by omega, by go_num, R9, HXX, (rowAt_setCell_ne _ _ _ _ _ k02).trans Q0.out, (rowAt_setCell_ne _ _ _ _ _ k12).trans Q1.out, (rowAt_setCell_ne _ _ _ _ _ (Ne.symm k23)).trans Q3.out, HB.out.drew.setCell (by simpa using b2) _⟩, by simp [intOf]; omega⟩
            · obtain rfl : y = N := by omega
              have HT5 := Lib.hid (show ∀ i, i < 17 → 0 ≤ g.nT T3 y i ∧ g.nT T3 y i ≤ 34000 from fun i hi => by
                have a := Gt.nT_bd (g := g) (t := T3) HT3.out y (by omega) i
                have : (y : Int) * 2000 ≤ 34000 := by omega
                omega)
              obtain ⟨T4, hT4⟩ : ∃ T4, T4 = g.nT T3 y := ⟨_, rfl⟩
              rw [← hT4] at hX HT5
              have xs := hX.out.size
              have xo := hX.out.ones
              have c3 : wr.cell? ⟨K3, 0, none⟩ = some (.int .i64 0) := by rw [cell_of_rowAt q3]; rfl
              have f3 := frozen_of_rowAt q3
              have f2 := frozen_of_rowAt q2
              have l0 := rowAt_lt q0
              have l2 := rowAt_lt q2
              have l3 := rowAt_lt q3
              go_wp2_with fail
              refine Code.wp_mono onlyN_out6 ?_
              refine wp_region_held_drew (S := fun w' => rowAt w' K2 = some nx ∧ rowAt w' K3 = some #[.int .i64 0] ∧ rowAt w' w.heap.size = some x ∧ Below w.heap.size w w') (by kernel_rfl) ⟨q2, q3, q0, hB.drew⟩ (fun hH => ?_)
              refine wpAnyH_take (i := 0) (v := .agg nx) rfl (by kernel_rfl) (by kernel_rfl) (by kernel_rfl) (fun _ _ _ h => h) (Or.inl ⟨by rfl, ?_⟩) hH ?_
              · intro w1 hS; (try dsimp only at hS); obtain ⟨g2, g3, g0, gb⟩ := hS; go_simp
              (try simp only [List.getElem_toArray]); (try simp only [List.getElem_cons_succ]); (try simp only [List.getElem_cons_zero]); (try simp only [Act.put]); (try simp only [List.setIfInBounds_toArray]); (try simp only [List.set_cons_succ]); (try simp only [List.set_cons_zero])
              refine wpAnyH_take (i := 1) (v := .int .i64 s3) rfl (by kernel_rfl) (by kernel_rfl) (by kernel_rfl) (fun _ _ _ h => h) (Or.inl ⟨by rfl, ?_⟩) hH ?_
              · intro w1 hS; (try dsimp only at hS); obtain ⟨g2, g3, g0, gb⟩ := hS; go_simp
              (try simp only [List.getElem_toArray]); (try simp only [List.getElem_cons_succ]); (try simp only [List.getElem_cons_zero]); (try simp only [Act.put]); (try simp only [List.setIfInBounds_toArray]); (try simp only [List.set_cons_succ]); (try simp only [List.set_cons_zero])
              refine wpAnyH_take (i := 2) (v := .int .i64 0) rfl (by kernel_rfl) (by kernel_rfl) (by kernel_rfl) (fun _ _ _ h => h) (Or.inl ⟨by rfl, ?_⟩) hH ?_
              · intro w1 hS; (try dsimp only at hS); obtain ⟨g2, g3, g0, gb⟩ := hS; have c3 : w1.cell? ⟨K3, 0, none⟩ = some (.int .i64 0) := (by rw [cell_of_rowAt g3]; rfl); go_simp
              (try simp only [List.getElem_toArray]); (try simp only [List.getElem_cons_succ]); (try simp only [List.getElem_cons_zero]); (try simp only [Act.put]); (try simp only [List.setIfInBounds_toArray]); (try simp only [List.set_cons_succ]); (try simp only [List.set_cons_zero])
              refine wpAnyH_ready (rs := [3]) (by kernel_rfl) (by simp) (AllReadyH.cons rfl (fun K hK => ?_) AllReadyH.nil)
              obtain ⟨g2, g3, g0, gb⟩ := hH
              go_simp
              refine hK.out _ _ (⟨(rowAt_setRow_at _ _ _ (congrArg Option.isSome g2)), (rowAt_setRow_ne _ _ _ _ (Ne.symm k23)).trans g3, (rowAt_setRow_ne _ _ _ _ k02).trans g0, below_setRow gb b2 _⟩) (fun hG => ?_)
              clear hK K g2 g3 g0 gb
              have hH := hG
              clear hG
              (try simp only [List.getElem_toArray]); (try simp only [List.getElem_cons_succ]); (try simp only [List.getElem_cons_zero]); (try simp only [Act.put]); (try simp only [List.setIfInBounds_toArray]); (try simp only [List.set_cons_succ]); (try simp only [List.set_cons_zero])
              refine wpAnyH_take (i := 4) (v := .int .i64 s3) rfl (by kernel_rfl) (by kernel_rfl) (by kernel_rfl) (fun _ _ _ h => h) (Or.inl ⟨by rfl, ?_⟩) hH ?_
              · intro w1 hS; (try dsimp only at hS); obtain ⟨g2, g3, g0, gb⟩ := hS; go_simp
              (try simp only [List.getElem_toArray]); (try simp only [List.getElem_cons_succ]); (try simp only [List.getElem_cons_zero]); (try simp only [Act.put]); (try simp only [List.setIfInBounds_toArray]); (try simp only [List.set_cons_succ]); (try simp only [List.set_cons_zero])
              refine wpAnyH_ready (rs := [5]) (by kernel_rfl) (by simp) (AllReadyH.cons rfl (fun K hK => ?_) AllReadyH.nil)
              obtain ⟨g2, g3, g0, gb⟩ := hH
              have c3 := cell_of_rowAt g3 (i := 0)
              have f3 := frozen_of_rowAt g3
              have l3 := rowAt_lt g3
              go_simp
              refine hK.out _ _ (⟨(rowAt_setCell_ne _ _ _ _ _ k23).trans g2, (rowAt_setCell_at _ K3 0 (.int .i64 0) (congrArg Option.isSome g3)).trans (by rw [g3]; rfl), (rowAt_setCell_ne _ _ _ _ _ k03).trans g0, gb.setCell (by simpa using b3) _⟩) (fun hG => ?_)
              clear hK K g2 g3 g0 gb
              have hH := hG
              clear hG
              (try simp only [List.getElem_toArray]); (try simp only [List.getElem_cons_succ]); (try simp only [List.getElem_cons_zero]); (try simp only [Act.put]); (try simp only [List.setIfInBounds_toArray]); (try simp only [List.set_cons_succ]); (try simp only [List.set_cons_zero])
              refine wpAnyH_done (by kernel_rfl) ?_ _
              dsimp only [OnlyN6]
              obtain ⟨g2, g3, g0, gb⟩ := hH
              have hgn : g.n.toNat = y := by rw [HN.out]; rfl
              have es : g.minS t r j = s3 := by unfold Gt.minS; rw [← hTT.out]; exact hS3e.out
              have eT4 : g.minN t r j = T4 := by unfold Gt.minN; rw [← hTT.out, hT3e.out, hgn]; exact hT4.symm
              have hz : ∀ i, y ≤ i → T4 i = 0 := fun i hi => by rw [hT4]; exact Gt.nT_zero y (by rw [HN.out]; exact Int.le_refl _) i (by rw [HN.out]; omega)
              have ES := Lib.hid es
              have EO := Lib.hid (show g.minO t r j = oS g.d T4 17 by unfold Gt.minO; rw [eT4, hgn]; exact (oS_all d0 hN17 hz).symm)
              have ET := Lib.hid (show g.minT t r j = oT g.d T4 17 by unfold Gt.minT; rw [eT4, hgn]; exact (oT_all d0 hN17 hz).symm)
              have G2 := Lib.hid g2
              have G3 := Lib.hid g3
              have G0 := Lib.hid (g0.trans (congrArg some HX.out))
              have GB := Lib.hid gb
              clear es eT4 hz g2 g3 g0 gb q0 q1 q2 q3 l0 l2 l3 f2 f3 c3
              go_wp2_with fail
              refine leaves_cons (f := 92) (args := #[.pointer (some ⟨K2, 0, none⟩), .pointer (some ⟨w.heap.size, 0, none⟩), .pointer (some ⟨K3, 0, none⟩)]) (by simp) (by simp [go_sem]) ?_
              refine (after_deferred K2 w.heap.size K3 nx g.d _ _ _ 0 T4 _ G2.out hX.out d0 d1 HT5.out G0.out G3.out k23 _).mono ?_
              rintro e u' w9 ⟨rfl, rfl, ⟨cur9, r2, i2⟩, r3, hb⟩
              have B9 := Lib.hid (GB.out.trans (hb w.heap.size b2 b3))
              have s9 := i2.size
              have c9 : w9.cell? ⟨K3, 0, none⟩ = some (.int .i64 (oS g.d T4 17)) := by rw [cell_of_rowAt r3]; rfl
              have l2 := rowAt_lt r2
              have l3 := rowAt_lt r3
              show Leaves _ _ _ _ [] (settle .returning) w9
              simp only [Leaves, settle]
              refine ⟨.tuple #[.agg cur9, .int .i64 s3, .int .i64 (oS g.d T4 17)], ?_, cur9, ?_, ?_, ?_⟩
              · have kk : (loadVar 2 ⟨K3, 0, none⟩).run Try.prog w9 = .ok (.int .i64 (oS g.d T4 17)) w9 := by simp [go_sem, c9]
                exact results_ctc (fn := Try.f59) (p := 4) (u := 5) (q := 6) (ty := 32) (ty2 := 2) rfl _ w9 ⟨K2, 0, none⟩ ⟨K3, 0, none⟩ (.agg cur9) (.int .i64 (oS g.d T4 17)) rfl rfl (loadVar_wat w9 K2 cur9 r2 s9) kk
              · rw [ES.out, EO.out]
              · rw [ET.out]; exact i2
              · exact B9.out
end Go.Proofs.Ytfdoehakpeddnaa

/- Minutes of the program: the shower, and minutes one behind the other. -/
namespace Go.Proofs.Ytfdoehakpeddnaa
open Go.RowKit

@[go_sem ↓] theorem loadAt_shw (v : Value) : Instr.loadAt 80 v = loadWhole 80 v := rfl
@[go_sem ↓] theorem storeAt_shw (a v : Value) : Instr.storeAt 80 a v = storeWhole 80 a v := rfl
@[go_sem] theorem load_shw (w : World) (n o : Nat) : (loadWhole 80 (.pointer (some ⟨n, o, none⟩))).run Try.prog w = rowLoad Try.prog 80 4 n o w (rowAt w n) := run_load_by Try.underlying80 rfl (by kernel_rfl) w n o
@[go_sem] theorem store_shw (vs : Array Value) (w : World) (n o : Nat) : (storeWhole 80 (.pointer (some ⟨n, o, none⟩)) (.agg vs)).run Try.prog w = rowStore Try.prog 80 4 n o vs w (rowAt w n) := run_store_by (by kernel_rfl) vs w n o

/-- Water, what pipes took, and what ran over, behind k minutes. -/
noncomputable def Gt.itT (g : Gt) (t r : Nat → Int) (n : Nat) : Nat → Nat → Int
  | 0 => t
  | k + 1 => g.minT (g.itT t r n k) r n
noncomputable def Gt.itS (g : Gt) (t r : Nat → Int) (n : Nat) : Nat → Int
  | 0 => 0
  | k + 1 => g.itS t r n k + g.minS (g.itT t r n k) r n
noncomputable def Gt.itO (g : Gt) (t r : Nat → Int) (n : Nat) : Nat → Int
  | 0 => 0
  | k + 1 => g.itO t r n k + g.minO (g.itT t r n k) r n
theorem Gt.itT_bd {g : Gt} {t r : Nat → Int} {n : Nat} (hok : g.Ok) (ht : ∀ i, i < 17 → 0 ≤ t i ∧ t i ≤ 1000) (hr : ∀ i, i < n → 0 ≤ r i ∧ r i ≤ 1000) : ∀ k : Nat, ∀ i, i < 17 → 0 ≤ g.itT t r n k i ∧ g.itT t r n k i ≤ 1000
  | 0 => ht
  | k + 1 => Gt.minT_bd hok (Gt.itT_bd hok ht hr k) hr
theorem Gt.itS_bd {g : Gt} {t r : Nat → Int} {n : Nat} (hok : g.Ok) (ht : ∀ i, i < 17 → 0 ≤ t i ∧ t i ≤ 1000) (hr : ∀ i, i < n → 0 ≤ r i ∧ r i ≤ 1000) : ∀ k : Nat, 0 ≤ g.itS t r n k ∧ g.itS t r n k ≤ k * 8000
  | 0 => by unfold Gt.itS; simp
  | k + 1 => by
    have a := Gt.itS_bd hok ht hr k
    have b := Gt.minS_bd hok (Gt.itT_bd hok ht hr k) hr
    unfold Gt.itS
    omega
theorem Gt.itO_bd {g : Gt} {t r : Nat → Int} {n : Nat} (hok : g.Ok) (ht : ∀ i, i < 17 → 0 ≤ t i ∧ t i ≤ 1000) (hr : ∀ i, i < n → 0 ≤ r i ∧ r i ≤ 1000) : ∀ k : Nat, 0 ≤ g.itO t r n k ∧ g.itO t r n k ≤ k * 578000
  | 0 => by unfold Gt.itO; simp
  | k + 1 => by
    have a := Gt.itO_bd hok ht hr k
    have b := Gt.minO_bd hok (Gt.itT_bd hok ht hr k) hr
    unfold Gt.itO
    omega

/-- A shower: a gutter's depth, outlets, flows, and rain. -/
def IsShw (w : World) (b : Nat) (x : Array Value) (g : Gt) (n : Nat) (r : Nat → Int) : Prop :=
  ∃ vo vf vr, x = #[.int .i32 g.d, vo, vf, vr] ∧ IsList w b vo 2 g.m (outC g.p) ∧ IsList w b vf 1 g.n.toNat (fun i => .int .i64 (g.to i)) ∧ IsList w b vr 1 n (fun i => .int .i64 (r i))
theorem IsShw.below {w w' : World} {b : Nat} {x : Array Value} {g : Gt} {n : Nat} {r : Nat → Int} (h : IsShw w b x g n r) (hb : Below w.heap.size w w') : IsShw w' b x g n r := by
  obtain ⟨vo, vf, vr, e, a, f, c⟩ := h
  exact ⟨vo, vf, vr, e, a.below hb (Nat.le_refl _), f.below hb (Nat.le_refl _), c.below hb (Nat.le_refl _)⟩
/-- A list's block is another one. -/
def Away (K n : Nat) (v : Value) : Prop := 0 < n → ∀ gb cap, v = .slice (some ⟨gb, 0, none⟩) n cap → gb ≠ K
theorem IsList.setRowA {w : World} {base sz n : Nat} {v : Value} {f : Nat → Value} (h : IsList w base v sz n f) {K : Nat} (hK : Away K n v) (c : Array Value) : IsList (w.setRow K c) base v sz n f := by
  rcases Nat.eq_zero_or_pos n with h0 | h0
  · obtain ⟨a, cap, rfl⟩ := h.shape
    subst h0
    exact .inl ⟨rfl, a, cap, rfl⟩
  · rcases h with ⟨h1, _⟩ | ⟨g, cap, cur, rfl, hg, hr, hs, hf⟩
    · omega
    · exact .inr ⟨g, cap, cur, rfl, hg, (rowAt_setRow_ne _ _ _ _ (hK h0 _ _ rfl)).trans hr, hs, hf⟩
theorem IsList.away {w : World} {b sz n : Nat} {v : Value} {f : Nat → Value} (h : IsList w b v sz n f) {K : Nat} (hK : w.heap.size ≤ K) : Away K n v := by
  intro h0 gb cap e
  rcases h with ⟨h1, _⟩ | ⟨g, c, cur, e2, hg, hr, _⟩
  · omega
  · rw [e] at e2
    cases e2
    have := rowAt_lt hr
    omega
theorem IsList.awayB {w : World} {b sz n : Nat} {v : Value} {f : Nat → Value} (h : IsList w b v sz n f) {K : Nat} (hK : K < b) : Away K n v := by
  intro h0 gb cap e
  rcases h with ⟨h1, _⟩ | ⟨g, c, cur, e2, hg, hr, _⟩
  · omega
  · rw [e] at e2
    cases e2
    omega
/-- A shower none of whose lists lies in block K. -/
def IsShwK (w : World) (K : Nat) (x : Array Value) (g : Gt) (n : Nat) (r : Nat → Int) : Prop :=
  ∃ vo vf vr, x = #[.int .i32 g.d, vo, vf, vr] ∧ (IsList w 0 vo 2 g.m (outC g.p) ∧ Away K g.m vo) ∧ (IsList w 0 vf 1 g.n.toNat (fun i => .int .i64 (g.to i)) ∧ Away K g.n.toNat vf) ∧ (IsList w 0 vr 1 n (fun i => .int .i64 (r i)) ∧ Away K n vr)
theorem IsShwK.shw {w : World} {K : Nat} {x : Array Value} {g : Gt} {n : Nat} {r : Nat → Int} (h : IsShwK w K x g n r) : IsShw w 0 x g n r := by
  obtain ⟨vo, vf, vr, e, a, f, c⟩ := h
  exact ⟨vo, vf, vr, e, a.1, f.1, c.1⟩
theorem IsShwK.below {w w' : World} {K : Nat} {x : Array Value} {g : Gt} {n : Nat} {r : Nat → Int} (h : IsShwK w K x g n r) (hb : Below w.heap.size w w') : IsShwK w' K x g n r := by
  obtain ⟨vo, vf, vr, e, a, f, c⟩ := h
  exact ⟨vo, vf, vr, e, ⟨a.1.below hb (Nat.le_refl _), a.2⟩, ⟨f.1.below hb (Nat.le_refl _), f.2⟩, ⟨c.1.below hb (Nat.le_refl _), c.2⟩⟩
theorem IsShwK.setRow {w : World} {K : Nat} {x : Array Value} {g : Gt} {n : Nat} {r : Nat → Int} (h : IsShwK w K x g n r) (d : Array Value) : IsShwK (w.setRow K d) K x g n r := by
  obtain ⟨vo, vf, vr, e, a, f, c⟩ := h
  exact ⟨vo, vf, vr, e, ⟨a.1.setRowA a.2 d, a.2⟩, ⟨f.1.setRowA f.2 d, f.2⟩, ⟨c.1.setRowA c.2 d, c.2⟩⟩
theorem IsShw.ones {w : World} {b : Nat} {x : Array Value} {g : Gt} {n : Nat} {r : Nat → Int} (h : IsShw w b x g n r) : Ones x := by
  obtain ⟨vo, vf, vr, rfl, a, f, c⟩ := h
  obtain ⟨a1, c1, rfl⟩ := a.shape
  obtain ⟨a2, c2, rfl⟩ := f.shape
  obtain ⟨a3, c3, rfl⟩ := c.shape
  intro v hv
  simp at hv
  rcases hv with rfl | rfl | rfl | rfl <;> rfl
theorem minuteW_any (b n : Nat) (x : Array Value) (g : Gt) (r t : Nat → Int) (d : Array Value) (w : World) (hS : IsShw w b x g n r)
    (hn : n ≤ g.n.toNat) (hok : g.Ok) (hD : IsK .i32 d 17 t) (ht : ∀ i, i < 17 → 0 ≤ t i ∧ t i ≤ 1000) (hrb : ∀ i, i < n → 0 ≤ r i ∧ r i ≤ 1000) :
    Calls Try.prog 59 #[.agg x, .agg d] w fun e w' => ∃ cur, e = .returned (.tuple #[.agg cur, .int .i64 (g.minS t r n), .int .i64 (g.minO t r n)]) ∧ IsK .i32 cur 17 (g.minT t r n) ∧ Below w.heap.size w w' := by
  obtain ⟨vo, vf, vr, rfl, a, f, c⟩ := hS
  have h1 := hok.n1
  exact minute_any b g.n.toNat n g vo vf vr r t d w a f c (by omega) hn hok hD ht hrb

theorem IsList.setRow {w : World} {base sz n : Nat} {v : Value} {f : Nat → Value} (h : IsList w base v sz n f) (K : Nat) (hK : K < base) (c : Array Value) : IsList (w.setRow K c) base v sz n f := by
  rcases h with h | ⟨g, cap, cur, rfl, hg, hr, hs, hf⟩
  · exact .inl h
  · exact .inr ⟨g, cap, cur, rfl, hg, (rowAt_setRow_ne _ _ _ _ (by omega)).trans hr, hs, hf⟩
theorem results_c1 {P : Program} {fn : Func} {p : Tmp} {ty : TypeId} (h : fn.results = #[.cell p ty]) (tmps : Array Value) (w : World) (a : Addr) (x : Value)
    (h1 : tmps.getD p undef = .pointer (some a)) (k1 : (loadVar ty a).run P w = .ok x w) : (results fn tmps).run P w = .ok x w := by
  have e1 : (asAddr (tmps.getD p undef)).run P w = .ok a w := by rw [h1]; rfl
  simp only [results, h]
  rw [Array.getD_eq_getD_getElem?] at e1
  simp [Sem.run_bind, Result.andThen, e1, k1]
theorem results_cttm {P : Program} {fn : Func} {p u q : Tmp} {ty : TypeId} (h : fn.results = #[.cell p ty, .tmp u, .tmp q]) (tmps : Array Value) (w : World) (a : Addr) (x : Value)
    (h1 : tmps.getD p undef = .pointer (some a)) (k1 : (loadVar ty a).run P w = .ok x w) : (results fn tmps).run P w = .ok (.tuple #[x, tmps.getD u undef, tmps.getD q undef]) w := by
  have e1 : (asAddr (tmps.getD p undef)).run P w = .ok a w := by rw [h1]; rfl
  simp only [results, h]
  rw [Array.getD_eq_getD_getElem?] at e1
  simp [Sem.run_bind, Result.andThen, e1, k1]

set_option maxRecDepth 100000 in
set_option maxHeartbeats 4000000 in
theorem minutes_any (b n k : Nat) (x : Array Value) (g : Gt) (r t : Nat → Int) (d : Array Value) (w : World) (hS : IsShw w b x g n r)
    (hn : n ≤ g.n.toNat) (hok : g.Ok) (hD : IsK .i32 d 17 t) (ht : ∀ i, i < 17 → 0 ≤ t i ∧ t i ≤ 1000) (hrb : ∀ i, i < n → 0 ≤ r i ∧ r i ≤ 1000) (hk : k ≤ 200) :
    Calls Try.prog 52 #[.agg x, .agg d, .int .i64 k] w fun e w' => ∃ cur, e = .returned (.tuple #[.agg cur, .int .i64 (g.itS t r n k), .int .i64 (g.itO t r n k)]) ∧ IsK .i32 cur 17 (g.itT t r n k) ∧ Below w.heap.size w w' := by
  have HS := Lib.hid hS
  have HT := Lib.hid (Gt.itT_bd hok ht hrb)
  have HSB := Lib.hid (Gt.itS_bd hok ht hrb)
  have HOB := Lib.hid (Gt.itO_bd hok ht hrb)
  have CM := fun W (dd : Array Value) (tt : Nat → Int) (a : IsShw W b x g n r) (bb : IsK .i32 dd 17 tt) (c : ∀ i, i < 17 → 0 ≤ tt i ∧ tt i ≤ 1000) => minuteW_any b n x g r tt dd W a hn hok bb c hrb
  have HD := Lib.hid hD
  have hds := hD.size
  have hdo := hD.ones
  have xs : x.size = 4 := by obtain ⟨vo, vf, vr, rfl, _⟩ := hS; rfl
  have xo : Ones x := by
    obtain ⟨vo, vf, vr, rfl, a, f, c⟩ := hS
    obtain ⟨a1, c1, rfl⟩ := a.shape
    obtain ⟨a2, c2, rfl⟩ := f.shape
    obtain ⟨a3, c3, rfl⟩ := c.shape
    intro v hv
    simp at hv
    rcases hv with rfl | rfl | rfl | rfl <;> rfl
  have hzo := zeroW_is.ones
  unfold zeroW at hzo
  clear hS ht hrb hD
  go_enter Try.func52, Try.ntmps52
  go_wp2_with fail
  refine gen_world fun W hW => ?_
  have q0 : rowAt W w.heap.size = some x := by rw [hW]; exact (rowAt_alloc_past _ _ _ (by simp; try omega)).trans ((rowAt_alloc_past _ _ _ (by simp)).trans (rowAt_alloc_at _ _ _ _ (by simp)))
  have q1 : rowAt W (w.heap.size + 1) = some d := by rw [hW]; exact (rowAt_alloc_past _ _ _ (by simp)).trans (rowAt_alloc_at _ _ _ _ (by simp))
  have q2 : rowAt W (w.heap.size + 1 + 1) = some zeroW := by rw [hW]; exact rowAt_alloc_at _ _ _ _ (by simp)
  have BW : Below w.heap.size w W := by rw [hW]; exact (((Below.refl _ _).alloc (Nat.le_refl _) _).alloc (by simp) _).alloc (by simp; omega) _
  have k01 : w.heap.size ≠ w.heap.size + 1 := by omega
  have k12 : w.heap.size + 1 ≠ w.heap.size + 1 + 1 := by omega
  have k02 : w.heap.size ≠ w.heap.size + 1 + 1 := by omega
  have b1 : w.heap.size ≤ w.heap.size + 1 := by omega
  have b2 : w.heap.size ≤ w.heap.size + 1 + 1 := by omega
  clear hW
  generalize w.heap.size + 1 + 1 = K2 at *
  generalize w.heap.size + 1 = K1 at *
  go_loopw [9, 10, 11, 12, 13, 15] (fun tk ov _ _ _ i V => ∃ (j : Nat) (cur : Array Value), j ≤ k ∧ i = .int .i64 j ∧ tk = .int .i64 (g.itS t r n j) ∧ ov = .int .i64 (g.itO t r n j) ∧ rowAt V K1 = some cur ∧ Hid (IsK .i32 cur 17 (g.itT t r n j)) ∧ rowAt V w.heap.size = some x ∧ rowAt V K2 = some zeroW ∧ Below w.heap.size w V) (fun _ _ _ _ _ i _ => k - (intOf i).toNat)
  case atStart => exact ⟨0, d, by omega, rfl, rfl, rfl, q1, HD, q0, q2, BW⟩
  case round =>
    clear q0 q1 q2 BW
    obtain ⟨j, cur, hj, rfl, rfl, rfl, q1, hI, q0, q2, hB⟩ := hrel
    by_cases hlt : j < k
    · have hS0 := HS.out.below hB
      have j0 : 0 ≤ (j : Int) := by omega
      have j1 : (j : Int) < k := by omega
      have hcs := hI.out.size
      have hco := hI.out.ones
      have HSH := Lib.hid (show IsShw wr b x g n r from HS.out.below hB)
      have sb := HSB.out j
      have ob := HOB.out j
      have sb' := HSB.out (j + 1)
      have ob' := HOB.out (j + 1)
      have eS : g.itS t r n (j + 1) = g.itS t r n j + g.minS (g.itT t r n j) r n := rfl
      have eO : g.itO t r n (j + 1) = g.itO t r n j + g.minO (g.itT t r n j) r n := rfl
      have CMj := CM wr cur (g.itT t r n j) HSH.out hI.out (HT.out j)
      have ts : 0 ≤ g.itS t r n (j + 1) ∧ g.itS t r n (j + 1) ≤ 1608000 := by omega
      have tov : 0 ≤ g.itO t r n (j + 1) ∧ g.itO t r n (j + 1) ≤ 116178000 := by omega
      have HTJ := Lib.hid (show g.itT t r n (j + 1) = g.minT (g.itT t r n j) r n from rfl)
      have ES := Lib.hid eS
      have EO := Lib.hid eO
      rw [eS] at ts
      rw [eO] at tov
      clear eS eO sb ob sb' ob'
      generalize g.itS t r n j = s0 at *
      generalize g.itO t r n j = o0 at *
      generalize g.minS (g.itT t r n j) r n = s1 at *
      generalize g.minO (g.itT t r n j) r n = o1 at *
      have HB := Lib.hid hB
      clear hB CM
      go_wp2_with fail
      refine CMj.mono ?_
      rintro e w1 ⟨cur2, rfl, i2, b9⟩
      have r0 := brow b9 q0
      have r1 := brow b9 q1
      have r2 := brow b9 q2
      have B1 := bnext HB.out b9 HB.out.size
      have I2 := Lib.hid i2
      have c2s := i2.size
      have c2o := i2.ones
      have l1 := rowAt_lt r1
      have l0 := rowAt_lt r0
      have l2 := rowAt_lt r2
      have n0 := Nat.ne_of_lt l0
      have n1 := Nat.ne_of_lt l1
      have n2 := Nat.ne_of_lt l2
      clear CMj b9 q0 q1 q2 i2
      go_wp2_with fail
      refine ⟨⟨j + 1, cur2, by omega, by go_num, by rw [ES.out], by rw [EO.out], ?_, by rw [HTJ.out]; exact I2, ?_, ?_, ?_⟩, by simp [intOf]; omega⟩
      · exact (rowAt_alloc_past _ _ _ (by simpa using l1)).trans (rowAt_setRow_at _ _ _ (by rw [r1]; rfl))
      · exact (rowAt_alloc_past _ _ _ (by simpa using l0)).trans ((rowAt_setRow_ne _ _ _ _ k01).trans r0)
      · exact (rowAt_alloc_past _ _ _ (by simpa using l2)).trans ((rowAt_setRow_ne _ _ _ _ (Ne.symm k12)).trans r2)
      · exact (below_setRow B1 b1 _).alloc (by simpa using B1.size) _
    · obtain rfl : j = k := by omega
      have his := hI.out.size
      have hio := hI.out.ones
      have hzs : zeroW.size = 17 := rfl
      have l1 := rowAt_lt q1
      have l0 := rowAt_lt q0
      have l2 := rowAt_lt q2
      go_wp2_with fail
      refine bodyPost_ret (results_cttm (fn := Try.f52) (p := 6) (u := 7) (q := 8) (ty := 32) rfl _ _ ⟨K2, 0, none⟩ (.agg cur) rfl (loadVar_wat _ K2 cur (rowAt_setRow_at _ _ _ (by rw [q2]; rfl)) his)) rfl ?_
      exact ⟨cur, rfl, hI.out, below_setRow hB b2 _⟩

set_option maxRecDepth 100000 in
set_option maxHeartbeats 4000000 in
theorem shower_any (b n : Nat) (c : Array Value) (g : Gt) (v vr : Value) (r : Nat → Int) (w : World) (hG : IsGut c g v) (hv : IsList w b v 2 g.m (pipeV g.p)) (hok : g.Ok) (hr : IsList w b vr 1 n (fun i => .int .i64 (r i))) :
    Calls Try.prog 51 #[.agg c, vr] w fun e w' => ∃ x, e = .returned (.agg x) ∧ IsShw w' 0 x g n r ∧ (∀ K, K < w.heap.size → Away K n vr → IsShwK w' K x g n r) ∧ Below w.heap.size w w' := by
  have hN := hok.n1
  obtain ⟨N, hNe⟩ := Int.eq_ofNat_of_zero_le (show 0 ≤ g.n by omega)
  have CO := fun W H => outlets_any b c g v W hG H hok.m4
  have CF := fun W H => flows_any b c g v N W hG H hok hNe
  have hds := hok.d0
  have hd1 := hok.d1
  have HV := Lib.hid hv
  have HR := Lib.hid hr
  have hcs := hG.size
  have hco := hG.ones
  have HG := Lib.hid hG
  obtain ⟨ar, cr, rfl⟩ := hr.shape
  clear hv hr hok hG
  go_enter Try.func51, Try.ntmps51
  go_wp2_with fail
  refine gen_world fun W hW => ?_
  have q0 : rowAt W w.heap.size = some c := by rw [hW]; exact (rowAt_alloc_past _ _ _ (by simp)).trans (rowAt_alloc_at _ _ _ _ (by simp))
  have q1 : rowAt W (w.heap.size + 1) = some #[.int .i32 0, .slice none 0 0, .slice none 0 0, .slice none 0 0] := by rw [hW]; exact rowAt_alloc_at _ _ _ _ (by simp)
  have BW : Below w.heap.size w W := by rw [hW]; exact ((Below.refl _ _).alloc (Nat.le_refl _) _).alloc (by simp) _
  have k01 : w.heap.size ≠ w.heap.size + 1 := by omega
  have b1 : w.heap.size ≤ w.heap.size + 1 := by omega
  have yd : IntKind.i32.wrap g.d = g.d := IntWalk.i32_in _ (by omega)
  clear hW
  generalize w.heap.size + 1 = K1 at *
  refine Code.wp_mono onlyN_out6 ?_
  refine wp_region_held_drew (S := fun w' => ∃ z : Array Value, rowAt w' K1 = some z ∧ z.size = 4 ∧ rowAt w' w.heap.size = some c ∧ Below w.heap.size w w') (by kernel_rfl) (⟨_, q1, rfl, q0, BW.drew⟩) (fun hH => ?_)
  refine wpAnyH_take (i := 0) (v := .pointer (some ⟨w.heap.size, 1, none⟩)) rfl (by kernel_rfl) (by kernel_rfl) (by kernel_rfl) (fun _ _ _ h => h) (Or.inl ⟨by rfl, ?_⟩) hH ?_
  · intro w1 hS; (try dsimp only at hS); obtain ⟨z, g1, gz, g0, gb⟩ := hS; go_simp
  (try simp only [List.getElem_toArray]); (try simp only [List.getElem_cons_succ]); (try simp only [List.getElem_cons_zero]); (try simp only [Act.put]); (try simp only [List.setIfInBounds_toArray]); (try simp only [List.set_cons_succ]); (try simp only [List.set_cons_zero])
  refine wpAnyH_take (i := 1) (v := .int .i16 g.d) rfl (by kernel_rfl) (by kernel_rfl) (by kernel_rfl) (fun _ _ _ h => h) (Or.inl ⟨by rfl, ?_⟩) hH ?_
  · intro w1 hS; (try dsimp only at hS); obtain ⟨z, g1, gz, g0, gb⟩ := hS; have s0 : w1.cell? ⟨w.heap.size, 1, none⟩ = some (.int .i16 g.d) := (by rw [cell_of_rowAt g0]; exact HG.out.get1); go_simp
  (try simp only [List.getElem_toArray]); (try simp only [List.getElem_cons_succ]); (try simp only [List.getElem_cons_zero]); (try simp only [Act.put]); (try simp only [List.setIfInBounds_toArray]); (try simp only [List.set_cons_succ]); (try simp only [List.set_cons_zero])
  refine wpAnyH_take (i := 2) (v := .int .i32 g.d) rfl (by kernel_rfl) (by kernel_rfl) (by kernel_rfl) (fun _ _ _ h => h) (Or.inl ⟨by rfl, ?_⟩) hH ?_
  · intro w1 hS; (try dsimp only at hS); obtain ⟨z, g1, gz, g0, gb⟩ := hS; go_simp
  (try simp only [List.getElem_toArray]); (try simp only [List.getElem_cons_succ]); (try simp only [List.getElem_cons_zero]); (try simp only [Act.put]); (try simp only [List.setIfInBounds_toArray]); (try simp only [List.set_cons_succ]); (try simp only [List.set_cons_zero])
  refine wpAnyH_take (i := 3) (v := .agg c) rfl (by kernel_rfl) (by kernel_rfl) (by kernel_rfl) (fun _ _ _ h => h) (Or.inl ⟨by rfl, ?_⟩) hH ?_
  · intro w1 hS; (try dsimp only at hS); obtain ⟨z, g1, gz, g0, gb⟩ := hS; go_simp
  (try simp only [List.getElem_toArray]); (try simp only [List.getElem_cons_succ]); (try simp only [List.getElem_cons_zero]); (try simp only [Act.put]); (try simp only [List.setIfInBounds_toArray]); (try simp only [List.set_cons_succ]); (try simp only [List.set_cons_zero])
  refine wpAnyH_take (i := 5) (v := .agg c) rfl (by kernel_rfl) (by kernel_rfl) (by kernel_rfl) (fun _ _ _ h => h) (Or.inl ⟨by rfl, ?_⟩) hH ?_
  · intro w1 hS; (try dsimp only at hS); obtain ⟨z, g1, gz, g0, gb⟩ := hS; go_simp
  (try simp only [List.getElem_toArray]); (try simp only [List.getElem_cons_succ]); (try simp only [List.getElem_cons_zero]); (try simp only [Act.put]); (try simp only [List.setIfInBounds_toArray]); (try simp only [List.set_cons_succ]); (try simp only [List.set_cons_zero])
  refine wpAnyH_take (i := 7) (v := .slice ar n cr) rfl (by kernel_rfl) (by kernel_rfl) (by kernel_rfl) (fun _ _ _ h => h) (Or.inl ⟨by rfl, ?_⟩) hH ?_
  · intro w1 hS; (try dsimp only at hS); obtain ⟨z, g1, gz, g0, gb⟩ := hS; go_simp
  (try simp only [List.getElem_toArray]); (try simp only [List.getElem_cons_succ]); (try simp only [List.getElem_cons_zero]); (try simp only [Act.put]); (try simp only [List.setIfInBounds_toArray]); (try simp only [List.set_cons_succ]); (try simp only [List.set_cons_zero])
  refine wpAnyH_ready (rs := [4]) (by kernel_rfl) (by simp) (AllReadyH.cons rfl (fun K hK => ?_) AllReadyH.nil)
  obtain ⟨z, g1, gz, g0, gb⟩ := hH
  go_simp
  refine (CO _ (HV.out.below gb (Nat.le_refl _))).mono ?_
  rintro x wx ⟨a1, rfl, l1, bx⟩
  have l1 := Lib.hid l1
  have e1 := rowAt_lt g1
  have f1 := gb.size
  go_simp
  refine hK.out _ _ (⟨z, brow bx g1, gz, brow bx g0, bnext gb bx gb.size⟩) (fun hG => ?_)
  clear hK K bx
  have hH := hG
  clear hG
  (try simp only [List.getElem_toArray]); (try simp only [List.getElem_cons_succ]); (try simp only [List.getElem_cons_zero]); (try simp only [Act.put]); (try simp only [List.setIfInBounds_toArray]); (try simp only [List.set_cons_succ]); (try simp only [List.set_cons_zero])
  refine wpAnyH_ready (rs := [6]) (by kernel_rfl) (by simp) (AllReadyH.cons rfl (fun K hK => ?_) AllReadyH.nil)
  obtain ⟨z, g1, gz, g0, gb⟩ := hH
  go_simp
  refine (CF _ (HV.out.below gb (Nat.le_refl _))).mono ?_
  rintro x wx ⟨a2, rfl, l2, bx⟩
  have l1 := Lib.hid (l1.out.below bx (Nat.le_refl _))
  have l2 := Lib.hid l2
  have e2 := rowAt_lt g1
  have f2 := gb.size
  go_simp
  refine hK.out _ _ (⟨z, brow bx g1, gz, brow bx g0, bnext gb bx gb.size⟩) (fun hG => ?_)
  clear hK K bx
  have hH := hG
  clear hG
  (try simp only [List.getElem_toArray]); (try simp only [List.getElem_cons_succ]); (try simp only [List.getElem_cons_zero]); (try simp only [Act.put]); (try simp only [List.setIfInBounds_toArray]); (try simp only [List.set_cons_succ]); (try simp only [List.set_cons_zero])
  refine wpAnyH_take (i := 8) (v := .agg #[.int .i32 g.d, .slice a1 g.m g.m, .slice a2 N N, .slice ar n cr]) rfl (by kernel_rfl) (by kernel_rfl) (by kernel_rfl) (fun _ _ _ h => h) (Or.inl ⟨by rfl, ?_⟩) hH ?_
  · intro w1 hS; (try dsimp only at hS); obtain ⟨z, g1, gz, g0, gb⟩ := hS; go_simp
  (try simp only [List.getElem_toArray]); (try simp only [List.getElem_cons_succ]); (try simp only [List.getElem_cons_zero]); (try simp only [Act.put]); (try simp only [List.setIfInBounds_toArray]); (try simp only [List.set_cons_succ]); (try simp only [List.set_cons_zero])
  refine wpAnyH_ready (rs := [9]) (by kernel_rfl) (by simp) (AllReadyH.cons rfl (fun K hK => ?_) AllReadyH.nil)
  obtain ⟨z, g1, gz, g0, gb⟩ := hH
  have hsx : (#[.int .i32 g.d, .slice a1 g.m g.m, .slice a2 N N, .slice ar n cr] : Array Value).size = 4 := rfl
  have l9 := rowAt_lt g1
  have hxo : Ones #[.int .i32 g.d, .slice a1 g.m g.m, .slice a2 N N, .slice ar n cr] := by
    intro v hv
    simp at hv
    rcases hv with rfl | rfl | rfl | rfl <;> rfl
  go_simp
  refine hK.out _ _ (⟨#[.int .i32 g.d, .slice a1 g.m g.m, .slice a2 N N, .slice ar n cr], rowAt_setRow_at _ _ _ (congrArg Option.isSome g1), rfl, (rowAt_setRow_ne _ _ _ _ k01).trans g0, below_setRow gb b1 _⟩) (fun hG => ?_)
  clear hK K
  have hH := hG
  clear hG
  (try simp only [List.getElem_toArray]); (try simp only [List.getElem_cons_succ]); (try simp only [List.getElem_cons_zero]); (try simp only [Act.put]); (try simp only [List.setIfInBounds_toArray]); (try simp only [List.set_cons_succ]); (try simp only [List.set_cons_zero])
  refine wpAnyH_done (by kernel_rfl) ?_ _
  dsimp only [OnlyN6]
  have G1 : rowAt (wx.setRow K1 #[.int .i32 g.d, .slice a1 g.m g.m, .slice a2 N N, .slice ar n cr]) K1 = some #[.int .i32 g.d, .slice a1 g.m g.m, .slice a2 N N, .slice ar n cr] := rowAt_setRow_at _ _ _ (congrArg Option.isSome g1)
  have L1 := Lib.hid ((l1.out.setRow K1 e1 #[.int .i32 g.d, .slice a1 g.m g.m, .slice a2 N N, .slice ar n cr]).mono (Nat.zero_le _))
  have L2 := Lib.hid ((l2.out.setRow K1 e2 #[.int .i32 g.d, .slice a1 g.m g.m, .slice a2 N N, .slice ar n cr]).mono (Nat.zero_le _))
  have A1 := Lib.hid (fun K (hK : K < w.heap.size) => l1.out.awayB (Nat.lt_of_lt_of_le hK f1))
  have A2 := Lib.hid (fun K (hK : K < w.heap.size) => l2.out.awayB (Nat.lt_of_lt_of_le hK f2))
  obtain ⟨_, _, _, _, gB⟩ := hH
  have L3 := Lib.hid ((HR.out.below gB (Nat.le_refl _)).mono (Nat.zero_le _))
  have GB := Lib.hid gB
  have l9 := rowAt_lt G1
  have HG1 := Lib.hid G1
  clear l1 l2 gB
  go_wp2_with fail
  have kk : ∀ W : World, rowAt W K1 = some #[.int .i32 g.d, .slice a1 g.m g.m, .slice a2 N N, .slice ar n cr] → (loadVar 80 ⟨K1, 0, none⟩).run Try.prog W = .ok (.agg #[.int .i32 g.d, .slice a1 g.m g.m, .slice a2 N N, .slice ar n cr]) W := fun W hW => by
    have h := load_shw W K1 0
    rw [hW] at h
    exact h
  refine bodyPost_ret (results_c1 (fn := Try.f51) (p := 4) (ty := 80) rfl _ _ ⟨K1, 0, none⟩ (.agg #[.int .i32 g.d, .slice a1 g.m g.m, .slice a2 N N, .slice ar n cr]) rfl (kk _ HG1.out)) rfl ?_
  exact ⟨_, rfl, ⟨_, _, _, rfl, L1.out, by rw [hNe]; exact L2.out, L3.out⟩, fun K hK hA => ⟨_, _, _, rfl, ⟨L1.out, A1.out K hK⟩, ⟨by rw [hNe]; exact L2.out, by rw [hNe]; exact A2.out K hK⟩, ⟨L3.out, hA⟩⟩, GB.out⟩
end Go.Proofs.Ytfdoehakpeddnaa

/- DrainTime: both sides. -/
namespace Go.Proofs.Ytfdoehakpeddnaa
open Go.RowKit

open Classical in
/-- All cells are empty behind j minutes without rain. -/
noncomputable def Gt.dryB (g : Gt) (t : Nat → Int) (j : Nat) : Bool := decide (∀ i, i < 17 → g.itT t (fun _ => 0) 0 j i = 0)
theorem Gt.dryB_t {g : Gt} {t : Nat → Int} {j : Nat} : g.dryB t j = true ↔ ∀ i, i < 17 → g.itT t (fun _ => 0) 0 j i = 0 := by simp only [Gt.dryB, decide_eq_true_eq]
theorem Gt.dryB_f {g : Gt} {t : Nat → Int} {j : Nat} : g.dryB t j = false ↔ ¬ ∀ i, i < 17 → g.itT t (fun _ => 0) 0 j i = 0 := by simp only [Gt.dryB, decide_eq_false_iff_not]
noncomputable def Gt.draZ (g : Gt) (t : Nat → Int) : Int := firstI (g.dryB t) 201
noncomputable def Gt.draV (g : Gt) (t : Nat → Int) : Int := if g.watB t = true ∧ 0 ≤ g.draZ t then g.draZ t else 0
noncomputable def Gt.draC (g : Gt) (t : Nat → Int) : Int := if g.watB t = true then (if 0 ≤ g.draZ t then 0 else 6) else 1
theorem Gt.dra_n {g : Gt} {t : Nat → Int} (h : g.watB t = false) : g.draV t = 0 ∧ g.draC t = 1 := by
  unfold Gt.draV Gt.draC
  rw [h]
  exact ⟨if_neg (fun x => by cases x.1), if_neg (fun x => by cases x)⟩
theorem Gt.dra_hit {g : Gt} {t : Nat → Int} (h : g.watB t = true) {j : Nat} (hj : j < 201) (hm : ∀ q, q < j → g.dryB t q = false) (hd : g.dryB t j = true) : g.draV t = j ∧ g.draC t = 0 := by
  have e : g.draZ t = j := firstI_hit hj hm hd
  unfold Gt.draV Gt.draC
  rw [h, e]
  exact ⟨if_pos ⟨rfl, by omega⟩, by rw [if_pos rfl, if_pos (by omega)]⟩
theorem Gt.dra_miss {g : Gt} {t : Nat → Int} (h : g.watB t = true) (hm : ∀ q, q < 201 → g.dryB t q = false) : g.draV t = 0 ∧ g.draC t = 6 := by
  have e : g.draZ t = -1 := firstI_miss hm
  unfold Gt.draV Gt.draC
  rw [h, e]
  exact ⟨if_neg (fun x => by omega), by rw [if_pos rfl, if_neg (by omega)]⟩
theorem Gt.wat_bd {g : Gt} {t : Nat → Int} (h : g.watB t = true) : ∀ i, i < 17 → 0 ≤ t i ∧ t i ≤ 1000 := fun i hi => by
  obtain ⟨o, f⟩ := Gt.watB_of h
  have h1 := (f i hi).1
  have h2 := (f i hi).2.1
  have h3 := o.d1
  exact ⟨h1, by omega⟩

set_option maxRecDepth 100000 in
set_option maxHeartbeats 4000000 in
theorem specDrainTime_any (b : Nat) (c : Array Value) (g : Gt) (v : Value) (d : Array Value) (t : Nat → Int) (w : World) (hG : IsGut c g v) (hv : IsList w b v 2 g.m (pipeV g.p)) (hm : g.m ≤ 2000000) (hD : IsWat d t) :
    Calls Try.prog 25 #[.agg c, .agg d] w fun e w' => e = .returned (.tuple #[.int .i64 (g.draV t), .int .i64 (g.draC t)]) ∧ Below w.heap.size w w' := by
  have hA := gutAt_box hG hv
  have hb : Below (w.alloc (.cells c 37)).heap.size (w.alloc (.cells c 37)) ((w.alloc (.cells c 37)).alloc (.cells d 32)) := (Below.refl _ _).alloc (Nat.le_refl _) _
  have hB0 : Below w.heap.size w ((w.alloc (.cells c 37)).alloc (.cells d 32)) := ((Below.refl _ _).alloc (Nat.le_refl _) _).alloc (by simp) _
  have hA1 := Lib.hid (hA.below hb (Nat.le_refl _))
  have hR : rowAt ((w.alloc (.cells c 37)).alloc (.cells d 32)) (w.heap.size + 1) = some d := rowAt_alloc_at _ _ _ _ (by simp)
  have HR := Lib.hid hR
  have HD := Lib.hid hD
  have hds := hD.size
  have HAP := Lib.hid (hv.away (K := w.heap.size + 1) (by omega))
  have CW := l06Water_any _ b _ c d g t v _ hA1.out HR.out HD.out hm
  have HV := Lib.hid hv
  have HG := Lib.hid hG
  clear hG hv hA hb hR hD
  cases hwb : g.watB t with
  | false =>
    rw [hwb] at CW
    obtain ⟨e1, e2⟩ := Gt.dra_n hwb
    rw [e1, e2]
    clear e1 e2 hwb
    go_enter Try.func25, Try.ntmps25
    go_wp2_with fail
    refine CW.mono ?_
    rintro e w1 ⟨rfl, b1⟩
    have B1 := bnext hB0 b1 hB0.size
    clear b1 CW hB0
    go_wp2_with fail
    go_ret2
    exact ⟨rfl, B1⟩
  | true =>
    rw [hwb] at CW
    have hO := (Gt.watB_of hwb).1
    have HO := Lib.hid hO
    have HT := Lib.hid (Gt.itT_bd (r := fun _ => 0) (n := 0) hO (Gt.wat_bd hwb) (by omega))
    have HH := Lib.hid (fun (j : Nat) (hj : j < 201) hm hd => Gt.dra_hit hwb (j := j) hj hm hd)
    have HM := Lib.hid (fun hm => Gt.dra_miss hwb hm)
    clear hwb
    go_enter Try.func25, Try.ntmps25
    go_wp2_with fail
    refine CW.mono ?_
    rintro e w1 ⟨rfl, b1⟩
    have B1 := bnext hB0 b1 hB0.size
    have a1 := hA1.out.below b1 (Nat.le_refl _)
    have r1 := brow b1 HR.out
    have n1 : w.heap.size ≠ w.heap.size + 1 := by omega
    clear b1 CW hB0
    go_wp2_with fail
    have hk1 : w.heap.size ≤ w.heap.size + 1 := by omega
    generalize w.heap.size + 1 = K1 at *
    go_loopw [6] (fun i V => ∃ (j : Nat) (cur : Array Value), j ≤ 201 ∧ i = .int .i64 j ∧ rowAt V K1 = some cur ∧ Hid (IsK .i32 cur 17 (g.itT t (fun _ => 0) 0 j)) ∧ Hid (GutAt V w.heap.size c g v b) ∧ Hid (∀ q, q < j → g.dryB t q = false) ∧ Below w.heap.size w V) (fun i _ => 201 - (intOf i).toNat)
    case atStart => exact ⟨0, d, by omega, rfl, r1, Lib.hid HD.out.isK, Lib.hid a1, Lib.hid (fun q hq => by omega), B1⟩
    case round =>
      clear r1 a1 B1
      obtain ⟨j, cur, hj, rfl, q1, hI, hA, hF, hB⟩ := hrel
      by_cases hlt : j < 201
      · have j0 : 0 ≤ (j : Int) := by omega
        have j1 : (j : Int) ≤ 200 := by omega
        have hcs := hI.out.size
        have hco := hI.out.ones
        have l1 := rowAt_lt q1
        have l0 := rowAt_lt hA.out.row
        have HB := Lib.hid hB
        cases hdry : g.dryB t j with
        | true =>
          have hq := fun W : World => run_equalIn_ints_t Try.underlying32 Try.underlying21 (by kernel_rfl) cur zeroW (g.itT t (fun _ => 0) 0 j) (fun _ => 0) (fun i hi => hI.out.get hi) (fun i hi => zeroW_is.get hi) (Gt.dryB_t.1 hdry) 9998 W
          unfold zeroW at hq
          obtain ⟨e1, e2⟩ := HH.out j hlt hF.out hdry
          have E1 := Lib.hid e1
          have E2 := Lib.hid e2
          clear e1 e2 hdry hB
          go_wp2_with fail
          go_ret2
          exact ⟨by rw [E1.out, E2.out]; rfl, HB.out⟩
        | false =>
          have hq := fun W : World => run_equalIn_ints_f Try.underlying32 Try.underlying21 (by kernel_rfl) cur zeroW (g.itT t (fun _ => 0) 0 j) (fun _ => 0) (fun i hi => hI.out.get hi) (fun i hi => zeroW_is.get hi) (Gt.dryB_f.1 hdry) 9998 W
          unfold zeroW at hq
          have HDR := Lib.hid hdry
          have I2 := Lib.hid hI.out
          clear hdry hB
          go_wp2_with fail
          have hws : (wr.alloc (.cells #[] 2)).heap.size = wr.heap.size + 1 := by simp
          have rq : rowAt (wr.alloc (.cells #[] 2)) K1 = some cur := (rowAt_alloc_past _ _ _ l1).trans q1
          have hbw : Below wr.heap.size wr (wr.alloc (.cells #[] 2)) := (Below.refl _ _).alloc (Nat.le_refl _) _
          refine (l06Minute_1 w.heap.size b K1 0 0 c cur g (g.itT t (fun _ => 0) 0 j) (fun _ => 0) v _ _ (hA.out.below hbw (Nat.le_refl _)) rq I2.out (.inl ⟨rfl, _, _, rfl⟩) (by omega) (HT.out j) (by omega) n1 (fun h => by omega) HAP.out HO.out hm).mono ?_
          rintro e w5 ⟨rfl, ⟨cur2, r5, i5⟩, hO5, hL5⟩
          have B5 := Lib.hid ((HB.out.alloc HB.out.size (.cells #[] 2)).trans (hL5.2 w.heap.size hk1 (by have := HB.out.size; simp; omega)))
          have r0 : rowAt w5 w.heap.size = some c := (hO5 _ n1 (by simp; omega)).trans ((rowAt_alloc_past _ _ _ l0).trans hA.out.row)
          have A5 := Lib.hid (show GutAt w5 w.heap.size c g v b from ⟨r0, HG.out, HV.out.below B5.out (Nat.le_refl _)⟩)
          have I5 := Lib.hid i5
          have l5 := rowAt_lt r5
          clear hO5 hL5 i5 rq hbw q1 l1 l0 hws r0
          go_wp2_with fail
          refine ⟨⟨j + 1, cur2, by omega, by go_num, r5, I5, A5, Lib.hid fun q hq => ?_, B5.out⟩, by simp [intOf]; omega⟩
          by_cases h : q < j
          · exact hF.out q h
          · obtain rfl : q = j := by omega
            exact HDR.out
      · obtain rfl : j = 201 := by omega
        have hj1 : ¬ ((201 : Nat) : Int) ≤ 200 := by omega
        obtain ⟨e1, e2⟩ := HM.out hF.out
        have E1 := Lib.hid e1
        have E2 := Lib.hid e2
        have HB := Lib.hid hB
        clear e1 e2 hB
        go_wp2_with fail
        go_ret2
        exact ⟨by rw [E1.out, E2.out]; rfl, HB.out⟩

set_option maxRecDepth 100000 in
set_option maxHeartbeats 4000000 in
theorem implDrainTime_any (b : Nat) (c : Array Value) (g : Gt) (v : Value) (d : Array Value) (t : Nat → Int) (w : World) (hG : IsGut c g v) (hv : IsList w b v 2 g.m (pipeV g.p)) (hm : g.m ≤ 2000000) (hD : IsWat d t) :
    Calls Try.prog 26 #[.agg c, .agg d] w fun e w' => e = .returned (.tuple #[.int .i64 (g.draV t), .int .i64 (g.draC t)]) ∧ Below w.heap.size w w' := by
  have hc := hG.size
  have hco := hG.ones
  have hds := hD.size
  have hdo := hD.ones
  have rA : rowAt ((w.alloc (.cells c 37)).alloc (.cells d 32)) w.heap.size = some c := (rowAt_alloc_past _ _ _ (by simp)).trans (rowAt_alloc_at _ _ _ _ rfl)
  have rD : rowAt ((w.alloc (.cells c 37)).alloc (.cells d 32)) (w.heap.size + 1) = some d := rowAt_alloc_at _ _ _ _ (by simp)
  have hB0 : Below w.heap.size w ((w.alloc (.cells c 37)).alloc (.cells d 32)) := ((Below.refl _ _).alloc (Nat.le_refl _) _).alloc (by simp) _
  have CW := fun W H => implValidWater_any b c g v d t W hG H hm hD
  have HV := Lib.hid hv
  have HG := Lib.hid hG
  have HD := Lib.hid hD
  have k01 : w.heap.size ≠ w.heap.size + 1 := by omega
  have b01 : w.heap.size ≤ w.heap.size + 1 := by omega
  clear hG hv hD
  cases hwb : g.watB t with
  | false =>
    rw [hwb] at CW
    obtain ⟨e1, e2⟩ := Gt.dra_n hwb
    rw [e1, e2]
    clear e1 e2 hwb
    go_enter Try.func26, Try.ntmps26
    go_wp2_with fail
    refine (CW _ (HV.out.below hB0 (Nat.le_refl _))).mono ?_
    rintro e w1 ⟨rfl, b1⟩
    have B1 := bnext hB0 b1 hB0.size
    clear b1 CW hB0 rA rD
    go_wp2_with fail
    go_ret2
    exact ⟨rfl, B1⟩
  | true =>
    rw [hwb] at CW
    have hO := (Gt.watB_of hwb).1
    have HO := Lib.hid hO
    have HT := Lib.hid (Gt.itT_bd (r := fun _ => 0) (n := 0) hO (Gt.wat_bd hwb) (by omega))
    have HH := Lib.hid (fun (j : Nat) (hj : j < 201) hm hd => Gt.dra_hit hwb (j := j) hj hm hd)
    have HM := Lib.hid (fun hm => Gt.dra_miss hwb hm)
    have CM := fun W x (dd : Array Value) (tt : Nat → Int) (a : IsShw W 0 x g 0 (fun _ => 0)) (bb : IsK .i32 dd 17 tt) (c : ∀ i, i < 17 → 0 ≤ tt i ∧ tt i ≤ 1000) => minuteW_any 0 0 x g (fun _ => 0) tt dd W a (Nat.zero_le _) HO.out bb c (by omega)
    have CH := fun W H => shower_any b 0 c g v (.slice none 0 0) (fun _ => 0) W HG.out H HO.out (.inl ⟨rfl, _, _, rfl⟩)
    clear hwb hO
    go_enter Try.func26, Try.ntmps26
    go_wp2_with fail
    refine (CW _ (HV.out.below hB0 (Nat.le_refl _))).mono ?_
    rintro e w1 ⟨rfl, b1⟩
    have r1 := brow b1 rA
    have r2 := brow b1 rD
    have B1 := bnext hB0 b1 hB0.size
    clear b1 CW hB0 rA rD
    go_wp2_with fail
    refine (CH _ (HV.out.below B1 (Nat.le_refl _))).mono ?_
    rintro e w2 ⟨x, rfl, hS, hSK, b2⟩
    have hSK1 := hSK (w.heap.size + 1) (rowAt_lt r2) (fun h => by omega)
    have s1 := brow b2 r1
    have s2 := brow b2 r2
    have B2 := bnext B1 b2 B1.size
    have xs : x.size = 4 := by obtain ⟨vo, vf, vr, rfl, _⟩ := hS; rfl
    have xo := hS.ones
    have HS := Lib.hid hSK1
    clear b2 B1 r1 r2 CH hS hSK hSK1
    go_wp2_with fail
    refine gen_world fun W hW => ?_
    have q0 : rowAt W w.heap.size = some c := by rw [hW]; simpa using (rowAt_alloc_past _ _ _ (rowAt_lt s1)).trans s1
    have q1 : rowAt W (w.heap.size + 1) = some d := by rw [hW]; simpa using (rowAt_alloc_past _ _ _ (rowAt_lt s2)).trans s2
    have q2 : rowAt W w2.heap.size = some x := by rw [hW]; simpa using rowAt_alloc_at w2 x 80 _ rfl
    have BW : Below w.heap.size w W := by rw [hW]; simpa using B2.alloc B2.size _
    have SW : IsShwK W (w.heap.size + 1) x g 0 (fun _ => 0) := by rw [hW]; exact HS.out.below ((Below.refl _ _).alloc (Nat.le_refl _) _)
    have k12 : w.heap.size + 1 ≠ w2.heap.size := Nat.ne_of_lt (rowAt_lt s2)
    have k02 : w.heap.size ≠ w2.heap.size := Nat.ne_of_lt (rowAt_lt s1)
    have HSW := Lib.hid SW
    clear hW s1 s2 B2 HS SW
    generalize w2.heap.size = K2 at *
    generalize w.heap.size + 1 = K1 at *
    go_loopw [7, 14] (fun _ i V => ∃ (j : Nat) (cur : Array Value), j ≤ 201 ∧ i = .int .i64 j ∧ rowAt V K1 = some cur ∧ Hid (IsK .i32 cur 17 (g.itT t (fun _ => 0) 0 j)) ∧ rowAt V w.heap.size = some c ∧ rowAt V K2 = some x ∧ Hid (IsShwK V K1 x g 0 (fun _ => 0)) ∧ Hid (∀ q, q < j → g.dryB t q = false) ∧ Below w.heap.size w V) (fun _ i _ => 201 - (intOf i).toNat)
    case atStart => exact ⟨0, d, by omega, rfl, q1, Lib.hid HD.out.isK, q0, q2, HSW, Lib.hid (fun q hq => by omega), BW⟩
    case round =>
      clear q0 q1 q2 HSW BW
      obtain ⟨j, cur, hj, rfl, q1, hI, q0, q2, hS, hF, hB⟩ := hrel
      by_cases hlt : j < 201
      · have j0 : 0 ≤ (j : Int) := by omega
        have j1 : (j : Int) < 201 := by omega
        have hcs := hI.out.size
        have hcu := hI.out.ones
        have l1 := rowAt_lt q1
        have l0 := rowAt_lt q0
        have HB := Lib.hid hB
        cases hdry : g.dryB t j with
        | true =>
          have hq := fun W : World => run_equalIn_ints_t Try.underlying32 Try.underlying21 (by kernel_rfl) cur zeroW (g.itT t (fun _ => 0) 0 j) (fun _ => 0) (fun i hi => hI.out.get hi) (fun i hi => zeroW_is.get hi) (Gt.dryB_t.1 hdry) 9998 W
          unfold zeroW at hq
          obtain ⟨e1, e2⟩ := HH.out j hlt hF.out hdry
          have E1 := Lib.hid e1
          have E2 := Lib.hid e2
          clear e1 e2 hdry hB
          go_wp2_with fail
          go_ret2
          exact ⟨by rw [E1.out, E2.out]; rfl, HB.out⟩
        | false =>
          have hq := fun W : World => run_equalIn_ints_f Try.underlying32 Try.underlying21 (by kernel_rfl) cur zeroW (g.itT t (fun _ => 0) 0 j) (fun _ => 0) (fun i hi => hI.out.get hi) (fun i hi => zeroW_is.get hi) (Gt.dryB_f.1 hdry) 9998 W
          unfold zeroW at hq
          have HDR := Lib.hid hdry
          have CMj := CM wr x cur _ hS.out.shw hI.out (HT.out j)
          have Q0 := Lib.hid q0
          clear hdry hB q0
          go_wp2_with fail
          refine CMj.mono ?_
          rintro e w5 ⟨cur2, rfl, i2, b5⟩
          have r0 := brow b5 Q0.out
          have r1 := brow b5 q1
          have r2 := brow b5 q2
          have S5 := Lib.hid (hS.out.below b5)
          have B5 := Lib.hid (bnext HB.out b5 HB.out.size)
          have c2s := i2.size
          have c2o := i2.ones
          have I2 := Lib.hid i2
          have l5 := rowAt_lt r1
          have R0 := Lib.hid r0
          have R2 := Lib.hid r2
          clear CMj b5 q1 q2 i2 l1 l0 r0 r2
          go_wp2_with fail
          refine ⟨⟨j + 1, cur2, by omega, by go_num, rowAt_setRow_at _ _ _ (by rw [r1]; rfl), I2, (rowAt_setRow_ne _ _ _ _ k01).trans R0.out, (rowAt_setRow_ne _ _ _ _ (Ne.symm k12)).trans R2.out, Lib.hid (S5.out.setRow _), Lib.hid fun q hq => ?_, below_setRow B5.out b01 _⟩, by simp [intOf]; omega⟩
          by_cases h : q < j
          · exact hF.out q h
          · obtain rfl : q = j := by omega
            exact HDR.out
      · obtain rfl : j = 201 := by omega
        have hj1 : ¬ ((201 : Nat) : Int) < 201 := by omega
        obtain ⟨e1, e2⟩ := HM.out hF.out
        have E1 := Lib.hid e1
        have E2 := Lib.hid e2
        have HB := Lib.hid hB
        clear e1 e2 hB
        go_wp2_with fail
        go_ret2
        exact ⟨by rw [E1.out, E2.out]; rfl, HB.out⟩
end Go.Proofs.Ytfdoehakpeddnaa

/- MinutesAll, MinuteOnce: both sides. -/
namespace Go.Proofs.Ytfdoehakpeddnaa
open Go.RowKit

/-- The code, the water and the two numbers of MinutesAll. -/
noncomputable def Gt.mnC (g : Gt) (t : Nat → Int) (n : Nat) (r : Nat → Int) (y : Int) : Int := g.wet t (g.rnB n r && inB y 0 200)
noncomputable def Gt.mnT (g : Gt) (t : Nat → Int) (n : Nat) (r : Nat → Int) (y : Int) : Nat → Int := if g.mnC t n r y = 0 then g.itT t r n y.toNat else fun _ => 0
noncomputable def Gt.mnS (g : Gt) (t : Nat → Int) (n : Nat) (r : Nat → Int) (y : Int) : Int := if g.mnC t n r y = 0 then g.itS t r n y.toNat else 0
noncomputable def Gt.mnO (g : Gt) (t : Nat → Int) (n : Nat) (r : Nat → Int) (y : Int) : Int := if g.mnC t n r y = 0 then g.itO t r n y.toNat else 0
theorem Gt.mn_t {g : Gt} {t : Nat → Int} {n : Nat} {r : Nat → Int} {y : Int} (h : g.mnC t n r y = 0) : g.mnT t n r y = g.itT t r n y.toNat ∧ g.mnS t n r y = g.itS t r n y.toNat ∧ g.mnO t n r y = g.itO t r n y.toNat := by
  unfold Gt.mnT Gt.mnS Gt.mnO
  rw [h]
  exact ⟨rfl, rfl, rfl⟩
theorem Gt.mn_f {g : Gt} {t : Nat → Int} {n : Nat} {r : Nat → Int} {y : Int} (h : g.mnC t n r y ≠ 0) : g.mnT t n r y = (fun _ => 0) ∧ g.mnS t n r y = 0 ∧ g.mnO t n r y = 0 := by
  unfold Gt.mnT Gt.mnS Gt.mnO
  exact ⟨if_neg h, if_neg h, if_neg h⟩
theorem Gt.mnC_of {g : Gt} {t : Nat → Int} {n : Nat} {r : Nat → Int} {y : Int} (h : g.mnC t n r y = 0) : g.watB t = true ∧ g.rnB n r = true ∧ 0 ≤ y ∧ y ≤ 200 := by
  unfold Gt.mnC Gt.wet at h
  cases h1 : g.watB t with
  | false => rw [h1] at h; simp at h
  | true =>
    cases h2 : g.rnB n r with
    | false => rw [h1, h2] at h; simp at h
    | true =>
      by_cases h3 : 0 ≤ y ∧ y ≤ 200
      · exact ⟨rfl, rfl, h3.1, h3.2⟩
      · rw [h1, h2, inB_false h3] at h; simp at h
/-- An answer: water, three numbers. -/
def GivesWat (w : World) (T : Nat → Int) (x y z : Int) (e : Ending) (w' : World) : Prop :=
  ∃ cur, e = .returned (.tuple #[.agg cur, .int .i64 x, .int .i64 y, .int .i64 z]) ∧ IsK .i32 cur 17 T ∧ Below w.heap.size w w'
theorem results_c3 {P : Program} {fn : Func} {p u q s : Tmp} {ty : TypeId} (h : fn.results = #[.cell p ty, .tmp u, .tmp q, .tmp s]) (tmps : Array Value) (w : World) (a : Addr) (x : Value)
    (h1 : tmps.getD p undef = .pointer (some a)) (k1 : (loadVar ty a).run P w = .ok x w) : (results fn tmps).run P w = .ok (.tuple #[x, tmps.getD u undef, tmps.getD q undef, tmps.getD s undef]) w := by
  have e1 : (asAddr (tmps.getD p undef)).run P w = .ok a w := by rw [h1]; rfl
  simp only [results, h]
  rw [Array.getD_eq_getD_getElem?] at e1
  simp [Sem.run_bind, Result.andThen, e1, k1]

set_option maxRecDepth 100000 in
set_option maxHeartbeats 4000000 in
theorem specMinutesAll_any (b br n : Nat) (c : Array Value) (g : Gt) (v u : Value) (d : Array Value) (t r : Nat → Int) (y : Int) (w : World) (hG : IsGut c g v) (hv : IsList w b v 2 g.m (pipeV g.p)) (hm : g.m ≤ 2000000) (hD : IsWat d t) (hr : IsList w br u 1 n (fun i => .int .i64 (r i))) (hn : n ≤ 2000000) :
    Calls Try.prog 21 #[.agg c, .agg d, u, .int .i64 y] w (GivesWat w (g.mnT t n r y) (g.mnS t n r y) (g.mnO t n r y) (g.mnC t n r y)) := by
  unfold GivesWat
  have hzo := zeroW_is.ones
  unfold zeroW at hzo
  have hzs : zeroW.size = 17 := rfl
  have hds := hD.size
  have HV := Lib.hid hv
  have HR := Lib.hid hr
  have HG := Lib.hid hG
  have HD := Lib.hid hD
  have HAP := Lib.hid (hv.away (K := w.heap.size + 1) (by omega))
  have HAR := Lib.hid (hr.away (K := w.heap.size + 1) (by omega))
  have CR := fun W a b => l06Rain_any w.heap.size 0 0 n c g v u r W a b hn
  obtain ⟨a, cap, rfl⟩ := hr.shape
  obtain ⟨code, hcode⟩ : ∃ z, z = g.mnC t n r y := ⟨_, rfl⟩
  have CW := fun W fine a b => l06Wet_any w.heap.size 0 (w.heap.size + 1) c d g t v fine W a b hD hm
  clear hv hr hG hD
  cases hrb : g.rnB n r with
  | false =>
    rw [hrb] at CR
    have hz : code ≠ 0 := by
      intro h
      rw [h] at hcode
      have := (Gt.mnC_of hcode.symm).2.1
      rw [hrb] at this
      cases this
    have hcw : g.wet t false = code := by rw [hcode]; unfold Gt.mnC; rw [hrb]; rfl
    go_enter Try.func21, Try.ntmps21
    go_wp2_with fail
    refine gen_callsW fun W hW => ?_
    have q0 : rowAt W w.heap.size = some c := by rw [hW]; exact (rowAt_alloc_past _ _ _ (by simp; try omega)).trans ((rowAt_alloc_past _ _ _ (by simp)).trans (rowAt_alloc_at _ _ _ _ rfl))
    have q1 : rowAt W (w.heap.size + 1) = some d := by rw [hW]; exact (rowAt_alloc_past _ _ _ (by simp)).trans (rowAt_alloc_at _ _ _ _ (by simp))
    have q2 : rowAt W (w.heap.size + 1 + 1) = some zeroW := by rw [hW]; exact rowAt_alloc_at _ _ _ _ (by simp)
    have BW : Below w.heap.size w W := by rw [hW]; exact (((Below.refl _ _).alloc (Nat.le_refl _) _).alloc (by simp) _).alloc (by simp; omega) _
    have k01 : w.heap.size ≠ w.heap.size + 1 := by omega
    have k12 : w.heap.size + 1 ≠ w.heap.size + 1 + 1 := by omega
    have k02 : w.heap.size ≠ w.heap.size + 1 + 1 := by omega
    have b1 : w.heap.size ≤ w.heap.size + 1 := by omega
    have b2 : w.heap.size ≤ w.heap.size + 1 + 1 := by omega
    clear hW
    generalize w.heap.size + 1 + 1 = K2 at *
    generalize w.heap.size + 1 = K1 at *
    refine (CR W ⟨q0, HG.out, HV.out.below BW (Nat.le_refl _) |>.mono (Nat.zero_le _)⟩ ((HR.out.below BW (Nat.le_refl _)).mono (Nat.zero_le _))).mono ?_
    rintro e w1 ⟨rfl, x1⟩
    have r0 := brow x1 q0
    have r1 := brow x1 q1
    have r2 := brow x1 q2
    have B1 := bnext BW x1 BW.size
    clear x1 q0 q1 q2 BW CR
    go_wp2_with fail
    refine (CW _ _ ⟨r0, HG.out, (HV.out.below B1 (Nat.le_refl _)).mono (Nat.zero_le _)⟩ r1).mono ?_
    rw [hcw]
    rintro e w2 ⟨rfl, x2⟩
    have s0 := brow x2 r0
    have s1 := brow x2 r1
    have s2 := brow x2 r2
    have B2 := Lib.hid (bnext B1 x2 B1.size)
    clear x2 r0 r1 r2 B1 CW
    clear hcw hrb
    have hcb : (code != 0) = true := by simpa using hz
    obtain ⟨e1, e2, e3⟩ := Gt.mn_f (show g.mnC t n r y ≠ 0 by rw [← hcode]; exact hz)
    have E1 := Lib.hid e1
    have E2 := Lib.hid e2
    have E3 := Lib.hid e3
    have S2 := Lib.hid s2
    have HC := Lib.hid hcode
    have l2 := rowAt_lt s2
    clear e1 e2 e3 hz s0 s1 hcode
    go_wp2_with fail
    refine bodyPost_ret (results_c3 (fn := Try.f21) (p := 8) (u := 9) (q := 10) (s := 11) (ty := 32) rfl _ _ ⟨K2, 0, none⟩ (.agg zeroW) rfl (loadVar_wat _ K2 zeroW (rowAt_setRow_at _ _ _ (by rw [S2.out]; rfl)) rfl)) rfl ?_
    exact ⟨zeroW, by rw [E2.out, E3.out, ← HC.out]; rfl, by rw [E1.out]; exact zeroW_is, below_setRow B2.out b2 _⟩
  | true =>
    rw [hrb] at CR
    have hcw : g.wet t (inB y 0 200) = code := by rw [hcode]; unfold Gt.mnC; rw [hrb]; rfl
    by_cases hz : code = 0
    · rw [hz] at hcw
      obtain ⟨h1, h2, h3, h4⟩ := Gt.mnC_of (hcode.symm.trans hz)
      obtain ⟨e1, e2, e3⟩ := Gt.mn_t (hcode.symm.trans hz)
      have E1 := Lib.hid e1
      have E2 := Lib.hid e2
      have E3 := Lib.hid e3
      have HC := Lib.hid (hcode.symm.trans hz)
      have hok := (Gt.watB_of h1).1
      have hrn := Gt.rnB_of h2
      have hn17 : n ≤ 17 := by have := hrn.2; have := hok.n17; omega
      have HT := Lib.hid (Gt.itT_bd hok (Gt.wat_bd h1) hrn.1)
      have HSB := Lib.hid (Gt.itS_bd hok (Gt.wat_bd h1) hrn.1)
      have HOB := Lib.hid (Gt.itO_bd hok (Gt.wat_bd h1) hrn.1)
      have HRN := Lib.hid hrn.1
      have HO := Lib.hid hok
      clear e1 e2 e3 h1 h2 hcode hz hok hrn hrb
      obtain ⟨k, rfl⟩ := Int.eq_ofNat_of_zero_le h3
      have hk : k ≤ 200 := by omega
      have ek : ((k : Int)).toNat = k := by omega
      rw [ek] at E1 E2 E3
      clear ek h3 h4
      go_enter Try.func21, Try.ntmps21
      go_wp2_with fail
      refine gen_callsW fun W hW => ?_
      have q0 : rowAt W w.heap.size = some c := by rw [hW]; exact (rowAt_alloc_past _ _ _ (by simp; try omega)).trans ((rowAt_alloc_past _ _ _ (by simp)).trans (rowAt_alloc_at _ _ _ _ rfl))
      have q1 : rowAt W (w.heap.size + 1) = some d := by rw [hW]; exact (rowAt_alloc_past _ _ _ (by simp)).trans (rowAt_alloc_at _ _ _ _ (by simp))
      have q2 : rowAt W (w.heap.size + 1 + 1) = some zeroW := by rw [hW]; exact rowAt_alloc_at _ _ _ _ (by simp)
      have BW : Below w.heap.size w W := by rw [hW]; exact (((Below.refl _ _).alloc (Nat.le_refl _) _).alloc (by simp) _).alloc (by simp; omega) _
      have k01 : w.heap.size ≠ w.heap.size + 1 := by omega
      have k12 : w.heap.size + 1 ≠ w.heap.size + 1 + 1 := by omega
      have k02 : w.heap.size ≠ w.heap.size + 1 + 1 := by omega
      have b1 : w.heap.size ≤ w.heap.size + 1 := by omega
      have b2 : w.heap.size ≤ w.heap.size + 1 + 1 := by omega
      clear hW
      generalize w.heap.size + 1 + 1 = K2 at *
      generalize w.heap.size + 1 = K1 at *
      refine (CR W ⟨q0, HG.out, HV.out.below BW (Nat.le_refl _) |>.mono (Nat.zero_le _)⟩ ((HR.out.below BW (Nat.le_refl _)).mono (Nat.zero_le _))).mono ?_
      rintro e w1 ⟨rfl, x1⟩
      have r0 := brow x1 q0
      have r1 := brow x1 q1
      have r2 := brow x1 q2
      have B1 := bnext BW x1 BW.size
      clear x1 q0 q1 q2 BW CR
      go_wp2_with fail
      refine (l00In_q _ _ _ _).mono ?_
      rintro e w9 ⟨rfl, rfl⟩
      go_wp2_with fail
      refine (CW _ _ ⟨r0, HG.out, (HV.out.below B1 (Nat.le_refl _)).mono (Nat.zero_le _)⟩ r1).mono ?_
      rw [hcw]
      rintro e w2 ⟨rfl, x2⟩
      have s0 := brow x2 r0
      have s1 := brow x2 r1
      have s2 := brow x2 r2
      have B2 := Lib.hid (bnext B1 x2 B1.size)
      clear x2 r0 r1 r2 B1 CW
      clear hcw
      go_wp2_with fail
      go_loopw [13, 14, 15, 16, 17] (fun sv ov i _ _ V => ∃ (j : Nat) (cur : Array Value), j ≤ k ∧ i = .int .i64 j ∧ sv = .int .i64 (g.itS t r n j) ∧ ov = .int .i64 (g.itO t r n j) ∧ rowAt V K1 = some cur ∧ Hid (IsK .i32 cur 17 (g.itT t r n j)) ∧ rowAt V w.heap.size = some c ∧ rowAt V K2 = some zeroW ∧ Below w.heap.size w V) (fun _ _ i _ _ _ => k - (intOf i).toNat)
      case atStart => exact ⟨0, d, by omega, rfl, rfl, rfl, s1, Lib.hid HD.out.isK, s0, s2, B2.out⟩
      case round =>
        clear s0 s1 s2 B2
        obtain ⟨j, cur, hj, rfl, rfl, rfl, q1, hI, q0, q2, hB⟩ := hrel
        by_cases hlt : j < k
        · have j0 : 0 ≤ (j : Int) := by omega
          have j1 : (j : Int) < k := by omega
          have sb := HSB.out j
          have ob := HOB.out j
          have sb' := HSB.out (j + 1)
          have ob' := HOB.out (j + 1)
          have eS : g.itS t r n (j + 1) = g.itS t r n j + g.minS (g.itT t r n j) r n := rfl
          have eO : g.itO t r n (j + 1) = g.itO t r n j + g.minO (g.itT t r n j) r n := rfl
          have ts : 0 ≤ g.itS t r n (j + 1) ∧ g.itS t r n (j + 1) ≤ 1608000 := by omega
          have tov : 0 ≤ g.itO t r n (j + 1) ∧ g.itO t r n (j + 1) ≤ 116178000 := by omega
          have ES := Lib.hid eS
          have EO := Lib.hid eO
          rw [eS] at ts
          rw [eO] at tov
          have CMj := l06Minute_1 w.heap.size 0 K1 0 n c cur g (g.itT t r n j) r v (.slice a n cap) wr ⟨q0, HG.out, (HV.out.below hB (Nat.le_refl _)).mono (Nat.zero_le _)⟩ q1 hI.out ((HR.out.below hB (Nat.le_refl _)).mono (Nat.zero_le _)) hn17 (HT.out j) HRN.out k01 HAR.out HAP.out HO.out hm
          have HIT := Lib.hid (show g.itT t r n (j + 1) = g.minT (g.itT t r n j) r n from rfl)
          have HB := Lib.hid hB
          have Q0 := Lib.hid q0
          have Q2 := Lib.hid q2
          have l0 := rowAt_lt q0
          have l2 := rowAt_lt q2
          clear eS eO sb ob sb' ob' hB q0 q2
          generalize g.itS t r n j = s0 at *
          generalize g.itO t r n j = o0 at *
          generalize g.minS (g.itT t r n j) r n = s1 at *
          generalize g.minO (g.itT t r n j) r n = o1 at *
          go_wp2_with fail
          refine CMj.mono ?_
          rintro e w5 ⟨rfl, ⟨cur2, r5, i5⟩, hO5, hL5⟩
          have B5 := Lib.hid (HB.out.trans (hL5.2 w.heap.size b1 HB.out.size))
          have r0 := Lib.hid ((hO5 _ k01 l0).trans Q0.out)
          have r2 := Lib.hid ((hO5 _ (Ne.symm k12) l2).trans Q2.out)
          have I5 := Lib.hid i5
          have R5 := Lib.hid r5
          clear CMj hO5 hL5 i5 r5 q1 l0 l2
          go_wp2_with fail
          refine ⟨⟨j + 1, cur2, by omega, by go_num, by rw [ES.out], by rw [EO.out], R5.out, by rw [HIT.out]; exact I5, r0.out, r2.out, B5.out⟩, by simp [intOf]; omega⟩
        · obtain rfl : j = k := by omega
          have his := hI.out.size
          have hio := hI.out.ones
          have l1 := rowAt_lt q1
          have l2 := rowAt_lt q2
          go_wp2_with fail
          refine bodyPost_ret (results_c3 (fn := Try.f21) (p := 8) (u := 9) (q := 10) (s := 11) (ty := 32) rfl _ _ ⟨K2, 0, none⟩ (.agg cur) rfl (loadVar_wat _ K2 cur (rowAt_setRow_at _ _ _ (by rw [q2]; rfl)) his)) rfl ?_
          exact ⟨cur, by rw [E2.out, E3.out, HC.out]; rfl, by rw [E1.out]; exact hI.out, below_setRow hB b2 _⟩
    · have hcode := hcode
      go_enter Try.func21, Try.ntmps21
      go_wp2_with fail
      refine gen_callsW fun W hW => ?_
      have q0 : rowAt W w.heap.size = some c := by rw [hW]; exact (rowAt_alloc_past _ _ _ (by simp; try omega)).trans ((rowAt_alloc_past _ _ _ (by simp)).trans (rowAt_alloc_at _ _ _ _ rfl))
      have q1 : rowAt W (w.heap.size + 1) = some d := by rw [hW]; exact (rowAt_alloc_past _ _ _ (by simp)).trans (rowAt_alloc_at _ _ _ _ (by simp))
      have q2 : rowAt W (w.heap.size + 1 + 1) = some zeroW := by rw [hW]; exact rowAt_alloc_at _ _ _ _ (by simp)
      have BW : Below w.heap.size w W := by rw [hW]; exact (((Below.refl _ _).alloc (Nat.le_refl _) _).alloc (by simp) _).alloc (by simp; omega) _
      have k01 : w.heap.size ≠ w.heap.size + 1 := by omega
      have k12 : w.heap.size + 1 ≠ w.heap.size + 1 + 1 := by omega
      have k02 : w.heap.size ≠ w.heap.size + 1 + 1 := by omega
      have b1 : w.heap.size ≤ w.heap.size + 1 := by omega
      have b2 : w.heap.size ≤ w.heap.size + 1 + 1 := by omega
      clear hW
      generalize w.heap.size + 1 + 1 = K2 at *
      generalize w.heap.size + 1 = K1 at *
      refine (CR W ⟨q0, HG.out, HV.out.below BW (Nat.le_refl _) |>.mono (Nat.zero_le _)⟩ ((HR.out.below BW (Nat.le_refl _)).mono (Nat.zero_le _))).mono ?_
      rintro e w1 ⟨rfl, x1⟩
      have r0 := brow x1 q0
      have r1 := brow x1 q1
      have r2 := brow x1 q2
      have B1 := bnext BW x1 BW.size
      clear x1 q0 q1 q2 BW CR
      go_wp2_with fail
      refine (l00In_q _ _ _ _).mono ?_
      rintro e w9 ⟨rfl, rfl⟩
      go_wp2_with fail
      refine (CW _ _ ⟨r0, HG.out, (HV.out.below B1 (Nat.le_refl _)).mono (Nat.zero_le _)⟩ r1).mono ?_
      rw [hcw]
      rintro e w2 ⟨rfl, x2⟩
      have s0 := brow x2 r0
      have s1 := brow x2 r1
      have s2 := brow x2 r2
      have B2 := Lib.hid (bnext B1 x2 B1.size)
      clear x2 r0 r1 r2 B1 CW
      clear hcw hrb
      have hcb : (code != 0) = true := by simpa using hz
      obtain ⟨e1, e2, e3⟩ := Gt.mn_f (show g.mnC t n r y ≠ 0 by rw [← hcode]; exact hz)
      have E1 := Lib.hid e1
      have E2 := Lib.hid e2
      have E3 := Lib.hid e3
      have S2 := Lib.hid s2
      have HC := Lib.hid hcode
      have l2 := rowAt_lt s2
      clear e1 e2 e3 hz s0 s1 hcode
      go_wp2_with fail
      refine bodyPost_ret (results_c3 (fn := Try.f21) (p := 8) (u := 9) (q := 10) (s := 11) (ty := 32) rfl _ _ ⟨K2, 0, none⟩ (.agg zeroW) rfl (loadVar_wat _ K2 zeroW (rowAt_setRow_at _ _ _ (by rw [S2.out]; rfl)) rfl)) rfl ?_
      exact ⟨zeroW, by rw [E2.out, E3.out, ← HC.out]; rfl, by rw [E1.out]; exact zeroW_is, below_setRow B2.out b2 _⟩

set_option maxRecDepth 100000 in
set_option maxHeartbeats 4000000 in
theorem implMinutesAll_any (b br n : Nat) (c : Array Value) (g : Gt) (v u : Value) (d : Array Value) (t r : Nat → Int) (y : Int) (w : World) (hG : IsGut c g v) (hv : IsList w b v 2 g.m (pipeV g.p)) (hm : g.m ≤ 2000000) (hD : IsWat d t) (hr : IsList w br u 1 n (fun i => .int .i64 (r i))) (hn : n ≤ 2000000) :
    Calls Try.prog 22 #[.agg c, .agg d, u, .int .i64 y] w (GivesWat w (g.mnT t n r y) (g.mnS t n r y) (g.mnO t n r y) (g.mnC t n r y)) := by
  unfold GivesWat
  have hzo := zeroW_is.ones
  unfold zeroW at hzo
  have hzs : zeroW.size = 17 := rfl
  have hc := hG.size
  have hco := hG.ones
  have hds := hD.size
  have hdo := hD.ones
  have HV := Lib.hid hv
  have HR := Lib.hid hr
  have HG := Lib.hid hG
  have HD := Lib.hid hD
  have CC := fun W h1 h2 => checkMinutes_any b br n c g v u d t r y W hG h1 hm hD h2 hn
  obtain ⟨a, cap, rfl⟩ := hr.shape
  obtain ⟨code, hcode⟩ : ∃ z, z = g.mnC t n r y := ⟨_, rfl⟩
  rw [show (g.wet t (g.rnB n r && inB y 0 200)) = code from hcode.symm] at CC
  clear hv hr hG hD
  by_cases hz : code = 0
  · rw [hz] at CC
    obtain ⟨h1, h2, h3, h4⟩ := Gt.mnC_of (hcode.symm.trans hz)
    obtain ⟨e1, e2, e3⟩ := Gt.mn_t (hcode.symm.trans hz)
    have E1 := Lib.hid e1
    have E2 := Lib.hid e2
    have E3 := Lib.hid e3
    have HC := Lib.hid (hcode.symm.trans hz)
    have hok := (Gt.watB_of h1).1
    have hrn := Gt.rnB_of h2
    have hnN : n ≤ g.n.toNat := by have := hrn.2; omega
    have CS := fun W (x : IsList W b v 2 g.m (pipeV g.p)) (z : IsList W br (.slice a n cap) 1 n (fun i => .int .i64 (r i))) => shower_any 0 n c g v (.slice a n cap) r W HG.out (x.mono (Nat.zero_le _)) hok (z.mono (Nat.zero_le _))
    have CM := fun W x (k : Nat) (hS : IsShw W 0 x g n r) (hk : k ≤ 200) => minutes_any 0 n k x g r t d W hS hnN hok HD.out.isK (Gt.wat_bd h1) hrn.1 hk
    clear e1 e2 e3 h1 h2 hcode hz hok hrn
    obtain ⟨k, rfl⟩ := Int.eq_ofNat_of_zero_le h3
    have hk : k ≤ 200 := by omega
    have ek : ((k : Int)).toNat = k := by omega
    rw [ek] at E1 E2 E3
    clear ek h3 h4
    go_enter Try.func22, Try.ntmps22
    go_wp2_with fail
    refine gen_callsW fun W hW => ?_
    have q0 : rowAt W w.heap.size = some c := by rw [hW]; exact (rowAt_alloc_past _ _ _ (by simp; try omega)).trans ((rowAt_alloc_past _ _ _ (by simp)).trans (rowAt_alloc_at _ _ _ _ rfl))
    have q1 : rowAt W (w.heap.size + 1) = some d := by rw [hW]; exact (rowAt_alloc_past _ _ _ (by simp)).trans (rowAt_alloc_at _ _ _ _ (by simp))
    have q2 : rowAt W (w.heap.size + 1 + 1) = some zeroW := by rw [hW]; exact rowAt_alloc_at _ _ _ _ (by simp)
    have BW : Below w.heap.size w W := by rw [hW]; exact (((Below.refl _ _).alloc (Nat.le_refl _) _).alloc (by simp) _).alloc (by simp; omega) _
    have k01 : w.heap.size ≠ w.heap.size + 1 := by omega
    have k12 : w.heap.size + 1 ≠ w.heap.size + 1 + 1 := by omega
    have k02 : w.heap.size ≠ w.heap.size + 1 + 1 := by omega
    have b1 : w.heap.size ≤ w.heap.size + 1 := by omega
    have b2 : w.heap.size ≤ w.heap.size + 1 + 1 := by omega
    clear hW
    generalize w.heap.size + 1 + 1 = K2 at *
    generalize w.heap.size + 1 = K1 at *
    refine (CC W (HV.out.below BW (Nat.le_refl _)) (HR.out.below BW (Nat.le_refl _))).mono ?_
    rintro e w1 ⟨rfl, x1⟩
    have s0 := brow x1 q0
    have s1 := brow x1 q1
    have s2 := brow x1 q2
    have B2 := Lib.hid (bnext BW x1 BW.size)
    clear x1 q0 q1 q2 BW CC
    go_wp2_with fail
    refine gen_world fun V hVV => ?_
    subst hVV
    refine wp_region_held_drew (S := fun w' => Below V.heap.size V w') (by kernel_rfl) ((Below.refl _ _).drew) (fun hH => ?_)
    refine wpAnyH_take (i := 0) (v := .agg c) rfl (by kernel_rfl) (by kernel_rfl) (by kernel_rfl) (fun _ _ _ h => h) (Or.inl ⟨by rfl, ?_⟩) hH ?_
    · intro w1 hS; (try dsimp only at hS); have s0 := brow hS s0; go_simp
    (try simp only [List.getElem_toArray]); (try simp only [List.getElem_cons_succ]); (try simp only [List.getElem_cons_zero]); (try simp only [Act.put]); (try simp only [List.setIfInBounds_toArray]); (try simp only [List.set_cons_succ]); (try simp only [List.set_cons_zero])
    refine wpAnyH_take (i := 1) (v := .slice a n cap) rfl (by kernel_rfl) (by kernel_rfl) (by kernel_rfl) (fun _ _ _ h => h) (Or.inl ⟨by rfl, ?_⟩) hH ?_
    · intro w1 hS; (try dsimp only at hS); go_simp
    (try simp only [List.getElem_toArray]); (try simp only [List.getElem_cons_succ]); (try simp only [List.getElem_cons_zero]); (try simp only [Act.put]); (try simp only [List.setIfInBounds_toArray]); (try simp only [List.set_cons_succ]); (try simp only [List.set_cons_zero])
    refine wpAnyH_take (i := 3) (v := .agg d) rfl (by kernel_rfl) (by kernel_rfl) (by kernel_rfl) (fun _ _ _ h => h) (Or.inl ⟨by rfl, ?_⟩) hH ?_
    · intro w1 hS; (try dsimp only at hS); have s0 := brow hS s1; go_simp
    (try simp only [List.getElem_toArray]); (try simp only [List.getElem_cons_succ]); (try simp only [List.getElem_cons_zero]); (try simp only [Act.put]); (try simp only [List.setIfInBounds_toArray]); (try simp only [List.set_cons_succ]); (try simp only [List.set_cons_zero])
    refine wpAnyH_take (i := 4) (v := .int .i64 (k : Int)) rfl (by kernel_rfl) (by kernel_rfl) (by kernel_rfl) (fun _ _ _ h => h) (Or.inl ⟨by rfl, ?_⟩) hH ?_
    · intro w1 hS; (try dsimp only at hS); go_simp
    (try simp only [List.getElem_toArray]); (try simp only [List.getElem_cons_succ]); (try simp only [List.getElem_cons_zero]); (try simp only [Act.put]); (try simp only [List.setIfInBounds_toArray]); (try simp only [List.set_cons_succ]); (try simp only [List.set_cons_zero])
    refine wpAnyH_ready (rs := [2, 10]) (by kernel_rfl) (by simp) (AllReadyH.cons rfl (fun K hK => ?_) (AllReadyH.cons rfl (fun K hK => ?_) AllReadyH.nil))
    · go_simp
      refine (CS _ (HV.out.below (bnext B2.out hH B2.out.size) (Nat.le_refl _)) (HR.out.below (bnext B2.out hH B2.out.size) (Nat.le_refl _))).mono ?_
      rintro x wx0 ⟨x, rfl, hSh, _, bx⟩
      have xo := hSh.ones
      have HSh := Lib.hid hSh
      clear hSh
      go_simp
      refine hK.out _ _ (bnext hH bx hH.size) (fun hG => ?_)
      clear hK K hH bx
      replace hH := hG
      clear hG
      (try simp only [List.getElem_toArray]); (try simp only [List.getElem_cons_succ]); (try simp only [List.getElem_cons_zero]); (try simp only [Act.put]); (try simp only [List.setIfInBounds_toArray]); (try simp only [List.set_cons_succ]); (try simp only [List.set_cons_zero])
      refine wpAnyH_ready (rs := [5, 10]) (by kernel_rfl) (by simp) (AllReadyH.cons rfl (fun K hK => ?_) (AllReadyH.cons rfl (fun K hK => ?_) AllReadyH.nil))
      · go_simp
        refine (CM _ x k (by first | exact HSh.out | exact HSh.out.below ((Below.refl _ _).alloc (Nat.le_refl _) _)) hk).mono ?_
        rintro x wx1 ⟨cur, rfl, hI, bx⟩
        have his := hI.size
        have hio := hI.ones
        have HI := Lib.hid hI
        clear hI
        go_simp
        refine hK.out _ _ (bnext hH bx hH.size) (fun hG => ?_)
        clear hK K hH bx
        replace hH := hG
        clear hG
        (try simp only [List.getElem_toArray]); (try simp only [List.getElem_cons_succ]); (try simp only [List.getElem_cons_zero]); (try simp only [Act.put]); (try simp only [List.setIfInBounds_toArray]); (try simp only [List.set_cons_succ]); (try simp only [List.set_cons_zero])
        refine wpAnyH_take (i := 6) (v := .tuple #[.agg cur, .int .i64 (g.itS t r n k), .int .i64 (g.itO t r n k)]) rfl (by kernel_rfl) (by kernel_rfl) (by kernel_rfl) (fun _ _ _ h => h) (Or.inl ⟨by rfl, ?_⟩) hH ?_
        · intro w1 hS; (try dsimp only at hS); go_simp
        (try simp only [List.getElem_toArray]); (try simp only [List.getElem_cons_succ]); (try simp only [List.getElem_cons_zero]); (try simp only [Act.put]); (try simp only [List.setIfInBounds_toArray]); (try simp only [List.set_cons_succ]); (try simp only [List.set_cons_zero])
        refine wpAnyH_take (i := 7) (v := .agg cur) rfl (by kernel_rfl) (by kernel_rfl) (by kernel_rfl) (fun _ _ _ h => h) (Or.inl ⟨by rfl, ?_⟩) hH ?_
        · intro w1 hS; (try dsimp only at hS); go_simp
        (try simp only [List.getElem_toArray]); (try simp only [List.getElem_cons_succ]); (try simp only [List.getElem_cons_zero]); (try simp only [Act.put]); (try simp only [List.setIfInBounds_toArray]); (try simp only [List.set_cons_succ]); (try simp only [List.set_cons_zero])
        refine wpAnyH_take (i := 8) (v := .int .i64 (g.itS t r n k)) rfl (by kernel_rfl) (by kernel_rfl) (by kernel_rfl) (fun _ _ _ h => h) (Or.inl ⟨by rfl, ?_⟩) hH ?_
        · intro w1 hS; (try dsimp only at hS); go_simp
        (try simp only [List.getElem_toArray]); (try simp only [List.getElem_cons_succ]); (try simp only [List.getElem_cons_zero]); (try simp only [Act.put]); (try simp only [List.setIfInBounds_toArray]); (try simp only [List.set_cons_succ]); (try simp only [List.set_cons_zero])
        refine wpAnyH_take (i := 9) (v := .int .i64 (g.itO t r n k)) rfl (by kernel_rfl) (by kernel_rfl) (by kernel_rfl) (fun _ _ _ h => h) (Or.inl ⟨by rfl, ?_⟩) hH ?_
        · intro w1 hS; (try dsimp only at hS); go_simp
        (try simp only [List.getElem_toArray]); (try simp only [List.getElem_cons_succ]); (try simp only [List.getElem_cons_zero]); (try simp only [Act.put]); (try simp only [List.setIfInBounds_toArray]); (try simp only [List.set_cons_succ]); (try simp only [List.set_cons_zero])
        refine wpAnyH_ready (rs := [10]) (by kernel_rfl) (by simp) (AllReadyH.cons rfl (fun K hK => ?_) AllReadyH.nil)
        go_simp
        have R13 : rowAt (wx1.alloc (.cells #[.int .i32 0, .int .i32 0, .int .i32 0, .int .i32 0, .int .i32 0, .int .i32 0, .int .i32 0, .int .i32 0, .int .i32 0, .int .i32 0, .int .i32 0, .int .i32 0, .int .i32 0, .int .i32 0, .int .i32 0, .int .i32 0, .int .i32 0] 32)) wx1.heap.size = some zeroW := rowAt_alloc_at _ _ _ _ (by simp)
        have NBge := hH.size
        refine hK.out _ _ (hH.alloc hH.size _) (fun hG => ?_)
        clear hK K hH
        have hH := hG
        clear hG
        (try simp only [List.getElem_toArray]); (try simp only [List.getElem_cons_succ]); (try simp only [List.getElem_cons_zero]); (try simp only [Act.put]); (try simp only [List.setIfInBounds_toArray]); (try simp only [List.set_cons_succ]); (try simp only [List.set_cons_zero])
        have hnb : ∃ NB, NB = wx1.heap.size := ⟨_, rfl⟩
        obtain ⟨NB, hnb⟩ := hnb
        rw [← hnb] at R13 NBge
        (try rw [← hnb])
        clear hnb
        refine wpAnyH_ready (rs := [11]) (by kernel_rfl) (by simp) (AllReadyH.cons rfl (fun K hK => ?_) AllReadyH.nil)
        have l13 := rowAt_lt R13
        go_simp
        have G13 : rowAt (World.setRow _ NB cur) NB = some cur := rowAt_setRow_at _ _ _ (congrArg Option.isSome R13)
        refine hK.out _ _ (below_setRow hH NBge _) (fun hG => ?_)
        clear hK K hH
        have hH := hG
        clear hG
        (try simp only [List.getElem_toArray]); (try simp only [List.getElem_cons_succ]); (try simp only [List.getElem_cons_zero]); (try simp only [Act.put]); (try simp only [List.setIfInBounds_toArray]); (try simp only [List.set_cons_succ]); (try simp only [List.set_cons_zero])
        refine wpAnyH_take (i := 12) (v := .int .i64 (g.itS t r n k)) rfl (by kernel_rfl) (by kernel_rfl) (by kernel_rfl) (fun _ _ _ h => h) (Or.inl ⟨by rfl, ?_⟩) hH ?_
        · intro w1 hS; (try dsimp only at hS); go_simp
        (try simp only [List.getElem_toArray]); (try simp only [List.getElem_cons_succ]); (try simp only [List.getElem_cons_zero]); (try simp only [Act.put]); (try simp only [List.setIfInBounds_toArray]); (try simp only [List.set_cons_succ]); (try simp only [List.set_cons_zero])
        refine wpAnyH_take (i := 13) (v := .int .i64 (g.itO t r n k)) rfl (by kernel_rfl) (by kernel_rfl) (by kernel_rfl) (fun _ _ _ h => h) (Or.inl ⟨by rfl, ?_⟩) hH ?_
        · intro w1 hS; (try dsimp only at hS); go_simp
        (try simp only [List.getElem_toArray]); (try simp only [List.getElem_cons_succ]); (try simp only [List.getElem_cons_zero]); (try simp only [Act.put]); (try simp only [List.setIfInBounds_toArray]); (try simp only [List.set_cons_succ]); (try simp only [List.set_cons_zero])
        refine wpAnyH_done (by kernel_rfl) ?_ _
        have GB := hH
        clear hH R13 l13
        have t2 := brow GB s2
        have B9 := Lib.hid (bnext B2.out GB B2.out.size)
        have T2 := Lib.hid t2
        have l13 := rowAt_lt G13
        have l2 := rowAt_lt t2
        have n2 : K2 ≠ NB := by have := rowAt_lt s2; omega
        clear GB s0 s1 s2 B2
        generalize World.setRow _ NB cur = W9 at *
        have t2' := T2.out
        go_wp2_with fail
        refine bodyPost_ret (results_c3 (fn := Try.f22) (p := 8) (u := 9) (q := 10) (s := 11) (ty := 32) rfl _ _ ⟨K2, 0, none⟩ (.agg cur) rfl (loadVar_wat _ K2 cur (rowAt_setRow_at _ _ _ (by rw [T2.out]; rfl)) his)) rfl ?_
        exact ⟨cur, by rw [E2.out, E3.out, HC.out]; rfl, by rw [E1.out]; exact HI.out, below_setRow B9.out b2 _⟩
      · go_simp
        have R13 : rowAt (wx0.alloc (.cells #[.int .i32 0, .int .i32 0, .int .i32 0, .int .i32 0, .int .i32 0, .int .i32 0, .int .i32 0, .int .i32 0, .int .i32 0, .int .i32 0, .int .i32 0, .int .i32 0, .int .i32 0, .int .i32 0, .int .i32 0, .int .i32 0, .int .i32 0] 32)) wx0.heap.size = some zeroW := rowAt_alloc_at _ _ _ _ (by simp)
        have NBge := hH.size
        refine hK.out _ _ (hH.alloc hH.size _) (fun hG => ?_)
        clear hK K hH
        have hH := hG
        clear hG
        (try simp only [List.getElem_toArray]); (try simp only [List.getElem_cons_succ]); (try simp only [List.getElem_cons_zero]); (try simp only [Act.put]); (try simp only [List.setIfInBounds_toArray]); (try simp only [List.set_cons_succ]); (try simp only [List.set_cons_zero])
        have hnb : ∃ NB, NB = wx0.heap.size := ⟨_, rfl⟩
        obtain ⟨NB, hnb⟩ := hnb
        rw [← hnb] at R13 NBge
        (try rw [← hnb])
        clear hnb
        refine wpAnyH_ready (rs := [5]) (by kernel_rfl) (by simp) (AllReadyH.cons rfl (fun K hK => ?_) AllReadyH.nil)
        go_simp
        refine (CM _ x k (by first | exact HSh.out | exact HSh.out.below ((Below.refl _ _).alloc (Nat.le_refl _) _)) hk).mono ?_
        rintro x wx1 ⟨cur, rfl, hI, bx⟩
        have his := hI.size
        have hio := hI.ones
        have HI := Lib.hid hI
        clear hI
        have R13 := brow bx R13
        go_simp
        refine hK.out _ _ (bnext hH bx hH.size) (fun hG => ?_)
        clear hK K hH bx
        replace hH := hG
        clear hG
        (try simp only [List.getElem_toArray]); (try simp only [List.getElem_cons_succ]); (try simp only [List.getElem_cons_zero]); (try simp only [Act.put]); (try simp only [List.setIfInBounds_toArray]); (try simp only [List.set_cons_succ]); (try simp only [List.set_cons_zero])
        refine wpAnyH_take (i := 6) (v := .tuple #[.agg cur, .int .i64 (g.itS t r n k), .int .i64 (g.itO t r n k)]) rfl (by kernel_rfl) (by kernel_rfl) (by kernel_rfl) (fun _ _ _ h => h) (Or.inl ⟨by rfl, ?_⟩) hH ?_
        · intro w1 hS; (try dsimp only at hS); go_simp
        (try simp only [List.getElem_toArray]); (try simp only [List.getElem_cons_succ]); (try simp only [List.getElem_cons_zero]); (try simp only [Act.put]); (try simp only [List.setIfInBounds_toArray]); (try simp only [List.set_cons_succ]); (try simp only [List.set_cons_zero])
        refine wpAnyH_take (i := 7) (v := .agg cur) rfl (by kernel_rfl) (by kernel_rfl) (by kernel_rfl) (fun _ _ _ h => h) (Or.inl ⟨by rfl, ?_⟩) hH ?_
        · intro w1 hS; (try dsimp only at hS); go_simp
        (try simp only [List.getElem_toArray]); (try simp only [List.getElem_cons_succ]); (try simp only [List.getElem_cons_zero]); (try simp only [Act.put]); (try simp only [List.setIfInBounds_toArray]); (try simp only [List.set_cons_succ]); (try simp only [List.set_cons_zero])
        refine wpAnyH_take (i := 8) (v := .int .i64 (g.itS t r n k)) rfl (by kernel_rfl) (by kernel_rfl) (by kernel_rfl) (fun _ _ _ h => h) (Or.inl ⟨by rfl, ?_⟩) hH ?_
        · intro w1 hS; (try dsimp only at hS); go_simp
        (try simp only [List.getElem_toArray]); (try simp only [List.getElem_cons_succ]); (try simp only [List.getElem_cons_zero]); (try simp only [Act.put]); (try simp only [List.setIfInBounds_toArray]); (try simp only [List.set_cons_succ]); (try simp only [List.set_cons_zero])
        refine wpAnyH_take (i := 9) (v := .int .i64 (g.itO t r n k)) rfl (by kernel_rfl) (by kernel_rfl) (by kernel_rfl) (fun _ _ _ h => h) (Or.inl ⟨by rfl, ?_⟩) hH ?_
        · intro w1 hS; (try dsimp only at hS); go_simp
        (try simp only [List.getElem_toArray]); (try simp only [List.getElem_cons_succ]); (try simp only [List.getElem_cons_zero]); (try simp only [Act.put]); (try simp only [List.setIfInBounds_toArray]); (try simp only [List.set_cons_succ]); (try simp only [List.set_cons_zero])
        refine wpAnyH_ready (rs := [11]) (by kernel_rfl) (by simp) (AllReadyH.cons rfl (fun K hK => ?_) AllReadyH.nil)
        have l13 := rowAt_lt R13
        go_simp
        have G13 : rowAt (World.setRow _ NB cur) NB = some cur := rowAt_setRow_at _ _ _ (congrArg Option.isSome R13)
        refine hK.out _ _ (below_setRow hH NBge _) (fun hG => ?_)
        clear hK K hH
        have hH := hG
        clear hG
        (try simp only [List.getElem_toArray]); (try simp only [List.getElem_cons_succ]); (try simp only [List.getElem_cons_zero]); (try simp only [Act.put]); (try simp only [List.setIfInBounds_toArray]); (try simp only [List.set_cons_succ]); (try simp only [List.set_cons_zero])
        refine wpAnyH_take (i := 12) (v := .int .i64 (g.itS t r n k)) rfl (by kernel_rfl) (by kernel_rfl) (by kernel_rfl) (fun _ _ _ h => h) (Or.inl ⟨by rfl, ?_⟩) hH ?_
        · intro w1 hS; (try dsimp only at hS); go_simp
        (try simp only [List.getElem_toArray]); (try simp only [List.getElem_cons_succ]); (try simp only [List.getElem_cons_zero]); (try simp only [Act.put]); (try simp only [List.setIfInBounds_toArray]); (try simp only [List.set_cons_succ]); (try simp only [List.set_cons_zero])
        refine wpAnyH_take (i := 13) (v := .int .i64 (g.itO t r n k)) rfl (by kernel_rfl) (by kernel_rfl) (by kernel_rfl) (fun _ _ _ h => h) (Or.inl ⟨by rfl, ?_⟩) hH ?_
        · intro w1 hS; (try dsimp only at hS); go_simp
        (try simp only [List.getElem_toArray]); (try simp only [List.getElem_cons_succ]); (try simp only [List.getElem_cons_zero]); (try simp only [Act.put]); (try simp only [List.setIfInBounds_toArray]); (try simp only [List.set_cons_succ]); (try simp only [List.set_cons_zero])
        refine wpAnyH_done (by kernel_rfl) ?_ _
        have GB := hH
        clear hH R13 l13
        have t2 := brow GB s2
        have B9 := Lib.hid (bnext B2.out GB B2.out.size)
        have T2 := Lib.hid t2
        have l13 := rowAt_lt G13
        have l2 := rowAt_lt t2
        have n2 : K2 ≠ NB := by have := rowAt_lt s2; omega
        clear GB s0 s1 s2 B2
        generalize World.setRow _ NB cur = W9 at *
        have t2' := T2.out
        go_wp2_with fail
        refine bodyPost_ret (results_c3 (fn := Try.f22) (p := 8) (u := 9) (q := 10) (s := 11) (ty := 32) rfl _ _ ⟨K2, 0, none⟩ (.agg cur) rfl (loadVar_wat _ K2 cur (rowAt_setRow_at _ _ _ (by rw [T2.out]; rfl)) his)) rfl ?_
        exact ⟨cur, by rw [E2.out, E3.out, HC.out]; rfl, by rw [E1.out]; exact HI.out, below_setRow B9.out b2 _⟩
    · go_simp
      have R13 : rowAt (V.drew.alloc (.cells #[.int .i32 0, .int .i32 0, .int .i32 0, .int .i32 0, .int .i32 0, .int .i32 0, .int .i32 0, .int .i32 0, .int .i32 0, .int .i32 0, .int .i32 0, .int .i32 0, .int .i32 0, .int .i32 0, .int .i32 0, .int .i32 0, .int .i32 0] 32)) V.heap.size = some zeroW := rowAt_alloc_at _ _ _ _ (by simp)
      have NBge : V.heap.size ≤ V.heap.size := Nat.le_refl _
      refine hK.out _ _ (hH.alloc hH.size _) (fun hG => ?_)
      clear hK K hH
      have hH := hG
      clear hG
      (try simp only [List.getElem_toArray]); (try simp only [List.getElem_cons_succ]); (try simp only [List.getElem_cons_zero]); (try simp only [Act.put]); (try simp only [List.setIfInBounds_toArray]); (try simp only [List.set_cons_succ]); (try simp only [List.set_cons_zero])
      refine wpAnyH_ready (rs := [2]) (by kernel_rfl) (by simp) (AllReadyH.cons rfl (fun K hK => ?_) AllReadyH.nil)
      go_simp
      refine (CS _ (HV.out.below (bnext B2.out hH B2.out.size) (Nat.le_refl _)) (HR.out.below (bnext B2.out hH B2.out.size) (Nat.le_refl _))).mono ?_
      rintro x wx0 ⟨x, rfl, hSh, _, bx⟩
      have xo := hSh.ones
      have HSh := Lib.hid hSh
      clear hSh
      have R13 := brow bx R13
      go_simp
      refine hK.out _ _ (bnext hH bx hH.size) (fun hG => ?_)
      clear hK K hH bx
      replace hH := hG
      clear hG
      (try simp only [List.getElem_toArray]); (try simp only [List.getElem_cons_succ]); (try simp only [List.getElem_cons_zero]); (try simp only [Act.put]); (try simp only [List.setIfInBounds_toArray]); (try simp only [List.set_cons_succ]); (try simp only [List.set_cons_zero])
      refine wpAnyH_ready (rs := [5]) (by kernel_rfl) (by simp) (AllReadyH.cons rfl (fun K hK => ?_) AllReadyH.nil)
      go_simp
      refine (CM _ x k (by first | exact HSh.out | exact HSh.out.below ((Below.refl _ _).alloc (Nat.le_refl _) _)) hk).mono ?_
      rintro x wx1 ⟨cur, rfl, hI, bx⟩
      have his := hI.size
      have hio := hI.ones
      have HI := Lib.hid hI
      clear hI
      have R13 := brow bx R13
      go_simp
      refine hK.out _ _ (bnext hH bx hH.size) (fun hG => ?_)
      clear hK K hH bx
      replace hH := hG
      clear hG
      (try simp only [List.getElem_toArray]); (try simp only [List.getElem_cons_succ]); (try simp only [List.getElem_cons_zero]); (try simp only [Act.put]); (try simp only [List.setIfInBounds_toArray]); (try simp only [List.set_cons_succ]); (try simp only [List.set_cons_zero])
      refine wpAnyH_take (i := 6) (v := .tuple #[.agg cur, .int .i64 (g.itS t r n k), .int .i64 (g.itO t r n k)]) rfl (by kernel_rfl) (by kernel_rfl) (by kernel_rfl) (fun _ _ _ h => h) (Or.inl ⟨by rfl, ?_⟩) hH ?_
      · intro w1 hS; (try dsimp only at hS); go_simp
      (try simp only [List.getElem_toArray]); (try simp only [List.getElem_cons_succ]); (try simp only [List.getElem_cons_zero]); (try simp only [Act.put]); (try simp only [List.setIfInBounds_toArray]); (try simp only [List.set_cons_succ]); (try simp only [List.set_cons_zero])
      refine wpAnyH_take (i := 7) (v := .agg cur) rfl (by kernel_rfl) (by kernel_rfl) (by kernel_rfl) (fun _ _ _ h => h) (Or.inl ⟨by rfl, ?_⟩) hH ?_
      · intro w1 hS; (try dsimp only at hS); go_simp
      (try simp only [List.getElem_toArray]); (try simp only [List.getElem_cons_succ]); (try simp only [List.getElem_cons_zero]); (try simp only [Act.put]); (try simp only [List.setIfInBounds_toArray]); (try simp only [List.set_cons_succ]); (try simp only [List.set_cons_zero])
      refine wpAnyH_take (i := 8) (v := .int .i64 (g.itS t r n k)) rfl (by kernel_rfl) (by kernel_rfl) (by kernel_rfl) (fun _ _ _ h => h) (Or.inl ⟨by rfl, ?_⟩) hH ?_
      · intro w1 hS; (try dsimp only at hS); go_simp
      (try simp only [List.getElem_toArray]); (try simp only [List.getElem_cons_succ]); (try simp only [List.getElem_cons_zero]); (try simp only [Act.put]); (try simp only [List.setIfInBounds_toArray]); (try simp only [List.set_cons_succ]); (try simp only [List.set_cons_zero])
      refine wpAnyH_take (i := 9) (v := .int .i64 (g.itO t r n k)) rfl (by kernel_rfl) (by kernel_rfl) (by kernel_rfl) (fun _ _ _ h => h) (Or.inl ⟨by rfl, ?_⟩) hH ?_
      · intro w1 hS; (try dsimp only at hS); go_simp
      (try simp only [List.getElem_toArray]); (try simp only [List.getElem_cons_succ]); (try simp only [List.getElem_cons_zero]); (try simp only [Act.put]); (try simp only [List.setIfInBounds_toArray]); (try simp only [List.set_cons_succ]); (try simp only [List.set_cons_zero])
      refine wpAnyH_ready (rs := [11]) (by kernel_rfl) (by simp) (AllReadyH.cons rfl (fun K hK => ?_) AllReadyH.nil)
      have l13 := rowAt_lt R13
      go_simp
      have G13 : rowAt (World.setRow _ V.heap.size cur) V.heap.size = some cur := rowAt_setRow_at _ _ _ (congrArg Option.isSome R13)
      refine hK.out _ _ (below_setRow hH NBge _) (fun hG => ?_)
      clear hK K hH
      have hH := hG
      clear hG
      (try simp only [List.getElem_toArray]); (try simp only [List.getElem_cons_succ]); (try simp only [List.getElem_cons_zero]); (try simp only [Act.put]); (try simp only [List.setIfInBounds_toArray]); (try simp only [List.set_cons_succ]); (try simp only [List.set_cons_zero])
      refine wpAnyH_take (i := 12) (v := .int .i64 (g.itS t r n k)) rfl (by kernel_rfl) (by kernel_rfl) (by kernel_rfl) (fun _ _ _ h => h) (Or.inl ⟨by rfl, ?_⟩) hH ?_
      · intro w1 hS; (try dsimp only at hS); go_simp
      (try simp only [List.getElem_toArray]); (try simp only [List.getElem_cons_succ]); (try simp only [List.getElem_cons_zero]); (try simp only [Act.put]); (try simp only [List.setIfInBounds_toArray]); (try simp only [List.set_cons_succ]); (try simp only [List.set_cons_zero])
      refine wpAnyH_take (i := 13) (v := .int .i64 (g.itO t r n k)) rfl (by kernel_rfl) (by kernel_rfl) (by kernel_rfl) (fun _ _ _ h => h) (Or.inl ⟨by rfl, ?_⟩) hH ?_
      · intro w1 hS; (try dsimp only at hS); go_simp
      (try simp only [List.getElem_toArray]); (try simp only [List.getElem_cons_succ]); (try simp only [List.getElem_cons_zero]); (try simp only [Act.put]); (try simp only [List.setIfInBounds_toArray]); (try simp only [List.set_cons_succ]); (try simp only [List.set_cons_zero])
      refine wpAnyH_done (by kernel_rfl) ?_ _
      have GB := hH
      clear hH R13 l13
      have t2 := brow GB s2
      have B9 := Lib.hid (bnext B2.out GB B2.out.size)
      have T2 := Lib.hid t2
      have l13 := rowAt_lt G13
      have l2 := rowAt_lt t2
      have n2 : K2 ≠ V.heap.size := by have := rowAt_lt s2; omega
      clear GB s0 s1 s2 B2
      generalize World.setRow _ V.heap.size cur = W9 at *
      have t2' := T2.out
      go_wp2_with fail
      refine bodyPost_ret (results_c3 (fn := Try.f22) (p := 8) (u := 9) (q := 10) (s := 11) (ty := 32) rfl _ _ ⟨K2, 0, none⟩ (.agg cur) rfl (loadVar_wat _ K2 cur (rowAt_setRow_at _ _ _ (by rw [T2.out]; rfl)) his)) rfl ?_
      exact ⟨cur, by rw [E2.out, E3.out, HC.out]; rfl, by rw [E1.out]; exact HI.out, below_setRow B9.out b2 _⟩
  · have hcode := hcode
    go_enter Try.func22, Try.ntmps22
    go_wp2_with fail
    refine gen_callsW fun W hW => ?_
    have q0 : rowAt W w.heap.size = some c := by rw [hW]; exact (rowAt_alloc_past _ _ _ (by simp; try omega)).trans ((rowAt_alloc_past _ _ _ (by simp)).trans (rowAt_alloc_at _ _ _ _ rfl))
    have q1 : rowAt W (w.heap.size + 1) = some d := by rw [hW]; exact (rowAt_alloc_past _ _ _ (by simp)).trans (rowAt_alloc_at _ _ _ _ (by simp))
    have q2 : rowAt W (w.heap.size + 1 + 1) = some zeroW := by rw [hW]; exact rowAt_alloc_at _ _ _ _ (by simp)
    have BW : Below w.heap.size w W := by rw [hW]; exact (((Below.refl _ _).alloc (Nat.le_refl _) _).alloc (by simp) _).alloc (by simp; omega) _
    have k01 : w.heap.size ≠ w.heap.size + 1 := by omega
    have k12 : w.heap.size + 1 ≠ w.heap.size + 1 + 1 := by omega
    have k02 : w.heap.size ≠ w.heap.size + 1 + 1 := by omega
    have b1 : w.heap.size ≤ w.heap.size + 1 := by omega
    have b2 : w.heap.size ≤ w.heap.size + 1 + 1 := by omega
    clear hW
    generalize w.heap.size + 1 + 1 = K2 at *
    generalize w.heap.size + 1 = K1 at *
    refine (CC W (HV.out.below BW (Nat.le_refl _)) (HR.out.below BW (Nat.le_refl _))).mono ?_
    rintro e w1 ⟨rfl, x1⟩
    have s0 := brow x1 q0
    have s1 := brow x1 q1
    have s2 := brow x1 q2
    have B2 := Lib.hid (bnext BW x1 BW.size)
    clear x1 q0 q1 q2 BW CC
    have hcb : (code != 0) = true := by simpa using hz
    obtain ⟨e1, e2, e3⟩ := Gt.mn_f (show g.mnC t n r y ≠ 0 by rw [← hcode]; exact hz)
    have E1 := Lib.hid e1
    have E2 := Lib.hid e2
    have E3 := Lib.hid e3
    have S2 := Lib.hid s2
    have HC := Lib.hid hcode
    have l2 := rowAt_lt s2
    clear e1 e2 e3 hz s0 s1 hcode
    go_wp2_with fail
    refine bodyPost_ret (results_c3 (fn := Try.f22) (p := 8) (u := 9) (q := 10) (s := 11) (ty := 32) rfl _ _ ⟨K2, 0, none⟩ (.agg zeroW) rfl (loadVar_wat _ K2 zeroW (rowAt_setRow_at _ _ _ (by rw [S2.out]; rfl)) rfl)) rfl ?_
    exact ⟨zeroW, by rw [E2.out, E3.out, ← HC.out]; rfl, by rw [E1.out]; exact zeroW_is, below_setRow B2.out b2 _⟩
end Go.Proofs.Ytfdoehakpeddnaa
