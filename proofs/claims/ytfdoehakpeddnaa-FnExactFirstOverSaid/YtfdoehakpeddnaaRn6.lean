/- Rain upon a gutter, and the codes of minutes: the model. -/
import Derived.Test.YtfdoehakpeddnaaWatV
import Derived.Test.YtfdoehakpeddnaaEnd6
namespace Go.Proofs.Ytfdoehakpeddnaa
open Go.RowKit

/-- Rain is as told for a gutter. -/
def Gt.Rn (g : Gt) (n : Nat) (r : Nat → Int) : Prop := (∀ i, i < n → 0 ≤ r i ∧ r i ≤ 1000) ∧ (n : Int) = g.n
open Classical in
noncomputable def Gt.rnB (g : Gt) (n : Nat) (r : Nat → Int) : Bool := decide (g.Rn n r)
theorem Gt.rnB_t {g : Gt} {n : Nat} {r : Nat → Int} (h : g.Rn n r) : g.rnB n r = true := by simp only [Gt.rnB, decide_eq_true_eq]; exact h
theorem Gt.rnB_f {g : Gt} {n : Nat} {r : Nat → Int} (h : ¬ g.Rn n r) : g.rnB n r = false := by simp only [Gt.rnB, decide_eq_false_iff_not]; exact h
theorem Gt.rnB_of {g : Gt} {n : Nat} {r : Nat → Int} (h : g.rnB n r = true) : g.Rn n r := by simpa only [Gt.rnB, decide_eq_true_eq] using h

set_option maxRecDepth 100000 in
set_option maxHeartbeats 1000000 in
theorem l06Rain_any (k b br n : Nat) (c : Array Value) (g : Gt) (v u : Value) (r : Nat → Int) (w : World) (hA : GutAt w k c g v b) (hr : IsList w br u 1 n (fun i => .int .i64 (r i))) (hn : n ≤ 2000000) :
    Calls Try.prog 47 #[.pointer (some ⟨k, 0, none⟩), u] w fun e w' => e = .returned (.bool (g.rnB n r)) ∧ Below w.heap.size w w' := by
  have HA := Lib.hid hA
  have z0 : w.cell? ⟨k, 0, none⟩ = some (.int .i8 g.n) := by rw [cell_of_rowAt hA.row]; exact hA.is.get0
  have lt := hA.lt
  have HL := Lib.hid hr
  have HT := Lib.hid (show (∀ i, i < n → 0 ≤ r i ∧ r i ≤ 1000) → (n : Int) = g.n → g.rnB n r = true from fun a b => Gt.rnB_t ⟨a, b⟩)
  have HF := Lib.hid (show ∀ i, i < n → ¬ (0 ≤ r i ∧ r i ≤ 1000) → g.rnB n r = false from fun i hi h => Gt.rnB_f fun x => h (x.1 i hi))
  have HN := Lib.hid (show (n : Int) ≠ g.n → g.rnB n r = false from fun h => Gt.rnB_f fun x => h x.2)
  have x0 := hA.is.n0
  have x1 := hA.is.n1
  obtain ⟨a, cap, rfl⟩ := hr.shape
  clear hA hr
  go_enter Try.func47, Try.ntmps47
  go_wp2_with fail
  go_loopw [5] (fun i W => ∃ j : Nat, j ≤ n ∧ i = .int .i64 j ∧ Hid (∀ q, q < j → 0 ≤ r q ∧ r q ≤ 1000) ∧ W = w) (fun i _ => n - (intOf i).toNat)
  case atStart => exact ⟨0, by omega, rfl, Lib.hid (by omega), rfl⟩
  case round =>
    obtain ⟨j, hj, rfl, hF, hW⟩ := hrel
    subst hW
    by_cases hlt : j < n
    · obtain ⟨g', rfl, c0⟩ : ∃ g', a = some ⟨g', 0, none⟩ ∧ wr.cell? ⟨g', j, none⟩ = some (.int .i64 (r j)) := by
        rcases HL.out with ⟨h0, _⟩ | ⟨g', cap', cur', e, hg, hr', hs', hf'⟩
        · omega
        · cases e
          exact ⟨g', rfl, by rw [cell_of_rowAt hr']; exact hf' _ (by omega)⟩
      have j0 : 0 ≤ (j : Int) := by omega
      have j1 : (j : Int) < n := by omega
      by_cases hq : 0 ≤ r j ∧ r j ≤ 1000
      · have nx := Lib.hid (show ∀ q, q < j + 1 → 0 ≤ r q ∧ r q ≤ 1000 from fun q h => by
          by_cases e : q < j
          · exact hF.out q e
          · obtain rfl : q = j := by omega
            exact hq)
        go_wp2_with fail
        refine (l06Deep_tq _ _ hq).mono ?_
        rintro e w1 ⟨rfl, rfl⟩
        go_wp2_with fail
        refine ⟨⟨j + 1, by omega, by go_num, nx, trivial⟩, by simp [intOf]; omega⟩
      · have HX := Lib.hid (HF.out j hlt hq)
        go_wp2_with fail
        refine (l06Deep_fq _ _ hq).mono ?_
        rintro e w1 ⟨rfl, rfl⟩
        go_wp2_with fail
        go_ret
        exact ⟨by rw [HX.out]; rfl, Below.refl _ _⟩
    · obtain rfl : j = n := by omega
      by_cases he : (j : Int) = g.n
      · have hd : ((j : Int) == g.n) = true := by simpa using he
        have HX := Lib.hid (HT.out hF.out he)
        clear he
        go_wp2_with fail
        go_ret
        exact ⟨by rw [HX.out]; rfl, Below.refl _ _⟩
      · have hd : ((j : Int) == g.n) = false := by simpa using he
        have HX := Lib.hid (HN.out he)
        clear he
        go_wp2_with fail
        go_ret
        exact ⟨by rw [HX.out]; rfl, Below.refl _ _⟩

/-- The code of a gutter, water, and whether numbers are as told. -/
noncomputable def Gt.wet (g : Gt) (t : Nat → Int) (fine : Bool) : Int := if g.watB t = true then (if fine = true then 0 else 2) else 1
theorem l06Wet_any (k b kw : Nat) (c d : Array Value) (g : Gt) (t : Nat → Int) (v : Value) (fine : Bool) (w : World) (hA : GutAt w k c g v b) (hR : rowAt w kw = some d) (hD : IsWat d t) (hm : g.m ≤ 2000000) :
    Calls Try.prog 46 #[.pointer (some ⟨k, 0, none⟩), .pointer (some ⟨kw, 0, none⟩), .bool fine] w fun e w' => e = .returned (.int .i64 (g.wet t fine)) ∧ Below w.heap.size w w' := by
  have CK := l06Water_any k b kw c d g t v w hA hR hD hm
  unfold Gt.wet
  generalize g.watB t = kk at *
  clear hA hR hD
  cases kk with
  | false =>
    go_enter Try.func46, Try.ntmps46
    go_wp2_with fail
    refine CK.mono ?_
    rintro e w1 ⟨rfl, b1⟩
    clear CK
    go_wp2_with fail
    go_ret
    exact ⟨rfl, b1⟩
  | true =>
    cases fine with
    | false =>
      go_enter Try.func46, Try.ntmps46
      go_wp2_with fail
      refine CK.mono ?_
      rintro e w1 ⟨rfl, b1⟩
      clear CK
      go_wp2_with fail
      go_ret
      exact ⟨rfl, b1⟩
    | true =>
      go_enter Try.func46, Try.ntmps46
      go_wp2_with fail
      refine CK.mono ?_
      rintro e w1 ⟨rfl, b1⟩
      clear CK
      go_wp2_with fail
      go_ret
      exact ⟨rfl, b1⟩
end Go.Proofs.Ytfdoehakpeddnaa
