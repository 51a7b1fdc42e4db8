/- EndOf: both sides. -/
import Derived.Test.YtfdoehakpeddnaaFlS
namespace Go.Proofs.Ytfdoehakpeddnaa
open Go.RowKit

theorem Gt.to_cases {g : Gt} {j : Nat} (hj : (j : Int) < g.n) : g.to j = -1 ∨ ∃ q : Nat, g.to j = q ∧ (q : Int) < g.n ∧ g.h q < g.h j := by
  unfold Gt.to Gt.toB
  by_cases h : g.pipe j = true ∨ g.leaf j = true
  · rw [if_pos h]; exact .inl rfl
  rw [if_neg h]
  simp only [Gt.toK]
  by_cases h1 : 0 < j ∧ g.h (j - 1) < g.h j
  · rw [if_pos h1, if_pos h1]
    by_cases h2 : (j : Int) + 1 < g.n ∧ g.h (j + 1) < g.h (j - 1)
    · rw [if_pos h2]; exact .inr ⟨j + 1, by omega, by omega, by omega⟩
    · rw [if_neg h2]; exact .inr ⟨j - 1, by omega, by omega, h1.2⟩
  · rw [if_neg h1, if_neg h1]
    by_cases h2 : (j : Int) + 1 < g.n ∧ g.h (j + 1) < g.h j
    · rw [if_pos h2]; exact .inr ⟨j + 1, by omega, by omega, h2.2⟩
    · rw [if_neg h2]; exact .inl rfl
/-- The water of a cell ends in a cell. -/
inductive Gt.Ends (g : Gt) : Nat → Nat → Prop
  | stay (j : Nat) : g.to j = -1 → Gt.Ends g j j
  | go (j q e : Nat) : g.to j = q → Gt.Ends g q e → Gt.Ends g j e
theorem Gt.ends_ex {g : Gt} (ho : g.Ok) : ∀ (m j : Nat), (g.h j).toNat ≤ m → (j : Int) < g.n → ∃ e, g.Ends j e ∧ (e : Int) < g.n
  | m, j, hm, hj => by
    rcases Gt.to_cases hj with h | ⟨q, hq, hn, hh⟩
    · exact ⟨j, .stay j h, hj⟩
    · have h0 := (ho.hs q (by have := ho.n17; omega)).1
      cases m with
      | zero => have := (ho.hs j (by have := ho.n17; omega)).1; omega
      | succ m =>
        obtain ⟨e, he, hen⟩ := Gt.ends_ex ho m q (by omega) hn
        exact ⟨e, .go j q e hq he, hen⟩
open Classical in
noncomputable def Gt.endN (g : Gt) (j : Nat) : Nat := if h : ∃ e, g.Ends j e ∧ (e : Int) < g.n then h.choose else 0
theorem Gt.endN_is {g : Gt} {j : Nat} (ho : g.Ok) (hj : (j : Int) < g.n) : g.Ends j (g.endN j) ∧ (g.endN j : Int) < g.n := by
  have h := Gt.ends_ex ho _ j (Nat.le_refl _) hj
  unfold Gt.endN
  rw [dif_pos h]
  exact h.choose_spec
theorem Gt.Ends.at_stay {g : Gt} {j e : Nat} (h : g.Ends j e) (hs : g.to j = -1) : e = j := by
  cases h with
  | stay _ _ => rfl
  | go _ q _ hq _ => omega
theorem Gt.Ends.at_go {g : Gt} {j q e : Nat} (h : g.Ends j e) (hs : g.to j = q) : g.Ends q e := by
  cases h with
  | stay _ h => omega
  | go _ q' _ hq hr => obtain rfl : q' = q := by omega
                       exact hr

set_option maxRecDepth 100000 in
set_option maxHeartbeats 2000000 in
theorem endOf_any (b N j : Nat) (g : Gt) (v : Value) (w : World) (hv : IsList w b v 1 N (fun i => .int .i64 (g.to i))) (ho : g.Ok) (hN : g.n = N) (hj : j < N) :
    Calls Try.prog 106 #[v, .int .i64 j] w fun e w' => e = .returned (.int .i64 (g.endN j)) ∧ w = w' := by
  have hE := (Gt.endN_is ho (by omega) : g.Ends j (g.endN j) ∧ _).1
  have HC := Lib.hid (fun q (hq : q < N) => Gt.to_cases (g := g) (j := q) (by omega))
  have HH := Lib.hid (fun q (hq : q < N) => (ho.hs q (by have := ho.n17; omega)).1)
  have h17 := ho.n17
  have HV := Lib.hid hv
  obtain ⟨a, cap, rfl⟩ := hv.shape
  have HNN := Lib.hid hN
  generalize g.endN j = E at *
  have HEE := Lib.hid hE
  have hN17 : N ≤ 17 := by omega
  clear hv ho hN hE h17
  go_enter Try.func106, Try.ntmps106
  go_wp2_with fail
  go_loopw [1] (fun i W => ∃ q : Nat, q < N ∧ i = .int .i64 q ∧ Hid (g.Ends q E) ∧ W = w) (fun i _ => (g.h (intOf i).toNat).toNat)
  case atStart => exact ⟨j, hj, rfl, HEE, rfl⟩
  case round =>
    obtain ⟨q, hq, rfl, hF, rfl⟩ := hrel
    have q0 : 0 ≤ (q : Int) := by omega
    have q1 : (q : Int) < N := by omega
    obtain ⟨g', rfl, hg', c0⟩ : ∃ g', a = some ⟨g', 0, none⟩ ∧ g' < wr.heap.size ∧ wr.cell? ⟨g', q, none⟩ = some (.int .i64 (g.to q)) := by
      rcases HV.out with ⟨h0, _⟩ | ⟨g', cap', cur', e, hg, hr', hs', hf'⟩
      · omega
      · cases e
        exact ⟨g', rfl, rowAt_lt hr', by rw [cell_of_rowAt hr']; exact hf' _ (by omega)⟩
    rcases HC.out q hq with h | ⟨p, hp, hpn, hh⟩
    · have hX := Lib.hid (hF.out.at_stay h)
      rw [h] at c0
      clear h
      go_wp2_with fail
      go_ret
      exact ⟨by rw [hX.out]; rfl, rfl⟩
    · have hG := Lib.hid (hF.out.at_go hp)
      rw [hp] at c0
      have hne : ((p : Int) != -1) = true := by simp
      have h0 := HH.out p (by have := HNN.out; omega)
      have hpN : p < N := by have := HNN.out; omega
      have HHH := Lib.hid hh
      clear hp hh hpn
      go_wp2_with fail
      refine ⟨⟨p, hpN, rfl, hG, trivial⟩, ?_⟩
      have := HHH.out
      simp [intOf]
      omega

set_option maxRecDepth 100000 in
set_option maxHeartbeats 2000000 in
theorem l06End_any (k b N j : Nat) (c : Array Value) (g : Gt) (v : Value) (w : World) (hA : GutAt w k c g v b) (ho : g.Ok) (hN : g.n = N) (hj : j < N) (hm : g.m ≤ 2000000) :
    Calls Try.prog 76 #[.pointer (some ⟨k, 0, none⟩), .int .i64 j] w fun e w' => e = .returned (.int .i64 (g.endN j)) ∧ Below w.heap.size w w' := by
  have hE := (Gt.endN_is ho (by omega) : g.Ends j (g.endN j) ∧ _).1
  have HC := Lib.hid (fun q (hq : q < N) => Gt.to_cases (g := g) (j := q) (by omega))
  have HH := Lib.hid (fun q (hq : q < N) => (ho.hs q (by have := ho.n17; omega)).1)
  have h17 := ho.n17
  have CT := fun W (q : Nat) H (hq : q < N) => l06To_any k b c g v q W H (by omega) h17 hm
  have HA := Lib.hid hA
  have HNN := Lib.hid hN
  generalize g.endN j = E at *
  have HEE := Lib.hid hE
  have hN17 : N ≤ 17 := by omega
  clear hA ho hN hE h17
  go_enter Try.func76, Try.ntmps76
  go_wp2_with fail
  refine (CT _ j HA.out hj).mono ?_
  rintro e w1 ⟨rfl, b1⟩
  have A1 := Lib.hid (HA.out.below b1 (Nat.le_refl _))
  go_wp2_with fail
  go_loopw [1, 5] (fun i t W => ∃ q : Nat, q < N ∧ i = .int .i64 q ∧ t = .int .i64 (g.to q) ∧ Hid (g.Ends q E) ∧ Below w.heap.size w W) (fun i _ _ => (g.h (intOf i).toNat).toNat)
  case atStart => exact ⟨j, hj, rfl, rfl, HEE, b1⟩
  case round =>
    clear b1 A1
    obtain ⟨q, hq, rfl, rfl, hF, hB⟩ := hrel
    have HAW := Lib.hid (HA.out.below hB (Nat.le_refl _))
    have HB := Lib.hid hB
    clear hB
    have q0 : 0 ≤ (q : Int) := by omega
    rcases HC.out q hq with h | ⟨p, hp, hpn, hh⟩
    · have hX := Lib.hid (hF.out.at_stay h)
      rw [h]
      have hd : ¬ (0 : Int) ≤ -1 := by omega
      clear h
      go_wp2_with fail
      go_ret
      exact ⟨by rw [hX.out]; rfl, HB.out⟩
    · have hG := Lib.hid (hF.out.at_go hp)
      rw [hp]
      have h0 := HH.out p (by have := HNN.out; omega)
      have hpN : p < N := by have := HNN.out; omega
      have HHH := Lib.hid hh
      have p0 : 0 ≤ (p : Int) := by omega
      clear hp hh hpn
      go_wp2_with fail
      refine (CT _ p HAW.out hpN).mono ?_
      rintro e w2 ⟨rfl, b2⟩
      have B2 := bnext HB.out b2 HB.out.size
      clear b2
      go_wp2_with fail
      refine ⟨⟨p, hpN, rfl, rfl, hG, B2⟩, ?_⟩
      have := HHH.out
      simp [intOf]
      omega

/-- The code of a gutter and of a number that has to be as told. -/
noncomputable def Gt.ask (g : Gt) (fine : Bool) : Int := if g.ok = true then (if fine = true then 0 else 2) else 1
theorem l06Asked_any (k b : Nat) (c : Array Value) (g : Gt) (v : Value) (fine : Bool) (w : World) (hA : GutAt w k c g v b) (hm : g.m ≤ 2000000) :
    Calls Try.prog 53 #[.pointer (some ⟨k, 0, none⟩), .bool fine] w fun e w' => e = .returned (.int .i64 (g.ask fine)) ∧ Below w.heap.size w w' := by
  have CK := fun W H => l06Ok_any k b c g v W H hm
  unfold Gt.ask
  generalize g.ok = kk at *
  cases kk with
  | false =>
    go_enter Try.func53, Try.ntmps53
    go_wp2_with fail
    refine (CK _ hA).mono ?_
    rintro e w1 ⟨rfl, b1⟩
    go_wp2_with fail
    go_ret
    exact ⟨rfl, b1⟩
  | true =>
    cases fine with
    | false =>
      go_enter Try.func53, Try.ntmps53
      go_wp2_with fail
      refine (CK _ hA).mono ?_
      rintro e w1 ⟨rfl, b1⟩
      go_wp2_with fail
      go_ret
      exact ⟨rfl, b1⟩
    | true =>
      go_enter Try.func53, Try.ntmps53
      go_wp2_with fail
      refine (CK _ hA).mono ?_
      rintro e w1 ⟨rfl, b1⟩
      go_wp2_with fail
      go_ret
      exact ⟨rfl, b1⟩
theorem l06Cell_any (k b : Nat) (c : Array Value) (g : Gt) (v : Value) (x : Int) (w : World) (hA : GutAt w k c g v b) :
    Calls Try.prog 75 #[.pointer (some ⟨k, 0, none⟩), .int .i64 x] w fun e w' => e = .returned (.bool (inB x 0 (g.n - 1))) ∧ Below w.heap.size w w' := by
  have z0 : w.cell? ⟨k, 0, none⟩ = some (.int .i8 g.n) := by rw [cell_of_rowAt hA.row]; exact hA.is.get0
  have n0 := hA.is.n0
  have n1 := hA.is.n1
  have lt := hA.lt
  clear hA
  go_enter Try.func75, Try.ntmps75
  go_wp2_with fail
  refine (l00In_any _ _ _ _).mono ?_
  rintro e w1 ⟨rfl, rfl⟩
  go_wp2_with fail
  go_ret
  exact ⟨rfl, Below.refl _ _⟩
theorem outB_in {x : Int} {g : Gt} : outB x 0 (g.n - 1) = !(inB x 0 (g.n - 1)) := by
  unfold outB inB
  by_cases h : 0 ≤ x ∧ x ≤ g.n - 1
  · simp [h] <;> omega
  · simp [h] <;> omega
theorem checkCell_any (b : Nat) (c : Array Value) (g : Gt) (v : Value) (x : Int) (w : World) (hG : IsGut c g v) (hv : IsList w b v 2 g.m (pipeV g.p)) (hm : g.m ≤ 2000000) :
    Calls Try.prog 77 #[.agg c, .int .i64 x] w fun e w' => e = .returned (.int .i64 (g.ask (inB x 0 (g.n - 1)))) ∧ Below w.heap.size w w' := by
  have hc := hG.size
  have rA : rowAt (w.alloc (.cells c 37)) w.heap.size = some c := rowAt_alloc_at _ _ _ _ rfl
  have hBA : Below w.heap.size w (w.alloc (.cells c 37)) := (Below.refl _ _).alloc (Nat.le_refl _) _
  have hV := Lib.hid (hv.below hBA (Nat.le_refl _))
  have CK := fun W H => implValidGutter_any b c g v W hG H hm
  have CN := fun W => cellNumberG_any c g v x W hG
  have HO := Lib.hid (outB_in (x := x) (g := g))
  unfold Gt.ask
  generalize g.ok = kk at *
  generalize inB x 0 (g.n - 1) = fine at *
  clear hG hv
  cases kk with
  | false =>
    go_enter Try.func77, Try.ntmps77
    go_wp2_with fail
    refine (CK _ hV.out).mono ?_
    rintro e w1 ⟨rfl, b1⟩
    have B1 := bnext hBA b1 hBA.size
    clear b1 rA
    go_wp2_with fail
    go_ret
    exact ⟨rfl, B1⟩
  | true =>
    cases fine with
    | false =>
      go_enter Try.func77, Try.ntmps77
      go_wp2_with fail
      refine (CK _ hV.out).mono ?_
      rintro e w1 ⟨rfl, b1⟩
      have r1 := brow b1 rA
      have B1 := bnext hBA b1 hBA.size
      clear b1 rA
      go_wp2_with fail
      refine (CN _).mono ?_
      rintro e w2 ⟨rfl, b2⟩
      have B2 := bnext B1 b2 B1.size
      clear b2 r1
      go_wp2_with fail
      refine (isOutside_any _ _ _ _).mono ?_
      rw [HO.out]
      rintro e w3 ⟨rfl, b3⟩
      have B3 := bnext B2 b3 B2.size
      clear b3
      go_wp2_with fail
      go_ret
      exact ⟨rfl, B3⟩
    | true =>
      go_enter Try.func77, Try.ntmps77
      go_wp2_with fail
      refine (CK _ hV.out).mono ?_
      rintro e w1 ⟨rfl, b1⟩
      have r1 := brow b1 rA
      have B1 := bnext hBA b1 hBA.size
      clear b1 rA
      go_wp2_with fail
      refine (CN _).mono ?_
      rintro e w2 ⟨rfl, b2⟩
      have B2 := bnext B1 b2 B1.size
      clear b2 r1
      go_wp2_with fail
      refine (isOutside_any _ _ _ _).mono ?_
      rw [HO.out]
      rintro e w3 ⟨rfl, b3⟩
      have B3 := bnext B2 b3 B2.size
      clear b3
      go_wp2_with fail
      go_ret
      exact ⟨rfl, B3⟩

noncomputable def Gt.endV (g : Gt) (y : Int) : Int := if g.ask (inB y 0 (g.n - 1)) = 0 then (g.endN y.toNat : Int) else 0
theorem Gt.ask_0 {g : Gt} {fine : Bool} (h : g.ask fine = 0) : g.Ok ∧ fine = true := by
  unfold Gt.ask at h
  split at h
  · rename_i h1
    split at h
    · rename_i h2; exact ⟨Gt.Ok_of h1, h2⟩
    · omega
  · omega
theorem inB_of {x lo hi : Int} (h : inB x lo hi = true) : lo ≤ x ∧ x ≤ hi := by simpa [inB] using h

end Go.Proofs.Ytfdoehakpeddnaa
