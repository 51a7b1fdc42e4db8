/- Climbing to one tile: contracts of both sides. -/
import Derived.Test.YtkimngffbioeeaaWork
namespace Go.Proofs.Ytkimngffbioeeaa
open Go.RowKit

/-- The cells of one place. -/
def plv (a b : Int) : Nat → Int := fun i => if i = 0 then a else b
theorem plv_bd {a b : Int} (ha : -128 ≤ a ∧ a ≤ 127) (hb : -128 ≤ b ∧ b ≤ 127) (i : Nat) : -128 ≤ plv a b i ∧ plv a b i ≤ 127 := by
  unfold plv; split <;> assumption
theorem IsList.lit1 {w : World} {n base cap : Nat} {a b : Int} (hr : rowAt w n = some #[.int .i8 a, .int .i8 b]) (hb : base ≤ n) : IsList w base (.slice (some ⟨n, 0, none⟩) 1 cap) 2 1 (fun i => .int .i8 (plv a b i)) :=
  .inr ⟨n, cap, _, rfl, hb, hr, by simp, fun i hi => by
    have : i = 0 ∨ i = 1 := by omega
    rcases this with rfl | rfl <;> simp [plv]⟩
theorem IsList.none0 (w : World) (base sz : Nat) (a : Option Addr) (cap : Nat) (f : Nat → Value) : IsList w base (.slice a 0 cap) sz 0 f := .inl ⟨rfl, a, cap, rfl⟩
theorem Rf.wcode_one (r : Rf) (g : Nat → Int) (a b : Int) (fine : Bool) : r.wcode g 0 (plv a b) 1 fine = r.ask a b fine := by
  have e1 : r.ocB g 0 = true := Rf.ocB_t (r.okC_zero g)
  have e2 : r.okB (plv a b) 1 = r.isB a b := by
    by_cases h : r.okP (plv a b) 1
    · rw [Rf.okB_t h]
      have := h 0 (by omega)
      exact (Rf.isB_true (by simpa [Rf.inP, plv] using this)).symm
    · rw [Rf.okB_f h]
      refine (Rf.isB_false fun hh => h fun k hk => ?_).symm
      obtain rfl : k = 0 := by omega
      simpa [Rf.inP, plv] using hh
  unfold Rf.wcode Rf.ask
  rw [e1, e2]
  unfold Rf.told
  cases r.ok <;> cases fine <;> cases r.isB a b <;> simp

set_option maxHeartbeats 400000 in
theorem climbTo_any (c : Array Value) (r : Rf) (i j : Nat) (w : World) (hR : IsRoof c r) (hi : i < 8) (h0 : 0 ≤ r.h) :
    Calls Try.prog 71 #[.agg c, .agg #[.int .i8 i, .int .i8 j]] w fun e w' => e = .returned (.int .i64 (r.h - i)) ∧ Below w.heap.size w w' := by
  obtain ⟨hc, k0, k1, k2, w0, wl, h1, h2, s0, s1⟩ := hR.view
  clear hR k0 k2
  have i0 : 0 ≤ (i : Int) := by omega
  have i1 : (i : Int) < 8 := by omega
  go_enter Try.func71, Try.ntmps71
  go_wp2_with fail
  go_ret
  exact ⟨rfl, ((Below.refl _ _).alloc (Nat.le_refl _) _).alloc (by simp) _⟩

set_option maxHeartbeats 400000 in
theorem l04Climb_any (n : Nat) (c : Array Value) (r : Rf) (i j : Nat) (w : World) (hr : rowAt w n = some c) (hR : IsRoof c r) (hi : i < 8) :
    Calls Try.prog 69 #[.pointer (some ⟨n, 0, none⟩), .agg #[.int .i8 i, .int .i8 j]] w fun e w' => e = .returned (.int .i64 (r.h - i)) ∧ Below w.heap.size w w' := by
  have hn := rowAt_lt hr
  obtain ⟨hc, k0, k1, k2, w0, wl, h1, h2, s0, s1⟩ := hR.view
  have hcell : w.cell? ⟨n, 1, none⟩ = some (.int .i8 r.h) := by rw [cell_of_rowAt hr, Array.getElem?_eq_getElem (by omega), k1]
  clear hR k0 k1 k2 hr
  have i0 : 0 ≤ (i : Int) := by omega
  have i1 : (i : Int) < 8 := by omega
  have e1 : IntKind.i64.wrap (r.h - (i : Int)) = r.h - i := IntWalk.i64_in _ (by omega)
  go_enter Try.func69, Try.ntmps69
  go_wp2_with fail
  go_quiet (fail)
  clear e1
  go_wp2_with fail
  go_ret
  exact ⟨rfl, below_drewN ((Below.refl _ _).alloc (Nat.le_refl _) _) _⟩

theorem gen_callsC {P : Program} {f : FuncId} {args : Array Value} {Q : Ending → World → Prop} {w : World} (h : ∀ W, W = w → Calls P f args W Q) : Calls P f args w Q := h w rfl

noncomputable def Rf.climbAns (r : Rf) (a b : Int) : Int := if r.ask a b true = 0 then r.h - a else 0

set_option maxHeartbeats 400000 in
theorem specClimbTo_any (c : Array Value) (r : Rf) (a b : Int) (w : World) (hR : IsRoof c r) (ha : -128 ≤ a ∧ a ≤ 127) (hb : -128 ≤ b ∧ b ≤ 127) :
    Calls Try.prog 33 #[.agg c, .agg #[.int .i8 a, .int .i8 b]] w fun e w' => e = .returned (.tuple #[.int .i64 (r.climbAns a b), .int .i64 (r.ask a b true)]) ∧ Below w.heap.size w w' := by
  have hc := hR.size
  have LA : ∀ (W : World) (n0 n1 n2 : Nat) (cp : Nat), rowAt W n0 = some c → rowAt W n2 = some #[.int .i8 a, .int .i8 b] → Calls Try.prog 60 #[.pointer (some ⟨n0, 0, none⟩), .slice (some ⟨n1, 0, none⟩) 0 cp, .slice (some ⟨n2, 0, none⟩) 1 1, .bool true] W fun e w' => e = .returned (.int .i64 (r.ask a b true)) ∧ Below W.heap.size W w' := fun W n0 n1 n2 cp h0 h2 => by
    have := l04Asked_any n0 0 0 0 1 c r (fun _ => 0) (plv a b) (.slice (some ⟨n1, 0, none⟩) 0 cp) (.slice (some ⟨n2, 0, none⟩) 1 1) true W h0 hR (IsList.none0 _ _ _ _ _ _) (by omega) (IsList.lit1 h2 (by omega)) (by omega) (fun i _ => plv_bd ha hb i)
    rwa [Rf.wcode_one] at this
  by_cases hk : r.ask a b true = 0
  · obtain ⟨ho, hp, _⟩ := Rf.ask_zero hk
    obtain ⟨i, hi⟩ := Int.eq_ofNat_of_zero_le hp.1
    obtain ⟨j, hj⟩ := Int.eq_ofNat_of_zero_le hp.2.2.1
    have hka : r.climbAns a b = r.h - i := by unfold Rf.climbAns; rw [if_pos hk, hi]
    rw [hka]
    subst hi hj
    have hi8 : i < 8 := by have := ho.2.2.2.1; omega
    have hj8 : j < 8 := by have := ho.2.1; omega
    have hb1 : (r.ask i j true != 0) = false := by simp [hk]
    have HK := Lib.hid hk
    clear hk hka
    go_enter Try.func33, Try.ntmps33
    go_wp2_with fail
    refine gen_callsC fun W hW => ?_
    have p0 : rowAt W w.heap.size = some c := by rw [hW]; exact (rowAt_alloc_past _ _ _ (by simp <;> omega)).trans ((rowAt_alloc_past _ _ _ (by simp <;> omega)).trans ((rowAt_alloc_past _ _ _ (by simp)).trans (rowAt_alloc_at w c 30 _ rfl)))
    have p2 : rowAt W (w.heap.size + 1 + 1 + 1) = some #[.int .i8 i, .int .i8 j] := by rw [hW]; exact rowAt_alloc_at _ _ _ _ (by simp)
    have p1 : rowAt W (w.heap.size + 1) = some #[.int .i8 i, .int .i8 j] := by rw [hW]; exact (rowAt_alloc_past _ _ _ (by simp <;> omega)).trans ((rowAt_alloc_past _ _ _ (by simp)).trans (rowAt_alloc_at _ _ _ _ (by simp)))
    have pB : Below w.heap.size w W := by rw [hW]; exact ((((Below.refl _ _).alloc (Nat.le_refl _) _).alloc (by simp) _).alloc (by simp <;> omega) _).alloc (by simp <;> omega) _
    clear hW
    refine (LA _ _ _ _ _ p0 p2).mono ?_
    rintro e w1 ⟨rfl, b1⟩
    have q0 := brow b1 p0
    have q1 := brow b1 p1
    have B1 := bnext pB b1 pB.size
    have k0 := cell_of_rowAt q1 0
    have k1 := cell_of_rowAt q1 1
    clear b1 p0 p1 p2 pB
    go_wp2_with fail
    refine (l04Climb_any w.heap.size c r i j _ q0 hR hi8).mono ?_
    rintro e w2 ⟨rfl, b2⟩
    have B2 := bnext B1 b2 B1.size
    clear b2 k0 k1
    go_wp2_with fail
    go_ret2
    exact ⟨by simp [HK.out], B2⟩
  · have hka : r.climbAns a b = 0 := by unfold Rf.climbAns; rw [if_neg hk]
    rw [hka]
    have hb1 : (r.ask a b true != 0) = true := by simp [hk]
    clear hk hka
    go_enter Try.func33, Try.ntmps33
    go_wp2_with fail
    refine gen_callsC fun W hW => ?_
    have p0 : rowAt W w.heap.size = some c := by rw [hW]; exact (rowAt_alloc_past _ _ _ (by simp <;> omega)).trans ((rowAt_alloc_past _ _ _ (by simp <;> omega)).trans ((rowAt_alloc_past _ _ _ (by simp)).trans (rowAt_alloc_at w c 30 _ rfl)))
    have p2 : rowAt W (w.heap.size + 1 + 1 + 1) = some #[.int .i8 a, .int .i8 b] := by rw [hW]; exact rowAt_alloc_at _ _ _ _ (by simp)
    have pB : Below w.heap.size w W := by rw [hW]; exact ((((Below.refl _ _).alloc (Nat.le_refl _) _).alloc (by simp) _).alloc (by simp <;> omega) _).alloc (by simp <;> omega) _
    clear hW
    refine (LA _ _ _ _ _ p0 p2).mono ?_
    rintro e w1 ⟨rfl, b1⟩
    have B1 := bnext pB b1 pB.size
    clear b1 p0 p2 pB
    go_wp2_with fail
    go_ret2
    exact ⟨rfl, B1⟩

set_option maxHeartbeats 400000 in
theorem implClimbTo_any (c : Array Value) (r : Rf) (a b : Int) (w : World) (hR : IsRoof c r) :
    Calls Try.prog 35 #[.agg c, .agg #[.int .i8 a, .int .i8 b]] w fun e w' => e = .returned (.tuple #[.int .i64 (r.climbAns a b), .int .i64 (r.ask a b true)]) ∧ Below w.heap.size w w' := by
  have hc := hR.size
  by_cases hk : r.ask a b true = 0
  · obtain ⟨ho, hp, _⟩ := Rf.ask_zero hk
    obtain ⟨i, hi⟩ := Int.eq_ofNat_of_zero_le hp.1
    obtain ⟨j, hj⟩ := Int.eq_ofNat_of_zero_le hp.2.2.1
    have hka : r.climbAns a b = r.h - i := by unfold Rf.climbAns; rw [if_pos hk, hi]
    rw [hka]
    subst hi hj
    have hi8 : i < 8 := by have := ho.2.2.2.1; omega
    have hj8 : j < 8 := by have := ho.2.1; omega
    have hh0 : 0 ≤ r.h := by have := ho.2.2.1; omega
    have hb1 : (r.ask i j true != 0) = false := by simp [hk]
    have HK := Lib.hid hk
    clear hk hka
    go_enter Try.func35, Try.ntmps35
    go_wp2_with fail
    refine (checkPlace_any c r _ _ _ hR).mono ?_
    rintro e w1 ⟨rfl, b1⟩
    have q1 := brow b1 ((rowAt_alloc_past _ (.cells #[.int .i8 i, .int .i8 j] 53) _ (by simp)).trans (rowAt_alloc_at w c 30 _ rfl))
    obtain ⟨v1, v2, v3, v4⟩ := bview b1
    have B1 : Below w.heap.size w w1 := (((Below.refl _ _).alloc (Nat.le_refl _) _).alloc (by simp) _).trans (b1.mono (by simp <;> omega))
    clear b1
    go_wp2_with fail
    refine (climbTo_any c r i j _ hR hi8 hh0).mono ?_
    rintro e w2 ⟨rfl, b2⟩
    have B2 := bnext B1 b2 B1.size
    clear b2 v1 v2 v3 v4
    go_wp2_with fail
    go_ret2
    exact ⟨by simp [HK.out], B2⟩
  · have hka : r.climbAns a b = 0 := by unfold Rf.climbAns; rw [if_neg hk]
    rw [hka]
    have hb1 : (r.ask a b true != 0) = true := by simp [hk]
    clear hk hka
    go_enter Try.func35, Try.ntmps35
    go_wp2_with fail
    refine (checkPlace_any c r a b _ hR).mono ?_
    rintro e w1 ⟨rfl, b1⟩
    have B1 : Below w.heap.size w w1 := (((Below.refl _ _).alloc (Nat.le_refl _) _).alloc (by simp) _).trans (b1.mono (by simp <;> omega))
    clear b1
    go_wp2_with fail
    go_ret2
    exact ⟨rfl, B1⟩
end Go.Proofs.Ytkimngffbioeeaa
