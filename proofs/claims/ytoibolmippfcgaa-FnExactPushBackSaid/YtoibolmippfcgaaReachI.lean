/- ReachFrom: the program's side: what is reached from ladders. -/
import Derived.Test.YtoibolmippfcgaaReachS
import Derived.Test.YtoibolmippfcgaaLift
import Derived.Test.YtoibolmippfcgaaPlOf
import Derived.Test.YtoibolmippfcgaaPlW
namespace Go.Proofs.Ytoibolmippfcgaa
open Go.RowKit Go.Shelf
attribute [local go_sem] Oper.semAt_some

/-- Whether a tile is reached from one of m ladders. -/
def Rf.canL (r : Rf) (y : Int) (g : Nat → Int) (m : Nat) (i j : Nat) : Bool := anyI (fun k => r.can y i j (g k)) m

/-- A list's room. -/
def CapP (v : Value) (n : Nat) : Prop := ∃ a cap, v = .slice a n cap ∧ n ≤ cap ∧ cap ≤ maxLen
theorem CapP.of_pls {w : World} {base : Nat} {e : TypeId} {v : Value} {n : Nat} {xs : List Value} (o : w.ownsRow base e 2 v n xs) : CapP v n := by
  obtain ⟨hl, h | ⟨g, cap, cur, rfl, hg, hh, hn, hm, hs, ht⟩⟩ := o
  · exact ⟨none, 0, by rw [h.1, h.2], by omega, by unfold maxLen; omega⟩
  · exact ⟨_, cap, rfl, hn, hm⟩
def GivesPC (w : World) {h ww : Nat} (l : List (Pl h ww)) (e : Ending) (w' : World) : Prop :=
  ∃ v, e = .returned v ∧ IsList w' w.heap.size v 2 l.length (fun i => .int .i8 (plAt l i)) ∧ Below w.heap.size w w' ∧ CapP v l.length

set_option maxRecDepth 100000 in
set_option maxHeartbeats 1000000 in
theorem reachedW_pred (B0 B1 B2 m : Nat) (c : Array Value) (r : Rf) (y : Int) (g : Nat → Int) (v1 : Value) (w : World) (h0 : rowAt w B0 = some #[v1]) (h1 : rowAt w B1 = some c) (h2 : rowAt w B2 = some #[.int .i64 y]) (hR : IsRoof c r) (hv : NumsAt w v1 m g) (hm : m ≤ 2000000) (hy : 0 ≤ y ∧ y ≤ 8) :
    PredW 86 #[] #[.pointer (some ⟨B0, 0, none⟩), .pointer (some ⟨B1, 0, none⟩), .pointer (some ⟨B2, 0, none⟩)] (r.canL y g m) w := fun i j W hi hj hb => by
  have HV := Lib.hid (hv.below hb (Nat.le_refl _))
  obtain ⟨a1, c1, rfl⟩ := hv.shape
  clear hv
  have q0 := brow hb h0
  have q1 := brow hb h1
  have q2 := brow hb h2
  have CK := fun W n k0 k1 k2 H => hasFuncI_any 88 #[.pointer (some ⟨B1, 0, none⟩), .pointer (some ⟨B2, 0, none⟩), .pointer (some ⟨n, 0, none⟩)] (r.can y i j) (enters_of Try.func88 (by kernel_rfl) rfl) (.slice a1 m c1) m g W (reached_pred B1 B2 n c r y i j W k0 k1 k2 hR hi hj hy) H hm
  have HCK := Lib.hid CK
  clear CK
  have kc := cell_of_rowAt q0 0
  simp at kc
  show Calls Try.prog 86 #[.agg #[.int .i8 (i : Int), .int .i8 (j : Int)], .pointer (some ⟨B0, 0, none⟩), .pointer (some ⟨B1, 0, none⟩), .pointer (some ⟨B2, 0, none⟩)] W _
  obtain ⟨b, hcmp⟩ : ∃ b, r.canL y g m i j = b := ⟨_, rfl⟩
  rw [hcmp]
  have HB := Lib.hid (show anyI (fun k => r.can y i j (g k)) m = b from hcmp)
  clear hcmp
  have lt0 := rowAt_lt q0
  go_enter Try.func86, Try.ntmps86
  go_wp2_with fail
  refine gen_callsW fun W2 hW => ?_
  have rB : Below W.heap.size W W2 := by rw [hW]; exact (Below.refl _ _).alloc (Nat.le_refl _) _
  have rA : rowAt W2 W.heap.size = some #[.int .i8 (i : Int), .int .i8 (j : Int)] := by rw [hW]; exact rowAt_alloc_at _ _ _ _ rfl
  clear hW kc
  refine (HCK.out W2 _ (brow rB q1) (brow rB q2) rA (HV.out.below rB (Nat.le_refl _))).mono ?_
  rw [HB.out]
  rintro e w1 ⟨rfl, b1⟩
  have B1 := bnext rB b1 rB.size
  clear b1
  go_wp2_with fail
  go_ret
  exact ⟨rfl, B1⟩
set_option maxRecDepth 100000 in
set_option maxHeartbeats 4000000 in
theorem reached_own (m : Nat) (c : Array Value) (r : Rf) (y : Int) (g : Nat → Int) (v1 : Value) (hh ww : Nat) (hhe : r.h = hh) (hwe : r.w = ww) (h8 : hh ≤ 8) (w8 : ww ≤ 8) (w : World) (hR : IsRoof c r) (hv : NumsAt w v1 m g) (hm : m ≤ 2000000) (hy : 0 ≤ y ∧ y ≤ 8) :
    Calls Try.prog 63 #[.agg c, v1, .int .i64 y] w (GivesPC w (fltP (r.canL y g m) (plUpto hh ww (hh * ww)))) := by
  have hc := hR.size
  have CW := fun W h0 h1 h2 H => placesWhere_any 86 #[] #[.pointer (some ⟨w.heap.size + 1, 0, none⟩), .pointer (some ⟨w.heap.size, 0, none⟩), .pointer (some ⟨w.heap.size + 1 + 1, 0, none⟩)] (r.canL y g m) (enters_of Try.func86 (by kernel_rfl) rfl) c r hh ww hhe hwe h8 w8 W hR (reachedW_pred (w.heap.size + 1) w.heap.size (w.heap.size + 1 + 1) m c r y g v1 W h0 h1 h2 hR H hm hy)
  have HV := Lib.hid hv
  obtain ⟨a1, c1, rfl⟩ := hv.shape
  have HCW := Lib.hid CW
  clear hv CW hhe hwe
  go_enter Try.func63, Try.ntmps63
  go_wp2_with fail
  refine gen_callsW fun W hW => ?_
  have r0 : rowAt W w.heap.size = some c := by rw [hW]; exact (rowAt_alloc_past _ _ _ (by simp; omega)).trans ((rowAt_alloc_past _ _ _ (by simp)).trans (rowAt_alloc_at _ _ _ _ rfl))
  have r1 : rowAt W (w.heap.size + 1) = some #[.slice a1 m c1] := by rw [hW]; exact (rowAt_alloc_past _ _ _ (by simp)).trans (rowAt_alloc_at _ _ _ _ (by simp))
  have r2 : rowAt W (w.heap.size + 1 + 1) = some #[.int .i64 y] := by rw [hW]; exact rowAt_alloc_at _ _ _ _ (by simp)
  have pB : Below w.heap.size w W := by rw [hW]; exact (((Below.refl _ _).alloc (Nat.le_refl _) _).alloc (by simp) _).alloc (by simp; omega) _
  clear hW
  refine (HCW.out _ r1 r0 r2 (HV.out.below pB (Nat.le_refl _))).mono ?_
  rintro e w1 ⟨v, rfl, l1, b1, cp⟩
  have B1 := bnext pB b1 pB.size
  replace l1 := l1.mono pB.size
  obtain ⟨av, cv, rfl⟩ := l1.shape
  clear b1 r0 r1 r2
  go_wp2_with fail
  go_ret
  exact ⟨_, rfl, l1, B1, cp⟩
theorem reached_any (m : Nat) (c : Array Value) (r : Rf) (y : Int) (g : Nat → Int) (v1 : Value) (hh ww : Nat) (hhe : r.h = hh) (hwe : r.w = ww) (h8 : hh ≤ 8) (w8 : ww ≤ 8) (w : World) (hR : IsRoof c r) (hv : NumsAt w v1 m g) (hm : m ≤ 2000000) (hy : 0 ≤ y ∧ y ≤ 8) :
    Calls Try.prog 63 #[.agg c, v1, .int .i64 y] w (GivesP w (fltP (r.canL y g m) (plUpto hh ww (hh * ww)))) :=
  (reached_own m c r y g v1 hh ww hhe hwe h8 w8 w hR hv hm hy).mono fun _ _ h => let ⟨v, h1, h2, h3, _⟩ := h; ⟨v, h1, h2, h3⟩
end Go.Proofs.Ytoibolmippfcgaa
