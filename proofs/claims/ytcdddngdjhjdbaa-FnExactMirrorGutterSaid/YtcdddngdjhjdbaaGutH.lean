/- The laws' helpers over gutters: counted, copied, compared, marked, held. -/
import Derived.Test.YtcdddngdjhjdbaaGut
import Derived.Test.YtcdddngdjhjdbaaGive
import Derived.Test.YtcdddngdjhjdbaaSame
import Derived.Deep.QuietTactic
import Derived.BigQuiet
namespace Go.Proofs.Ytcdddngdjhjdbaa
open Go.RowKit

/-- The cells of a gutter with another list of pipes. -/
def setP (c : Array Value) (u : Value) : Array Value := c.setIfInBounds 20 u
@[simp, go_sem] theorem size_setP (c : Array Value) (u : Value) : (setP c u).size = c.size := by simp [setP]
theorem IsGut.setP {c : Array Value} {g : Gt} {v : Value} (h : IsGut c g v) (u : Value) (hu : ∃ a cap, u = .slice a g.m cap) : IsGut (setP c u) g u := by
  have hs := h.size
  refine IsGut.of_get (by simpa using hs) ?_ ?_ (fun i hi => ?_) ?_ ?_ ⟨h.n0, h.n1⟩ ⟨h.d0, h.d1⟩ (fun i hi => ⟨h.h0 i hi, h.h1 i hi⟩) ⟨h.l0, h.l1⟩ h.p0 hu
  · unfold Proofs.Ytcdddngdjhjdbaa.setP; rw [Array.getElem?_setIfInBounds_ne (by omega)]; exact h.get0
  · unfold Proofs.Ytcdddngdjhjdbaa.setP; rw [Array.getElem?_setIfInBounds_ne (by omega)]; exact h.get1
  · unfold Proofs.Ytcdddngdjhjdbaa.setP; rw [Array.getElem?_setIfInBounds_ne (by omega)]; exact h.getH hi
  · unfold Proofs.Ytcdddngdjhjdbaa.setP; rw [Array.getElem?_setIfInBounds_ne (by omega)]; exact h.getL
  · unfold Proofs.Ytcdddngdjhjdbaa.setP; rw [Array.getElem?_setIfInBounds_self_of_lt (by omega)]
theorem IsGut.setP' {c : Array Value} {g : Gt} {v : Value} (h : IsGut c g v) (a : Option Addr) (cap : Nat) : IsGut (Proofs.Ytcdddngdjhjdbaa.setP c (.slice a g.m cap)) g (.slice a g.m cap) := h.setP _ ⟨a, cap, rfl⟩

set_option maxHeartbeats 400000 in
theorem toInt8A17_any (xs : Array Value) (t : Nat → Int) (w : World) (hX : IsK .i8 xs 17 t) :
    Calls Try.prog 47 #[.agg xs] w fun e w' => e = .returned (.agg xs) ∧ Below w.heap.size w w' := by
  have hx := hX.size
  have h1 := hX.ones
  have H := Lib.hid hX; clear hX
  go_enter Try.func47, Try.ntmps47
  go_wp2
  go_loopw [4] (fun i W => ∃ (k : Nat) (ys : Array Value), k ≤ 17 ∧ i = .int .i64 k ∧ ys.size = 17 ∧ Hid (∀ j, j < k → ys[j]? = xs[j]?) ∧ (∃ ws : Array Value, ws.size = 17 ∧ W = ((w.alloc (.cells xs 46)).alloc (.cells ws 46)).alloc (.cells ys 46))) (fun i _ => 17 - (intOf i).toNat)
  case atStart => exact ⟨0, _, by omega, rfl, rfl, Lib.hid (by omega), _, rfl, rfl⟩
  case round =>
    obtain ⟨k, ys, hk, rfl, hy, he, ws, hws, rfl⟩ := hrel
    by_cases hlt : k < 17
    · have hk1 : k < xs.size := by omega
      have hk2 : k < ys.size := by omega
      have h0 := H.out.cell k hk1
      go_wp2
      go_roundw
      case rel => exact ⟨k + 1, _, by omega, by go_num, by simpa using hy, Lib.hid (by
        intro j hj
        by_cases hjk : j = k
        · subst hjk; simp [hk2, hk1, h0]
        · rw [← he.out j (by omega)]; simp [Ne.symm hjk]), _, hws, rfl⟩
      case measure => simp [intOf]; omega
    · obtain rfl : k = 17 := by omega
      have hxy : ys = xs := by
        apply Array.ext_getElem?; intro i; by_cases hi : i < 17
        · exact he.out i hi
        · simp [hy, hx, hi]
      clear he; subst hxy
      go_wp2
      refine bodyPost_ret (v := .agg ys) (results_row1 rfl _ _ (w.heap.size + 1) ys rfl (by simp [go_sem]) Try.underlying46 rfl (by kernel_rfl) hy) rfl ⟨rfl, ?_⟩
      exact (((Below.refl _ _).alloc (Nat.le_refl _) _).alloc (by simp) _).alloc (by simp; omega) _

set_option maxHeartbeats 400000 in
theorem szGutter_any (L : Int) (c : Array Value) (g : Gt) (v : Value) (w : World) (hG : IsGut c g v) (hv : ArgPp w v g.m g.p) (hL : 0 ≤ L ∧ L ≤ 1048576) (hm : g.m ≤ maxLen) (X : Int) (hX : X = if (g.m : Int) ≤ L then L - g.m else -1) :
    Calls Try.prog 21 #[.agg c, .int .i64 L] w fun e w' => e = .returned (.int .i64 X) ∧ Below w.heap.size w w' := by
  have hc := hG.size
  have k20 := hG.pipes
  have hV := Lib.hid (hv.below (show Below w.heap.size w (w.alloc (.cells c 50)) from (Below.refl _ _).alloc (Nat.le_refl _) _) (Nat.le_refl _))
  have hxd : decide (X < 0) = true ∨ decide (X < 0) = false := by cases decide (X < 0) <;> simp
  have HN := Lib.hid (show decide (X < 0) = true → X = -1 from fun h => by
    have := of_decide_eq_true h
    rw [hX] at this ⊢
    split at this <;> split <;> omega)
  obtain ⟨a, cap, rfl⟩ := hv.shape
  have HX := Lib.hid hX
  clear hv hG hX
  rcases hxd with hxd | hxd
  · go_enter Try.func21, Try.ntmps21
    go_wp2_with fail
    refine (szPipeS_any L _ g.m g.p _ hV.out hL hm X HX.out).mono ?_
    rintro e w1 ⟨rfl, rfl⟩
    go_wp2_with fail
    go_ret
    exact ⟨by rw [HN.out hxd]; rfl, (Below.refl _ _).alloc (Nat.le_refl _) _⟩
  · go_enter Try.func21, Try.ntmps21
    go_wp2_with fail
    refine (szPipeS_any L _ g.m g.p _ hV.out hL hm X HX.out).mono ?_
    rintro e w1 ⟨rfl, rfl⟩
    go_wp2_with fail
    go_ret
    exact ⟨rfl, (Below.refl _ _).alloc (Nat.le_refl _) _⟩

def GivesGut (w : World) (c : Array Value) (g : Gt) (e : Ending) (w' : World) : Prop :=
  ∃ a, e = .returned (.agg (setP c (.slice a g.m g.m))) ∧ IsList w' w.heap.size (.slice a g.m g.m) 2 g.m (pipeV g.p) ∧ Below w.heap.size w w'

theorem gut_copy (c : Array Value) (g : Gt) (v : Value) (h : IsGut c g v) (z : Array Value) (u : Value) (hz : z.size = 21) (hz0 : z[0]? = some (.int .i8 g.n)) (hz1 : z[1]? = some (.int .i16 g.d)) :
    ((splice z 2 (c.extract 2 19)).setIfInBounds 19 (.int .u32 g.l)).setIfInBounds 20 u = setP c u := by
  have hc := h.size
  have he : (c.extract 2 19).size = 17 := by simp; omega
  have hsp : (splice z 2 (c.extract 2 19)).size = 21 := by rw [size_splice _ _ _ (by omega)]; exact hz
  apply Array.ext_getElem?; intro i
  unfold setP
  by_cases h20 : i = 20
  · subst h20
    rw [Array.getElem?_setIfInBounds_self_of_lt (by simp [hsp]), Array.getElem?_setIfInBounds_self_of_lt (by omega)]
  rw [Array.getElem?_setIfInBounds_ne (Ne.symm h20), Array.getElem?_setIfInBounds_ne (Ne.symm h20)]
  by_cases h19 : i = 19
  · subst h19
    rw [Array.getElem?_setIfInBounds_self_of_lt (by omega), h.getL]
  rw [Array.getElem?_setIfInBounds_ne (Ne.symm h19), get_splice _ _ _ (by omega), he]
  by_cases h2 : i < 2
  · rw [if_pos h2]
    have : i = 0 ∨ i = 1 := by omega
    rcases this with rfl | rfl
    · rw [hz0, h.get0]
    · rw [hz1, h.get1]
  · rw [if_neg h2]
    by_cases h3 : i < 19
    · rw [if_pos (by omega), get_extract _ _ _ _ (by omega) (by omega)]
      congr 1; omega
    · rw [if_neg (by omega), Array.getElem?_eq_none (by omega), Array.getElem?_eq_none (by omega)]
set_option maxRecDepth 100000 in
set_option maxHeartbeats 1000000 in
theorem toGutter_any (c : Array Value) (g : Gt) (v : Value) (w : World) (hG : IsGut c g v) (hv : ArgPp w v g.m g.p) (hn : g.m ≤ 1048576) :
    Calls Try.prog 23 #[.agg c] w (GivesGut w c g) := by
  have hc := hG.size
  have k0 := hG.cells
  have k1 := hG.deep
  have k19 := hG.leaves
  have k20 := hG.pipes
  have HG := Lib.hid hG
  have HV := Lib.hid hv
  have ho1 : Ones (c.extract 2 (2 + 17)) := hG.ones.extract _ _
  have hs1 : (c.extract 2 (2 + 17)).size = 17 := by simp; omega
  obtain ⟨a, cap, rfl⟩ := hv.shape
  clear hv hG
  go_enter Try.func23, Try.ntmps23
  go_wp2_with fail
  refine gen_callsW fun W hW => ?_
  obtain ⟨z, q2, hz, hz0, hz1⟩ : ∃ z : Array Value, rowAt W (w.heap.size + 1 + 1) = some z ∧ z.size = 21 ∧ z[0]? = some (.int .i8 g.n) ∧ z[1]? = some (.int .i16 g.d) := by
    rw [hW]; exact ⟨_, rowAt_alloc_at _ _ _ _ (by simp), by simp, by simp, by simp⟩
  obtain ⟨y, q1, hy⟩ : ∃ y : Array Value, rowAt W (w.heap.size + 1) = some y ∧ y.size = 21 := by rw [hW]; exact ⟨_, (rowAt_alloc_past _ _ _ (by simp)).trans (rowAt_alloc_at _ _ _ _ (by simp)), by simp⟩
  have q0 : rowAt W w.heap.size = some c := by rw [hW]; exact (rowAt_alloc_past _ _ _ (by simp; omega)).trans ((rowAt_alloc_past _ _ _ (by simp)).trans (rowAt_alloc_at _ _ _ _ rfl))
  have B0 : Below w.heap.size w W := by rw [hW]; exact (((Below.refl _ _).alloc (Nat.le_refl _) _).alloc (by simp) _).alloc (by simp; omega) _
  clear hW
  refine (toInt8A17_any _ g.h _ HG.out.heights).mono ?_
  rintro e w1 ⟨rfl, b1⟩
  have r0 := brow b1 q0
  have r1 := brow b1 q1
  have r2 := brow b1 q2
  have c0 := cell_of_rowAt r0
  have l0 := rowAt_lt r0
  have l1 := rowAt_lt r1
  have l2 := rowAt_lt r2
  have B1 := bnext B0 b1 B0.size
  have hsp : (splice z 2 (c.extract 2 (2 + 17))).size = 21 := by rw [size_splice _ _ _ (by omega)]; exact hz
  have ne02 : w.heap.size ≠ w.heap.size + 1 + 1 := by omega
  have ne12 : w.heap.size + 1 ≠ w.heap.size + 1 + 1 := by omega
  clear b1 q0 q1 q2 B0
  go_wp2_with fail
  refine gen_callsW fun W2 hW => ?_
  have q2 : rowAt W2 (w.heap.size + 1 + 1) = some ((splice z 2 (c.extract 2 (2 + 17))).setIfInBounds 19 (.int .u32 g.l)) := by
    rw [hW, rowAt_setCell_at _ _ _ _ (by rw [rowAt_setRow_at _ _ _ (by rw [r2]; rfl)]; rfl), rowAt_setRow_at _ _ _ (by rw [r2]; rfl)]; rfl
  have q1 : rowAt W2 (w.heap.size + 1) = some y := by rw [hW, rowAt_setCell_ne _ _ _ _ _ (by omega), rowAt_setRow_ne _ _ _ _ (by omega)]; exact r1
  have B2 : Below w.heap.size w W2 := by rw [hW]; exact (below_setRow B1 (by omega) _).setCell (p := ⟨_, _, none⟩) (by simp; omega) _
  clear hW r0 r1 r2 B1 c0
  refine (toPipeS_c _ g.m g.p _ (HV.out.below B2 (Nat.le_refl _)) hn).mono ?_
  rintro e w2 ⟨u, rfl, l2', b2⟩
  have p1 := brow b2 q1
  have p2 := brow b2 q2
  have n2 := rowAt_lt p2
  have hU := l2'
  have B3 := bnext B2 b2 B2.size
  have HB2 := Lib.hid (show w.heap.size + 1 + 1 < W2.heap.size from rowAt_lt q2)
  have hcp := gut_copy c g _ HG.out z (.slice u g.m g.m) hz hz0 hz1
  have hso : Ones (setP c (.slice u g.m g.m)) := (HG.out.setP' u g.m).ones
  have hss : (setP c (.slice u g.m g.m)).size = 21 := by simpa using hc
  have hz20 : ((splice z 2 (c.extract 2 (2 + 17))).setIfInBounds 19 (.int .u32 g.l)).size = 21 := by simpa using hsp
  clear b2 q1 q2 l2' B2
  generalize (splice z 2 (c.extract 2 (2 + 17))).setIfInBounds 19 (.int .u32 g.l) = Z at *
  obtain ⟨X, hX⟩ : ∃ X, setP c (.slice u g.m g.m) = X := ⟨_, rfl⟩
  rw [hX] at hcp hso hss
  have HX := Lib.hid hX
  have z20 : w2.cell? ⟨w.heap.size + 1 + 1, 20, none⟩ = some (Z[20]'(by omega)) := by rw [cell_of_rowAt p2, Array.getElem?_eq_getElem]
  have f20 := frozen_of_rowAt p2
  have HB3 := Lib.hid B3
  have HLt := Lib.hid n2
  clear hsp hz0 hz1 hX B3
  go_wp2_with fail
  refine bodyPost_ret (v := .agg X) (results_row1 rfl _ _ (w.heap.size + 1) X rfl (by rw [rowAt_setRow_at]; rw [rowAt_setCell_ne _ _ _ _ _ ne12, p1]; rfl) Try.underlying54 rfl (by kernel_rfl) hss) rfl ⟨u, by rw [HX.out], ?_, below_setRow (HB3.out.setCell (p := ⟨_, _, none⟩) (by simp; omega) _) (by omega) _⟩
  have hB2 := HB2.out
  rcases hU with h | ⟨gb, cc, cur, e, hg, hr, hs, hf⟩
  · exact .inl h
  · refine .inr ⟨gb, cc, cur, e, by omega, ?_, hs, hf⟩
    rw [rowAt_setRow_ne _ _ _ _ (by omega), rowAt_setCell_ne _ _ _ _ _ (by omega)]
    exact hr
set_option maxRecDepth 100000 in
set_option maxHeartbeats 400000 in
theorem eqInt8A17_same (xs : Array Value) (t : Nat → Int) (w : World) (hX : IsK .i8 xs 17 t) :
    Calls Try.prog 53 #[.agg xs, .agg xs] w fun e w' => e = .returned (.bool true) ∧ Below w.heap.size w w' := by
  have hx := hX.size
  have H := Lib.hid hX; clear hX
  go_enter Try.func53, Try.ntmps53
  go_wp2
  go_loopw [5] (fun i W => ∃ k : Nat, k ≤ 17 ∧ i = .int .i64 k ∧ rowAt W w.heap.size = some xs ∧ rowAt W (w.heap.size + 1) = some xs ∧ Below w.heap.size w W) (fun i _ => 17 - (intOf i).toNat)
  case atStart => exact ⟨0, by omega, rfl, (rowAt_alloc_past _ _ _ (by simp)).trans (rowAt_alloc_at _ _ _ _ rfl), rowAt_alloc_at _ _ _ _ (by simp), ((Below.refl _ _).alloc (Nat.le_refl _) _).alloc (by simp) _⟩
  case round =>
    obtain ⟨k, hk, rfl, r0, r1, hB⟩ := hrel
    by_cases hlt : k < 17
    · have hk1 : k < xs.size := by omega
      have h0 := H.out.cell k hk1
      have c0 : wr.cell? ⟨w.heap.size, k, none⟩ = some (.int .i8 (t k)) := by rw [cell_of_rowAt r0, Array.getElem?_eq_getElem hk1, h0]
      have c1 : wr.cell? ⟨w.heap.size + 1, k, none⟩ = some (.int .i8 (t k)) := by rw [cell_of_rowAt r1, Array.getElem?_eq_getElem hk1, h0]
      have hi0 : 0 ≤ (k : Int) := by omega
      have hi1 : (k : Int) < 17 := by omega
      go_wp2
      go_quiet (fail)
      go_wp2
      refine ⟨⟨k + 1, by omega, by go_num, r0, r1, below_drewN hB _⟩, by simp [intOf]; omega⟩
    · go_wp2
      go_ret
      exact ⟨rfl, hB⟩

set_option maxRecDepth 100000 in
set_option maxHeartbeats 1000000 in
theorem eqGutter_same (c e : Array Value) (g : Gt) (v u : Value) (b b' : Nat) (w : World) (hG : IsGut c g v) (hE : IsGut e g u) (hv : IsList w b v 2 g.m (pipeV g.p)) (hu : IsList w b' u 2 g.m (pipeV g.p)) (hn : g.m ≤ 2000000) :
    Calls Try.prog 25 #[.agg c, .agg e] w fun x w' => x = .returned (.bool true) ∧ Below w.heap.size w w' := by
  have hc := hG.size
  have he := hE.size
  have k0 := hG.cells
  have k1 := hG.deep
  have k19 := hG.leaves
  have k20 := hG.pipes
  have m0 := hE.cells
  have m1 := hE.deep
  have m19 := hE.leaves
  have m20 := hE.pipes
  have ex : c.extract 2 (2 + 17) = e.extract 2 (2 + 17) := hG.heights.unique hE.heights
  have HH := Lib.hid hE.heights
  have e0 : (g.n != g.n) = false := by simp
  have e1 : (g.d != g.d) = false := by simp
  have e2 : (g.l != g.l) = false := by simp
  have HV := Lib.hid hv
  have HU := Lib.hid hu
  obtain ⟨a, cap, rfl⟩ := hv.shape
  obtain ⟨a', cap', rfl⟩ := hu.shape
  clear hv hu hG hE
  have pB : Below w.heap.size w ((w.alloc (.cells c 54)).alloc (.cells e 54)) := ((Below.refl _ _).alloc (Nat.le_refl _) _).alloc (by simp) _
  have p0 : rowAt ((w.alloc (.cells c 54)).alloc (.cells e 54)) w.heap.size = some c := (rowAt_alloc_past _ _ _ (by simp)).trans (rowAt_alloc_at _ _ _ _ rfl)
  have p1 : rowAt ((w.alloc (.cells c 54)).alloc (.cells e 54)) (w.heap.size + 1) = some e := rowAt_alloc_at _ _ _ _ (by simp)
  go_enter Try.func25, Try.ntmps25
  go_wp2_with fail
  refine (eqInt8A17_same _ g.h _ HH.out).mono ?_
  rintro x w1 ⟨rfl, b1⟩
  have q0 := brow b1 p0
  have q1 := brow b1 p1
  have z0 := cell_of_rowAt q0
  have z1 := cell_of_rowAt q1
  have B1 := bnext pB b1 pB.size
  clear b1 p0 p1 pB ex
  go_wp2_with fail
  refine (eqPipeS_same g.m g.p _ _ b b' _ (HV.out.below B1 (Nat.le_refl _)) (HU.out.below B1 (Nat.le_refl _)) hn).mono ?_
  rintro x w2 ⟨rfl, b2⟩
  have B2 := bnext B1 b2 B1.size
  clear b2 z0 z1 q0 q1
  go_wp2_with fail
  go_ret
  exact ⟨rfl, B2⟩

set_option maxHeartbeats 1000000 in
theorem markGutter_any (n : Nat) (f : Nat → Value) (c : Array Value) (v : Value) (g k : Nat) (K M : Int) (hK : K = k) (hM : M = ((k + 2 * n : Nat) : Int)) (w : World) (hc : c.size = 21) (k20 : ∀ h : 20 < c.size, c[20] = v) (hv : Ls w g v 2 n f) (hn : n ≤ 2000000) (hm : k ≤ 100000000) :
    Calls Try.prog 26 #[.agg c, .int .i64 K] w fun e w' => e = .returned (.int .i64 M) ∧ Ls w' g v 2 n (pipeV (markPp k)) ∧ ∃ W, Below w.heap.size w W ∧ Only g W w' ∧ (n = 0 → w' = W) := by
  have HV := Lib.hid hv
  have HK := Lib.hid hK
  have HM := Lib.hid hM
  obtain ⟨a, cap, rfl⟩ := hv.shape
  clear hv hK hM
  go_enter Try.func26, Try.ntmps26
  go_wp2_with fail
  refine gen_callsW fun W hW => ?_
  have B0 := Lib.hid (show Below w.heap.size w W from by rw [hW]; exact (Below.refl _ _).alloc (Nat.le_refl _) _)
  clear hW
  refine (markPpK n f _ g k K M HK.out HM.out _ (HV.out.below B0.out (Nat.le_refl _)) hn hm).mono ?_
  rintro e w1 ⟨rfl, l1, o1, z1⟩
  go_wp2_with fail
  go_ret
  exact ⟨rfl, l1, W, B0.out, o1, z1⟩
set_option maxHeartbeats 1000000 in
theorem heldGutter_any (n : Nat) (c : Array Value) (v : Value) (g k : Nat) (K M : Int) (hK : K = k) (hM : M = ((k + 2 * n : Nat) : Int)) (w : World) (hc : c.size = 21) (k20 : ∀ h : 20 < c.size, c[20] = v) (hv : Ls w g v 2 n (pipeV (markPp k))) (hn : n ≤ 2000000) (hm : k ≤ 100000000) :
    Calls Try.prog 27 #[.agg c, .int .i64 K] w fun e w' => e = .returned (.int .i64 M) ∧ Below w.heap.size w w' := by
  have HV := Lib.hid hv
  have HK := Lib.hid hK
  have HM := Lib.hid hM
  have hm0 : 0 ≤ M := by omega
  have hmd : decide (M < 0) = false := by simp; omega
  obtain ⟨a, cap, rfl⟩ := hv.shape
  clear hv hK hM
  go_enter Try.func27, Try.ntmps27
  go_wp2_with fail
  refine gen_callsW fun W hW => ?_
  have B0 := Lib.hid (show Below w.heap.size w W from by rw [hW]; exact (Below.refl _ _).alloc (Nat.le_refl _) _)
  clear hW
  refine (heldPpK n _ g k K M HK.out HM.out _ (HV.out.below B0.out (Nat.le_refl _)) hn hm).mono ?_
  rintro e w1 ⟨rfl, rfl⟩
  go_wp2_with fail
  go_ret
  exact ⟨rfl, B0.out⟩
end Go.Proofs.Ytcdddngdjhjdbaa
