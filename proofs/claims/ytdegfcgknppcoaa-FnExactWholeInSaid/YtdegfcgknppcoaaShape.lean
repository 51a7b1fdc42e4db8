/- Shapes: a number and a list of spans; opened, counted, copied, compared, marked, held. -/
import Derived.Test.YtdegfcgknppcoaaLsSp
import Derived.Test.YtdegfcgknppcoaaGive
namespace Go.Proofs.Ytdegfcgknppcoaa
open Go.RowKit Go.ChangeShapes Go.WideShapes

section
variable {H : Type} {enc : TypeId × Value → H} {w : World} {base b0 : Nat} {spare : Nat → Bool} {held : Bool} {r : Reach}
set_option maxRecDepth 100000 in
/-- A list of spans that came in, as a struct's field. -/
theorem trod_sps {v : Value} {fuel : Nat} {x : DataW H × List MemPlace} (hf : DataW.trod enc Try.prog w base spare held fuel 22 [v] = some x) :
    ∃ (n : Nat) (f : Nat → Int), ArgSp w v n f ∧ n ≤ maxLen ∧ ∀ i, i < n * 2 → -32768 ≤ f i ∧ f i ≤ 32767 := by
  have hv : ∃ a len cap, v = .slice a len cap := by
    rcases Go.Deep.open_slice_pairs Try.underlying22 Try.underlying36 (by kernel_rfl) rfl rfl (by kernel_rfl) (by kernel_rfl) hf with ⟨hc, _⟩ | ⟨a', len', cap', m, k, V0, V1, D0, D1, P0, P1, hc, _⟩
    · simp at hc; exact ⟨_, _, _, hc⟩
    · simp at hc; exact ⟨_, _, _, hc⟩
  obtain ⟨a, len, cap, rfl⟩ := hv
  exact open_sps_of hf
set_option maxRecDepth 100000 in
/-- A shape that came in. -/
theorem open_shape {v : Value} {d : DataW H} {p : List MemPlace} (hv : Value.okWide Try.prog w r b0 24 v) (h : DataW.Trod enc Try.prog w base spare held 24 v d p) :
    ∃ (s : Int) (u : Value) (n : Nat) (f : Nat → Int), v = .agg #[.int .u8 s, u] ∧ (0 ≤ s ∧ s ≤ 255) ∧ ArgSp w u n f ∧ n ≤ maxLen ∧ ∀ i, i < n * 2 → -32768 ≤ f i ∧ f i ≤ 32767 := by
  obtain ⟨c0, c1, y0, y1, m, rfl, rfl, rfl, hy0, hy1⟩ := Go.Joins.open_agg2 Try.underlying24 (by kernel_rfl) (by kernel_rfl) hv h
  obtain ⟨a, e0, _, wa⟩ := DataW.trod_int Try.underlying5 hy0
  simp at e0
  subst e0
  obtain ⟨n, f, hL, hm, hb⟩ := trod_sps hy1
  exact ⟨a, c1, n, f, rfl, bounds_u8 wa, hL, hm, hb⟩
end

theorem szSpanS_any (L : Int) (v : Value) (n : Nat) (f : Nat → Int) (w : World) (hv : ArgSp w v n f) (hL : 0 ≤ L ∧ L ≤ 1048576) (hm : n ≤ maxLen) (X : Int) (hX : X = if (n : Int) ≤ L then L - n else -1) :
    Calls Try.prog 47 #[v, .int .i64 L] w fun e w' => e = .returned (.int .i64 X) ∧ w = w' := by
  obtain ⟨a, cap, rfl⟩ := hv.shape
  clear hv
  unfold maxLen at hm
  by_cases h : (n : Int) ≤ L
  · rw [if_pos h] at hX
    subst hX
    go_enter Try.func47, Try.ntmps47
    go_wp2_with fail
    go_ret
    exact ⟨rfl, rfl⟩
  · rw [if_neg h] at hX
    subst hX
    go_enter Try.func47, Try.ntmps47
    go_wp2_with fail
    go_ret
    exact ⟨rfl, rfl⟩
set_option maxRecDepth 100000 in
theorem szShape_any (L : Int) (s : Int) (v : Value) (n : Nat) (f : Nat → Int) (w : World) (hv : ArgSp w v n f) (hL : 0 ≤ L ∧ L ≤ 1048576) (hm : n ≤ maxLen) (X : Int) (hX : X = if (n : Int) ≤ L then L - n else -1) :
    Calls Try.prog 13 #[.agg #[.int .u8 s, v], .int .i64 L] w fun e w' => e = .returned (.int .i64 X) ∧ Below w.heap.size w w' := by
  have hV := Lib.hid (hv.below (show Below w.heap.size w (w.alloc (.cells #[.int .u8 s, v] 24)) from (Below.refl _ _).alloc (Nat.le_refl _) _) (Nat.le_refl _))
  obtain ⟨a, cap, rfl⟩ := hv.shape
  clear hv
  by_cases h : (n : Int) ≤ L
  · have hX' : X = L - n := by rw [hX, if_pos h]
    have hx0 : 0 ≤ X := by omega
    have hxd : decide (X < 0) = false := by simp; omega
    go_enter Try.func13, Try.ntmps13
    go_wp2_with fail
    refine (szSpanS_any L _ n f _ hV.out hL hm X hX).mono ?_
    rintro e w1 ⟨rfl, rfl⟩
    clear hX hX'
    go_wp2_with fail
    go_ret
    exact ⟨rfl, (Below.refl _ _).alloc (Nat.le_refl _) _⟩
  · have hX' : X = -1 := by rw [hX, if_neg h]
    have hxd : decide (X < 0) = true := by rw [hX']; rfl
    go_enter Try.func13, Try.ntmps13
    go_wp2_with fail
    refine (szSpanS_any L _ n f _ hV.out hL hm X hX).mono ?_
    rintro e w1 ⟨rfl, rfl⟩
    clear hX
    go_wp2_with fail
    go_ret
    exact ⟨by rw [hX']; rfl, (Below.refl _ _).alloc (Nat.le_refl _) _⟩
/-- A shape as an answer: its list is of the call's own. -/
def GivesSh (w : World) (s : Int) (n : Nat) (f : Nat → Int) (e : Ending) (w' : World) : Prop :=
  ∃ a, e = .returned (.agg #[.int .u8 s, .slice a n n]) ∧ IsList w' w.heap.size (.slice a n n) 2 n (fun i => .int .i16 (f i)) ∧ Below w.heap.size w w'
set_option maxHeartbeats 1000000 in
theorem toShape_any (s : Int) (v : Value) (n : Nat) (f : Nat → Int) (w : World) (hv : ArgSp w v n f) (hn : n ≤ 1048576) :
    Calls Try.prog 15 #[.agg #[.int .u8 s, v]] w (GivesSh w s n f) := by
  have HV := Lib.hid hv
  have hsh := hv.shape
  clear hv
  obtain ⟨a, cap, rfl⟩ := hsh
  go_enter Try.func15, Try.ntmps15
  go_wp2_with fail
  refine gen_callsW fun W hW => ?_
  have B0 := Lib.hid (show Below w.heap.size w W from by rw [hW]; exact (((Below.refl _ _).alloc (Nat.le_refl _) _).alloc (by simp) _).alloc (by simp; omega) _)
  have p1 : rowAt W (w.heap.size + 1) = some #[.int .u8 0, .slice none 0 0] := by rw [hW]; exact (rowAt_alloc_past _ _ _ (by simp)).trans (rowAt_alloc_at _ _ _ _ (by simp))
  have p2 : rowAt W (w.heap.size + 1 + 1) = some #[.int .u8 s, .slice none 0 0] := by rw [hW]; exact rowAt_alloc_at _ _ _ _ (by simp)
  clear hW
  refine (toSpanS_c _ n f _ (HV.out.below B0.out (Nat.le_refl _)) hn).mono ?_
  rintro e w1 ⟨u, rfl, l1, b1⟩
  have B1 := Lib.hid (bnext B0.out b1 B0.out.size)
  have q1 := brow b1 p1
  have q2 := brow b1 p2
  have lt2 := rowAt_lt p2
  have hl := l1
  clear b1 p1 p2 l1
  have c2 := cell_of_rowAt q2
  have f2 := frozen_of_rowAt q2
  have c1 := cell_of_rowAt q1
  have f1 := frozen_of_rowAt q1
  go_wp2_with fail
  refine bodyPost_ret (v := .agg #[.int .u8 s, .slice u n n]) (by simp [results, Try.results15, go_sem, c1]) rfl ⟨u, rfl, ?_, ((B1.out.setCell (p := ⟨_, _, none⟩) (by simp; omega) _).setCell (p := ⟨_, _, none⟩) (by simp) _).setCell (p := ⟨_, _, none⟩) (by simp) _⟩
  rcases hl with h | ⟨g, cc, cur, e, hg, hr, hs, hf⟩
  · exact .inl h
  · refine .inr ⟨g, cc, cur, e, by have := B0.out.size; omega, ?_, hs, hf⟩
    rw [← hr]
    simp only [rowAt]
    rw [heap_setCell_other _ _ _ _ (by simp; omega), heap_setCell_other _ _ _ _ (by simp; omega), heap_setCell_other _ _ _ _ (by simp; omega)]
set_option maxHeartbeats 1000000 in
theorem eqShape_same (s : Int) (n : Nat) (f : Nat → Int) (v u : Value) (b b' : Nat) (w : World) (hv : IsList w b v 2 n fun i => .int .i16 (f i)) (hu : IsList w b' u 2 n fun i => .int .i16 (f i)) (hn : n ≤ 2000000) :
    Calls Try.prog 17 #[.agg #[.int .u8 s, v], .agg #[.int .u8 s, u]] w fun e w' => e = .returned (.bool true) ∧ Below w.heap.size w w' := by
  have HV := Lib.hid hv
  have HU := Lib.hid hu
  have hss : (s != s) = false := by simp
  obtain ⟨a, cap, rfl⟩ := hv.shape
  obtain ⟨a', cap', rfl⟩ := hu.shape
  clear hv hu
  go_enter Try.func17, Try.ntmps17
  go_wp2_with fail
  refine gen_callsW fun W hW => ?_
  have B0 := Lib.hid (show Below w.heap.size w W from by rw [hW]; exact ((Below.refl _ _).alloc (Nat.le_refl _) _).alloc (by simp) _)
  clear hW
  refine (eqSpanS_same n f _ _ _ _ _ (HV.out.below B0.out (Nat.le_refl _)) (HU.out.below B0.out (Nat.le_refl _)) hn).mono ?_
  rintro e w1 ⟨rfl, b1⟩
  have B1 := bnext B0.out b1 B0.out.size
  clear b1
  go_wp2_with fail
  go_ret
  exact ⟨rfl, B1⟩

set_option maxHeartbeats 1000000 in
theorem markShape_any (n : Nat) (f : Nat → Value) (s : Int) (v : Value) (g k : Nat) (K M : Int) (hK : K = k) (hM : M = ((k + 2 * n : Nat) : Int)) (w : World) (hv : Ls w g v 2 n f) (hn : n ≤ 2000000) (hm : k ≤ 100000000) :
    Calls Try.prog 23 #[.agg #[.int .u8 s, v], .int .i64 K] w fun e w' => e = .returned (.int .i64 M) ∧ Ls w' g v 2 n (fun i => .int .i16 (markSp k i)) ∧ ∃ W, Below w.heap.size w W ∧ Only g W w' ∧ (n = 0 → w' = W) := by
  have HV := Lib.hid hv
  have HK := Lib.hid hK
  have HM := Lib.hid hM
  obtain ⟨a, cap, rfl⟩ := hv.shape
  clear hv hK hM
  go_enter Try.func23, Try.ntmps23
  go_wp2_with fail
  refine gen_callsW fun W hW => ?_
  have B0 := Lib.hid (show Below w.heap.size w W from by rw [hW]; exact (Below.refl _ _).alloc (Nat.le_refl _) _)
  clear hW
  refine (markSpK n f _ g k K M HK.out HM.out _ (HV.out.below B0.out (Nat.le_refl _)) hn hm).mono ?_
  rintro e w1 ⟨rfl, l1, o1, z1⟩
  go_wp2_with fail
  go_ret
  exact ⟨rfl, l1, W, B0.out, o1, z1⟩
set_option maxHeartbeats 1000000 in
theorem heldShape_any (n : Nat) (s : Int) (v : Value) (g k : Nat) (K M : Int) (hK : K = k) (hM : M = ((k + 2 * n : Nat) : Int)) (w : World) (hv : Ls w g v 2 n fun i => .int .i16 (markSp k i)) (hn : n ≤ 2000000) (hm : k ≤ 100000000) :
    Calls Try.prog 24 #[.agg #[.int .u8 s, v], .int .i64 K] w fun e w' => e = .returned (.int .i64 M) ∧ Below w.heap.size w w' := by
  have HV := Lib.hid hv
  have HK := Lib.hid hK
  have HM := Lib.hid hM
  have hm0 : 0 ≤ M := by omega
  have hmd : decide (M < 0) = false := by simp; omega
  obtain ⟨a, cap, rfl⟩ := hv.shape
  clear hv hK hM
  go_enter Try.func24, Try.ntmps24
  go_wp2_with fail
  refine gen_callsW fun W hW => ?_
  have B0 := Lib.hid (show Below w.heap.size w W from by rw [hW]; exact (Below.refl _ _).alloc (Nat.le_refl _) _)
  clear hW
  refine (heldSpK n _ g k K M HK.out HM.out _ (HV.out.below B0.out (Nat.le_refl _)) hn hm).mono ?_
  rintro e w1 ⟨rfl, rfl⟩
  go_wp2_with fail
  go_ret
  exact ⟨rfl, B0.out⟩
end Go.Proofs.Ytdegfcgknppcoaa
