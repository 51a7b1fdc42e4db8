/- PiecesIn: contracts of both sides. -/
import Derived.Test.YtdegfcgknppcoaaTiles5
import Derived.Test.YtdegfcgknppcoaaTilS
import Derived.Test.YtdegfcgknppcoaaShpL
import Derived.Test.YtdegfcgknppcoaaLsPc
namespace Go.Proofs.Ytdegfcgknppcoaa
open Go.RowKit

/-- The pieces of course k. -/
def crPcs (s : Int) (f : Nat → Int) (k : Nat) : List (Int × Int) := pcsTo (f (k * 2)) (f (k * 2 + 1)) (crS s k) (tlN (f (k * 2 + 1)) (crS s k))
theorem crPcs_len (s : Int) (f : Nat → Int) (k : Nat) (h : LaidOk (f (k * 2)) (f (k * 2 + 1)) (crS s k)) : (crPcs s f k).length ≤ 26 := Nat.le_trans (pcsTo_len _ _ _ _) (tlN_le h)
theorem laidOk_of {s : Int} {n : Nat} {f : Nat → Int} (h : shOk s n f = true) {k : Nat} (hk : k < n) : LaidOk (f (k * 2)) (f (k * 2 + 1)) (crS s k) := by
  have := shBad_f (shOk_in h).2.2 hk
  exact ⟨this.1, this.2.1, this.2.2, by unfold crS; split <;> simp⟩
/-- The code, and the pieces. -/
def piC (s : Int) (n : Nat) (f : Nat → Int) (y : Int) : Int := if shOk s n f then (if inB y 0 ((n : Int) - 1) then 0 else 2) else 1
def piL (s : Int) (n : Nat) (f : Nat → Int) (y : Int) : List (Int × Int) := if piC s n f y = 0 then crPcs s f y.toNat else []
theorem piL_len (s : Int) (n : Nat) (f : Nat → Int) (y : Int) : (piL s n f y).length ≤ 2000000 := by
  unfold piL
  split
  · rename_i e
    by_cases hk : shOk s n f = true
    · by_cases hy : 0 ≤ y ∧ y ≤ (n : Int) - 1
      · have := crPcs_len s f y.toNat (laidOk_of hk (by omega)); omega
      · simp [piC, hk, inB_false hy] at e
    · simp [piC, hk] at e
  · simp

set_option maxRecDepth 100000 in
set_option maxHeartbeats 2000000 in
theorem specPiecesIn_any (s : Int) (B n : Nat) (f : Nat → Int) (u : Option Addr) (y : Int) (w : World) (hs : 0 ≤ s ∧ s ≤ 255) (hv : IsList w B (.slice u n n) 2 n (fun i => .int .i16 (f i))) (hn : n ≤ 2000000) (_hb : ∀ i, i < n * 2 → -32768 ≤ f i ∧ f i ≤ 32767) :
    Calls Try.prog 29 #[.agg #[.int .u8 s, .slice u n n], .int .i64 y] w (GivesT w 2 .i8 (piL s n f y).length (pcAt (piL s n f y)) [.int .i64 (piC s n f y)]) := by
  have HV := Lib.hid hv
  clear hv
  go_enter Try.func29, Try.ntmps29
  go_wp2_with fail
  refine gen_callsW fun W hW => ?_
  have B0 := Lib.hid (show Below w.heap.size w W from by rw [hW]; exact (Below.refl _ _).alloc (Nat.le_refl _) _)
  have p0 : rowAt W w.heap.size = some #[.int .u8 s, .slice u n n] := by rw [hW]; exact rowAt_alloc_at _ _ _ _ (by simp)
  clear hW
  have CV := l05Ok_any w.heap.size s B n f u W p0 (HV.out.below B0.out (Nat.le_refl _)) hn
  have IN := fun W => l00In_any y 0 ((n : Int) - 1) W
  cases hk : shOk s n f with
  | true =>
    rw [hk] at CV
    have hn12 := (shOk_in hk).2.1
    refine CV.mono ?_
    rintro e w1 ⟨rfl, b1⟩
    have B1 := Lib.hid (bnext B0.out b1 B0.out.size)
    have q0 := brow b1 p0
    have x0 := cell_of_rowAt q0
    clear b1 p0 CV
    have hw1 : IntKind.i64.wrap ((n : Int) - 1) = (n : Int) - 1 := IntWalk.i64_in _ (by omega)
    by_cases hy : 0 ≤ y ∧ y ≤ (n : Int) - 1
    · obtain ⟨k, rfl⟩ : ∃ k : Nat, y = k := ⟨y.toNat, by omega⟩
      have hkn : k < n := by omega
      have HC : Hid (piC s n f k = 0) := Lib.hid (by simp [piC, hk, inB_true hy])
      have HL : Hid (piL s n f k = crPcs s f k) := Lib.hid (by unfold piL; rw [HC.out]; simp)
      have LO := laidOk_of hk hkn
      rw [inB_true hy] at IN
      have CC := fun W h1 h2 => l05Course_any w.heap.size s B n n f u k W h1 h2 hn12.2 hkn hs LO
      clear hk hy
      go_wp2_with fail
      refine (IN _).mono ?_
      rintro e w1 ⟨rfl, rfl⟩
      clear IN
      go_wp2_with fail
      refine (CC _ q0 (HV.out.below B1.out (Nat.le_refl _))).mono ?_
      rintro e w2 ⟨v, rfl, l2, b2⟩
      have B2 := bnext B1.out b2 B1.out.size
      obtain ⟨av, cv, rfl⟩ := l2.shape
      clear b2 CC x0
      go_wp2_with fail
      go_ret2
      rw [HL.out, HC.out]
      exact ⟨_, rfl, l2.mono B1.out.size, B2⟩
    · have HC : Hid (piC s n f y = 2) := Lib.hid (by simp [piC, hk, inB_false hy])
      have HL : Hid (piL s n f y = []) := Lib.hid (by unfold piL; rw [HC.out]; simp)
      rw [inB_false hy] at IN
      clear hk hy
      go_wp2_with fail
      refine (IN _).mono ?_
      rintro e w1 ⟨rfl, rfl⟩
      clear IN
      go_wp2_with fail
      go_ret2
      rw [HL.out, HC.out]
      exact ⟨_, rfl, .inl ⟨rfl, _, _, rfl⟩, B1.out.alloc B1.out.size _⟩
  | false =>
    rw [hk] at CV
    have HC : Hid (piC s n f y = 1) := Lib.hid (by simp [piC, hk])
    have HL : Hid (piL s n f y = []) := Lib.hid (by unfold piL; rw [HC.out]; simp)
    clear hk
    refine CV.mono ?_
    rintro e w1 ⟨rfl, b1⟩
    have B1 := Lib.hid (bnext B0.out b1 B0.out.size)
    clear b1 p0 CV IN
    go_wp2_with fail
    go_ret2
    rw [HL.out, HC.out]
    exact ⟨_, rfl, .inl ⟨rfl, _, _, rfl⟩, B1.out.alloc B1.out.size _⟩

set_option maxRecDepth 100000 in
set_option maxHeartbeats 2000000 in
theorem implPiecesIn_any (s : Int) (B n : Nat) (f : Nat → Int) (u : Option Addr) (y : Int) (w : World) (hs : 0 ≤ s ∧ s ≤ 255) (hv : IsList w B (.slice u n n) 2 n (fun i => .int .i16 (f i))) (hn : n ≤ 2000000) (hb : ∀ i, i < n * 2 → -32768 ≤ f i ∧ f i ≤ 32767) :
    Calls Try.prog 30 #[.agg #[.int .u8 s, .slice u n n], .int .i64 y] w (GivesT w 2 .i8 (piL s n f y).length (pcAt (piL s n f y)) [.int .i64 (piC s n f y)]) := by
  have HV := Lib.hid hv
  clear hv
  go_enter Try.func30, Try.ntmps30
  go_wp2_with fail
  refine gen_callsW fun W hW => ?_
  have B0 := Lib.hid (show Below w.heap.size w W from by rw [hW]; exact (Below.refl _ _).alloc (Nat.le_refl _) _)
  have p0 : rowAt W w.heap.size = some #[.int .u8 s, .slice u n n] := by rw [hW]; exact rowAt_alloc_at _ _ _ _ (by simp)
  clear hW
  have CV := implValidShape_any s B n f u W hs (HV.out.below B0.out (Nat.le_refl _)) hn hb
  cases hk : shOk s n f with
  | true =>
    rw [hk] at CV
    refine CV.mono ?_
    rintro e w1 ⟨rfl, b1⟩
    have B1 := Lib.hid (bnext B0.out b1 B0.out.size)
    have q0 := brow b1 p0
    have x0 := cell_of_rowAt q0
    clear b1 p0 CV
    by_cases hy : 0 ≤ y ∧ y ≤ (n : Int) - 1
    · obtain ⟨k, rfl⟩ : ∃ k : Nat, y = k := ⟨y.toNat, by omega⟩
      have hkn : k < n := by omega
      have HC : Hid (piC s n f k = 0) := Lib.hid (by simp [piC, hk, inB_true hy])
      have HL : Hid (piL s n f k = crPcs s f k) := Lib.hid (by unfold piL; rw [HC.out]; simp)
      have LO := laidOk_of hk hkn
      have d1 : decide ((k : Int) < 0) = false := decide_eq_false (by omega)
      have d2 : decide ((n : Int) ≤ k) = false := decide_eq_false (by omega)
      have CO := fun W h1 => course_any s B n n f u k W hs h1 hn hb hkn
      have CP := fun W => laidPieces_any _ _ _ LO W
      unfold crV at CO
      clear hk hy
      go_wp2_with fail
      refine (CO _ (HV.out.below B1.out (Nat.le_refl _))).mono ?_
      rintro e w2 ⟨rfl, b2⟩
      have B2 := Lib.hid (bnext B1.out b2 B1.out.size)
      clear b2 CO x0 q0
      go_wp2_with fail
      refine (CP _).mono ?_
      rintro e w3 ⟨v, rfl, l3, b3⟩
      have B3 := bnext B2.out b3 B2.out.size
      obtain ⟨av, cv, rfl⟩ := l3.shape
      clear b3 CP
      go_wp2_with fail
      go_ret2
      rw [HL.out, HC.out]
      exact ⟨_, rfl, l3.mono B2.out.size, B3⟩
    · have HC : Hid (piC s n f y = 2) := Lib.hid (by simp [piC, hk, inB_false hy])
      have HL : Hid (piL s n f y = []) := Lib.hid (by unfold piL; rw [HC.out]; simp)
      clear hk
      by_cases h1 : y < 0
      · have d1 : decide (y < 0) = true := by simp [h1]
        clear hy h1
        go_wp2_with fail
        go_ret2
        rw [HL.out, HC.out]
        exact ⟨_, rfl, .inl ⟨rfl, _, _, rfl⟩, B1.out⟩
      · have d1 : decide (y < 0) = false := by simp; omega
        have d2 : decide ((n : Int) ≤ y) = true := decide_eq_true (by omega)
        clear hy h1
        go_wp2_with fail
        go_ret2
        rw [HL.out, HC.out]
        exact ⟨_, rfl, .inl ⟨rfl, _, _, rfl⟩, B1.out⟩
  | false =>
    rw [hk] at CV
    have HC : Hid (piC s n f y = 1) := Lib.hid (by simp [piC, hk])
    have HL : Hid (piL s n f y = []) := Lib.hid (by unfold piL; rw [HC.out]; simp)
    clear hk
    refine CV.mono ?_
    rintro e w1 ⟨rfl, b1⟩
    have B1 := Lib.hid (bnext B0.out b1 B0.out.size)
    clear b1 p0 CV
    go_wp2_with fail
    go_ret2
    rw [HL.out, HC.out]
    exact ⟨_, rfl, .inl ⟨rfl, _, _, rfl⟩, B1.out⟩
end Go.Proofs.Ytdegfcgknppcoaa
