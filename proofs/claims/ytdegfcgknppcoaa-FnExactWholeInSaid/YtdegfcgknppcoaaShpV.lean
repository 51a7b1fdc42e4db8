/- ValidShape: contracts of both sides. -/
import Derived.Test.YtdegfcgknppcoaaShape
import Derived.Test.YtdegfcgknppcoaaConSp
import Derived.Test.YtdegfcgknppcoaaSpecA
namespace Go.Proofs.Ytdegfcgknppcoaa
open Go.RowKit

/-- A span that is none of a valid shape. -/
def spOut (a b : Int) : Bool := decide (a < 0 ∨ b ≤ a ∨ 200 < b)
theorem spOut_t {a b : Int} (h : a < 0 ∨ b ≤ a ∨ 200 < b) : spOut a b = true := by simp [spOut, h]
theorem spOut_f {a b : Int} (h : ¬ (a < 0 ∨ b ≤ a ∨ 200 < b)) : spOut a b = false := by simp [spOut]; omega
/-- Some of the first k spans is such a one. -/
def shBad (f : Nat → Int) (k : Nat) : Bool := anyI (fun i => spOut (f (i * 2)) (f (i * 2 + 1))) k
/-- A shape is valid. -/
def shOk (s : Int) (n : Nat) (f : Nat → Int) : Bool := decide (s ≤ 1) && decide (1 ≤ n) && decide (n ≤ 12) && !shBad f n
theorem shOk_in {s : Int} {n : Nat} {f : Nat → Int} (h : shOk s n f = true) : s ≤ 1 ∧ (1 ≤ n ∧ n ≤ 12) ∧ shBad f n = false := by
  simpa [shOk, and_assoc] using h
theorem shBad_f {f : Nat → Int} {k : Nat} (h : shBad f k = false) {i : Nat} (hi : i < k) : 0 ≤ f (i * 2) ∧ f (i * 2) < f (i * 2 + 1) ∧ f (i * 2 + 1) ≤ 200 := by
  have := anyI_f.1 h i hi
  simp [spOut] at this
  omega

set_option maxRecDepth 100000 in
theorem spanOut_any (a b : Int) (w : World) :
    Calls Try.prog 51 #[.agg #[.int .i16 a, .int .i16 b]] w fun e w' => e = .returned (.bool (spOut a b)) ∧ Below w.heap.size w w' := by
  by_cases h1 : a < 0
  · have hd : decide (a < 0) = true := by simp [h1]
    rw [spOut_t (.inl h1)]
    go_enter Try.func51, Try.ntmps51
    go_wp2_with fail
    go_ret
    exact ⟨rfl, (Below.refl _ _).alloc (Nat.le_refl _) _⟩
  · have hd : decide (a < 0) = false := by simp; omega
    by_cases h2 : b ≤ a
    · have hd2 : decide (b ≤ a) = true := by simp [h2]
      rw [spOut_t (.inr (.inl h2))]
      go_enter Try.func51, Try.ntmps51
      go_wp2_with fail
      go_ret
      exact ⟨rfl, (Below.refl _ _).alloc (Nat.le_refl _) _⟩
    · have hd2 : decide (b ≤ a) = false := by simp; omega
      have hx : spOut a b = decide (200 < b) := by simp [spOut, h1, h2]
      rw [hx]
      clear hx
      go_enter Try.func51, Try.ntmps51
      go_wp2_with fail
      go_ret
      exact ⟨rfl, (Below.refl _ _).alloc (Nat.le_refl _) _⟩

theorem predSpan (w : World) : PredSp 51 #[] spOut w := fun a b W _ => by simpa using spanOut_any a b W

set_option maxRecDepth 100000 in
set_option maxHeartbeats 1000000 in
theorem implValidShapeC_any (s : Int) (B n cp : Nat) (f : Nat → Int) (u : Option Addr) (w : World) (_hs : 0 ≤ s ∧ s ≤ 255) (hv : IsList w B (.slice u n cp) 2 n (fun i => .int .i16 (f i))) (hn : n ≤ 2000000) (_hb : ∀ i, i < n * 2 → -32768 ≤ f i ∧ f i ≤ 32767) :
    Calls Try.prog 16 #[.agg #[.int .u8 s, .slice u n cp]] w fun e w' => e = .returned (.bool (shOk s n f)) ∧ Below w.heap.size w w' := by
  have HV := Lib.hid hv
  clear hv
  by_cases h1 : s ≤ 1
  · have hd : decide (1 < s) = false := by simp; omega
    by_cases h2 : n < 1
    · have hd2 : decide ((n : Int) < 1) = true := by simp; omega
      have hx : shOk s n f = false := by simp [shOk]; omega
      rw [hx]
      clear hx
      go_enter Try.func16, Try.ntmps16
      go_wp2_with fail
      go_ret
      exact ⟨rfl, (Below.refl _ _).alloc (Nat.le_refl _) _⟩
    · have hd2 : decide ((n : Int) < 1) = false := by simp; omega
      by_cases h3 : 12 < n
      · have hd3 : decide (12 < (n : Int)) = true := by simp; omega
        have hx : shOk s n f = false := by simp [shOk]; omega
        rw [hx]
        clear hx
        go_enter Try.func16, Try.ntmps16
        go_wp2_with fail
        go_ret
        exact ⟨rfl, (Below.refl _ _).alloc (Nat.le_refl _) _⟩
      · have hd3 : decide (12 < (n : Int)) = false := by simp; omega
        have hx : shOk s n f = !shBad f n := by simp [shOk, h1, show 1 ≤ n by omega, show n ≤ 12 by omega]
        rw [hx]
        have CF := fun W H => hasFuncSp_any 51 #[] spOut (fun _ _ => rfl) B n (.slice u n cp) f W (predSpan W) H hn
        rw [show anyI (fun i => spOut (f (i * 2)) (f (i * 2 + 1))) n = shBad f n from rfl] at CF
        generalize shBad f n = z at *
        clear hx
        go_enter Try.func16, Try.ntmps16
        go_wp2_with fail
        refine gen_callsW fun W hW => ?_
        have B0 := Lib.hid (show Below w.heap.size w W from by rw [hW]; exact (Below.refl _ _).alloc (Nat.le_refl _) _)
        clear hW
        refine (CF _ (HV.out.below B0.out (Nat.le_refl _))).mono ?_
        rintro e w1 ⟨rfl, b1⟩
        have B1 := bnext B0.out b1 B0.out.size
        clear b1
        go_wp2_with fail
        go_ret
        exact ⟨rfl, B1⟩
  · have hd : decide (1 < s) = true := by simp; omega
    have hx : shOk s n f = false := by simp [shOk]; omega
    rw [hx]
    clear hx
    go_enter Try.func16, Try.ntmps16
    go_wp2_with fail
    go_ret
    exact ⟨rfl, (Below.refl _ _).alloc (Nat.le_refl _) _⟩

theorem implValidShape_any (s : Int) (B n : Nat) (f : Nat → Int) (u : Option Addr) (w : World) (hs : 0 ≤ s ∧ s ≤ 255) (hv : IsList w B (.slice u n n) 2 n (fun i => .int .i16 (f i))) (hn : n ≤ 2000000) (hb : ∀ i, i < n * 2 → -32768 ≤ f i ∧ f i ≤ 32767) :
    Calls Try.prog 16 #[.agg #[.int .u8 s, .slice u n n]] w fun e w' => e = .returned (.bool (shOk s n f)) ∧ Below w.heap.size w w' := implValidShapeC_any s B n n f u w hs hv hn hb

set_option maxRecDepth 100000 in
set_option maxHeartbeats 2000000 in
theorem l05OkC_any (k : Nat) (s : Int) (B n cp : Nat) (f : Nat → Int) (u : Option Addr) (w : World) (hr : rowAt w k = some #[.int .u8 s, .slice u n cp]) (hv : IsList w B (.slice u n cp) 2 n (fun i => .int .i16 (f i))) (hn : n ≤ 2000000) :
    Calls Try.prog 48 #[.pointer (some ⟨k, 0, none⟩)] w fun e w' => e = .returned (.bool (shOk s n f)) ∧ Below w.heap.size w w' := by
  have HV := Lib.hid hv
  have HR := Lib.hid hr
  clear hv hr
  go_enter Try.func48, Try.ntmps48
  have C0 := cell_of_rowAt HR.out
  go_wp2_with fail
  clear C0
  go_loopw [3] (fun i W => ∃ j : Nat, j ≤ n ∧ i = .int .i64 j ∧ Hid (shBad f j = false) ∧ Below w.heap.size w W) (fun i _ => n - (intOf i).toNat)
  case atStart => exact ⟨0, by omega, rfl, Lib.hid rfl, Below.refl _ _⟩
  case round =>
    obtain ⟨j, hj, rfl, hF, hB⟩ := hrel
    have c := cell_of_rowAt (brow hB HR.out)
    have HB := Lib.hid hB
    clear hB
    by_cases hlt : j < n
    · obtain ⟨gg, rfl, c0, c1⟩ := (HV.out.below HB.out (Nat.le_refl _)).sp hlt
      have hi0 : 0 ≤ (j : Int) := by omega
      have hi1 : (j : Int) < n := by omega
      generalize hxa : f (j * 2) = a at c0
      generalize hxb : f (j * 2 + 1) = b at c1
      have XA := Lib.hid hxa
      have XB := Lib.hid hxb
      clear hxa hxb
      have fin : spOut a b = true → shOk s n f = false := fun h => by
        have : shBad f n = true := anyI_t (k := j) hlt (by rw [XA.out, XB.out]; exact h)
        simp [shOk, this]
      have go : spOut a b = false → shBad f (j + 1) = false := fun h => by
        unfold shBad
        rw [anyI_succ, XA.out, XB.out, h]
        exact (Bool.or_false _).trans hF.out
      by_cases h1 : a < 0
      · have hd : decide (a < 0) = true := by simp [h1]
        have E := Lib.hid (fin (spOut_t (.inl h1)))
        clear fin go h1
        go_wp2_with fail
        go_ret
        exact ⟨by rw [E.out]; rfl, HB.out.alloc HB.out.size _⟩
      · have hd : decide (a < 0) = false := by simp; omega
        by_cases h2 : b ≤ a
        · have hd2 : decide (b ≤ a) = true := by simp [h2]
          have E := Lib.hid (fin (spOut_t (.inr (.inl h2))))
          clear fin go h1 h2
          go_wp2_with fail
          go_ret
          exact ⟨by rw [E.out]; rfl, HB.out.alloc HB.out.size _⟩
        · have hd2 : decide (b ≤ a) = false := by simp; omega
          by_cases h3 : 200 < b
          · have hd3 : decide (200 < b) = true := by simp [h3]
            have E := Lib.hid (fin (spOut_t (.inr (.inr h3))))
            clear fin go h1 h2 h3
            go_wp2_with fail
            go_ret
            exact ⟨by rw [E.out]; rfl, HB.out.alloc HB.out.size _⟩
          · have hd3 : decide (200 < b) = false := by simp; omega
            have E := Lib.hid (go (spOut_f (by omega)))
            clear fin go h1 h2 h3
            go_wp2_with fail
            refine ⟨⟨j + 1, by omega, by go_num, E, HB.out.alloc HB.out.size _⟩, by simp [intOf]; omega⟩
    · obtain rfl : j = n := by omega
      have hx : shOk s j f = (inB j 1 12 && decide (s ≤ 1)) := by
        simp only [shOk, hF.out, inB]
        by_cases a1 : s ≤ 1 <;> by_cases a2 : 1 ≤ j <;> by_cases a3 : j ≤ 12 <;> simp [a1, a2, a3] <;> omega
      have IN := fun W => l00In_any j 1 12 W
      generalize inB j 1 12 = z at *
      have E := Lib.hid hx
      clear hx
      cases z with
      | true =>
        go_wp2_with fail
        refine (IN _).mono ?_
        rintro e w1 ⟨rfl, rfl⟩
        go_wp2_with fail
        go_ret
        exact ⟨by rw [E.out]; simp, HB.out⟩
      | false =>
        go_wp2_with fail
        refine (IN _).mono ?_
        rintro e w1 ⟨rfl, rfl⟩
        go_wp2_with fail
        go_ret
        exact ⟨by rw [E.out]; simp, HB.out⟩

theorem l05Ok_any (k : Nat) (s : Int) (B n : Nat) (f : Nat → Int) (u : Option Addr) (w : World) (hr : rowAt w k = some #[.int .u8 s, .slice u n n]) (hv : IsList w B (.slice u n n) 2 n (fun i => .int .i16 (f i))) (hn : n ≤ 2000000) :
    Calls Try.prog 48 #[.pointer (some ⟨k, 0, none⟩)] w fun e w' => e = .returned (.bool (shOk s n f)) ∧ Below w.heap.size w w' := l05OkC_any k s B n n f u w hr hv hn

set_option maxRecDepth 100000 in
theorem specValidShape_any (s : Int) (B n : Nat) (f : Nat → Int) (u : Option Addr) (w : World) (_hs : 0 ≤ s ∧ s ≤ 255) (hv : IsList w B (.slice u n n) 2 n (fun i => .int .i16 (f i))) (hn : n ≤ 2000000) (_hb : ∀ i, i < n * 2 → -32768 ≤ f i ∧ f i ≤ 32767) :
    Calls Try.prog 14 #[.agg #[.int .u8 s, .slice u n n]] w fun e w' => e = .returned (.bool (shOk s n f)) ∧ Below w.heap.size w w' := by
  have HV := Lib.hid hv
  clear hv
  go_enter Try.func14, Try.ntmps14
  go_wp2_with fail
  refine gen_callsW fun W hW => ?_
  have B0 := Lib.hid (show Below w.heap.size w W from by rw [hW]; exact (Below.refl _ _).alloc (Nat.le_refl _) _)
  have p0 : rowAt W w.heap.size = some #[.int .u8 s, .slice u n n] := by rw [hW]; exact rowAt_alloc_at _ _ _ _ (by simp)
  clear hW
  refine (l05Ok_any _ s B n f u _ p0 (HV.out.below B0.out (Nat.le_refl _)) hn).mono ?_
  rintro e w1 ⟨rfl, b1⟩
  have B1 := bnext B0.out b1 B0.out.size
  clear b1 p0
  go_wp2_with fail
  go_ret
  exact ⟨rfl, B1⟩
end Go.Proofs.Ytdegfcgknppcoaa
