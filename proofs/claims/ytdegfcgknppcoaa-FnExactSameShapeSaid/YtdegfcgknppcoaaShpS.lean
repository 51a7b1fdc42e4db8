/- SameShape: contracts of both sides. -/
import Derived.Test.YtdegfcgknppcoaaShpV
import Derived.Deep.QuietTactic
import Derived.BigQuiet
import Derived.Laws.StructEq
namespace Go.Proofs.Ytdegfcgknppcoaa
open Go.RowKit

/-- The spans i of two lists differ. -/
def spNe (f g : Nat → Int) (i : Nat) : Bool := decide (¬ (f (i * 2) = g (i * 2) ∧ f (i * 2 + 1) = g (i * 2 + 1)))
/-- Two lists are equal. -/
def sameSps (n m : Nat) (f g : Nat → Int) : Bool := decide (n = m) && !anyI (spNe f g) n
def sameSh (s t : Int) (n m : Nat) (f g : Nat → Int) : Bool := decide (s = t) && sameSps n m f g
theorem sameSps_ne {n m : Nat} {f g : Nat → Int} (h : n ≠ m) : sameSps n m f g = false := by simp [sameSps, h]
theorem sameSps_hit {n : Nat} {f g : Nat → Int} {k : Nat} (hk : k < n) (h : spNe f g k = true) : sameSps n n f g = false := by simp [sameSps, anyI_t hk h]
theorem sameSps_miss {n : Nat} {f g : Nat → Int} (h : ∀ k, k < n → spNe f g k = false) : sameSps n n f g = true := by simp [sameSps, anyI_f.2 h]

set_option maxRecDepth 100000 in
set_option maxHeartbeats 1000000 in
theorem equalSps_any (B C n m : Nat) (f g : Nat → Int) (v u : Value) (w : World) (hv : IsList w B v 2 n (fun i => .int .i16 (f i))) (hu : IsList w C u 2 m (fun i => .int .i16 (g i))) (hn : n ≤ 2000000) (hm : m ≤ 2000000) :
    Calls Try.prog 53 #[v, u] w fun e w' => e = .returned (.bool (sameSps n m f g)) ∧ Below w.heap.size w w' := by
  have HV := Lib.hid hv
  have HU := Lib.hid hu
  obtain ⟨av, cv, rfl⟩ := hv.shape
  obtain ⟨au, cu, rfl⟩ := hu.shape
  clear hv hu
  by_cases hnm : n = m
  · subst hnm
    have hnn : ((n : Int) != n) = false := by simp
    go_enter Try.func53, Try.ntmps53
    go_wp2_with fail
    go_loopg [5, 13] n (fun gg _ i' W => ∃ k : Nat, k ≤ n ∧ n - k ≤ gg ∧ i' = .int .i64 k ∧ Hid (∀ q, q < k → spNe f g q = false) ∧ Below w.heap.size w W)
    case atStart => exact ⟨0, by omega, by omega, rfl, Lib.hid (by omega), Below.refl _ _⟩
    case round =>
      obtain ⟨k, hk, hg, rfl, hF, hB⟩ := hrel
      by_cases hlt : k < n
      · obtain ⟨g1, rfl, c0, c1⟩ := (HV.out.below hB (Nat.le_refl _)).sp hlt
        obtain ⟨g2, rfl, d0, d1⟩ := (HU.out.below hB (Nat.le_refl _)).sp hlt
        have hi0 : 0 ≤ (k : Int) := by omega
        have hi1 : (k : Int) < n := by omega
        have HB := Lib.hid hB
        clear hB
        have HX : Hid (spNe f g k = decide (¬ (f (k * 2) = g (k * 2) ∧ f (k * 2 + 1) = g (k * 2 + 1)))) := Lib.hid rfl
        generalize f (k * 2) = a0 at *
        generalize f (k * 2 + 1) = a1 at *
        generalize g (k * 2) = b0 at *
        generalize g (k * 2 + 1) = b1 at *
        by_cases h0 : a0 = b0
        · have e0 : (a0 == b0) = true := by simp [h0]
          by_cases h1 : a1 = b1
          · have e1 : (a1 == b1) = true := by simp [h1]
            have HY : Hid (spNe f g k = false) := Lib.hid (by rw [HX.out]; simp [h0, h1])
            clear h0 h1 HX
            go_wp2_with fail
            go_quiet (fail)
            go_wp2_with fail
            go_roundg (n - (k + 1))
            case measure => omega
            case rel =>
              refine ⟨k + 1, by omega, by omega, by go_num, Lib.hid (fun q hq => ?_), below_drewN HB.out _⟩
              by_cases e : q = k
              · subst e; exact HY.out
              · exact hF.out q (by omega)
          · have e1 : (a1 == b1) = false := by simp [h1]
            have HY : Hid (spNe f g k = true) := Lib.hid (by rw [HX.out]; simp [h1])
            clear h0 h1 HX
            go_wp2_with fail
            go_quiet (fail)
            go_wp2_with fail
            go_ret
            exact ⟨by rw [sameSps_hit hlt HY.out]; rfl, below_drewN HB.out _⟩
        · have e0 : (a0 == b0) = false := by simp [h0]
          have HY : Hid (spNe f g k = true) := Lib.hid (by rw [HX.out]; simp [h0])
          clear h0 HX
          go_wp2_with fail
          go_quiet (fail)
          go_wp2_with fail
          go_ret
          exact ⟨by rw [sameSps_hit hlt HY.out]; rfl, below_drewN HB.out _⟩
      · obtain rfl : k = n := by omega
        go_wp2_with fail
        go_ret
        exact ⟨by rw [sameSps_miss hF.out]; rfl, hB⟩
  · have hnn : ((n : Int) != m) = true := by simp; omega
    rw [sameSps_ne hnm]
    go_enter Try.func53, Try.ntmps53
    go_wp2_with fail
    go_ret
    exact ⟨rfl, Below.refl _ _⟩

set_option maxRecDepth 100000 in
set_option maxHeartbeats 1000000 in
theorem implSameShape_any (s : Int) (B n : Nat) (f : Nat → Int) (u : Option Addr) (t : Int) (C m : Nat) (g : Nat → Int) (z : Option Addr) (w : World) (_hs : 0 ≤ s ∧ s ≤ 255) (hv : IsList w B (.slice u n n) 2 n (fun i => .int .i16 (f i))) (hn : n ≤ 2000000) (_hb : ∀ i, i < n * 2 → -32768 ≤ f i ∧ f i ≤ 32767)
    (_ht : 0 ≤ t ∧ t ≤ 255) (hu : IsList w C (.slice z m m) 2 m (fun i => .int .i16 (g i))) (hm : m ≤ 2000000) (_hc : ∀ i, i < m * 2 → -32768 ≤ g i ∧ g i ≤ 32767) :
    Calls Try.prog 19 #[.agg #[.int .u8 s, .slice u n n], .agg #[.int .u8 t, .slice z m m]] w fun e w' => e = .returned (.bool (sameSh s t n m f g)) ∧ Below w.heap.size w w' := by
  have HV := Lib.hid hv
  have HU := Lib.hid hu
  clear hv hu
  by_cases hst : s = t
  · have hd : (s == t) = true := by simp [hst]
    have hx : sameSh s t n m f g = sameSps n m f g := by simp [sameSh, hst]
    rw [hx]
    clear hx hst
    have CE := fun W h1 h2 => equalSps_any B C n m f g (.slice u n n) (.slice z m m) W h1 h2 hn hm
    generalize sameSps n m f g = y at *
    go_enter Try.func19, Try.ntmps19
    go_wp2_with fail
    refine gen_callsW fun W hW => ?_
    have B0 := Lib.hid (show Below w.heap.size w W from by rw [hW]; exact ((Below.refl _ _).alloc (Nat.le_refl _) _).alloc (by simp) _)
    clear hW
    refine (CE _ (HV.out.below B0.out (Nat.le_refl _)) (HU.out.below B0.out (Nat.le_refl _))).mono ?_
    rintro e w1 ⟨rfl, b1⟩
    have B1 := bnext B0.out b1 B0.out.size
    clear b1
    go_wp2_with fail
    go_ret
    exact ⟨rfl, B1⟩
  · have hd : (s == t) = false := by simp [hst]
    have hx : sameSh s t n m f g = false := by simp [sameSh, hst]
    rw [hx]
    clear hx hst
    go_enter Try.func19, Try.ntmps19
    go_wp2_with fail
    go_ret
    exact ⟨rfl, ((Below.refl _ _).alloc (Nat.le_refl _) _).alloc (by simp) _⟩

set_option maxRecDepth 100000 in
set_option maxHeartbeats 2000000 in
theorem specSameShape_any (s : Int) (B n : Nat) (f : Nat → Int) (u : Option Addr) (t : Int) (C m : Nat) (g : Nat → Int) (z : Option Addr) (w : World) (_hs : 0 ≤ s ∧ s ≤ 255) (hv : IsList w B (.slice u n n) 2 n (fun i => .int .i16 (f i))) (hn : n ≤ 2000000) (_hb : ∀ i, i < n * 2 → -32768 ≤ f i ∧ f i ≤ 32767)
    (_ht : 0 ≤ t ∧ t ≤ 255) (hu : IsList w C (.slice z m m) 2 m (fun i => .int .i16 (g i))) (hm : m ≤ 2000000) (_hc : ∀ i, i < m * 2 → -32768 ≤ g i ∧ g i ≤ 32767) :
    Calls Try.prog 18 #[.agg #[.int .u8 s, .slice u n n], .agg #[.int .u8 t, .slice z m m]] w fun e w' => e = .returned (.bool (sameSh s t n m f g)) ∧ Below w.heap.size w w' := by
  have HV := Lib.hid hv
  have HU := Lib.hid hu
  clear hv hu
  by_cases hst : s = t
  · have hd : (s != t) = false := by simp [hst]
    have hx : sameSh s t n m f g = sameSps n m f g := by simp [sameSh, hst]
    rw [hx]
    clear hx hst
    by_cases hnm : n = m
    · subst hnm
      have hnn : ((n : Int) != n) = false := by simp
      go_enter Try.func18, Try.ntmps18
      go_wp2_with fail
      go_loopw [5] (fun i' W => ∃ k : Nat, k ≤ n ∧ i' = .int .i64 k ∧ Hid (∀ q, q < k → spNe f g q = false) ∧ rowAt W w.heap.size = some #[.int .u8 s, .slice u n n] ∧ rowAt W (w.heap.size + 1) = some #[.int .u8 t, .slice z n n] ∧ Below w.heap.size w W) (fun i _ => n - (intOf i).toNat)
      case atStart =>
        exact ⟨0, by omega, rfl, Lib.hid (by omega), (rowAt_alloc_past _ _ _ (by simp)).trans (rowAt_alloc_at _ _ _ _ (by simp)), rowAt_alloc_at _ _ _ _ (by simp), ((Below.refl _ _).alloc (Nat.le_refl _) _).alloc (by simp) _⟩
      case round =>
        obtain ⟨k, hk, rfl, hF, r0, r1, hB⟩ := hrel
        have x0 := cell_of_rowAt r0
        have x1 := cell_of_rowAt r1
        by_cases hlt : k < n
        · obtain ⟨g1, rfl, c0, c1⟩ := (HV.out.below hB (Nat.le_refl _)).sp hlt
          obtain ⟨g2, rfl, d0, d1⟩ := (HU.out.below hB (Nat.le_refl _)).sp hlt
          have hi0 : 0 ≤ (k : Int) := by omega
          have hi1 : (k : Int) < n := by omega
          have HB := Lib.hid hB
          have R0 := Lib.hid r0
          have R1 := Lib.hid r1
          clear hB r0 r1
          have HX : Hid (spNe f g k = decide (¬ (f (k * 2) = g (k * 2) ∧ f (k * 2 + 1) = g (k * 2 + 1)))) := Lib.hid rfl
          generalize f (k * 2) = a0 at *
          generalize f (k * 2 + 1) = a1 at *
          generalize g (k * 2) = b0 at *
          generalize g (k * 2 + 1) = b1 at *
          by_cases h0 : a0 = b0
          · have e0 : (a0 == b0) = true := by simp [h0]
            by_cases h1 : a1 = b1
            · have e1 : (a1 == b1) = true := by simp [h1]
              have HY : Hid (spNe f g k = false) := Lib.hid (by rw [HX.out]; simp [h0, h1])
              clear h0 h1 HX
              go_wp2_with fail
              go_quiet (fail)
              go_wp2_with fail
              refine ⟨⟨k + 1, by omega, by go_num, Lib.hid (fun q hq => ?_), R0.out, R1.out, below_drewN HB.out _⟩, by simp [intOf]; omega⟩
              by_cases e : q = k
              · subst e; exact HY.out
              · exact hF.out q (by omega)
            · have e1 : (a1 == b1) = false := by simp [h1]
              have HY : Hid (spNe f g k = true) := Lib.hid (by rw [HX.out]; simp [h1])
              clear h0 h1 HX
              go_wp2_with fail
              go_quiet (fail)
              go_wp2_with fail
              go_ret
              exact ⟨by rw [sameSps_hit hlt HY.out]; rfl, below_drewN HB.out _⟩
          · have e0 : (a0 == b0) = false := by simp [h0]
            have HY : Hid (spNe f g k = true) := Lib.hid (by rw [HX.out]; simp [h0])
            clear h0 HX
            go_wp2_with fail
            go_quiet (fail)
            go_wp2_with fail
            go_ret
            exact ⟨by rw [sameSps_hit hlt HY.out]; rfl, below_drewN HB.out _⟩
        · obtain rfl : k = n := by omega
          go_wp2_with fail
          go_ret
          exact ⟨by rw [sameSps_miss hF.out]; rfl, hB⟩
    · have hnn : ((n : Int) != m) = true := by simp; omega
      rw [sameSps_ne hnm]
      go_enter Try.func18, Try.ntmps18
      go_wp2_with fail
      go_ret
      exact ⟨rfl, ((Below.refl _ _).alloc (Nat.le_refl _) _).alloc (by simp) _⟩
  · have hd : (s != t) = true := by simp [hst]
    have hx : sameSh s t n m f g = false := by simp [sameSh, hst]
    rw [hx]
    clear hx hst
    go_enter Try.func18, Try.ntmps18
    go_wp2_with fail
    go_ret
    exact ⟨rfl, ((Below.refl _ _).alloc (Nat.le_refl _) _).alloc (by simp) _⟩
end Go.Proofs.Ytdegfcgknppcoaa
