/- Chapter 4: checkWork and what calls it. -/
import Derived.Test.YtkimngffbioeeaaAskI
namespace Go.Proofs.Ytkimngffbioeeaa
open Go.RowKit

theorem outB_cell {r : Rf} {x : Int} : outB x 0 (2 * r.w) = false ↔ r.inC x := by unfold outB Rf.inC; simp
theorem Rf.anyC {r : Rf} {g : Nat → Int} {m : Nat} : anyI (fun i => outB (g i) 0 (2 * r.w)) m = !(r.ocB g m) := by
  by_cases h : r.okC g m
  · rw [Rf.ocB_t h]
    exact anyI_f.2 fun j hj => outB_cell.2 (h j hj)
  · rw [Rf.ocB_f h]
    cases hq : anyI (fun i => outB (g i) 0 (2 * r.w)) m with
    | true => rfl
    | false => exact absurd (fun j hj => outB_cell.1 (anyI_f.1 hq j hj)) h

/-- Which of k bounded numbers is outside. -/
def outs (h : Nat → Int) (i : Nat) : Bool := outB (h (i * 3)) (h (i * 3 + 1)) (h (i * 3 + 2))
theorem IsList.bnd {w : World} {base n : Nat} {a : Option Addr} {cap : Nat} {f : Nat → Int} (h : IsList w base (.slice a n cap) 3 n (fun i => .int .i64 (f i))) {k : Nat} (hk : k < n) :
    ∃ g, a = some ⟨g, 0, none⟩ ∧ w.cell? ⟨g, k * 3, none⟩ = some (.int .i64 (f (k * 3))) ∧ w.cell? ⟨g, k * 3 + 1, none⟩ = some (.int .i64 (f (k * 3 + 1))) ∧ w.cell? ⟨g, k * 3 + 2, none⟩ = some (.int .i64 (f (k * 3 + 2))) := by
  rcases h with ⟨h0, _⟩ | ⟨g, cap', cur, e, hg, hr, hs, hf⟩
  · omega
  · cases e
    exact ⟨g, rfl, by rw [cell_of_rowAt hr]; exact hf _ (by omega), by rw [cell_of_rowAt hr]; exact hf _ (by omega), by rw [cell_of_rowAt hr]; exact hf _ (by omega)⟩

set_option maxHeartbeats 1000000 in
theorem idxOut_any (b n : Nat) (v : Value) (f : Nat → Int) (w : World) (hv : IsList w b v 3 n (fun i => .int .i64 (f i))) (hn : n ≤ 2000000) :
    Calls Try.prog 139 #[v, .func (.func 113) #[] #[]] w fun e w' => e = .returned (.int .i64 (firstI (outs f) n)) ∧ Below w.heap.size w w' := by
  have HV := Lib.hid hv
  obtain ⟨a, cap, rfl⟩ := hv.shape
  clear hv
  go_enter Try.func139, Try.ntmps139
  go_wp2_with fail
  go_loopg [5, 8] n (fun gg _ i W => ∃ k : Nat, k ≤ n ∧ n - k ≤ gg ∧ i = .int .i64 k ∧ Hid (∀ j, j < k → outs f j = false) ∧ Below w.heap.size w W)
  case atStart => exact ⟨0, by omega, by omega, rfl, Lib.hid (by omega), Below.refl _ _⟩
  case round =>
    obtain ⟨k, hk, hg, rfl, hF, hB⟩ := hrel
    by_cases hlt : k < n
    · obtain ⟨b', rfl, c0, c1, c2⟩ := (HV.out.below hB (Nat.le_refl _)).bnd hlt
      have hi0 : 0 ≤ (k : Int) := by omega
      have hi1 : (k : Int) < n := by omega
      have HB := Lib.hid hB
      clear hB
      have hcall := fun W => isOutside_any (f (k * 3)) (f (k * 3 + 1)) (f (k * 3 + 2)) W
      cases hq : outB (f (k * 3)) (f (k * 3 + 1)) (f (k * 3 + 2)) with
      | true =>
        rw [hq] at hcall
        have HQ : Hid (outs f k = true) := Lib.hid hq
        clear hq
        go_wp2_with fail
        refine (hcall _).mono ?_
        rintro e w' ⟨rfl, b'⟩
        have B2 := bnext HB.out b' HB.out.size
        clear hcall b' c0 c1 c2
        go_wp2_with fail
        go_ret
        exact ⟨by rw [firstI_hit hlt hF.out HQ.out]; rfl, B2⟩
      | false =>
        rw [hq] at hcall
        have HQ : Hid (outs f k = false) := Lib.hid hq
        clear hq
        go_wp2_with fail
        refine (hcall _).mono ?_
        rintro e w' ⟨rfl, b'⟩
        have B2 := bnext HB.out b' HB.out.size
        clear hcall b' c0 c1 c2
        go_wp2_with fail
        go_roundg (n - (k + 1))
        case measure => omega
        case rel => exact ⟨k + 1, by omega, by omega, by go_num, Lib.hid (fun j hj => by
          by_cases e : j = k
          · subst e; exact HQ.out
          · exact hF.out j (by omega)), B2⟩
    · obtain rfl : k = n := by omega
      go_wp2_with fail
      go_ret
      exact ⟨by rw [firstI_miss hF.out]; rfl, hB⟩
theorem hasOut_any (b n : Nat) (v : Value) (f : Nat → Int) (w : World) (hv : IsList w b v 3 n (fun i => .int .i64 (f i))) (hn : n ≤ 2000000) :
    Calls Try.prog 114 #[v, .func (.func 113) #[] #[]] w fun e w' => e = .returned (.bool (anyI (outs f) n)) ∧ Below w.heap.size w w' := by
  have hbd := firstI_bd (outs f) n
  have CX := idxOut_any b n v f w hv hn
  obtain ⟨a, cap, rfl⟩ := hv.shape
  unfold anyI
  generalize firstI (outs f) n = z at *
  clear hv
  by_cases hz : 0 ≤ z
  · have hd : decide (0 ≤ z) = true := by simp [hz]
    rw [hd]
    go_enter Try.func114, Try.ntmps114
    go_wp2_with fail
    refine CX.mono ?_
    rintro e w1 ⟨rfl, b1⟩
    go_wp2_with fail
    go_ret
    exact ⟨rfl, b1⟩
  · have hd : decide (0 ≤ z) = false := by simp; omega
    rw [hd]
    go_enter Try.func114, Try.ntmps114
    go_wp2_with fail
    refine CX.mono ?_
    rintro e w1 ⟨rfl, b1⟩
    go_wp2_with fail
    go_ret
    exact ⟨rfl, b1⟩

set_option maxHeartbeats 400000 in
theorem cellNumber_any (c : Array Value) (r : Rf) (x : Int) (w : World) (hR : IsRoof c r) :
    Calls Try.prog 108 #[.agg c, .int .i64 x] w fun e w' => e = .returned (.agg #[.int .i64 x, .int .i64 0, .int .i64 (2 * r.w)]) ∧ Below w.heap.size w w' := by
  have w0 := hR.w0
  have w1 := hR.w1
  have hc := hR.size
  go_enter Try.func108, Try.ntmps108
  go_wp2_with fail
  refine (across_any c r _ hR).mono ?_
  rintro e w1 ⟨rfl, b1⟩
  have q1 := brow b1 (rowAt_alloc_at _ #[.int .i64 0, .int .i64 0, .int .i64 0] 94 _ rfl)
  obtain ⟨v1, v2, v3, v4⟩ := bview b1
  have B1 : Below w.heap.size w w1 := (((Below.refl _ _).alloc (Nat.le_refl _) _).alloc (by simp) _).trans (b1.mono (by simp <;> omega))
  clear b1
  go_wp2_with fail
  refine bodyPost_ret (v := .agg #[.int .i64 x, .int .i64 0, .int .i64 (2 * r.w)]) (by simp [results, Try.results108, go_sem, v2]) rfl ⟨rfl, ?_⟩
  exact ((B1.setCell (p := ⟨_, _, none⟩) (by simp <;> omega) _).setCell (p := ⟨_, _, none⟩) (by simp <;> omega) _).setCell (p := ⟨_, _, none⟩) (by simp <;> omega) _

/-- Whether a number is no cell, as checkWork's closure asks. -/
theorem noCell_pred (B : Nat) (c : Array Value) (r : Rf) (w : World) (hr : rowAt w B = some c) (hR : IsRoof c r) :
    PredI 112 #[.pointer (some ⟨B, 0, none⟩)] (fun x => outB x 0 (2 * r.w)) w := fun x W hb => by
  have q := brow hb hr
  have hc := hR.size
  show Calls Try.prog 112 #[.int .i64 x, .pointer (some ⟨B, 0, none⟩)] W _
  go_enter Try.func112, Try.ntmps112
  go_wp2_with fail
  refine (cellNumber_any c r x _ hR).mono ?_
  rintro e w1 ⟨rfl, b1⟩
  go_wp2_with fail
  refine (isOutside_any _ _ _ _).mono ?_
  rintro e w2 ⟨rfl, b2⟩
  have B2 := bnext b1 b2 b1.size
  clear b1 b2
  go_wp2_with fail
  go_ret
  exact ⟨rfl, B2⟩

set_option maxRecDepth 100000 in
set_option maxHeartbeats 1000000 in
theorem hasAll_any (b n : Nat) (c : Array Value) (r : Rf) (v : Value) (f : Nat → Int) (w : World) (hR : IsRoof c r) (hv : IsList w b v 2 n (fun i => .int .i8 (f i))) (hn : n ≤ 2000000) :
    Calls Try.prog 115 #[.agg c, v] w fun e w' => e = .returned (.bool (r.okB f n)) ∧ Below w.heap.size w w' := by
  have hc := hR.size
  have HV := Lib.hid hv
  obtain ⟨a, cap, rfl⟩ := hv.shape
  clear hv
  go_enter Try.func115, Try.ntmps115
  go_wp2_with fail
  refine gen_world fun W0 hW => ?_
  have p0 : Hid (rowAt W0 w.heap.size = some c) := Lib.hid (by rw [hW]; exact rowAt_alloc_at _ _ _ _ rfl)
  have pB : Hid (Below w.heap.size w W0) := Lib.hid (by rw [hW]; exact (Below.refl _ _).alloc (Nat.le_refl _) _)
  have HV0 := Lib.hid (HV.out.below pB.out (Nat.le_refl _))
  clear hW HV
  go_loopg [9] n (fun gg i W => ∃ k : Nat, k ≤ n ∧ n - k ≤ gg ∧ i = .int .i64 k ∧ Hid (r.okP f k) ∧ Below W0.heap.size W0 W)
  case atStart => exact ⟨0, by omega, by omega, rfl, Lib.hid (r.okP_zero f), Below.refl _ _⟩
  case round =>
    obtain ⟨k, hk, hg, rfl, hF, hB⟩ := hrel
    by_cases hlt : k < n
    · obtain ⟨b', rfl, c0, c1⟩ := (HV0.out.below hB (Nat.le_refl _)).pl hlt
      have hi0 : 0 ≤ (k : Int) := by omega
      have hi1 : (k : Int) < n := by omega
      have r0 := brow hB p0.out
      have lt0 := rowAt_lt r0
      have HB := Lib.hid (bnext pB.out hB pB.out.size)
      have HB0 := Lib.hid hB
      clear hB
      by_cases hin : r.inP f k
      · have HI := Lib.hid hin
        clear hin
        go_wp2_with fail
        refine (has_t c r _ _ _ hR HI.out).mono ?_
        rintro e w1 ⟨rfl, b1⟩
        have B2 := Lib.hid (HB0.out.trans ((((Below.refl wr.heap.size wr).alloc (Nat.le_refl _) _).trans (b1.mono (by simp))).mono HB0.out.size))
        clear b1 c0 c1 r0
        go_wp2_with fail
        go_roundg (n - (k + 1))
        case measure => omega
        case rel => exact ⟨k + 1, by omega, by omega, by go_num, Lib.hid (Rf.okP_succ.2 ⟨hF.out, HI.out⟩), B2.out⟩
      · have HI := Lib.hid hin
        clear hin
        go_wp2_with fail
        refine (has_f c r _ _ _ hR HI.out).mono ?_
        rintro e w1 ⟨rfl, b1⟩
        have B2 := Lib.hid (HB.out.trans ((((Below.refl wr.heap.size wr).alloc (Nat.le_refl _) _).trans (b1.mono (by simp))).mono HB.out.size))
        clear b1 c0 c1 r0
        go_wp2_with fail
        go_ret
        exact ⟨by rw [Rf.okB_f (fun h => HI.out (h k hlt))]; rfl, B2.out⟩
    · obtain rfl : k = n := by omega
      have HB := Lib.hid (bnext pB.out hB pB.out.size)
      clear hB
      go_wp2_with fail
      go_ret
      exact ⟨by rw [Rf.okB_t hF.out]; rfl, HB.out⟩
end Go.Proofs.Ytkimngffbioeeaa
