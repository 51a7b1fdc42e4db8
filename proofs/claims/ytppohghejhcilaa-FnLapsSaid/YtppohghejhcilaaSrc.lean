/- The source of choices: next, pick, one. -/
import Derived.Test.YtppohghejhcilaaByts
import Derived.Test.YtppohghejhcilaaSole
import Derived.Test.YtppohghejhcilaaNums
import Derived.BigQuiet
import Derived.IntWalk
import Derived.Laws.Entries
import Derived.Deep.QuietTactic
namespace Go.Proofs.Ytppohghejhcilaa
open Go.RowKit

/-- A source of choices over the bytes f, of which at most m are used up. -/
def SrcAt (W : World) (S : Nat) (v : Value) (n : Nat) (f : Nat → Int) (m : Int) : Prop :=
  ∃ (k sd : Int), rowAt W S = some #[v, .int .i64 k, .int .u64 sd] ∧ 0 ≤ k ∧ k ≤ m ∧ 0 ≤ sd ∧ sd < 18446744073709551616 ∧
    ∃ a cap, v = .slice a n cap ∧ (n = 0 ∨ ∃ g o, a = some ⟨g, o, none⟩ ∧ g < S ∧ ∀ i, i < n → W.cell? ⟨g, o + i, none⟩ = some (.int .u8 (f i)))
theorem SrcAt.below {W W' : World} {S n B : Nat} {v : Value} {f : Nat → Int} {m : Int} (h : SrcAt W S v n f m) (b : Below B W W') (hB : S < B) : SrcAt W' S v n f m := by
  obtain ⟨k, sd, hr, h0, h1, h2, h3, a, cap, hv, h⟩ := h
  refine ⟨k, sd, ?_, h0, h1, h2, h3, a, cap, hv, ?_⟩
  · exact (rowAt_below b S hB).trans hr
  · rcases h with h | ⟨g, o, ha, hg, h⟩
    · exact .inl h
    · exact .inr ⟨g, o, ha, hg, fun i hi => (b.cell (p := ⟨g, o + i, none⟩) (by show g < B; omega)).trans (h i hi)⟩
theorem SrcAt.lt {W : World} {S n : Nat} {v : Value} {f : Nat → Int} {m : Int} (h : SrcAt W S v n f m) : S < W.heap.size := by
  obtain ⟨k, sd, hr, _⟩ := h; exact rowAt_lt hr
theorem SrcAt.more {W : World} {S n : Nat} {v : Value} {f : Nat → Int} {m m' : Int} (h : SrcAt W S v n f m) (hm : m ≤ m') : SrcAt W S v n f m' := by
  obtain ⟨k, sd, hr, h0, h1, r⟩ := h; exact ⟨k, sd, hr, h0, by omega, r⟩
theorem and255 (x : Int) : 0 ≤ bits BinOp.and .u64 x 255 ∧ bits BinOp.and .u64 x 255 ≤ 255 := by
  have hb : (BitVec.ofInt 64 x &&& BitVec.ofInt 64 255).toNat ≤ 255 := by
    rw [BitVec.toNat_and]
    exact Nat.and_le_right
  unfold bits
  change 0 ≤ IntKind.u64.wrap (((BitVec.ofInt 64 x &&& BitVec.ofInt 64 255).toNat : Nat) : Int) ∧ IntKind.u64.wrap (((BitVec.ofInt 64 x &&& BitVec.ofInt 64 255).toNat : Nat) : Int) ≤ 255
  rw [IntWalk.u64_in _ (by omega)]
  omega
theorem wrapU64_bd (x : Int) : 0 ≤ IntKind.u64.wrap x ∧ IntKind.u64.wrap x < 18446744073709551616 := by
  rw [IntKind.wrap_u64]; omega
theorem Sole.drewN {n : Nat} {w W : World} (h : Sole n w W) (k : Nat) : Sole n w (W.drewN k) := ⟨h.below.trans ⟨rfl, rfl, rfl, Nat.le_refl _, fun _ _ => rfl⟩, h.rows⟩
theorem src_row {W w : World} {S N : Nat} {v x y x' y' : Value} (hr : rowAt w S = some #[v, x, y]) (h : W = ((w.drewN N).setCell ⟨S, 1, none⟩ x').setCell ⟨S, 2, none⟩ y') : rowAt W S = some #[v, x', y'] := by
  have h1 := rowAt_setCell_at (w.drewN N) S 1 x' (by rw [rowAt_drewN, hr]; rfl)
  rw [rowAt_drewN, hr] at h1
  have h2 := rowAt_setCell_at ((w.drewN N).setCell ⟨S, 1, none⟩ x') S 2 y' (by rw [h1]; rfl)
  rw [h, h2, h1]
  rfl
theorem src_sole {W w : World} {S N : Nat} {v x y x' y' : Value} (_hr : rowAt w S = some #[v, x, y]) (h : W = ((w.drewN N).setCell ⟨S, 1, none⟩ x').setCell ⟨S, 2, none⟩ y') : Sole S w W := by
  rw [h]
  exact (Sole.setCell (Sole.setCell (n := S) (w := w) (W := w.drewN N) ⟨⟨rfl, rfl, rfl, Nat.le_refl _, fun _ _ => rfl⟩, fun _ _ _ => rfl⟩ 1 x') 2 y')
set_option maxRecDepth 100000 in
set_option maxHeartbeats 2000000 in
theorem next_any (S n : Nat) (v : Value) (f : Nat → Int) (m : Int) (w : World) (h : SrcAt w S v n f m) (hm : m ≤ 1000000) (_hn : n ≤ 1000000) (hf : ∀ i, i < n → 0 ≤ f i ∧ f i ≤ 255) :
    Calls Try.prog 61 #[.pointer (some ⟨S, 0, none⟩)] w fun e w' => ∃ x, e = .returned (.int .i64 x) ∧ (0 ≤ x ∧ x ≤ 255) ∧ SrcAt w' S v n f (m + 1) ∧ Sole S w w' := by
  have hSl := h.lt
  obtain ⟨k, sd, hr, k0, k1, s0, s1, a, cap, rfl, hb⟩ := h
  have c0 : w.cell? ⟨S, 0, none⟩ = some (.slice a n cap) := by rw [cell_of_rowAt hr]; rfl
  have c1 : w.cell? ⟨S, 1, none⟩ = some (.int .i64 k) := by rw [cell_of_rowAt hr]; rfl
  have c2 : w.cell? ⟨S, 2, none⟩ = some (.int .u64 sd) := by rw [cell_of_rowAt hr]; rfl
  have f0 := frozen_of_rowAt hr 1
  have f1 := frozen_of_rowAt hr 2
  have hw1 : IntKind.i64.wrap (k + 1) = k + 1 := by rw [IntKind.wrap_i64]; omega
  obtain ⟨K, rfl⟩ := Int.eq_ofNat_of_zero_le k0
  by_cases hk : K < n
  · obtain ⟨g, o, rfl, hg, hc⟩ : ∃ g o, a = some ⟨g, o, none⟩ ∧ g < S ∧ ∀ i, i < n → w.cell? ⟨g, o + i, none⟩ = some (.int .u8 (f i)) := by
      rcases hb with hb | hb
      · omega
      · exact hb
    have ck := hc K hk
    obtain ⟨b0, b1⟩ := hf K hk
    have d1 : decide ((K : Int) < n) = true := by simp; omega
    have d2 : decide ((K : Int) + 1 ≤ n) = true := by simp; omega
    have i0 : (K : Int) < n := by omega
    have cv : IntKind.i64.wrap (f K) = f K := by rw [IntKind.wrap_i64]; omega
    have cu : IntKind.u64.wrap (f K) = f K := by rw [IntKind.wrap_u64]; omega
    have HC := Lib.hid hc
    have R0 := Lib.hid hr
    clear hc hr hf hb
    go_enter Try.func61, Try.ntmps61
    go_wp2_with fail
    go_quiet (fail)
    go_wp2_with fail
    go_quiet (fail)
    go_wp2_with fail
    refine gen_world fun W hW => ?_
    obtain ⟨N, hN⟩ : ∃ N, W = ((w.drewN N).setCell ⟨S, 1, none⟩ (.int .i64 ((K : Int) + 1))).setCell ⟨S, 2, none⟩ (.int .u64 (IntKind.u64.wrap (IntKind.u64.wrap (IntKind.u64.wrap (sd * 6364136223846793005) + f K) + 1442695040888963407))) := ⟨_, hW⟩
    clear hW
    have r1 := src_row R0.out hN
    have so := src_sole R0.out hN
    clear hN
    have e0 : W.cell? ⟨S, 0, none⟩ = some (.slice (some ⟨g, o, none⟩) n cap) := by rw [cell_of_rowAt r1]; rfl
    have e1 : W.cell? ⟨S, 1, none⟩ = some (.int .i64 ((K : Int) + 1)) := by rw [cell_of_rowAt r1]; rfl
    clear c0 c1 c2 ck f0 f1
    go_quiet (fail)
    go_wp2_with fail
    go_ret
    refine ⟨_, rfl, ⟨b0, b1⟩, ?_, ?_⟩
    · refine ⟨_, _, r1, by omega, by omega, (wrapU64_bd _).1, (wrapU64_bd _).2, _, _, rfl, .inr ⟨_, _, rfl, hg, fun i hi => ?_⟩⟩
      exact (so.below.cell (p := ⟨g, o + i, none⟩) hg).trans (HC.out i hi)
    · exact so.drewN _
  · have d1 : decide ((K : Int) < n) = false := by simp; omega
    have d2 : decide ((K : Int) + 1 ≤ n) = false := by simp; omega
    have R0 := Lib.hid hr
    have HB := Lib.hid hb
    clear hr hf hb
    go_enter Try.func61, Try.ntmps61
    go_wp2_with fail
    go_quiet (fail)
    go_wp2_with fail
    refine gen_world fun W hW => ?_
    obtain ⟨N, hN⟩ : ∃ N, W = ((w.drewN N).setCell ⟨S, 1, none⟩ (.int .i64 ((K : Int) + 1))).setCell ⟨S, 2, none⟩ (.int .u64 (IntKind.u64.wrap (IntKind.u64.wrap (IntKind.u64.wrap (sd * 6364136223846793005)) + 1442695040888963407))) := ⟨_, hW⟩
    clear hW
    have r1 := src_row R0.out hN
    have so := src_sole R0.out hN
    clear hN
    have sb := wrapU64_bd (IntKind.u64.wrap (IntKind.u64.wrap (sd * 6364136223846793005)) + 1442695040888963407)
    generalize IntKind.u64.wrap (IntKind.u64.wrap (IntKind.u64.wrap (sd * 6364136223846793005)) + 1442695040888963407) = sd' at *
    have e0 : W.cell? ⟨S, 0, none⟩ = some (.slice a n cap) := by rw [cell_of_rowAt r1]; rfl
    have e1 : W.cell? ⟨S, 1, none⟩ = some (.int .i64 ((K : Int) + 1)) := by rw [cell_of_rowAt r1]; rfl
    have e2 : W.cell? ⟨S, 2, none⟩ = some (.int .u64 sd') := by rw [cell_of_rowAt r1]; rfl
    clear c0 c1 c2 f0 f1
    go_quiet (fail)
    go_wp2_with fail
    have ab := and255 (sd' / 1099511627776)
    have hv : wrap64 (bits BinOp.and IntKind.u64 (sd' / 1099511627776) 255) = bits BinOp.and IntKind.u64 (sd' / 1099511627776) 255 := by
      unfold wrap64; omega
    go_ret
    rw [hv]
    refine ⟨_, rfl, ab, ?_, so.drewN _⟩
    refine ⟨_, _, r1, by omega, by omega, sb.1, sb.2, _, _, rfl, ?_⟩
    rcases HB.out with hb | ⟨g, o, ha, hg, hc⟩
    · exact .inl hb
    · exact .inr ⟨g, o, ha, hg, fun i hi => (so.below.cell (p := ⟨g, o + i, none⟩) hg).trans (hc i hi)⟩
set_option maxRecDepth 100000 in
set_option maxHeartbeats 2000000 in
theorem pick_any (S n : Nat) (v : Value) (f : Nat → Int) (m k : Int) (w : World) (h : SrcAt w S v n f m) (hm : m ≤ 999998) (hn : n ≤ 1000000) (hf : ∀ i, i < n → 0 ≤ f i ∧ f i ≤ 255) (hk : k ≤ 1000000) :
    Calls Try.prog 46 #[.pointer (some ⟨S, 0, none⟩), .int .i64 k] w fun e w' => ∃ x, e = .returned (.int .i64 x) ∧ (0 ≤ x ∧ (x < k ∨ x = 0)) ∧ SrcAt w' S v n f (m + 2) ∧ Sole S w w' := by
  have hSl := h.lt
  have HF := Lib.hid hf
  clear hf
  by_cases h1 : k ≤ 1
  · have d1 : decide (k ≤ 1) = true := by simp; omega
    go_enter Try.func46, Try.ntmps46
    go_wp2_with fail
    go_ret
    exact ⟨_, rfl, ⟨by omega, .inr rfl⟩, h.more (by omega), Sole.refl _ _⟩
  · have d1 : decide (k ≤ 1) = false := by simp; omega
    by_cases h2 : 200 < k
    · have d2 : decide (200 < k) = true := by simp; omega
      have kz : (k == 0) = false := by simp; omega
      go_enter Try.func46, Try.ntmps46
      go_wp2_with fail
      refine (next_any S n v f m _ h (by omega) hn HF.out).mono ?_
      rintro e w1 ⟨x, rfl, hx, r1, so1⟩
      have z1 : IntKind.i64.wrap (x * 256) = x * 256 := by rw [IntKind.wrap_i64]; omega
      go_wp2_with fail
      refine (next_any S n v f (m + 1) _ r1 (by omega) hn HF.out).mono ?_
      rintro e w2 ⟨y, rfl, hy, r2, so2⟩
      have z2 : IntKind.i64.wrap (x * 256 + y) = x * 256 + y := by rw [IntKind.wrap_i64]; omega
      have t0 : 0 ≤ (x * 256 + y) % k ∧ (x * 256 + y) % k < k := ⟨Int.emod_nonneg _ (by omega), Int.emod_lt_of_pos _ (by omega)⟩
      have t1 : 0 ≤ x * 256 + y := by omega
      go_wp2_with fail
      go_ret
      exact ⟨_, rfl, ⟨t0.1, .inl t0.2⟩, r2.more (by omega), so1.trans so2⟩
    · have d2 : decide (200 < k) = false := by simp; omega
      have kz : (k == 0) = false := by simp; omega
      go_enter Try.func46, Try.ntmps46
      go_wp2_with fail
      refine (next_any S n v f m _ h (by omega) hn HF.out).mono ?_
      rintro e w1 ⟨x, rfl, hx, r1, so1⟩
      have t0 : 0 ≤ x % k ∧ x % k < k := ⟨Int.emod_nonneg _ (by omega), Int.emod_lt_of_pos _ (by omega)⟩
      have t1 : 0 ≤ x := by omega
      go_wp2_with fail
      go_ret
      exact ⟨_, rfl, ⟨t0.1, .inl t0.2⟩, r1.more (by omega), so1⟩
theorem one_any (S n : Nat) (v : Value) (f : Nat → Int) (m k : Int) (w : World) (h : SrcAt w S v n f m) (hm : m ≤ 999998) (hn : n ≤ 1000000) (hf : ∀ i, i < n → 0 ≤ f i ∧ f i ≤ 255) (hk : k ≤ 1000000) :
    Calls Try.prog 55 #[.pointer (some ⟨S, 0, none⟩), .int .i64 k] w fun e w' => ∃ b, e = .returned (.bool b) ∧ SrcAt w' S v n f (m + 2) ∧ Sole S w w' := by
  have CP := fun W h => pick_any S n v f m k W h hm hn hf hk
  go_enter Try.func55, Try.ntmps55
  go_wp2_with fail
  refine (CP _ h).mono ?_
  rintro e w1 ⟨x, rfl, hx, r1, so1⟩
  go_wp2_with fail
  go_ret
  exact ⟨_, rfl, r1, so1⟩
/-- A new source. -/
theorem from_any (n : Nat) (v : Value) (f : Nat → Int) (w : World) (h : BytsAt w v n f) :
    Calls Try.prog 26 #[v] w fun e w' => e = .returned (.pointer (some ⟨w.heap.size, 0, none⟩)) ∧ SrcAt w' w.heap.size v n f 0 ∧ Below w.heap.size w w' := by
  obtain ⟨a, cap, rfl, hb⟩ := h
  have HB := Lib.hid hb
  clear hb
  go_enter Try.func26, Try.ntmps26
  go_wp2_with fail
  go_ret
  have hr := rowAt_alloc_at w #[.slice a n cap, .int .i64 0, .int .u64 0] 81 w.heap.size rfl
  have hB : Below w.heap.size w (w.alloc (.cells #[.slice a n cap, .int .i64 0, .int .u64 0] 81)) := (Below.refl _ _).alloc (Nat.le_refl _) _
  refine ⟨rfl, ⟨0, 0, hr, by omega, by omega, by omega, by omega, a, cap, rfl, ?_⟩, hB⟩
  rcases HB.out with h | ⟨g, o, ha, hg, h⟩
  · exact .inl h
  · exact .inr ⟨g, o, ha, hg, fun i hi => (hB.cell (p := ⟨g, o + i, none⟩) hg).trans (h i hi)⟩
end Go.Proofs.Ytppohghejhcilaa
