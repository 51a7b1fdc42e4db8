/- CanReach, LadderFor: the model's two functions. -/
import Derived.Test.YtkimngffbioeeaaLadS
import Derived.Test.YtkimngffbioeeaaNumsOf
namespace Go.Proofs.Ytkimngffbioeeaa
open Go.RowKit

set_option maxRecDepth 100000 in
set_option maxHeartbeats 1000000 in
theorem specCanReach_any (c : Array Value) (r : Rf) (B1 m : Nat) (g : Nat → Int) (u1 : Option Addr) (y : Int) (B2 n : Nat) (f : Nat → Int) (u2 : Option Addr) (w : World) (hR : IsRoof c r)
    (hv1 : IsList w B1 (.slice u1 m m) 1 m (fun i => .int .i64 (g i))) (hm : m ≤ 2000000) (_hg : ∀ i, i < m → -9223372036854775808 ≤ g i ∧ g i ≤ 9223372036854775807)
    (hv2 : IsList w B2 (.slice u2 n n) 2 n (fun i => .int .i8 (f i))) (hn : n ≤ 2000000) (hf : ∀ i, i < n * 2 → -128 ≤ f i ∧ f i ≤ 127) :
    Calls Try.prog 22 #[.agg c, .slice u1 m m, .int .i64 y, .slice u2 n n] w fun e w' => e = .returned (.tuple #[.bool (r.canV g m f n y), .int .i64 (r.lcode g m f n y)]) ∧ Below w.heap.size w w' := by
  have p0 := rowAt_alloc_at w c 30 w.heap.size rfl
  have pB : Below w.heap.size w (w.alloc (.cells c 30)) := (Below.refl _ _).alloc (Nat.le_refl _) _
  have HV1 := Lib.hid (hv1.below pB (Nat.le_refl _))
  have HV2 := Lib.hid (hv2.below pB (Nat.le_refl _))
  have LA := fun W hr H1 H2 => l04Asked_any w.heap.size B1 B2 m n c r g f (.slice u1 m m) (.slice u2 n n) (inB y 0 8) W hr hR H1 hm H2 hn hf
  rw [show r.wcode g m f n (inB y 0 8) = r.lcode g m f n y from rfl] at LA
  clear hv1 hv2
  by_cases hk : r.lcode g m f n y = 0
  · have hb : (r.lcode g m f n y != 0) = false := by simp [hk]
    obtain ⟨ho, hy, _, hp, _, _⟩ := Rf.lcode_in hk
    have hV : r.canV g m f n y = !(anyI (r.miss y g m f) n) := if_pos hk
    rw [hV]
    have HK := Lib.hid hk
    have CA := fun W hr H1 H2 => l04All_any w.heap.size B1 B2 m n c r g f (.slice u1 m m) (.slice u2 n n) y W hr hR ho H1 hm H2 hn hp hy
    generalize (!(anyI (r.miss y g m f) n)) = z at *
    clear hk hp hV
    have P0 := Lib.hid p0
    have PB := Lib.hid pB
    clear p0 pB
    go_enter Try.func22, Try.ntmps22
    go_wp2_with fail
    refine (l04Reach_any y _).mono ?_
    rintro e w1 ⟨rfl, rfl⟩
    go_wp2_with fail
    refine (LA _ P0.out HV1.out HV2.out).mono ?_
    rintro e w1 ⟨rfl, b1⟩
    have q0 := Lib.hid (brow b1 P0.out)
    have q1 := Lib.hid (HV1.out.below b1 (Nat.le_refl _))
    have q2 := Lib.hid (HV2.out.below b1 (Nat.le_refl _))
    have B1 := Lib.hid (bnext PB.out b1 PB.out.size)
    clear b1
    go_wp2_with fail
    refine (CA _ q0.out q1.out q2.out).mono ?_
    rintro e w2 ⟨rfl, b2⟩
    have B2 := Lib.hid (bnext B1.out b2 B1.out.size)
    clear b2
    go_wp2_with fail
    go_ret2
    exact ⟨by rw [HK.out]; rfl, B2.out⟩
  · have hb : (r.lcode g m f n y != 0) = true := by simp [hk]
    have hV : r.canV g m f n y = false := if_neg hk
    rw [hV]
    have P0 := Lib.hid p0
    have PB := Lib.hid pB
    clear p0 pB hk hV
    go_enter Try.func22, Try.ntmps22
    go_wp2_with fail
    refine (l04Reach_any y _).mono ?_
    rintro e w1 ⟨rfl, rfl⟩
    go_wp2_with fail
    refine (LA _ P0.out HV1.out HV2.out).mono ?_
    rintro e w1 ⟨rfl, b1⟩
    have B1 := Lib.hid (bnext PB.out b1 PB.out.size)
    clear b1
    go_wp2_with fail
    go_ret2
    exact ⟨rfl, B1.out⟩

theorem A_infoI : (Try.prog.info? 2).map (fun i => (i.zero, i.size, i.bytes)) = some (some (.int .i64 0), 1, 8) := by kernel_rfl

set_option maxRecDepth 100000 in
set_option maxHeartbeats 2000000 in
theorem specLadderFor_any (c : Array Value) (r : Rf) (B1 m : Nat) (g : Nat → Int) (u1 : Option Addr) (y : Int) (B2 n : Nat) (f : Nat → Int) (u2 : Option Addr) (w : World) (hR : IsRoof c r)
    (hv1 : IsList w B1 (.slice u1 m m) 1 m (fun i => .int .i64 (g i))) (hm : m ≤ 2000000) (_hg : ∀ i, i < m → -9223372036854775808 ≤ g i ∧ g i ≤ 9223372036854775807)
    (hv2 : IsList w B2 (.slice u2 n n) 2 n (fun i => .int .i8 (f i))) (hn : n ≤ 2000000) (hf : ∀ i, i < n * 2 → -128 ≤ f i ∧ f i ≤ 127) :
    Calls Try.prog 27 #[.agg c, .slice u1 m m, .int .i64 y, .slice u2 n n] w (GivesT w 1 .i64 (r.ladN g m f n y) (r.lad y g m f) [.int .i64 (r.ladC g m f n y)]) := by
  obtain ⟨i0, hi0, hz0, hz1, hz2⟩ := info_parts A_infoI
  obtain ⟨Wb, hWb⟩ : ∃ Wb, Wb = w.alloc (.cells c 30) := ⟨_, rfl⟩
  have pb : Below w.heap.size w Wb := by rw [hWb]; exact (Below.refl _ _).alloc (Nat.le_refl _) _
  have hsz0 : Wb.heap.size = w.heap.size + 1 := by rw [hWb]; simp
  have p0 : rowAt Wb w.heap.size = some c := by rw [hWb]; exact rowAt_alloc_at w c _ _ rfl
  have hB0 : Below Wb.heap.size Wb (Wb.alloc (.cells #[] 2)) := (Below.refl _ _).alloc (Nat.le_refl _) _
  have HV1 := Lib.hid (hv1.below pb (Nat.le_refl _))
  have HV2 := Lib.hid (hv2.below pb (Nat.le_refl _))
  have P0 := Lib.hid p0
  have PB := Lib.hid pb
  have PB0 := Lib.hid hB0
  have LA := fun W hr H1 H2 => l04Asked_any w.heap.size B1 B2 m n c r g f (.slice u1 m m) (.slice u2 n n) (inB y 0 8) W hr hR H1 hm H2 hn hf
  rw [show r.wcode g m f n (inB y 0 8) = r.lcode g m f n y from rfl] at LA
  have ow := owns_empty Wb 2 1
  clear hv1 hv2 p0 pb hB0
  by_cases hk : r.lcode g m f n y = 0
  · have hb : (r.lcode g m f n y != 0) = false := by simp [hk]
    obtain ⟨ho, hy, _, hp, _, hn8⟩ := Rf.lcode_in hk
    have HP := Lib.hid hp
    have HK := Lib.hid hk
    have CF := fun W i j hr H1 i8 j8 => l04First_any w.heap.size B1 m c r g (.slice u1 m m) y i j W hr hR H1 hm i8 j8 hy
    clear hk hp
    go_enter Try.func27, Try.ntmps27
    go_wp2_with fail
    rw [← hWb, ← hsz0]
    have HWB := Lib.hid hsz0
    clear hWb hsz0
    refine (l04Reach_any y _).mono ?_
    rintro e w1 ⟨rfl, rfl⟩
    go_wp2_with fail
    refine (LA _ (brow PB0.out P0.out) (HV1.out.below PB0.out (Nat.le_refl _)) (HV2.out.below PB0.out (Nat.le_refl _))).mono ?_
    rintro e w1 ⟨rfl, b1⟩
    have ow1 := owns_below ow b1
    have B1' := Lib.hid (bnext PB0.out b1 PB0.out.size)
    clear b1 ow LA
    go_wp2_with fail
    go_loopw [10, 12, 13] (fun v i _ W => ∃ k : Nat, k ≤ n ∧ i = .int .i64 k ∧ W.ownsRow Wb.heap.size 2 1 v k (numsOf (r.lad y g m f) k) ∧ Hid (∀ q, q < k → r.miss y g m f q = false) ∧ Below Wb.heap.size Wb W) (fun _ i _ _ => n - (intOf i).toNat)
    case atStart => exact ⟨0, by omega, rfl, ow1, Lib.hid (by omega), B1'.out⟩
    case round =>
      clear ow1
      obtain ⟨k, hk, rfl, hv, hF, hB⟩ := hrel
      by_cases hlt : k < n
      · obtain ⟨gg, rfl, k0, k1⟩ := (HV2.out.below hB (Nat.le_refl _)).pl hlt
        obtain ⟨i, j, e0, e1, i8, j8, t0, t1, _, _⟩ := Rf.inP_nat ho (HP.out k hlt)
        rw [e0] at k0
        rw [e1] at k1
        have hi0' : 0 ≤ (k : Int) := by omega
        have hi1 : (k : Int) < n := by omega
        have CF1 := CF wr i j (brow hB P0.out) (HV1.out.below hB (Nat.le_refl _)) i8 j8
        have hz : firstI (fun q => r.can y i j (g q)) m = r.lad y g m f k := by unfold Rf.lad; rw [t0, t1]
        rw [hz] at CF1
        have HB := Lib.hid hB
        clear hB e0 e1 t0 t1 hz
        by_cases hx : r.lad y g m f k < 0
        · have HX : Hid (r.miss y g m f k = true) := Lib.hid (by simp [Rf.miss, hx])
          go_wp2_with fail
          refine CF1.mono ?_
          rintro e w2 ⟨rfl, b2⟩
          have hB2 := Lib.hid (bnext HB.out b2 HB.out.size)
          clear b2 k0 k1 hv
          go_wp2_with fail
          go_ret2
          have hA : anyI (r.miss y g m f) n = true := by unfold anyI; rw [firstI_hit hlt hF.out HX.out]; simp
          have hC : r.ladC g m f n y = 6 := by unfold Rf.ladC; rw [if_pos HK.out, hA]; rfl
          have hN : r.ladN g m f n y = 0 := by unfold Rf.ladN; rw [hC]; rfl
          rw [hC, hN]
          exact ⟨_, rfl, .inl ⟨rfl, _, _, rfl⟩, (PB.out.trans (hB2.out.mono PB.out.size)).alloc (Nat.le_trans PB.out.size hB2.out.size) _⟩
        · have HX : Hid (r.miss y g m f k = false) := Lib.hid (by simp [Rf.miss]; omega)
          generalize hzz : r.lad y g m f k = z at *
          have HZ := Lib.hid hzz
          clear hzz
          go_wp2_with fail
          refine CF1.mono ?_
          rintro e w2 ⟨rfl, b2⟩
          have hB2 := Lib.hid (bnext HB.out b2 HB.out.size)
          have hv2 := owns_below hv b2
          have hsz2 : Wb.heap.size ≤ w2.heap.size := hB2.out.size
          clear b2 k0 k1 hv CF1
          go_wp2_with (at_builtin; refine wpList_append_own _ rfl _ _ 35 rfl Wb.heap.size 2 i0 (.int .i64 0) 1 8 Try.underlying35 hi0 hz0 hz1 hz2 rfl (by decide) _ _ _ rfl (hv2.alloc _) ⟨w2.heap.size, 0, none⟩ 1 1 [.int .i64 z] rfl rfl (cell_num_new _ _ _) (by simp [Value.oneCell']) (by unfold maxLen; omega) (by omega) (by simp; omega) ?_; intro v' w3 own3 grow3 _)
          have hB3 := Lib.hid ((hB2.out.alloc hB2.out.size _).grown grow3 (by simp; omega) (owns_base hv2))
          clear hv2 grow3
          go_wp2_with fail
          refine ⟨⟨k + 1, by omega, by go_num, ?_, Lib.hid (fun q hq => ?_), hB3.out⟩, by simp [intOf]; omega⟩
          · rw [← numsOf_succ, HZ.out]; exact own3
          · by_cases e : q = k
            · subst e; exact HX.out
            · exact hF.out q (by omega)
      · obtain rfl : k = n := by omega
        have hA : anyI (r.miss y g m f) k = false := anyI_f.2 hF.out
        have hC : r.ladC g m f k y = 0 := by unfold Rf.ladC; rw [if_pos HK.out, hA]; rfl
        have hN : r.ladN g m f k y = k := by unfold Rf.ladN; rw [hC]; rfl
        have HB := Lib.hid hB
        have HC := Lib.hid hC
        have HN := Lib.hid hN
        clear hB hC hN hA
        go_wp2_with fail
        go_ret2
        rw [HC.out, HN.out]
        exact ⟨_, rfl, (IsList.of_nums hv).mono (show w.heap.size ≤ Wb.heap.size by rw [HWB.out]; omega), PB.out.trans (HB.out.mono PB.out.size)⟩
  · have hb : (r.lcode g m f n y != 0) = true := by simp [hk]
    have hC : r.ladC g m f n y = r.lcode g m f n y := if_neg hk
    have hN : r.ladN g m f n y = 0 := by unfold Rf.ladN; rw [if_neg (by rw [hC]; exact hk)]
    rw [hC, hN]
    clear hk hC hN
    go_enter Try.func27, Try.ntmps27
    go_wp2_with fail
    rw [← hWb, ← hsz0]
    have HWB := Lib.hid hsz0
    clear hWb hsz0
    refine (l04Reach_any y _).mono ?_
    rintro e w1 ⟨rfl, rfl⟩
    go_wp2_with fail
    refine (LA _ (brow PB0.out P0.out) (HV1.out.below PB0.out (Nat.le_refl _)) (HV2.out.below PB0.out (Nat.le_refl _))).mono ?_
    rintro e w1 ⟨rfl, b1⟩
    have B1' := Lib.hid (bnext PB0.out b1 PB0.out.size)
    clear b1 ow LA
    go_wp2_with fail
    go_ret2
    exact ⟨_, rfl, .inl ⟨rfl, _, _, rfl⟩, PB.out.trans (B1'.out.mono PB.out.size)⟩
end Go.Proofs.Ytkimngffbioeeaa
