/- TilesNeeded: contracts of both sides. -/
import Derived.Test.YtkimngffbioeeaaNeedF
namespace Go.Proofs.Ytkimngffbioeeaa
open Go.RowKit

/-- How many tiles are needed, and the code. -/
noncomputable def Rf.needC (r : Rf) (g : Nat → Int) (m : Nat) (y : Int) : Int := r.lcode g m (fun _ => 0) 0 y
noncomputable def Rf.needV (r : Rf) (g : Nat → Int) (m : Nat) (y : Int) : Int := if r.needC g m y = 0 then (r.needN y g m r.all : Int) else 0
theorem IsList.num2 {w : World} {n base cap : Nat} (hr : rowAt w n = some #[.int .i64 1, .int .i64 3]) (hb : base ≤ n) : IsList w base (.slice (some ⟨n, 0, none⟩) 2 cap) 1 2 (fun i => .int .i64 (kinds2 i)) :=
  .inr ⟨n, cap, _, rfl, hb, hr, by simp, fun i hi => by
    have : i = 0 ∨ i = 1 := by omega
    rcases this with rfl | rfl <;> simp [kinds2]⟩

set_option maxRecDepth 100000 in
set_option maxHeartbeats 2000000 in
theorem specTilesNeeded_any (c : Array Value) (r : Rf) (B m : Nat) (g : Nat → Int) (u : Option Addr) (y : Int) (w : World) (hR : IsRoof c r) (hv : IsList w B (.slice u m m) 1 m (fun i => .int .i64 (g i))) (hm : m ≤ 2000000) (_hg : ∀ i, i < m → -9223372036854775808 ≤ g i ∧ g i ≤ 9223372036854775807) :
    Calls Try.prog 45 #[.agg c, .slice u m m, .int .i64 y] w fun e w' => e = .returned (.tuple #[.int .i64 (r.needV g m y), .int .i64 (r.needC g m y)]) ∧ Below w.heap.size w w' := by
  have hc := hR.size
  have HV := Lib.hid hv
  clear hv
  have p0 := rowAt_alloc_at w c 30 w.heap.size rfl
  have LA := fun W k hr H1 => l04Asked_any w.heap.size B 0 m 0 c r g (fun _ => 0) (.slice u m m) (.slice k 0 0) (inB y 0 8) W hr hR H1 hm (IsList.none0 _ _ _ _ _ _) (by omega) (fun i hi => by omega)
  rw [show r.wcode g m (fun _ => 0) 0 (inB y 0 8) = r.needC g m y from rfl] at LA
  by_cases hk : r.needC g m y = 0
  · have hb1 : (r.needC g m y != 0) = false := by simp [hk]
    have hV : r.needV g m y = (r.needN y g m r.all : Int) := by unfold Rf.needV; rw [if_pos hk]
    obtain ⟨ho, hy, _, _, _, _⟩ := Rf.lcode_in hk
    have HK := Lib.hid hk
    have CW := fun W hr => l03Wrong_any w.heap.size c r r.h.toNat r.w.toNat (by have := ho.2.2.1; omega) (by have := ho.1; omega) (by have := ho.2.2.2.1; omega) (by have := ho.2.1; omega) W hr hR
    rw [hV]
    have hle : (r.wrongs r.all).length ≤ 64 := Nat.le_trans (List.length_filter_le _ _) (Rf.all_le ho)
    replace CW : ∀ W (_ : rowAt W w.heap.size = some c), Calls Try.prog 88 #[.pointer (some ⟨w.heap.size, 0, none⟩)] W (GivesP W (r.wrongs r.all)) := CW
    have h8 : r.h.toNat ≤ 8 := by have := ho.2.2.2.1; omega
    have w8 : r.w.toNat ≤ 8 := by have := ho.2.1; omega
    have HN : Hid (r.needN y g m r.all = cntL (r.needQ y g m) (r.wrongs r.all) (r.wrongs r.all).length) := Lib.hid rfl
    generalize r.needN y g m r.all = N at *
    generalize r.wrongs r.all = L at *
    clear hk hV
    go_enter Try.func45, Try.ntmps45
    go_wp2_with fail
    refine gen_callsC fun W hW => ?_
    have P0 : rowAt W w.heap.size = some c := by rw [hW]; exact (rowAt_alloc_past _ _ _ (by simp <;> omega)).trans p0
    have PB : Below w.heap.size w W := by rw [hW]; exact ((Below.refl _ _).alloc (Nat.le_refl _) _).alloc (by simp) _
    clear hW p0
    refine (l04Reach_any y _).mono ?_
    rintro e w1 ⟨rfl, rfl⟩
    go_wp2_with fail
    refine (LA _ _ P0 (HV.out.below PB (Nat.le_refl _))).mono ?_
    rintro e w2 ⟨rfl, b2⟩
    have PB2 := Lib.hid (bnext PB b2 PB.size)
    have P2 := Lib.hid (brow b2 P0)
    clear b2 P0 PB LA
    go_wp2_with fail
    refine (CW _ P2.out).mono ?_
    rintro e w3 ⟨v, rfl, l3, b3⟩
    obtain ⟨av, cv, rfl⟩ := l3.shape
    have PB3 := Lib.hid (bnext PB2.out b3 PB2.out.size)
    have P3 := Lib.hid (brow b3 P2.out)
    have L3 := Lib.hid l3
    clear b3 l3 CW
    go_wp2_with fail
    go_loopw [9, 11] (fun cn i W => ∃ k : Nat, k ≤ L.length ∧ i = .int .i64 k ∧ cn = .int .i64 (cntL (r.needQ y g m) L k : Nat) ∧ Below w3.heap.size w3 W) (fun _ i _ => L.length - (intOf i).toNat)
    case atStart => exact ⟨0, by omega, rfl, rfl, Below.refl _ _⟩
    case round =>
      obtain ⟨k, hk, rfl, rfl, hB⟩ := hrel
      have HB := Lib.hid hB
      clear hB
      have c64 := cntL_le (r.needQ y g m) L k
      by_cases hlt : k < L.length
      · obtain ⟨gg, rfl, c0, c1⟩ := (L3.out.below HB.out (Nat.le_refl _)).pl hlt
        obtain ⟨e0, e1⟩ := plAt_get hlt
        have x1 := (L[k]).2.1
        have x2 := (L[k]).2.2
        have HS := Lib.hid (cntL_succ (q := r.needQ y g m) hlt)
        rw [e0] at c0
        rw [e1] at c1
        generalize (L[k]).1.1 = i at *
        generalize (L[k]).1.2 = j at *
        have i8 : i < 8 := by omega
        have j8 : j < 8 := by omega
        have hi0 : 0 ≤ (k : Int) := by omega
        have hi1 : (k : Int) < L.length := by omega
        have CA := fun W hr => l01At_any w.heap.size c r i j W hr hR i8 j8
        have CF := fun W hr H => l04First_any w.heap.size B m c r g (.slice u m m) y i j W hr hR H hm i8 j8 hy
        have HQ : Hid (r.needQ y g m i j = (decide (r.t (i * 8 + j) ≠ 2) && decide (0 ≤ firstI (fun q => r.can y i j (g q)) m))) := Lib.hid rfl
        have hgg : gg < wr.heap.size := by
          rcases L3.out.below HB.out (Nat.le_refl _) with ⟨h0, _⟩ | ⟨g2, cap2, cur2, e2, _, hr2, _⟩
          · omega
          · cases e2; exact rowAt_lt hr2
        clear e0 e1 x1 x2
        generalize r.needQ y g m i j = qq at *
        generalize firstI (fun q => r.can y i j (g q)) m = z at *
        generalize cntL (r.needQ y g m) L k = cn at *
        have q0 := brow HB.out P3.out
        by_cases ht : r.t (i * 8 + j) = 2
        · have hb2 : (r.t (i * 8 + j) != 2) = false := by simp [ht]
          have HF : Hid (qq = false) := Lib.hid (by rw [HQ.out]; simp [ht])
          clear ht
          go_wp2_with fail
          refine (CA _ q0).mono ?_
          rintro e w4 ⟨rfl, b4⟩
          have B4 := bnext HB.out b4 HB.out.size
          clear b4 q0 CA CF c0 c1
          go_wp2_with fail
          exact ⟨⟨k + 1, by omega, by go_num, by rw [HS.out, HF.out]; simp, B4⟩, by simp [intOf]; omega⟩
        · have hb2 : (r.t (i * 8 + j) != 2) = true := by simp [ht]
          by_cases hz : 0 ≤ z
          · have HF : Hid (qq = true) := Lib.hid (by rw [HQ.out]; simp [ht, hz])
            clear ht
            go_wp2_with fail
            refine (CA _ q0).mono ?_
            rintro e w4 ⟨rfl, b4⟩
            have B4 := bnext HB.out b4 HB.out.size
            have d0 : w4.cell? ⟨gg, k * 2, none⟩ = some (.int .i8 (i : Int)) := (b4.cell (p := ⟨gg, k * 2, none⟩) hgg).trans c0
            have d1 : w4.cell? ⟨gg, k * 2 + 1, none⟩ = some (.int .i8 (j : Int)) := (b4.cell (p := ⟨gg, k * 2 + 1, none⟩) hgg).trans c1
            have q4 := brow b4 q0
            clear b4 q0 CA c0 c1
            go_wp2_with fail
            refine (CF _ q4 (HV.out.below (PB3.out.trans (B4.mono PB3.out.size)) (Nat.le_refl _))).mono ?_
            rintro e w5 ⟨rfl, b5⟩
            have B5 := bnext B4 b5 B4.size
            clear b5 q4 CF d0 d1 B4
            go_wp2_with fail
            exact ⟨⟨k + 1, by omega, by go_num, by rw [HS.out, HF.out]; simp, B5⟩, by simp [intOf]; omega⟩
          · have HF : Hid (qq = false) := Lib.hid (by rw [HQ.out]; simp [hz])
            clear ht
            go_wp2_with fail
            refine (CA _ q0).mono ?_
            rintro e w4 ⟨rfl, b4⟩
            have B4 := bnext HB.out b4 HB.out.size
            have d0 : w4.cell? ⟨gg, k * 2, none⟩ = some (.int .i8 (i : Int)) := (b4.cell (p := ⟨gg, k * 2, none⟩) hgg).trans c0
            have d1 : w4.cell? ⟨gg, k * 2 + 1, none⟩ = some (.int .i8 (j : Int)) := (b4.cell (p := ⟨gg, k * 2 + 1, none⟩) hgg).trans c1
            have q4 := brow b4 q0
            clear b4 q0 CA c0 c1
            go_wp2_with fail
            refine (CF _ q4 (HV.out.below (PB3.out.trans (B4.mono PB3.out.size)) (Nat.le_refl _))).mono ?_
            rintro e w5 ⟨rfl, b5⟩
            have B5 := bnext B4 b5 B4.size
            clear b5 q4 CF d0 d1 B4
            go_wp2_with fail
            exact ⟨⟨k + 1, by omega, by go_num, by rw [HS.out, HF.out]; simp, B5⟩, by simp [intOf]; omega⟩
      · obtain rfl : k = L.length := by omega
        go_wp2_with fail
        go_ret2
        exact ⟨by simp [HK.out, HN.out], PB3.out.trans (HB.out.mono PB3.out.size)⟩
  · have hb1 : (r.needC g m y != 0) = true := by simp [hk]
    have hV : r.needV g m y = 0 := by unfold Rf.needV; rw [if_neg hk]
    rw [hV]
    clear hk hV
    go_enter Try.func45, Try.ntmps45
    go_wp2_with fail
    refine gen_callsC fun W hW => ?_
    have P0 : rowAt W w.heap.size = some c := by rw [hW]; exact (rowAt_alloc_past _ _ _ (by simp <;> omega)).trans p0
    have PB : Below w.heap.size w W := by rw [hW]; exact ((Below.refl _ _).alloc (Nat.le_refl _) _).alloc (by simp) _
    clear hW p0
    refine (l04Reach_any y _).mono ?_
    rintro e w1 ⟨rfl, rfl⟩
    go_wp2_with fail
    refine (LA _ _ P0 (HV.out.below PB (Nat.le_refl _))).mono ?_
    rintro e w2 ⟨rfl, b2⟩
    have PB2 := Lib.hid (bnext PB b2 PB.size)
    clear b2 P0 PB LA
    go_wp2_with fail
    go_ret2
    exact ⟨rfl, PB2.out⟩

set_option maxRecDepth 100000 in
set_option maxHeartbeats 2000000 in
theorem implTilesNeeded_any (c : Array Value) (r : Rf) (B m : Nat) (g : Nat → Int) (u : Option Addr) (y : Int) (w : World) (hR : IsRoof c r) (hv : IsList w B (.slice u m m) 1 m (fun i => .int .i64 (g i))) (hm : m ≤ 2000000) (_hg : ∀ i, i < m → -9223372036854775808 ≤ g i ∧ g i ≤ 9223372036854775807) :
    Calls Try.prog 46 #[.agg c, .slice u m m, .int .i64 y] w fun e w' => e = .returned (.tuple #[.int .i64 (r.needV g m y), .int .i64 (r.needC g m y)]) ∧ Below w.heap.size w w' := by
  have hc := hR.size
  have p0 := rowAt_alloc_at w c 30 w.heap.size rfl
  have pB : Below w.heap.size w (w.alloc (.cells c 30)) := (Below.refl _ _).alloc (Nat.le_refl _) _
  have HV1 := Lib.hid (hv.below pB (Nat.le_refl _)).nums
  have PB := Lib.hid pB
  have CL := fun W H1 => checkLadders_any 0 m 0 c r g (fun _ => 0) (.slice u m m) (.slice none 0 0) y W hR H1 hm (IsList.none0 _ _ _ _ _ _) (by omega)
  rw [show r.wcode g m (fun _ => 0) 0 (inB y 0 8) = r.needC g m y from rfl] at CL
  clear hv pB
  by_cases hk : r.needC g m y = 0
  · have hb1 : (r.needC g m y != 0) = false := by simp [hk]
    obtain ⟨ho, hy, _, _, _, _⟩ := Rf.lcode_in hk
    have HK := Lib.hid hk
    have h8 : r.h.toNat ≤ 8 := by have := ho.2.2.2.1; omega
    have w8 : r.w.toNat ≤ 8 := by have := ho.2.1; omega
    have hV : r.needV g m y = ((kpt (r.othB kinds2 2) (plAt (fltP (r.canL y g m) r.all)) (fltP (r.canL y g m) r.all).length).1 : Nat) := by
      unfold Rf.needV
      rw [if_pos hk, Rf.need_eq r y g m r.all fun i j hi hj => ⟨hR.tiles.lo _ (by omega), (ho.2.2.2.2.2 (i * 8 + j) (by omega)).1⟩]
    have CO := fun W H1 k H3 => reachedOf_any m 2 c r y g kinds2 (.slice u m m) (.slice (some ⟨k, 0, none⟩) 2 2) r.h.toNat r.w.toNat (by have := ho.2.2.1; omega) (by have := ho.1; omega) h8 w8 W hR H1 hm H3 (by omega) hy
    have hle : (kpt (r.othB kinds2 2) (plAt (fltP (r.canL y g m) r.all)) (fltP (r.canL y g m) r.all).length).1 ≤ 64 := Nat.le_trans (kpt_le _) (Nat.le_trans (fltP_len _) (Rf.all_le ho))
    rw [show plUpto r.h.toNat r.w.toNat (r.h.toNat * r.w.toNat) = r.all from rfl] at CO
    rw [hV]
    generalize (kpt (r.othB kinds2 2) (plAt (fltP (r.canL y g m) r.all)) (fltP (r.canL y g m) r.all).length).1 = N at *
    generalize (kpt (r.othB kinds2 2) (plAt (fltP (r.canL y g m) r.all)) (fltP (r.canL y g m) r.all).length).2 = Z at *
    clear hk hV
    have P0 := Lib.hid p0
    go_enter Try.func46, Try.ntmps46
    go_wp2_with fail
    refine (CL _ HV1.out).mono ?_
    rintro e w1 ⟨rfl, b1⟩
    have q0 := brow b1 P0.out
    have q1 := Lib.hid (HV1.out.below b1 (Nat.le_refl _))
    have B1 := Lib.hid (bnext PB.out b1 PB.out.size)
    clear b1 p0 P0 CL HV1
    go_wp2_with fail
    refine gen_callsC fun W hW => ?_
    have b2 : Below w1.heap.size w1 W := by rw [hW]; exact (Below.refl _ _).alloc (Nat.le_refl _) _
    have k2 : rowAt W w1.heap.size = some #[.int .i64 1, .int .i64 3] := by rw [hW]; exact rowAt_alloc_at _ _ _ _ rfl
    have B2 := Lib.hid (bnext B1.out b2 B1.out.size)
    clear hW
    refine (CO W (q1.out.below b2 (Nat.le_refl _)) _ (IsList.num2 (base := 0) (cap := 2) k2 (Nat.zero_le _)).nums).mono ?_
    rintro e w3 ⟨v, rfl, l3, b3⟩
    obtain ⟨av, cv, rfl⟩ := l3.shape
    have B3 := Lib.hid (bnext B2.out b3 B2.out.size)
    clear b2 b3 l3 k2 CO q0
    go_wp2_with fail
    go_ret2
    exact ⟨by simp [HK.out], B3.out⟩
  · have hb1 : (r.needC g m y != 0) = true := by simp [hk]
    have hV : r.needV g m y = 0 := by unfold Rf.needV; rw [if_neg hk]
    rw [hV]
    clear hk hV
    go_enter Try.func46, Try.ntmps46
    go_wp2_with fail
    refine (CL _ HV1.out).mono ?_
    rintro e w1 ⟨rfl, b1⟩
    have B1 := Lib.hid (bnext PB.out b1 PB.out.size)
    clear b1 p0 CL
    go_wp2_with fail
    go_ret2
    exact ⟨rfl, B1.out⟩
end Go.Proofs.Ytkimngffbioeeaa
