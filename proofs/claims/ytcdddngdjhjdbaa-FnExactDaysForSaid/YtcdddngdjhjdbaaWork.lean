/- Chapter 4: the code of a roof, cells, places and numbers: its mathematics, and the model's functions. -/
import Derived.Test.YtcdddngdjhjdbaaInP
import Derived.Test.YtcdddngdjhjdbaaTile
import Derived.Test.YtcdddngdjhjdbaaNums
namespace Go.Proofs.Ytcdddngdjhjdbaa
open Go.RowKit

/-- A cell of the roof. -/
def Rf.inC (r : Rf) (x : Int) : Prop := 0 ≤ x ∧ x ≤ 2 * r.w
def Rf.okC (r : Rf) (g : Nat → Int) (m : Nat) : Prop := ∀ k, k < m → r.inC (g k)
open Classical in
noncomputable def Rf.ocB (r : Rf) (g : Nat → Int) (m : Nat) : Bool := decide (r.okC g m)
theorem Rf.ocB_t {r : Rf} {g : Nat → Int} {m : Nat} (h : r.okC g m) : r.ocB g m = true := by simp [Rf.ocB, h]
theorem Rf.ocB_f {r : Rf} {g : Nat → Int} {m : Nat} (h : ¬ r.okC g m) : r.ocB g m = false := by simp [Rf.ocB, h]
theorem Rf.ocB_of {r : Rf} {g : Nat → Int} {m : Nat} (h : r.ocB g m = true) : r.okC g m := by simpa [Rf.ocB] using h
theorem Rf.okC_zero (r : Rf) (g : Nat → Int) : r.okC g 0 := fun k hk => by omega
theorem Rf.okC_succ {r : Rf} {g : Nat → Int} {m : Nat} : r.okC g (m + 1) ↔ r.okC g m ∧ r.inC (g m) :=
  ⟨fun h => ⟨fun k hk => h k (by omega), h m (by omega)⟩, fun h k hk => by
    by_cases e : k = m
    · subst e; exact h.2
    · exact h.1 k (by omega)⟩

/-- The code of a roof, m cells, n places, and whether numbers are as told. -/
noncomputable def Rf.wcode (r : Rf) (g : Nat → Int) (m : Nat) (f : Nat → Int) (n : Nat) (fine : Bool) : Int :=
  if r.told (fine && r.ocB g m && r.okB f n) ≠ 0 then r.told (fine && r.ocB g m && r.okB f n) else if 8 < m ∨ 8 < n then 3 else 0
theorem Rf.wcode_zero {r : Rf} {g f : Nat → Int} {m n : Nat} {fine : Bool} (h : r.wcode g m f n fine = 0) : r.Ok ∧ fine = true ∧ r.okC g m ∧ r.okP f n ∧ m ≤ 8 ∧ n ≤ 8 := by
  unfold Rf.wcode at h
  split at h
  · rename_i h1; exact absurd h h1
  · rename_i h1
    obtain ⟨ho, hb⟩ := Rf.told_zero (Decidable.not_not.1 h1)
    rw [Bool.and_eq_true, Bool.and_eq_true] at hb
    split at h
    · simp at h
    · exact ⟨ho, hb.1.1, Rf.ocB_of hb.1.2, Rf.okB_of hb.2, by omega, by omega⟩
theorem Rf.wcode_told {r : Rf} {g f : Nat → Int} {m n : Nat} {fine : Bool} (h : r.told (fine && r.ocB g m && r.okB f n) ≠ 0) : r.wcode g m f n fine = r.told (fine && r.ocB g m && r.okB f n) := if_pos h
theorem Rf.wcode_many {r : Rf} {g f : Nat → Int} {m n : Nat} {fine : Bool} (h : r.told (fine && r.ocB g m && r.okB f n) = 0) (hm : 8 < m ∨ 8 < n) : r.wcode g m f n fine = 3 := by
  unfold Rf.wcode; rw [if_neg (by omega), if_pos hm]
theorem Rf.wcode_in {r : Rf} {g f : Nat → Int} {m n : Nat} {fine : Bool} (h : r.told (fine && r.ocB g m && r.okB f n) = 0) (hm : m ≤ 8) (hn : n ≤ 8) : r.wcode g m f n fine = 0 := by
  unfold Rf.wcode; rw [if_neg (by omega), if_neg (by omega)]

/-- Number k of a list of numbers. -/
theorem IsList.num {w : World} {base n : Nat} {a : Option Addr} {cap : Nat} {f : Nat → Int} (h : IsList w base (.slice a n cap) 1 n (fun i => .int .i64 (f i))) {k : Nat} (hk : k < n) :
    ∃ g, a = some ⟨g, 0, none⟩ ∧ w.cell? ⟨g, k, none⟩ = some (.int .i64 (f k)) := by
  rcases h with ⟨h0, _⟩ | ⟨g, cap', cur, e, hg, hr, hs, hf⟩
  · omega
  · cases e
    exact ⟨g, rfl, by rw [cell_of_rowAt hr]; exact hf _ (by omega)⟩

set_option maxHeartbeats 400000 in
theorem l04Cell_any (n : Nat) (c : Array Value) (r : Rf) (x : Int) (w : World) (hr : rowAt w n = some c) (hR : IsRoof c r) :
    Calls Try.prog 79 #[.pointer (some ⟨n, 0, none⟩), .int .i64 x] w fun e w' => e = .returned (.bool (inB x 0 (2 * r.w))) ∧ Below w.heap.size w w' := by
  have w0 := hR.w0
  have w1 := hR.w1
  go_enter Try.func79, Try.ntmps79
  go_wp2_with fail
  refine (l01Cells_any n c r _ hr hR).mono ?_
  rintro e w' ⟨rfl, rfl⟩
  go_wp2_with fail
  refine (l00In_any _ _ _ _).mono ?_
  rintro e w' ⟨rfl, rfl⟩
  go_wp2
  go_ret
  exact ⟨rfl, Below.refl _ _⟩
theorem l04Cell_t (n : Nat) (c : Array Value) (r : Rf) (x : Int) (w : World) (hr : rowAt w n = some c) (hR : IsRoof c r) (h : r.inC x) :
    Calls Try.prog 79 #[.pointer (some ⟨n, 0, none⟩), .int .i64 x] w fun e w' => e = .returned (.bool true) ∧ Below w.heap.size w w' := by
  have := l04Cell_any n c r x w hr hR; rwa [inB_true h] at this
theorem l04Cell_f (n : Nat) (c : Array Value) (r : Rf) (x : Int) (w : World) (hr : rowAt w n = some c) (hR : IsRoof c r) (h : ¬ r.inC x) :
    Calls Try.prog 79 #[.pointer (some ⟨n, 0, none⟩), .int .i64 x] w fun e w' => e = .returned (.bool false) ∧ Below w.heap.size w w' := by
  have := l04Cell_any n c r x w hr hR; rwa [inB_false h] at this
theorem l04Reach_any (y : Int) (w : World) :
    Calls Try.prog 38 #[.int .i64 y] w fun e w' => e = .returned (.bool (inB y 0 8)) ∧ w = w' := by
  go_enter Try.func38, Try.ntmps38
  go_wp2_with fail
  refine (l00In_any _ _ _ _).mono ?_
  rintro e w' ⟨rfl, rfl⟩
  go_wp2
  go_ret
  exact ⟨rfl, rfl⟩
set_option maxRecDepth 100000 in
set_option maxHeartbeats 2000000 in
theorem l04Asked_any (n0 b1 b2 m n : Nat) (c : Array Value) (r : Rf) (g f : Nat → Int) (v1 v2 : Value) (fine : Bool) (w : World) (hr : rowAt w n0 = some c) (hR : IsRoof c r)
    (hv1 : IsList w b1 v1 1 m (fun i => .int .i64 (g i))) (hm : m ≤ 2000000) (hv2 : IsList w b2 v2 2 n (fun i => .int .i8 (f i))) (hn : n ≤ 2000000) (hf : ∀ i, i < n * 2 → -128 ≤ f i ∧ f i ≤ 127) :
    Calls Try.prog 37 #[.pointer (some ⟨n0, 0, none⟩), v1, v2, .bool fine] w fun e w' => e = .returned (.int .i64 (r.wcode g m f n fine)) ∧ Below w.heap.size w w' := by
  have HV1 := Lib.hid hv1
  have HV2 := Lib.hid hv2
  have HF := Lib.hid hf
  have HR := Lib.hid hr
  obtain ⟨a1, c1, rfl⟩ := hv1.shape
  obtain ⟨a2, c2, rfl⟩ := hv2.shape
  clear hv1 hv2 hf hr
  go_enter Try.func37, Try.ntmps37
  go_wp2_with fail
  go_loopw [3, 9] (fun p i W => ∃ (k : Nat) (q : Bool), k ≤ m ∧ i = .int .i64 k ∧ p = .bool q ∧ q = (fine && r.ocB g k) ∧ Below w.heap.size w W) (fun _ i _ => m - (intOf i).toNat)
  case atStart => exact ⟨0, fine, by omega, rfl, rfl, by rw [Rf.ocB_t (r.okC_zero g), Bool.and_true], Below.refl _ _⟩
  case round =>
    obtain ⟨k, q, hk, rfl, rfl, hq, hB⟩ := hrel
    have HQ := Lib.hid hq
    clear hq
    by_cases hlt : k < m
    · have hi0 : 0 ≤ (k : Int) := by omega
      have hi1 : (k : Int) < m := by omega
      cases q with
      | true =>
        obtain ⟨gg, rfl, cc⟩ := (HV1.out.below hB (Nat.le_refl _)).num hlt
        have r0 := brow hB HR.out
        have hfo : fine = true ∧ r.okC g k := by
          have := HQ.out.symm
          rw [Bool.and_eq_true] at this
          exact ⟨this.1, Rf.ocB_of this.2⟩
        by_cases hin : r.inC (g k)
        · have HK : Hid ((fine && r.ocB g (k + 1)) = true) := Lib.hid (by rw [hfo.1, Rf.ocB_t (Rf.okC_succ.2 ⟨hfo.2, hin⟩)]; rfl)
          have HI := Lib.hid hin
          clear hfo hin
          go_wp2_with fail
          refine (l04Cell_t n0 c r _ _ r0 hR HI.out).mono ?_
          rintro e w2 ⟨rfl, b2⟩
          have B2 := Lib.hid (bnext hB b2 hB.size)
          clear b2 hB cc r0
          go_wp2_with fail
          refine ⟨⟨k + 1, true, by omega, by go_num, rfl, HK.out.symm, B2.out⟩, by simp [intOf]; omega⟩
        · have HK : Hid ((fine && r.ocB g (k + 1)) = false) := Lib.hid (by rw [Rf.ocB_f (fun h => hin (Rf.okC_succ.1 h).2), Bool.and_false])
          have HI := Lib.hid hin
          clear hfo hin
          go_wp2_with fail
          refine (l04Cell_f n0 c r _ _ r0 hR HI.out).mono ?_
          rintro e w2 ⟨rfl, b2⟩
          have B2 := Lib.hid (bnext hB b2 hB.size)
          clear b2 hB cc r0
          go_wp2_with fail
          refine ⟨⟨k + 1, false, by omega, by go_num, rfl, HK.out.symm, B2.out⟩, by simp [intOf]; omega⟩
      | false =>
        have HK : Hid ((fine && r.ocB g (k + 1)) = false) := Lib.hid (by
          cases fine with
          | false => rfl
          | true =>
            have := HQ.out
            rw [Bool.true_and] at this ⊢
            refine Rf.ocB_f fun h => ?_
            rw [Rf.ocB_t (Rf.okC_succ.1 h).1] at this
            cases this)
        have HB := Lib.hid hB
        clear hB
        go_wp2_with fail
        refine ⟨⟨k + 1, false, by omega, by go_num, rfl, HK.out.symm, HB.out⟩, by simp [intOf]; omega⟩
    · obtain rfl : k = m := by omega
      have HB := Lib.hid hB
      clear hB
      go_wp2_with fail
      refine gen_world fun W1 hW1 => ?_
      have HB1 : Hid (Below w.heap.size w W1) := Lib.hid (by rw [hW1]; exact HB.out)
      clear HB hW1
      go_loopw [3, 10] (fun p i W => ∃ (j : Nat) (q' : Bool), j ≤ n ∧ i = .int .i64 j ∧ p = .bool q' ∧ q' = (q && r.okB f j) ∧ Below w.heap.size w W) (fun _ i _ => n - (intOf i).toNat)
      case atStart => exact ⟨0, q, by omega, rfl, rfl, by rw [Rf.okB_t (r.okP_zero f), Bool.and_true], HB1.out⟩
      case round =>
        obtain ⟨j, q', hj, rfl, rfl, hq', hB⟩ := hrel
        have HQ' := Lib.hid hq'
        clear hq'
        by_cases hlt : j < n
        · have hi0 : 0 ≤ (j : Int) := by omega
          have hi1 : (j : Int) < n := by omega
          cases q' with
          | true =>
            obtain ⟨gg, rfl, k0, k1⟩ := (HV2.out.below hB (Nat.le_refl _)).pl hlt
            have fb0 := HF.out (j * 2) (by omega)
            have fb1 := HF.out (j * 2 + 1) (by omega)
            have r0 := brow hB HR.out
            have hfo : q = true ∧ r.okP f j := by
              have := HQ'.out.symm
              rw [Bool.and_eq_true] at this
              exact ⟨this.1, Rf.okB_of this.2⟩
            by_cases hin : r.inP f j
            · have HK : Hid ((q && r.okB f (j + 1)) = true) := Lib.hid (by rw [hfo.1, Rf.okB_t (Rf.okP_succ.2 ⟨hfo.2, hin⟩)]; rfl)
              have HI := Lib.hid hin
              clear hfo hin
              go_wp2_with fail
              refine (l01Is_t n0 c r _ _ _ r0 hR fb0 fb1 HI.out).mono ?_
              rintro e w2 ⟨rfl, b2⟩
              have B2 := Lib.hid (bnext hB b2 hB.size)
              clear b2 hB k0 k1 r0
              go_wp2_with fail
              refine ⟨⟨j + 1, true, by omega, by go_num, rfl, HK.out.symm, B2.out⟩, by simp [intOf]; omega⟩
            · have HK : Hid ((q && r.okB f (j + 1)) = false) := Lib.hid (by rw [Rf.okB_f (fun h => hin (Rf.okP_succ.1 h).2), Bool.and_false])
              have HI := Lib.hid hin
              clear hfo hin
              go_wp2_with fail
              refine (l01Is_f n0 c r _ _ _ r0 hR fb0 fb1 HI.out).mono ?_
              rintro e w2 ⟨rfl, b2⟩
              have B2 := Lib.hid (bnext hB b2 hB.size)
              clear b2 hB k0 k1 r0
              go_wp2_with fail
              refine ⟨⟨j + 1, false, by omega, by go_num, rfl, HK.out.symm, B2.out⟩, by simp [intOf]; omega⟩
          | false =>
            have HK : Hid ((q && r.okB f (j + 1)) = false) := Lib.hid (by
              cases q with
              | false => rfl
              | true =>
                have := HQ'.out
                rw [Bool.true_and] at this ⊢
                refine Rf.okB_f fun h => ?_
                rw [Rf.okB_t (Rf.okP_succ.1 h).1] at this
                cases this)
            have HB := Lib.hid hB
            clear hB
            go_wp2_with fail
            refine ⟨⟨j + 1, false, by omega, by go_num, rfl, HK.out.symm, HB.out⟩, by simp [intOf]; omega⟩
        · obtain rfl : j = n := by omega
          have HB := Lib.hid hB
          have r0 := brow hB HR.out
          have HE : Hid (q' = (fine && r.ocB g k && r.okB f j)) := Lib.hid (by rw [HQ'.out, HQ.out])
          clear hB
          by_cases ht : r.told q' = 0
          · have h0 : (r.told q' == 0) = true := by simp [ht]
            have HT := Lib.hid ht
            clear ht
            by_cases hm8 : (8 : Int) < k
            · have HC : Hid (r.wcode g k f j fine = 3) := Lib.hid (Rf.wcode_many (by rw [← HE.out]; exact HT.out) (by omega))
              go_wp2_with fail
              refine (l01Told_any n0 c r q' _ r0 hR).mono ?_
              rintro e w2 ⟨rfl, b2⟩
              have B2 := Lib.hid (bnext HB.out b2 HB.out.size)
              clear b2 r0
              go_wp2_with fail
              go_ret
              exact ⟨by rw [HC.out]; rfl, B2.out⟩
            · by_cases hn8 : (8 : Int) < j
              · have HC : Hid (r.wcode g k f j fine = 3) := Lib.hid (Rf.wcode_many (by rw [← HE.out]; exact HT.out) (by omega))
                go_wp2_with fail
                refine (l01Told_any n0 c r q' _ r0 hR).mono ?_
                rintro e w2 ⟨rfl, b2⟩
                have B2 := Lib.hid (bnext HB.out b2 HB.out.size)
                clear b2 r0
                go_wp2_with fail
                go_ret
                exact ⟨by rw [HC.out]; rfl, B2.out⟩
              · have HC : Hid (r.wcode g k f j fine = 0) := Lib.hid (Rf.wcode_in (by rw [← HE.out]; exact HT.out) (by omega) (by omega))
                go_wp2_with fail
                refine (l01Told_any n0 c r q' _ r0 hR).mono ?_
                rintro e w2 ⟨rfl, b2⟩
                have B2 := Lib.hid (bnext HB.out b2 HB.out.size)
                clear b2 r0
                go_wp2_with fail
                go_ret
                exact ⟨(show Ending.returned (.int .i64 (r.told q')) = _ by rw [HT.out, HC.out]), B2.out⟩
          · have h0 : (r.told q' == 0) = false := by simp [ht]
            have HC : Hid (r.wcode g k f j fine = r.told q') := Lib.hid (by rw [HE.out] at ht ⊢; exact Rf.wcode_told ht)
            clear ht
            go_wp2_with fail
            refine (l01Told_any n0 c r q' _ r0 hR).mono ?_
            rintro e w2 ⟨rfl, b2⟩
            have B2 := Lib.hid (bnext HB.out b2 HB.out.size)
            clear b2 r0
            go_wp2_with fail
            go_ret
            exact ⟨(show Ending.returned (.int .i64 (r.told q')) = _ by rw [HC.out]), B2.out⟩
end Go.Proofs.Ytcdddngdjhjdbaa
