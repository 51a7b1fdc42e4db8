/- Pails: contracts of both sides. -/
import Derived.Test.YtcbgdhbjopjdnaaCellS
namespace Go.Proofs.Ytcbgdhbjopjdnaa
open Go.RowKit

noncomputable def Rf.pcode (r : Rf) (t : Nat → Int) (s : Int) : Int := if r.rok t = true then (if 1 ≤ s ∧ s ≤ 10000 then 0 else 2) else 1
noncomputable def Rf.pval (r : Rf) (t : Nat → Int) (s x : Int) : Int := if r.pcode t s = 0 then x else 0
theorem Rf.pcode_t {r : Rf} {t : Nat → Int} {s : Int} (h : r.Rains t) (hs : 1 ≤ s ∧ s ≤ 10000) : r.pcode t s = 0 := by rw [Rf.pcode, if_pos (Rf.rok_true h), if_pos hs]
theorem Rf.pcode_r {r : Rf} {t : Nat → Int} {s : Int} (h : r.Rains t) (hs : ¬ (1 ≤ s ∧ s ≤ 10000)) : r.pcode t s = 2 := by rw [Rf.pcode, if_pos (Rf.rok_true h), if_neg hs]
theorem Rf.pcode_f {r : Rf} {t : Nat → Int} {s : Int} (h : ¬ r.Rains t) : r.pcode t s = 1 := by simp [Rf.pcode, Rf.rok_false h]
theorem Rf.pcode_zero {r : Rf} {t : Nat → Int} {s : Int} (h : r.pcode t s = 0) : r.Rains t ∧ 1 ≤ s ∧ s ≤ 10000 := by
  by_cases h1 : r.Rains t
  · by_cases h2 : 1 ≤ s ∧ s ≤ 10000
    · exact ⟨h1, h2⟩
    · rw [Rf.pcode_r h1 h2] at h; omega
  · rw [Rf.pcode_f h1] at h; omega

set_option maxRecDepth 100000 in
set_option maxHeartbeats 1000000 in
theorem l02Pails_any (n m : Nat) (c d : Array Value) (r : Rf) (t : Nat → Int) (s : Int) (w : World) (hr : rowAt w n = some c) (hR : IsRoof c r) (hdd : rowAt w m = some d) (hT : IsRain d t) :
    Calls Try.prog 22 #[.pointer (some ⟨n, 0, none⟩), .pointer (some ⟨m, 0, none⟩), .int .i64 s] w fun e w' => e = .returned (.int .i64 (r.pcode t s)) ∧ Below w.heap.size w w' := by
  by_cases h1 : r.Rains t
  · by_cases h2 : 1 ≤ s ∧ s ≤ 10000
    · rw [Rf.pcode_t h1 h2]
      go_enter Try.func22, Try.ntmps22
      go_wp2_with fail
      refine (l02Ok_t n m c d r t _ hr hR hdd hT h1).mono ?_
      rintro e w1 ⟨rfl, b1⟩
      go_wp2_with fail
      refine (l00In_t _ _ _ _ h2).mono ?_
      rintro e w2 ⟨rfl, rfl⟩
      go_wp2_with fail
      go_ret
      exact ⟨rfl, b1⟩
    · rw [Rf.pcode_r h1 h2]
      go_enter Try.func22, Try.ntmps22
      go_wp2_with fail
      refine (l02Ok_t n m c d r t _ hr hR hdd hT h1).mono ?_
      rintro e w1 ⟨rfl, b1⟩
      go_wp2_with fail
      refine (l00In_f _ _ _ _ h2).mono ?_
      rintro e w2 ⟨rfl, rfl⟩
      go_wp2_with fail
      go_ret
      exact ⟨rfl, b1⟩
  · rw [Rf.pcode_f h1]
    go_enter Try.func22, Try.ntmps22
    go_wp2_with fail
    refine (l02Ok_f n m c d r t _ hr hR hdd hT h1).mono ?_
    rintro e w1 ⟨rfl, b1⟩
    go_wp2_with fail
    go_ret
    exact ⟨rfl, b1⟩

set_option maxRecDepth 100000 in
set_option maxHeartbeats 1000000 in
theorem checkPail_any (c d : Array Value) (r : Rf) (t : Nat → Int) (s : Int) (w : World) (hR : IsRoof c r) (hT : IsRain d t) :
    Calls Try.prog 24 #[.agg c, .agg d, .int .i64 s] w fun e w' => e = .returned (.int .i64 (r.pcode t s)) ∧ Below w.heap.size w w' := by
  have hc := hR.size
  have hd := hT.size
  obtain ⟨p0, p1, pB⟩ := two_boxes w c d 33 35
  by_cases h1 : r.Rains t
  · by_cases h2 : 1 ≤ s
    · by_cases h3 : s ≤ 10000
      · rw [Rf.pcode_t h1 ⟨h2, h3⟩]
        go_enter Try.func24, Try.ntmps24
        go_wp2_with fail
        refine (implValidRain_t c d r t _ hR hT h1).mono ?_
        rintro e w1 ⟨rfl, b1⟩
        have B1 := bnext pB b1 pB.size
        clear b1 p0 p1 pB
        go_wp2_with fail
        go_ret
        exact ⟨rfl, B1⟩
      · rw [Rf.pcode_r h1 (by omega)]
        go_enter Try.func24, Try.ntmps24
        go_wp2_with fail
        refine (implValidRain_t c d r t _ hR hT h1).mono ?_
        rintro e w1 ⟨rfl, b1⟩
        have B1 := bnext pB b1 pB.size
        clear b1 p0 p1 pB
        go_wp2_with fail
        go_ret
        exact ⟨rfl, B1⟩
    · rw [Rf.pcode_r h1 (by omega)]
      go_enter Try.func24, Try.ntmps24
      go_wp2_with fail
      refine (implValidRain_t c d r t _ hR hT h1).mono ?_
      rintro e w1 ⟨rfl, b1⟩
      have B1 := bnext pB b1 pB.size
      clear b1 p0 p1 pB
      go_wp2_with fail
      go_ret
      exact ⟨rfl, B1⟩
  · rw [Rf.pcode_f h1]
    go_enter Try.func24, Try.ntmps24
    go_wp2_with fail
    refine (implValidRain_f c d r t _ hR hT h1).mono ?_
    rintro e w1 ⟨rfl, b1⟩
    have B1 := bnext pB b1 pB.size
    clear b1 p0 p1 pB
    go_wp2_with fail
    go_ret
    exact ⟨rfl, B1⟩

/-- How many pails one cell wants. -/
def pails (D : Nat → Int) (s : Int) (k : Nat) : Int := (colTo D k 8 + s - 1) / s
theorem pails_bd {D : Nat → Int} (hb : ∀ i, i < 136 → 0 ≤ D i ∧ D i ≤ 1000) {s : Int} (hs : 1 ≤ s) {k : Nat} (hk : k < 17) : 0 ≤ pails D s k ∧ pails D s k ≤ 8000 := by
  have h := colTo_bd hb (k := k) (n := 8) hk (by omega)
  unfold pails
  constructor
  · exact Int.ediv_nonneg (by omega) (by omega)
  · have h2 : (colTo D k 8 + s - 1) / s ≤ (8000 * s) / s := Int.ediv_le_ediv (by omega) (by
      have : 8000 * s = 8000 + 8000 * (s - 1) := by omega
      rw [this]
      have h3 : s - 1 ≤ 8000 * (s - 1) := by omega
      omega)
    rwa [Int.mul_ediv_cancel _ (by omega)] at h2

/-- The cell of a list that a loop reads. -/
theorem IsList.cell {w : World} {base n : Nat} {a : Option Addr} {cap : Nat} {f : Nat → Value} (h : IsList w base (.slice a n cap) 1 n f) {k : Nat} (hk : k < n) : ∃ g, a = some ⟨g, 0, none⟩ ∧ base ≤ g ∧ w.cell? ⟨g, k, none⟩ = some (f k) ∧ rowAt w g ≠ none := by
  rcases h with ⟨h0, _⟩ | ⟨g, cap', cur, e, hg, hr, hs, hf⟩
  · omega
  · cases e
    exact ⟨g, rfl, hg, by rw [cell_of_rowAt hr]; exact hf k (by omega), by rw [hr]; simp⟩

theorem dividedUp_p (D : Nat → Int) (s : Int) (k : Nat) (w : World) (x0 : 0 ≤ colTo D k 8) (x1 : colTo D k 8 ≤ 8000) (k0 : 1 ≤ s) (k1 : s ≤ 10000) :
    Calls Try.prog 27 #[.int .i64 (colTo D k 8), .int .i64 s] w fun e w' => e = .returned (.int .i64 (pails D s k)) ∧ w = w' :=
  dividedUp_any _ _ w x0 (by omega) k0 (by omega)

end Go.Proofs.Ytcbgdhbjopjdnaa
