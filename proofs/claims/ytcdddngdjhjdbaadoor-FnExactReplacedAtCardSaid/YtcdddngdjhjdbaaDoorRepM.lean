/- Tiles replaced at visits: mathematics. -/
import Derived.Test.YtcdddngdjhjdbaaDoorLatM
import Derived.Test.YtcdddngdjhjdbaaDoorTooO
namespace Go.Proofs.YtcdddngdjhjdbaaDoor
open Go.RowKit

/-- When the tile at cell i was made new, seen from the visit k. -/
def madeK (t vis : Nat → Int) (y : Int) : Nat → Nat → Int
  | 0, i => - t i
  | k + 1, i => if y < vis (k + 1) - madeK t vis y k i then vis k else madeK t vis y k i
/-- The ages ahead of the visit k. -/
def ageK (h w : Nat) (t vis : Nat → Int) (y : Int) (k i : Nat) : Int := if i / 8 < h ∧ i % 8 < w then vis k - madeK t vis y k i else t i
def dueK (t vis : Nat → Int) (y : Int) (k i j : Nat) : Bool := decide (y < vis (k + 1) - madeK t vis y k (i * 8 + j))
theorem ix_parts {h w : Nat} (w8 : w ≤ 8) (x : Pl h w) : ixP x / 8 = x.1.1 ∧ ixP x % 8 = x.1.2 := by
  have := x.2.2
  unfold ixP
  omega
theorem ix_flt {h w i : Nat} {p : Nat → Nat → Bool} (w8 : w ≤ 8) : (∃ x ∈ fltW p (plUpto h w (h * w)), ixP x = i) ↔ (i / 8 < h ∧ i % 8 < w) ∧ p (i / 8) (i % 8) = true := by
  constructor
  · rintro ⟨x, hx, rfl⟩
    obtain ⟨h1, h2⟩ := List.mem_filter.1 hx
    refine ⟨(ix_all w8).1 ⟨x, h1, rfl⟩, ?_⟩
    rw [(ix_parts w8 x).1, (ix_parts w8 x).2]
    exact h2
  · rintro ⟨h1, h2⟩
    obtain ⟨x, hx, e⟩ := (ix_all w8).2 h1
    refine ⟨x, List.mem_filter.2 ⟨hx, ?_⟩, e⟩
    have := ix_parts w8 x
    rw [e] at this
    rw [← this.1, ← this.2]
    exact h2
theorem due_old {h w : Nat} {t vis : Nat → Int} {y : Int} {k : Nat} (w8 : w ≤ 8) : fltW (oldB (ageK h w t vis y k) (y - (vis (k + 1) - vis k))) (plUpto h w (h * w)) = fltW (dueK t vis y k) (plUpto h w (h * w)) := by
  unfold fltW
  refine List.filter_congr fun x _ => ?_
  have h1 := x.2.1
  have h2 := x.2.2
  unfold oldB dueK ageK
  rw [if_pos (show (x.1.1 * 8 + x.1.2) / 8 < h ∧ (x.1.1 * 8 + x.1.2) % 8 < w by omega)]
  exact decide_eq_decide.2 (by omega)
theorem age_zero {h w : Nat} {t vis : Nat → Int} {y : Int} (w8 : w ≤ 8) : setL (fun i => t i + vis 0) t (plUpto h w (h * w)) = ageK h w t vis y 0 := by
  funext i
  unfold ageK
  by_cases hg : i / 8 < h ∧ i % 8 < w
  · rw [if_pos hg, setL_in _ _ ((ix_all w8).2 hg)]
    simp only [madeK]
    omega
  · rw [if_neg hg, setL_out _ _ (fun hx => hg ((ix_all w8).1 hx))]
theorem age_next {h w : Nat} {t vis : Nat → Int} {y : Int} {k : Nat} (w8 : w ≤ 8) (g : Nat → Int) (hg : g = setL (fun _ => 0) (ageK h w t vis y k) (fltW (dueK t vis y k) (plUpto h w (h * w)))) :
    setL (fun i => g i + (vis (k + 1) - vis k)) g (plUpto h w (h * w)) = ageK h w t vis y (k + 1) := by
  funext i
  have e : i / 8 * 8 + i % 8 = i := by omega
  by_cases hi : i / 8 < h ∧ i % 8 < w
  · rw [setL_in _ _ ((ix_all w8).2 hi), hg]
    unfold ageK
    rw [if_pos hi]
    simp only [madeK]
    by_cases hd : y < vis (k + 1) - madeK t vis y k i
    · rw [setL_in _ _ ((ix_flt w8).2 ⟨hi, by unfold dueK; rw [e]; exact decide_eq_true hd⟩), if_pos hd]; omega
    · rw [setL_out _ _ (fun hx => hd (by have := ((ix_flt w8).1 hx).2; unfold dueK at this; rw [e] at this; exact of_decide_eq_true this)), if_neg hd, if_pos hi]; omega
  · rw [setL_out _ _ (fun hx => hi ((ix_all w8).1 hx)), hg, setL_out _ _ (fun hx => hi ((ix_flt w8).1 hx).1)]
    unfold ageK
    rw [if_neg hi, if_neg hi]
/-- No tile is too old between visits. -/
theorem age_bd {h w : Nat} {t vis : Nat → Int} {y : Int} {N : Nat} (ht : ∀ i, i / 8 < h ∧ i % 8 < w → 0 ≤ t i + vis 0 ∧ t i + vis 0 ≤ y) (hv : ∀ k, k < N → 0 ≤ vis (k + 1) - vis k ∧ vis (k + 1) - vis k ≤ y) :
    ∀ k, k ≤ N → ∀ i, i / 8 < h ∧ i % 8 < w → 0 ≤ vis k - madeK t vis y k i ∧ vis k - madeK t vis y k i ≤ y
  | 0, _, i, hi => by have := ht i hi; simp only [madeK]; omega
  | k + 1, hk, i, hi => by
    have h1 := age_bd ht hv k (by omega) i hi
    have h2 := hv k (by omega)
    simp only [madeK]
    split <;> omega
end Go.Proofs.YtcdddngdjhjdbaaDoor
