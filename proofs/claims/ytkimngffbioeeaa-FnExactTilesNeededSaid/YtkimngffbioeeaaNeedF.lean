/- TilesNeeded: its mathematics; the model's side; the program's contract. -/
import Derived.Test.YtkimngffbioeeaaNeedI
import Derived.Test.YtkimngffbioeeaaLadF
import Derived.Test.YtkimngffbioeeaaWrong
namespace Go.Proofs.Ytkimngffbioeeaa
open Go.RowKit

theorem plAt_get {H V : Nat} {l : List (Pl H V)} {k : Nat} (hk : k < l.length) : plAt l (k * 2) = ((l[k]).1.1 : Int) ∧ plAt l (k * 2 + 1) = ((l[k]).1.2 : Int) := by
  unfold plAt
  rw [show k * 2 / 2 = k by omega, show (k * 2 + 1) / 2 = k by omega, List.getElem?_eq_getElem hk]
  simp
theorem take_snoc {α : Type} {l : List α} {k : Nat} (hk : k < l.length) : l.take (k + 1) = l.take k ++ [l[k]] := by
  rw [List.take_add_one, List.getElem?_eq_getElem hk]; rfl
theorem kpt_count {H V : Nat} (p : Int → Int → Bool) (l : List (Pl H V)) : ∀ k, k ≤ l.length → (kpt p (plAt l) k).1 = ((l.take k).filter fun x => !(p x.1.1 x.1.2)).length
  | 0, _ => rfl
  | k + 1, h => by
    have ih := kpt_count p l k (by omega)
    obtain ⟨e0, e1⟩ := plAt_get (l := l) (k := k) (by omega)
    rw [take_snoc (by omega), List.filter_append, List.length_append, ← ih]
    cases hp : p ((l[k]).1.1) ((l[k]).1.2) with
    | true => rw [kpt_del (by rw [e0, e1]; exact hp)]; simp [hp]
    | false => rw [kpt_keep (by rw [e0, e1]; exact hp)]; simp [hp]
/-- Of the first k places those of which q holds. -/
def cntL {H V : Nat} (q : Nat → Nat → Bool) (l : List (Pl H V)) (k : Nat) : Nat := ((l.take k).filter fun x => q x.1.1 x.1.2).length
theorem cntL_succ {H V : Nat} {q : Nat → Nat → Bool} {l : List (Pl H V)} {k : Nat} (hk : k < l.length) : cntL q l (k + 1) = cntL q l k + (if q (l[k]).1.1 (l[k]).1.2 then 1 else 0) := by
  unfold cntL
  rw [take_snoc hk, List.filter_append, List.length_append]
  cases h : q (l[k]).1.1 (l[k]).1.2 <;> simp [h]
theorem cntL_le {H V : Nat} (q : Nat → Nat → Bool) (l : List (Pl H V)) (k : Nat) : cntL q l k ≤ k := by
  unfold cntL
  have h1 := List.length_filter_le (fun x : Pl H V => q x.1.1 x.1.2) (l.take k)
  have h2 : (l.take k).length ≤ k := by simp; omega
  omega
/-- The kinds that need a tile. -/
def kinds2 : Nat → Int := fun q => if q = 0 then 1 else 3
/-- How many tiles are needed: what the model counts, and what the program does. -/
def Rf.needQ (r : Rf) (y : Int) (g : Nat → Int) (m : Nat) (i j : Nat) : Bool := decide (r.t (i * 8 + j) ≠ 2) && decide (0 ≤ firstI (fun q => r.can y i j (g q)) m)
def Rf.needN (r : Rf) (y : Int) (g : Nat → Int) (m : Nat) {H V : Nat} (all : List (Pl H V)) : Nat := cntL (r.needQ y g m) (r.wrongs all) (r.wrongs all).length
theorem Rf.need_eq (r : Rf) (y : Int) (g : Nat → Int) (m : Nat) {H V : Nat} (all : List (Pl H V)) (ht : ∀ i j, i < H → j < V → 0 ≤ r.t (i * 8 + j) ∧ r.t (i * 8 + j) ≤ 3) :
    (kpt (r.othB kinds2 2) (plAt (fltP (r.canL y g m) all)) (fltP (r.canL y g m) all).length).1 = r.needN y g m all := by
  rw [kpt_count _ _ _ (Nat.le_refl _), List.take_length]
  unfold Rf.needN cntL
  rw [List.take_length]
  unfold fltP Rf.wrongs
  rw [List.filter_filter, List.filter_filter]
  congr 1
  refine List.filter_congr fun x _ => ?_
  have h := ht x.1.1 x.1.2 x.2.1 x.2.2
  unfold Rf.othB Rf.needQ Rf.canL
  rw [Int.toNat_natCast, Int.toNat_natCast]
  have e : anyI (fun q => r.t (x.1.1 * 8 + x.1.2) == kinds2 q) 2 = decide (r.t (x.1.1 * 8 + x.1.2) = 1 ∨ r.t (x.1.1 * 8 + x.1.2) = 3) := by
    rw [anyI_succ, anyI_succ, anyI_zero, Bool.false_or]
    unfold kinds2
    rw [Bool.eq_iff_iff]
    simp
  rw [e]
  show _ = (decide (r.t (x.1.1 * 8 + x.1.2) ≠ 2) && anyI (fun q => r.can y x.1.1 x.1.2 (g q)) m && decide (r.t (x.1.1 * 8 + x.1.2) ≠ 0))
  cases anyI (fun q => r.can y x.1.1 x.1.2 (g q)) m
  · simp
  · generalize r.t (x.1.1 * 8 + x.1.2) = z at *
    obtain ⟨z0, z3⟩ := h
    have hz : z = 0 ∨ z = 1 ∨ z = 2 ∨ z = 3 := by omega
    rcases hz with rfl | rfl | rfl | rfl <;> decide
end Go.Proofs.Ytkimngffbioeeaa
