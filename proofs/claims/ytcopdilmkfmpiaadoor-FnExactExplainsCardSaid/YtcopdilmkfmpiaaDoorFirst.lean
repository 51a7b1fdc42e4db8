/- The first drip: contracts of both sides. -/
import Derived.Test.YtcopdilmkfmpiaaDoorDripS
import Derived.Test.YtcopdilmkfmpiaaDoorEqRoof
namespace Go.Proofs.YtcopdilmkfmpiaaDoor
open Go.RowKit

/-- The first of the first n that is greater than 0. -/
def firstTo (D : Nat → Int) : Nat → Option Nat
  | 0 => none
  | n + 1 => match firstTo D n with
    | some i => some i
    | none => if 0 < D n then some n else none
theorem firstTo_none {D : Nat → Int} : ∀ {n : Nat}, (∀ j, j < n → D j ≤ 0) → firstTo D n = none
  | 0, _ => rfl
  | n + 1, h => by
    have h1 := firstTo_none (n := n) fun j hj => h j (by omega)
    have h2 := h n (by omega)
    simp only [firstTo, h1]
    rw [if_neg (by omega)]
theorem firstTo_at {D : Nat → Int} {i : Nat} (hp : 0 < D i) (hm : ∀ j, j < i → D j ≤ 0) : ∀ {n : Nat}, i < n → firstTo D n = some i
  | n + 1, h => by
    by_cases hi : i = n
    · subst hi
      simp only [firstTo, firstTo_none hm]
      rw [if_pos hp]
    · have h1 := firstTo_at hp hm (n := n) (by omega)
      simp only [firstTo, h1]
def firstI (D : Nat → Int) : Nat := (firstTo D 136).getD 136
theorem firstI_at {D : Nat → Int} {i : Nat} (hi : i < 136) (hp : 0 < D i) (hm : ∀ j, j < i → D j ≤ 0) : firstI D = i := by
  unfold firstI; rw [firstTo_at hp hm hi]; rfl
theorem firstI_none {D : Nat → Int} (hm : ∀ j, j < 136 → D j ≤ 0) : firstI D = 136 := by
  unfold firstI; rw [firstTo_none hm]; rfl

noncomputable def Rf.fdc (r : Rf) (t : Nat → Int) : Int := if r.rok t = true then (if firstI (r.drips t) < 136 then 0 else 6) else 1
noncomputable def Rf.fdv (r : Rf) (t : Nat → Int) (x : Int) : Int := if r.fdc t = 0 then x else 0
theorem Rf.fdc_f {r : Rf} {t : Nat → Int} (h : ¬ r.Rains t) : r.fdc t = 1 := by simp [Rf.fdc, Rf.rok_false h]
/-- The answer, if i is the first. -/
def FdIs (r : Rf) (t : Nat → Int) (a b c : Int) : Prop := (Ending.returned (.tuple #[.int .i64 a, .int .i64 b, .int .i64 c])) = .returned (.tuple #[.int .i64 (r.fdv t ((firstI (r.drips t) / 17 : Nat) : Int)), .int .i64 (r.fdv t ((firstI (r.drips t) % 17 : Nat) : Int)), .int .i64 (r.fdc t)])
theorem FdIs.at {r : Rf} {t : Nat → Int} (h : r.Rains t) {c k : Nat} (hc : c < 8) (hk : k < 17) (hp : 0 < r.drips t (c * 17 + k)) (hm : ∀ j, j < c * 17 + k → r.drips t j ≤ 0) : FdIs r t c k 0 := by
  have h1 := firstI_at (by omega) hp hm
  have h2 : r.fdc t = 0 := by rw [Rf.fdc, if_pos (Rf.rok_true h), h1, if_pos (by omega)]
  unfold FdIs
  rw [Rf.fdv, Rf.fdv, if_pos h2, if_pos h2, h1, h2, show (c * 17 + k) / 17 = c from by omega, show (c * 17 + k) % 17 = k from by omega]
theorem FdIs.none {r : Rf} {t : Nat → Int} (h : r.Rains t) (hm : ∀ j, j < 136 → r.drips t j ≤ 0) : FdIs r t 0 0 6 := by
  have h1 := firstI_none hm
  have h2 : r.fdc t = 6 := by rw [Rf.fdc, if_pos (Rf.rok_true h), h1, if_neg (by omega)]
  unfold FdIs
  rw [Rf.fdv, Rf.fdv, if_neg (by omega), if_neg (by omega), h2]

open Classical in
theorem run_eq_drips (x y : Array Value) (f g : Nat → Int) (hx : IsK .i32 x 136 f) (hy : IsK .i32 y 136 g) (w : World) : ∃ b : Bool, (Op.equalIn 10000 48 (.agg x) (.agg y)).run Tryd.prog w = .ok b w ∧ (b = true ↔ ∀ i, i < 136 → f i = g i) := by
  refine ⟨_, run_equalIn_arr Tryd.underlying48 (sz := 17) (by kernel_rfl) 9999 x y w (fun i => decide (∀ j, j < 17 → f (i * 17 + j) = g (i * 17 + j))) ?_, ?_⟩
  · intro i hi
    refine ⟨_, _, run_part_agg Tryd.underlying46 rfl (sz := 17) (by kernel_rfl) x (i * 17) w, run_part_agg Tryd.underlying46 rfl (sz := 17) (by kernel_rfl) y (i * 17) w, ?_⟩
    have h1 := hx.extract (i * 17) 17 (by omega)
    have h2 := hy.extract (i * 17) 17 (by omega)
    rw [run_equalIn_ints Tryd.underlying46 Tryd.underlying21 (by kernel_rfl) _ _ (fun j => f (i * 17 + j)) (fun j => g (i * 17 + j)) (fun j hj => h1.get hj) (fun j hj => h2.get hj) 9997 w]
    congr 1
    rw [Bool.eq_iff_iff]; simp
  · simp only [decide_eq_true_eq]
    constructor
    · intro h j hj
      have := h (j / 17) (by omega) (j % 17) (by omega)
      rwa [show j / 17 * 17 + j % 17 = j from by omega] at this
    · intro h i hi j hj
      exact h _ (by omega)

/-- What first returns. -/
def FirstEnd (D : Nat → Int) (w : World) (e : Ending) (w' : World) : Prop := ∃ c k : Nat, c < 8 ∧ k < 17 ∧ 0 < D (c * 17 + k) ∧ (∀ j, j < c * 17 + k → D j ≤ 0) ∧ e = .returned (.tuple #[.int .i64 c, .int .i64 k]) ∧ Below w.heap.size w w'

end Go.Proofs.YtcopdilmkfmpiaaDoor
