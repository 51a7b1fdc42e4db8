/- Arrays of integers as functions. Nothing here names a program. -/
import Derived.Test.YtppohghejhcilaaDoorAgg
namespace Go.Proofs.YtppohghejhcilaaDoor
open Go.RowKit

/-- The cells of an array of n integers of a kind. -/
structure IsK (k : IntKind) (c : Array Value) (n : Nat) (t : Nat → Int) : Prop where
  size : c.size = n
  cell : ∀ i (h : i < c.size), c[i] = .int k (t i)

theorem IsK.get {k : IntKind} {c : Array Value} {n : Nat} {t : Nat → Int} (h : IsK k c n t) {i : Nat} (hi : i < n) : c[i]? = some (.int k (t i)) := by
  rw [Array.getElem?_eq_getElem (by have := h.size; omega), h.cell]
theorem IsK.of_get {k : IntKind} {c : Array Value} {n : Nat} {t : Nat → Int} (hs : c.size = n) (h : ∀ i, i < n → c[i]? = some (.int k (t i))) : IsK k c n t :=
  ⟨hs, fun i hi => by have := h i (by omega); rw [Array.getElem?_eq_getElem hi] at this; exact Option.some.inj this⟩
theorem IsK.ones {k : IntKind} {c : Array Value} {n : Nat} {t : Nat → Int} (h : IsK k c n t) : Ones c :=
  Ones.of_get fun i hi => by rw [h.cell i hi]; rfl
theorem IsK.congr {k : IntKind} {c : Array Value} {n : Nat} {t s : Nat → Int} (h : IsK k c n t) (e : ∀ i, i < n → t i = s i) : IsK k c n s :=
  IsK.of_get h.size fun i hi => by rw [h.get hi, e i hi]
theorem IsK.extract {k : IntKind} {c : Array Value} {n : Nat} {t : Nat → Int} (h : IsK k c n t) (a m : Nat) (ha : a + m ≤ n) : IsK k (c.extract a (a + m)) m fun i => t (a + i) where
  size := by have := h.size; simp; omega
  cell i hi := by rw [Array.getElem_extract]; exact h.cell _ _
theorem IsK.unique {k : IntKind} {c e : Array Value} {n : Nat} {t : Nat → Int} (h : IsK k c n t) (g : IsK k e n t) : c = e := by
  apply Array.ext_getElem?; intro i
  by_cases hi : i < n
  · rw [h.get hi, g.get hi]
  · rw [Array.getElem?_eq_none (by have := h.size; omega), Array.getElem?_eq_none (by have := g.size; omega)]

/-- The array of n integers that a function gives. -/
def mkI (k : IntKind) (n : Nat) (t : Nat → Int) : Array Value := ((List.range n).map fun i => Value.int k (t i)).toArray
@[simp, go_sem] theorem size_mkI (k : IntKind) (n : Nat) (t : Nat → Int) : (mkI k n t).size = n := by simp [mkI]
theorem isK_mkI (k : IntKind) (n : Nat) (t : Nat → Int) : IsK k (mkI k n t) n t :=
  ⟨size_mkI k n t, fun i hi => by simp [mkI]⟩
theorem IsK.eq {k : IntKind} {c : Array Value} {n : Nat} {t : Nat → Int} (h : IsK k c n t) : c = mkI k n t := h.unique (isK_mkI k n t)
theorem mkI_congr {k : IntKind} {n : Nat} {t s : Nat → Int} (h : ∀ i, i < n → t i = s i) : mkI k n t = mkI k n s := ((isK_mkI k n t).congr h).eq

/-- t with x at place j. -/
def upd (t : Nat → Int) (j : Nat) (x : Int) : Nat → Int := fun i => if i = j then x else t i
theorem upd_at (t : Nat → Int) (j : Nat) (x : Int) : upd t j x j = x := if_pos rfl
theorem upd_ne (t : Nat → Int) {j i : Nat} (x : Int) (h : i ≠ j) : upd t j x i = t i := if_neg h
theorem IsK.set {k : IntKind} {c : Array Value} {n : Nat} {t : Nat → Int} (h : IsK k c n t) (j : Nat) (x : Int) : IsK k (c.setIfInBounds j (.int k x)) n (upd t j x) :=
  IsK.of_get (by simp [h.size]) fun i hi => by
    by_cases hij : i = j
    · subst hij; rw [Array.getElem?_setIfInBounds_self_of_lt (by have := h.size; omega), upd_at]
    · rw [Array.getElem?_setIfInBounds_ne (Ne.symm hij), upd_ne _ _ hij, h.get hi]

/-- The world under a name. -/
theorem gen_world {P : Program} {c : Code} {Q : Exit → Act → World → Prop} {a : Act} {w : World} (h : ∀ W, W = w → c.wp P Q a W) : c.wp P Q a w := h w rfl
theorem gen_list {P : Program} {ops : Array Oper} {l : List Oper} {Q : Exit → Act → World → Prop} {a : Act} {w : World} (h : ∀ W, W = w → wpList P ops Q l a W) : wpList P ops Q l a w := h w rfl

/-- The sum of the first n. -/
def sumTo (t : Nat → Int) : Nat → Int
  | 0 => 0
  | n + 1 => sumTo t n + t n
theorem sumTo_bd {t : Nat → Int} {B : Int} : ∀ {n : Nat}, (∀ i, i < n → 0 ≤ t i ∧ t i ≤ B) → 0 ≤ sumTo t n ∧ sumTo t n ≤ n * B
  | 0, _ => by simp [sumTo]
  | n + 1, h => by
    have h1 := sumTo_bd (n := n) fun i hi => h i (by omega)
    have h2 := h n (by omega)
    have h3 : ((n + 1 : Nat) : Int) * B = n * B + B := by rw [Int.natCast_add, Int.add_mul]; simp
    show 0 ≤ sumTo t n + t n ∧ sumTo t n + t n ≤ _
    omega
theorem sumTo_congr {t s : Nat → Int} : ∀ {n : Nat}, (∀ i, i < n → t i = s i) → sumTo t n = sumTo s n
  | 0, _ => rfl
  | n + 1, h => by
    show sumTo t n + t n = sumTo s n + s n
    rw [sumTo_congr (n := n) fun i hi => h i (by omega), h n (by omega)]
end Go.Proofs.YtppohghejhcilaaDoor
