/- Roofs as plain mathematics: what their cells are, and when they are valid. -/
import Derived.Test.YtppohghejhcilaaDoorAgg
namespace Go.Proofs.YtppohghejhcilaaDoor
open Go.RowKit

structure Rf where
  w : Int
  h : Int
  s : Int
  t : Nat → Int

/-- The bytes of an array of n cells. -/
structure IsU8 (c : Array Value) (n : Nat) (t : Nat → Int) : Prop where
  size : c.size = n
  cell : ∀ i (h : i < c.size), c[i] = .int .u8 (t i)
  lo : ∀ i, i < n → 0 ≤ t i
  hi : ∀ i, i < n → t i ≤ 255

theorem IsU8.ones {c : Array Value} {n : Nat} {t : Nat → Int} (h : IsU8 c n t) : Ones c :=
  Ones.of_get fun i hi => by rw [h.cell i hi]; rfl

theorem IsU8.extract {c : Array Value} {n : Nat} {t : Nat → Int} (h : IsU8 c n t) (a m : Nat) (ha : a + m ≤ n) : IsU8 (c.extract a (a + m)) m fun i => t (a + i) where
  size := by have := h.size; simp; omega
  cell i hi := by rw [Array.getElem_extract]; exact h.cell _ _
  lo i hi := h.lo _ (by omega)
  hi i hi := h.hi _ (by omega)

structure IsRoof (c : Array Value) (r : Rf) : Prop where
  size : c.size = 67
  wide : ∀ h : 0 < c.size, c[0] = .int .i8 r.w
  high : ∀ h : 1 < c.size, c[1] = .int .i8 r.h
  shift : ∀ h : 2 < c.size, c[2] = .int .u8 r.s
  tiles : IsU8 (c.extract 3 67) 64 r.t
  w0 : -128 ≤ r.w
  w1 : r.w ≤ 127
  h0 : -128 ≤ r.h
  h1 : r.h ≤ 127
  s0 : 0 ≤ r.s
  s1 : r.s ≤ 255

theorem IsRoof.tile {c : Array Value} {r : Rf} (h : IsRoof c r) (i : Nat) (hi : i < c.size) (h3 : 3 ≤ i) : c[i] = .int .u8 (r.t (i - 3)) := by
  have hs := h.size
  have := h.tiles.cell (i - 3) (by simp; omega)
  rw [Array.getElem_extract] at this
  rw [← this]
  congr 1; omega

theorem IsRoof.ones {c : Array Value} {r : Rf} (h : IsRoof c r) : Ones c :=
  Ones.of_get fun i hi => by
    by_cases h3 : 3 ≤ i
    · rw [h.tile i hi h3]; rfl
    · have : i = 0 ∨ i = 1 ∨ i = 2 := by omega
      rcases this with rfl | rfl | rfl
      · rw [h.wide hi]; rfl
      · rw [h.high hi]; rfl
      · rw [h.shift hi]; rfl

theorem IsRoof.view {c : Array Value} {r : Rf} (h : IsRoof c r) : c.size = 67 ∧ (∀ h : 0 < c.size, c[0] = .int .i8 r.w) ∧ (∀ h : 1 < c.size, c[1] = .int .i8 r.h) ∧ (∀ h : 2 < c.size, c[2] = .int .u8 r.s) ∧
    -128 ≤ r.w ∧ r.w ≤ 127 ∧ -128 ≤ r.h ∧ r.h ≤ 127 ∧ 0 ≤ r.s ∧ r.s ≤ 255 := ⟨h.size, h.wide, h.high, h.shift, h.w0, h.w1, h.h0, h.h1, h.s0, h.s1⟩

/-- A row of tiles of a roof. -/
theorem IsRoof.row {c : Array Value} {r : Rf} (h : IsRoof c r) (k : Nat) (hk : k < 8) : IsU8 (c.extract (3 + k * 8) (3 + k * 8 + 8)) 8 fun j => r.t (k * 8 + j) where
  size := by have := h.size; simp; omega
  cell i hi := by
    have hs := h.size
    have hi8 : i < 8 := by simp at hi; omega
    rw [Array.getElem_extract, h.tile _ _ (by omega), show 3 + k * 8 + i - 3 = k * 8 + i from by omega]
  lo i hi := h.tiles.lo _ (by omega)
  hi i hi := h.tiles.hi _ (by omega)

/-- A tile is as a valid roof has it. -/
def Rf.fine (r : Rf) (i : Nat) : Prop := r.t i ≤ 3 ∧ (((i / 8 : Nat) : Int) < r.h ∧ ((i % 8 : Nat) : Int) < r.w ∨ r.t i = 0)
def Rf.Ok (r : Rf) : Prop := 1 ≤ r.w ∧ r.w ≤ 8 ∧ 1 ≤ r.h ∧ r.h ≤ 8 ∧ r.s ≤ 1 ∧ ∀ i, i < 64 → r.fine i
open Classical in
noncomputable def Rf.ok (r : Rf) : Bool := decide r.Ok
theorem Rf.ok_true {r : Rf} (h : r.Ok) : r.ok = true := by simp [Rf.ok, h]
theorem Rf.ok_false {r : Rf} (h : ¬ r.Ok) : r.ok = false := by simp [Rf.ok, h]
theorem Rf.Ok_of {r : Rf} (h : r.ok = true) : r.Ok := by simpa [Rf.ok] using h
theorem Rf.not_of {r : Rf} (h : r.ok = false) : ¬ r.Ok := by simpa [Rf.ok] using h
end Go.Proofs.YtppohghejhcilaaDoor
