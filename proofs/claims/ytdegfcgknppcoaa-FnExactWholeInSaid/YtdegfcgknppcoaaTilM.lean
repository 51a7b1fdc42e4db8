/- Tiles of a course, and the pieces that are laid of them. Mathematics. -/
import Derived.Test.YtdegfcgknppcoaaShpV
import Derived.Laws.AppendOwn
import Derived.Below
namespace Go.Proofs.Ytdegfcgknppcoaa
open Go.RowKit

/-- Where tile i begins, tiles being counted from the first one that can be. -/
def tlA (h : Int) (i : Nat) : Int := h - 8 + 8 * (i : Int)
/-- From where to where it is laid. -/
def tlF (L h : Int) (i : Nat) : Int := if tlA h i < L then L else tlA h i
def tlT (R h : Int) (i : Nat) : Int := if R < tlA h i + 8 then R else tlA h i + 8
def tlE (L R h : Int) (i : Nat) : Bool := decide (tlT R h i ≤ tlF L h i)
def tlW (L R h : Int) (i : Nat) : Bool := decide (L ≤ tlA h i ∧ tlA h i + 8 ≤ R)
def tlH (L R h : Int) (i : Nat) : Int := if L ≤ tlA h i then 0 else if tlA h i + 8 ≤ R then 1 else 2
def tlP (L R h : Int) (i : Nat) : Int × Int := (tlH L R h i, tlT R h i - tlF L h i)
/-- The pieces of the first k tiles, and how many of them are laid whole. -/
def pcsTo (L R h : Int) : Nat → List (Int × Int)
  | 0 => []
  | i + 1 => pcsTo L R h i ++ (if tlE L R h i || tlW L R h i then [] else [tlP L R h i])
def whoTo (L R h : Int) : Nat → Int
  | 0 => 0
  | i + 1 => whoTo L R h i + (if !tlE L R h i && tlW L R h i then 1 else 0)
/-- How many tiles begin ahead of R; the first one that reaches further than L. -/
def tlN (R h : Int) : Nat := ((R - h + 15) / 8).toNat
def tlI (L h : Int) : Nat := ((L - h + 8) / 8).toNat
/-- A course as valid shapes have it. -/
structure LaidOk (L R h : Int) : Prop where
  lo : 0 ≤ L
  lr : L < R
  hi : R ≤ 200
  sh : h = 0 ∨ h = 4
section
variable {L R h : Int} (o : LaidOk L R h)
theorem tlN_lt {i : Nat} (o : LaidOk L R h) : i < tlN R h ↔ tlA h i < R := by
  have := o.lo; have := o.lr; have := o.sh
  unfold tlN tlA; omega
theorem tlN_le (o : LaidOk L R h) : tlN R h ≤ 26 := by
  have := o.hi; have := o.sh
  unfold tlN; omega
theorem tlI_at (o : LaidOk L R h) : tlA h (tlI L h) ≤ L ∧ L < tlA h (tlI L h) + 8 := by
  have := o.lo; have := o.sh
  unfold tlI tlA; omega
theorem tlI_le (o : LaidOk L R h) : tlI L h ≤ tlN R h := by
  have := o.lo; have := o.lr; have := o.sh
  unfold tlI tlN; omega
theorem tlE_skip (o : LaidOk L R h) {i : Nat} (hi : i < tlI L h) : tlE L R h i = true := by
  have := tlI_at o
  unfold tlE tlT tlF tlA at *
  simp only [decide_eq_true_eq]
  split <;> split <;> omega
theorem tlE_full (o : LaidOk L R h) {i : Nat} (h1 : tlI L h ≤ i) (h2 : i < tlN R h) : tlE L R h i = false := by
  have := tlI_at o
  have h3 := (tlN_lt o).1 h2
  have := o.lr
  unfold tlE tlT tlF tlA at *
  simp only [decide_eq_false_iff_not]
  split <;> split <;> omega
theorem pcsTo_skip (o : LaidOk L R h) : ∀ k, k ≤ tlI L h → pcsTo L R h k = []
  | 0, _ => rfl
  | k + 1, hk => by rw [pcsTo, pcsTo_skip o k (by omega), tlE_skip o (by omega)]; rfl
theorem whoTo_skip (o : LaidOk L R h) : ∀ k, k ≤ tlI L h → whoTo L R h k = 0
  | 0, _ => rfl
  | k + 1, hk => by rw [whoTo, whoTo_skip o k (by omega), tlE_skip o (by omega)]; rfl
theorem tlP_bd (o : LaidOk L R h) {i : Nat} (he : tlE L R h i = false) (hw : tlW L R h i = false) : (0 ≤ tlH L R h i ∧ tlH L R h i ≤ 2) ∧ 1 ≤ tlT R h i - tlF L h i ∧ tlT R h i - tlF L h i ≤ 7 := by
  unfold tlE tlW tlH tlT tlF at *
  simp only [decide_eq_false_iff_not] at he hw
  have := o.lr
  refine ⟨?_, ?_⟩
  · split
    · omega
    · split <;> omega
  · revert he
    split <;> split <;> omega
end
theorem pcsTo_len (L R h : Int) : ∀ k, (pcsTo L R h k).length ≤ k
  | 0 => Nat.le_refl _
  | k + 1 => by
    have := pcsTo_len L R h k
    simp only [pcsTo, List.length_append]
    split <;> simp <;> omega
theorem whoTo_bd (L R h : Int) : ∀ k : Nat, 0 ≤ whoTo L R h k ∧ whoTo L R h k ≤ k
  | 0 => by simp [whoTo]
  | k + 1 => by
    have := whoTo_bd L R h k
    simp only [whoTo]
    split <;> omega
/-- Cells of pieces. -/
def pcCells (l : List (Int × Int)) : List Value := l.flatMap fun p => [.int .i8 p.1, .int .i8 p.2]
def pcAt (l : List (Int × Int)) (i : Nat) : Int := match l[i / 2]? with | some p => if i % 2 = 0 then p.1 else p.2 | none => 0
theorem pcCells_len (l : List (Int × Int)) : (pcCells l).length = l.length * 2 := by
  induction l with
  | nil => rfl
  | cons x l ih => simp only [pcCells, List.flatMap_cons, List.length_append, List.length_cons, List.length_nil] at *; omega
theorem pcCells_at : ∀ (l : List (Int × Int)) (i : Nat), i < l.length * 2 → (pcCells l)[i]? = some (.int .i8 (pcAt l i))
  | [], i, hi => by simp at hi
  | x :: l, 0, _ => by simp [pcCells, pcAt]
  | x :: l, 1, _ => by simp [pcCells, pcAt]
  | x :: l, i + 2, hi => by
    have := pcCells_at l i (by simp at hi; omega)
    have e1 : (i + 2) / 2 = i / 2 + 1 := by omega
    have e2 : (i + 2) % 2 = i % 2 := by omega
    simp only [pcCells, List.flatMap_cons, pcAt, e1, e2, List.getElem?_cons_succ] at *
    simpa using this
theorem pcCells_snoc (l : List (Int × Int)) (x : Int × Int) : pcCells (l ++ [x]) = pcCells l ++ [.int .i8 x.1, .int .i8 x.2] := by simp [pcCells]
theorem pcCells_app (l k : List (Int × Int)) : pcCells (l ++ k) = pcCells l ++ pcCells k := by simp [pcCells]
theorem IsList.of_pcs {w : World} {base : Nat} {e : TypeId} {v : Value} {l : List (Int × Int)} (o : w.ownsRow base e 2 v l.length (pcCells l)) : IsList w base v 2 l.length (fun i => .int .i8 (pcAt l i)) := by
  obtain ⟨hl, h | ⟨g, cap, cur, rfl, hg, hh, hn, hm, hs, ht⟩⟩ := o
  · exact .inl ⟨h.2, none, 0, by rw [h.1]⟩
  · refine .inr ⟨g, cap, cur, rfl, hg, rowAt_of_heap hh, ?_, fun i hi => ?_⟩
    · rw [hs]; exact Nat.mul_le_mul_right 2 hn
    · have h1 : cur[i]? = (cur.toList.take (l.length * 2))[i]? := by rw [List.getElem?_take, if_pos hi, Array.getElem?_toList]
      rw [h1, ht]
      exact pcCells_at l i hi
/-- Pieces as an answer. -/
def GivesPcs (w : World) (l : List (Int × Int)) (e : Ending) (w' : World) : Prop :=
  ∃ v, e = .returned v ∧ IsList w' w.heap.size v 2 l.length (fun i => .int .i8 (pcAt l i)) ∧ Below w.heap.size w w'
theorem A_infoPcs : (Try.prog.info? 92).map (fun i => (i.zero, i.size, i.bytes)) = some (some (.agg #[.int .i8 0, .int .i8 0]), 2, 2) := by kernel_rfl
end Go.Proofs.Ytdegfcgknppcoaa
