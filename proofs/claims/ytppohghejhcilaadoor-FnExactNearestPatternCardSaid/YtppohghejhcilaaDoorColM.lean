/- Colours: what a loop over places sets; mathematics. -/
import Derived.Test.YtppohghejhcilaaDoorAll
import Derived.Test.YtppohghejhcilaaDoorCol
namespace Go.Proofs.YtppohghejhcilaaDoor
open Go.RowKit

def updN (g : Nat → Nat) (i x : Nat) : Nat → Nat := fun j => if j = i then x else g j
/-- The bytes with the bits of those places of a list that are as told. -/
def colL (p : Nat → Nat → Bool) {h w : Nat} : List (Pl h w) → Nat → Nat :=
  fun l => l.foldl (fun g x => if p x.1.1 x.1.2 = true then updN g x.1.1 (g x.1.1 ||| 2 ^ x.1.2) else g) (fun _ => 0)
theorem colL_hit {p : Nat → Nat → Bool} {h w : Nat} {l : List (Pl h w)} {x : Pl h w} (e : p x.1.1 x.1.2 = true) : colL p (l ++ [x]) = updN (colL p l) x.1.1 (colL p l x.1.1 ||| 2 ^ x.1.2) := by
  unfold colL; rw [List.foldl_append]; simp [e]
theorem colL_miss {p : Nat → Nat → Bool} {h w : Nat} {l : List (Pl h w)} {x : Pl h w} (e : p x.1.1 x.1.2 = false) : colL p (l ++ [x]) = colL p l := by
  unfold colL; rw [List.foldl_append]; simp [e]
theorem rev_ind {α : Type} {P : List α → Prop} (h0 : P []) (hs : ∀ l x, P l → P (l ++ [x])) : ∀ l, P l := by
  intro l
  have : ∀ m : List α, P m.reverse := fun m => by
    induction m with
    | nil => exact h0
    | cons x m ih => rw [List.reverse_cons]; exact hs _ _ ih
  have h := this l.reverse
  rwa [List.reverse_reverse] at h
theorem colL_lt {p : Nat → Nat → Bool} {h w : Nat} (w8 : w ≤ 8) (l : List (Pl h w)) : ∀ i, colL p l i < 256 := by
  refine rev_ind (P := fun l => ∀ i, colL p l i < 256) (fun i => by show 0 < 256; omega) (fun l x ih i => ?_) l
  cases e : p x.1.1 x.1.2 with
  | false => rw [colL_miss e]; exact ih i
  | true =>
    rw [colL_hit e]
    unfold updN
    split
    · exact or8_lt (ih _) (by have := x.2.2; omega)
    · exact ih i
theorem colL_bit {p : Nat → Nat → Bool} {h w : Nat} (l : List (Pl h w)) : ∀ i j, (colL p l i).testBit j = true ↔ (∃ x ∈ l, x.1 = (i, j)) ∧ p i j = true := by
  refine rev_ind (P := fun l => ∀ i j, (colL p l i).testBit j = true ↔ (∃ x ∈ l, x.1 = (i, j)) ∧ p i j = true) (fun i j => by show (Nat.testBit 0 j = true) ↔ _; simp) (fun l x ih i j => ?_) l
  cases e : p x.1.1 x.1.2 with
  | false =>
    rw [colL_miss e, ih]
    constructor
    · rintro ⟨⟨y, hy, e'⟩, q⟩; exact ⟨⟨y, List.mem_append_left _ hy, e'⟩, q⟩
    · rintro ⟨⟨y, hy, e'⟩, q⟩
      rcases List.mem_append.1 hy with hy | hy
      · exact ⟨⟨y, hy, e'⟩, q⟩
      · obtain rfl := List.mem_singleton.1 hy
        rw [e'] at e; simp only at e; rw [e] at q; cases q
  | true =>
    rw [colL_hit e]
    unfold updN
    split
    · rename_i hi
      subst hi
      rw [bit8_or, Bool.or_eq_true, ih]
      constructor
      · rintro (⟨⟨y, hy, e'⟩, q⟩ | q)
        · exact ⟨⟨y, List.mem_append_left _ hy, e'⟩, q⟩
        · have hj : x.1.2 = j := by simpa using q
          subst hj
          exact ⟨⟨x, List.mem_append_right _ (List.mem_singleton.2 rfl), rfl⟩, e⟩
      · rintro ⟨⟨y, hy, e'⟩, q⟩
        rcases List.mem_append.1 hy with hy | hy
        · exact .inl ⟨⟨y, hy, e'⟩, q⟩
        · obtain rfl := List.mem_singleton.1 hy
          exact .inr (by simpa using congrArg Prod.snd e')
    · rename_i hi
      rw [ih]
      constructor
      · rintro ⟨⟨y, hy, e'⟩, q⟩; exact ⟨⟨y, List.mem_append_left _ hy, e'⟩, q⟩
      · rintro ⟨⟨y, hy, e'⟩, q⟩
        rcases List.mem_append.1 hy with hy | hy
        · exact ⟨⟨y, hy, e'⟩, q⟩
        · obtain rfl := List.mem_singleton.1 hy
          exact absurd (congrArg Prod.fst e').symm hi
theorem mem_all {h w : Nat} {i j : Nat} (hi : i < h) (hj : j < w) : ∃ x ∈ plUpto h w (h * w), x.1 = (i, j) := by
  have hlt : i * w + j < h * w := by
    have : (i + 1) * w ≤ h * w := Nat.mul_le_mul_right w hi
    rw [Nat.succ_mul] at this; omega
  obtain ⟨q, hq⟩ := plUpto_get (Nat.le_refl _) hlt
  refine ⟨_, List.mem_of_getElem? hq, ?_⟩
  show ((i * w + j) / w, (i * w + j) % w) = (i, j)
  rw [pl_div hj, pl_mod hj]
theorem colL_all {p : Nat → Nat → Bool} {h w i j : Nat} : (colL p (plUpto h w (h * w)) i).testBit j = (decide (i < h) && decide (j < w) && p i j) := by
  rw [Bool.eq_iff_iff, colL_bit]
  constructor
  · rintro ⟨⟨x, _, e⟩, q⟩
    have h1 := x.2.1
    have h2 := x.2.2
    rw [e] at h1 h2
    simp only at h1 h2
    simp [h1, h2, q]
  · intro q
    simp only [Bool.and_eq_true, decide_eq_true_eq] at q
    exact ⟨mem_all q.1.1 q.1.2, q.2⟩
theorem mkC_set {g : Nat → Nat} {i x : Nat} : (mkC g).setIfInBounds i (.int .u8 (x : Int)) = mkC (updN g i x) := by
  refine ((isK_mkI .u8 8 (fun i => (g i : Int))).set i (x : Int)).unique ((isK_mkI .u8 8 _).congr fun j hj => ?_)
  unfold updN upd
  split <;> rfl
end Go.Proofs.YtppohghejhcilaaDoor
