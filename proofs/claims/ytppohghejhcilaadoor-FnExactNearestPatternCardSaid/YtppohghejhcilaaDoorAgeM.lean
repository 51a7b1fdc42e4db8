/- Ages: written place by place; those that are valid; mathematics. -/
import Derived.Test.YtppohghejhcilaaDoorAll
import Derived.Test.YtppohghejhcilaaDoorAge
namespace Go.Proofs.YtppohghejhcilaaDoor
open Go.RowKit

/-- A place's number. -/
def ixP {h w : Nat} (x : Pl h w) : Nat := x.1.1 * 8 + x.1.2
theorem ixP_lt {h w : Nat} (h8 : h ≤ 8) (w8 : w ≤ 8) (x : Pl h w) : ixP x < 64 := by
  have h1 := x.2.1
  have h2 := x.2.2
  unfold ixP; omega
/-- f with v at the numbers of some places. -/
def setL (v f : Nat → Int) {h w : Nat} (l : List (Pl h w)) : Nat → Int := l.foldl (fun f x => upd f (ixP x) (v (ixP x))) f
theorem setL_snoc {v f : Nat → Int} {h w : Nat} {l : List (Pl h w)} {x : Pl h w} : setL v f (l ++ [x]) = upd (setL v f l) (ixP x) (v (ixP x)) := by
  unfold setL; rw [List.foldl_append]; rfl
theorem rev_ind2 {α : Type} {P : List α → Prop} (h0 : P []) (hs : ∀ l x, P l → P (l ++ [x])) : ∀ l, P l := by
  intro l
  have : ∀ m : List α, P m.reverse := fun m => by
    induction m with
    | nil => exact h0
    | cons x m ih => rw [List.reverse_cons]; exact hs _ _ ih
  have h := this l.reverse
  rwa [List.reverse_reverse] at h
theorem setL_in {v f : Nat → Int} {h w : Nat} (l : List (Pl h w)) : ∀ i, (∃ x ∈ l, ixP x = i) → setL v f l i = v i := by
  refine rev_ind2 (P := fun l => ∀ i, (∃ x ∈ l, ixP x = i) → setL v f l i = v i) (fun i ⟨x, hx, _⟩ => by cases hx) (fun l x ih i ⟨y, hy, e⟩ => ?_) l
  rw [setL_snoc]
  unfold upd
  split
  · rename_i hi; rw [hi]
  · rename_i hi
    rcases List.mem_append.1 hy with hy | hy
    · exact ih i ⟨y, hy, e⟩
    · obtain rfl := List.mem_singleton.1 hy
      exact absurd e.symm hi
theorem setL_out {v f : Nat → Int} {h w : Nat} (l : List (Pl h w)) : ∀ i, (¬ ∃ x ∈ l, ixP x = i) → setL v f l i = f i := by
  refine rev_ind2 (P := fun l => ∀ i, (¬ ∃ x ∈ l, ixP x = i) → setL v f l i = f i) (fun i _ => rfl) (fun l x ih i hn => ?_) l
  rw [setL_snoc]
  unfold upd
  rw [if_neg fun e => hn ⟨x, List.mem_append_right _ (List.mem_singleton.2 rfl), e.symm⟩]
  exact ih i fun ⟨y, hy, e⟩ => hn ⟨y, List.mem_append_left _ hy, e⟩
/-- The numbers of all places. -/
theorem ix_all {h w i : Nat} (w8 : w ≤ 8) : (∃ x ∈ plUpto h w (h * w), ixP x = i) ↔ i / 8 < h ∧ i % 8 < w := by
  constructor
  · rintro ⟨x, _, e⟩
    have h1 := x.2.1
    have h2 := x.2.2
    unfold ixP at e
    omega
  · rintro ⟨h1, h2⟩
    have hlt : i / 8 * w + i % 8 < h * w := by
      have : (i / 8 + 1) * w ≤ h * w := Nat.mul_le_mul_right w h1
      rw [Nat.succ_mul] at this; omega
    obtain ⟨q, hq⟩ := plUpto_get (Nat.le_refl _) hlt
    refine ⟨_, List.mem_of_getElem? hq, ?_⟩
    unfold ixP
    simp only
    rw [pl_div h2, pl_mod h2]
    omega
/-- Ages that are valid for a roof. -/
def Rf.aFine (r : Rf) (t : Nat → Int) (i : Nat) : Prop := t i ≤ 100 ∧ (((i / 8 : Nat) : Int) < r.h ∧ ((i % 8 : Nat) : Int) < r.w ∨ t i = 0)
def Rf.Aged (r : Rf) (t : Nat → Int) : Prop := r.Ok ∧ ∀ i, i < 64 → r.aFine t i
open Classical in
noncomputable def Rf.aok (r : Rf) (t : Nat → Int) : Bool := decide (r.Aged t)
theorem Rf.aok_t {r : Rf} {t : Nat → Int} (h : r.Aged t) : r.aok t = true := by simp [Rf.aok, h]
theorem Rf.aok_f {r : Rf} {t : Nat → Int} (h : ¬ r.Aged t) : r.aok t = false := by simp [Rf.aok, h]
theorem Rf.Aged_of {r : Rf} {t : Nat → Int} (h : r.aok t = true) : r.Aged t := by simpa [Rf.aok] using h
theorem Rf.not_Aged {r : Rf} {t : Nat → Int} (h : r.aok t = false) : ¬ r.Aged t := by simpa [Rf.aok] using h
def cap100 (t : Nat → Int) (i : Nat) : Int := if 100 < t i then 100 else t i
theorem aged_iff {r : Rf} {t : Nat → Int} (ho : r.Ok) {hh ww : Nat} (hhe : r.h = hh) (hwe : r.w = ww) :
    (∀ i, i < 64 → t i = setL (cap100 t) (fun _ => 0) (plUpto hh ww (hh * ww)) i) ↔ r.Aged t := by
  have w8 : ww ≤ 8 := by have := ho.2.1; omega
  have key : ∀ i, i < 64 → (t i = setL (cap100 t) (fun _ => 0) (plUpto hh ww (hh * ww)) i ↔ r.aFine t i) := fun i hi => by
    unfold Rf.aFine
    by_cases hp : i / 8 < hh ∧ i % 8 < ww
    · rw [setL_in _ i ((ix_all w8).2 hp)]
      unfold cap100
      split <;> omega
    · rw [setL_out _ i fun e => hp ((ix_all w8).1 e)]
      omega
  exact ⟨fun h => ⟨ho, fun i hi => (key i hi).1 (h i hi)⟩, fun h i hi => (key i hi).2 (h.2 i hi)⟩
theorem setL_bd {v f : Nat → Int} {h w : Nat} (l : List (Pl h w)) {lo hi : Int} (hv : ∀ i, lo ≤ v i ∧ v i ≤ hi) (hf : ∀ i, lo ≤ f i ∧ f i ≤ hi) : ∀ i, lo ≤ setL v f l i ∧ setL v f l i ≤ hi := fun i => by
  by_cases e : ∃ x ∈ l, ixP x = i
  · rw [setL_in _ i e]; exact hv i
  · rw [setL_out _ i e]; exact hf i
end Go.Proofs.YtppohghejhcilaaDoor
