/- Insertion sort of places: mathematics; slices.Clone at places. -/
import Derived.Test.YtkbacpkpgfppiaaGrowX
import Derived.Test.YtkbacpkpgfppiaaHelp
import Derived.Lib.SliceRun
import Derived.OwnWalk
import Derived.Laws.AppendOwn
namespace Go.Proofs.Ytkbacpkpgfppiaa
open Go.RowKit

/-- Elements j and j - 1 exchanged. -/
def swE (F : Nat → Int) (j i : Nat) : Int := if i = j * 2 then F ((j - 1) * 2) else if i = j * 2 + 1 then F ((j - 1) * 2 + 1) else if i = (j - 1) * 2 then F (j * 2) else if i = (j - 1) * 2 + 1 then F (j * 2 + 1) else F i
/-- Element j comes ahead of element j - 1. -/
def lsP (F : Nat → Int) (j : Nat) : Prop := F (j * 2) < F ((j - 1) * 2) ∨ F (j * 2) = F ((j - 1) * 2) ∧ F (j * 2 + 1) < F ((j - 1) * 2 + 1)
instance (F : Nat → Int) (j : Nat) : Decidable (lsP F j) := by unfold lsP; infer_instance
def inn : Nat → (Nat → Int) → Nat → Int
  | 0, F => F
  | j + 1, F => if lsP F (j + 1) then inn j (swE F (j + 1)) else F
def srt (F : Nat → Int) : Nat → Nat → Int
  | 0 => F
  | i + 1 => inn i (srt F i)
theorem inn_go {F : Nat → Int} {j : Nat} (h : lsP F (j + 1)) : inn (j + 1) F = inn j (swE F (j + 1)) := if_pos h
theorem inn_stop {F : Nat → Int} {j : Nat} (h : ¬ lsP F (j + 1)) : inn (j + 1) F = F := if_neg h
/-- What all elements have, those of an exchanged list have, too. -/
def AllE (Q : Int → Int → Prop) (n : Nat) (F : Nat → Int) : Prop := ∀ i, i < n → Q (F (i * 2)) (F (i * 2 + 1))
theorem AllE.sw {Q : Int → Int → Prop} {n : Nat} {F : Nat → Int} (h : AllE Q n F) {j : Nat} (h0 : 0 < j) (hj : j < n) : AllE Q n (swE F j) := by
  intro i hi
  unfold swE
  by_cases h1 : i = j
  · subst h1
    rw [if_pos rfl, if_neg (by omega), if_pos rfl]
    exact h (i - 1) (by omega)
  · by_cases h2 : i = j - 1
    · subst h2
      rw [if_neg (by omega), if_neg (by omega), if_pos rfl, if_neg (by omega), if_neg (by omega), if_neg (by omega), if_pos rfl]
      exact h j hj
    · rw [if_neg (by omega), if_neg (by omega), if_neg (by omega), if_neg (by omega), if_neg (by omega), if_neg (by omega), if_neg (by omega), if_neg (by omega)]
      exact h i hi
theorem AllE.inn {Q : Int → Int → Prop} {n : Nat} : ∀ {j : Nat} {F : Nat → Int}, AllE Q n F → j < n → AllE Q n (inn j F)
  | 0, _, h, _ => h
  | j + 1, F, h, hj => by
    unfold Proofs.Ytkbacpkpgfppiaa.inn
    split
    · exact AllE.inn (h.sw (by omega) hj) (by omega)
    · exact h
theorem AllE.srt {Q : Int → Int → Prop} {n : Nat} {F : Nat → Int} (h : AllE Q n F) : ∀ {i : Nat}, i ≤ n → AllE Q n (srt F i)
  | 0, _ => h
  | i + 1, hi => (AllE.srt h (by omega)).inn (by omega)

theorem IsList.newc {w : World} {b n : Nat} {v : Value} {k : IntKind} {f : Nat → Int} (h : IsList w b v 2 n (fun i => .int k (f i))) : IsList w b v 2 n (fun j => (cellsTo k f (n * 2)).getD j undef) := by
  have e : ∀ i, i < n * 2 → (cellsTo k f (n * 2)).getD i undef = .int k (f i) := fun i hi => by simp [cellsTo, hi]
  rcases h with h | ⟨g, cap, cur, rfl, hg, hr, hs, hf⟩
  · exact .inl h
  · exact .inr ⟨g, cap, cur, rfl, hg, hr, hs, fun i hi => (hf i hi).trans (congrArg some (e i hi).symm)⟩
theorem cellsTo_ones (k : IntKind) (f : Nat → Int) (n : Nat) : ∀ u ∈ cellsTo k f n, u.oneCell' = true := fun u hu => by
  simp only [cellsTo, List.mem_map] at hu
  obtain ⟨i, _, rfl⟩ := hu
  rfl
theorem owns_emptyS (w : World) (e : TypeId) (size : Nat) : (w.alloc (.cells #[] e)).ownsRow w.heap.size e size (.slice (some ⟨w.heap.size, 0, none⟩) 0 0) 0 [] :=
  ⟨by simp, .inr ⟨_, 0, #[], rfl, Nat.le_refl _, heap_alloc_new w _, Nat.le_refl _, Nat.zero_le _, by simp, by simp⟩⟩
theorem A_infoPlC : (Try.prog.info? 58).map (fun i => (i.zero, i.size, i.bytes)) = some (some (.agg #[.int .i8 0, .int .i8 0]), 2, 2) := by kernel_rfl
set_option maxRecDepth 100000 in
set_option maxHeartbeats 1000000 in
theorem cloneP_any (b n : Nat) (v : Value) (f : Nat → Int) (w : World) (hv : IsList w b v 2 n (fun i => .int .i8 (f i))) (hn : n ≤ 2000000) :
    Calls Try.prog 98 #[v] w fun e w' => ∃ a cap, e = .returned (.slice a n cap) ∧ n ≤ cap ∧ IsList w' w.heap.size (.slice a n cap) 2 n (fun i => .int .i8 (f i)) ∧ Below w.heap.size w w' := by
  obtain ⟨i0, hi0, hz0, hz1, hz2⟩ := info_parts A_infoPlC
  have HV := Lib.hid hv
  obtain ⟨a, cap, rfl⟩ := hv.shape
  have hnil := fun W : World => Lib.run_eql_slice_nil (P := Try.prog) W 33 58 a n cap 0 0 Try.underlying33
  have own : (w.alloc (.cells #[] 58)).ownsRow w.heap.size 58 2 (.slice (some ⟨w.heap.size, 0, none⟩) 0 0) 0 [] := owns_emptyS w 58 2
  have hl1 : IsList (w.alloc (.cells #[] 58)) b (.slice a n cap) 2 n (fun j => (cellsTo .i8 f (n * 2)).getD j undef) := (hv.below ((Below.refl _ _).alloc (Nat.le_refl _) _) (Nat.le_refl _)).newc
  cases a with
  | none =>
    have h0 : n = 0 := by
      rcases hv with ⟨h, _⟩ | ⟨g, cap', cur, h, _⟩
      · exact h
      · cases h
    subst h0
    simp only [Option.isNone_none] at hnil
    clear hv own hl1
    go_enter Try.func98, Try.ntmps98
    go_wp2_with fail
    go_ret
    exact ⟨none, 0, rfl, Nat.le_refl _, .inl ⟨rfl, _, _, rfl⟩, Below.refl _ _⟩
  | some a =>
    simp only [Option.isNone_some] at hnil
    have HL := Lib.hid hl1
    have HO := Lib.hid own
    clear hv own hl1
    go_enter Try.func98, Try.ntmps98
    go_wp2_with (at_builtin; refine wpList_append_list rfl _ _ 33 rfl w.heap.size b 58 i0 (.agg #[.int .i8 0, .int .i8 0]) 2 2 Try.underlying33 hi0 hz0 hz1 hz2 rfl (by decide) _ _ _ rfl HO.out _ n (cellsTo .i8 f (n * 2)) rfl HL.out (cellsTo_len .i8 f (n * 2)) (cellsTo_ones .i8 f (n * 2)) (by unfold maxLen; omega) (by omega) (by simp) ?_; intro v3 w3 own3 grow3)
    have B3 : Below w.heap.size w w3 := ((Below.refl w.heap.size w).alloc (Nat.le_refl _) _).grown grow3 (by simp) (by intro x hx; cases hx; exact Nat.le_refl _)
    rw [Nat.zero_add, List.nil_append] at own3
    have hl := owns_list own3
    obtain ⟨a3, cap3, rfl⟩ := hl.shape
    have hcap : n ≤ cap3 := by
      obtain ⟨_, ⟨h, _⟩ | ⟨g, cap', cur, e, hg, hh, hn', hr⟩⟩ := own3
      · cases h; omega
      · cases e; exact hn'
    clear own3 grow3
    go_wp2_with fail
    go_ret
    exact ⟨a3, cap3, rfl, hcap, hl, B3⟩
end Go.Proofs.Ytkbacpkpgfppiaa
