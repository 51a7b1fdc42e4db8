/- Plans: a job on the first day on which it fits; the program's side. -/
import Derived.Test.YtcdddngdjhjdbaaDayT
import Derived.Test.YtcdddngdjhjdbaaIntsV
import Derived.Test.YtcdddngdjhjdbaaGrowX
import Derived.ArgAppend
namespace Go.Proofs.Ytcdddngdjhjdbaa
open Go.RowKit

/-- The first of k days from a on on which a job of t fits, the day behind them else. -/
def dayFrom (L : Nat → Int) (t y : Int) : Nat → Nat → Nat
  | 0, a => a
  | k + 1, a => if L a + t ≤ y then a else dayFrom L t y k (a + 1)
theorem dayFrom_bd {L : Nat → Int} {t y : Int} : ∀ k a, a ≤ dayFrom L t y k a ∧ dayFrom L t y k a ≤ a + k
  | 0, a => by unfold dayFrom; omega
  | k + 1, a => by
    have := dayFrom_bd (L := L) (t := t) (y := y) k (a + 1)
    unfold dayFrom; split <;> omega
theorem dayFrom_fits {L : Nat → Int} {t y : Int} : ∀ k a, dayFrom L t y k a < a + k → L (dayFrom L t y k a) + t ≤ y
  | 0, a, h => by unfold dayFrom at h; omega
  | k + 1, a, h => by
    by_cases e : L a + t ≤ y
    · rw [show dayFrom L t y (k + 1) a = a from if_pos e]; exact e
    · rw [show dayFrom L t y (k + 1) a = dayFrom L t y k (a + 1) from if_neg e] at h ⊢
      exact dayFrom_fits k (a + 1) (by omega)
/-- How many days there are behind k jobs, and how long they take. -/
def dayS (g : Nat → Int) (y : Int) : Nat → Nat × (Nat → Int)
  | 0 => (0, fun _ => 0)
  | k + 1 =>
    let a := dayFrom (dayS g y k).2 (g k) y (dayS g y k).1 0
    (if a = (dayS g y k).1 then (dayS g y k).1 + 1 else (dayS g y k).1, upd (dayS g y k).2 a ((dayS g y k).2 a + g k))
/-- The day of the job k. -/
def dayD (g : Nat → Int) (y : Int) (k : Nat) : Nat := dayFrom (dayS g y k).2 (g k) y (dayS g y k).1 0
theorem dayS_n (g : Nat → Int) (y : Int) (k : Nat) : (dayS g y (k + 1)).1 = if dayD g y k = (dayS g y k).1 then (dayS g y k).1 + 1 else (dayS g y k).1 := rfl
theorem dayS_l (g : Nat → Int) (y : Int) (k : Nat) : (dayS g y (k + 1)).2 = upd (dayS g y k).2 (dayD g y k) ((dayS g y k).2 (dayD g y k) + g k) := rfl
theorem dayD_le (g : Nat → Int) (y : Int) (k : Nat) : dayD g y k ≤ (dayS g y k).1 := by
  have := (dayFrom_bd (L := (dayS g y k).2) (t := g k) (y := y) (dayS g y k).1 0).2
  unfold dayD; omega
theorem dayS_ok {g : Nat → Int} {y : Int} {m : Nat} (hy : 0 ≤ y) (hg : ∀ i, i < m → 0 ≤ g i ∧ g i ≤ y) : ∀ k, k ≤ m → (dayS g y k).1 ≤ k ∧ ∀ i, 0 ≤ (dayS g y k).2 i ∧ (dayS g y k).2 i ≤ y ∧ ((dayS g y k).1 ≤ i → (dayS g y k).2 i = 0)
  | 0, _ => by simp [dayS]; omega
  | k + 1, hk => by
    obtain ⟨h1, h2⟩ := dayS_ok hy hg k (by omega)
    have hl := dayD_le g y k
    have hgk := hg k (by omega)
    have ha := h2 (dayD g y k)
    have hfit : (dayS g y k).2 (dayD g y k) + g k ≤ y := by
      by_cases e : dayD g y k = (dayS g y k).1
      · rw [ha.2.2 (by omega)]; omega
      · exact dayFrom_fits _ _ (show dayD g y k < 0 + (dayS g y k).1 by omega)
    refine ⟨by rw [dayS_n]; split <;> omega, fun i => ?_⟩
    rw [dayS_n, dayS_l]
    have hi := h2 i
    unfold upd
    by_cases e : i = dayD g y k
    · rw [if_pos e]
      refine ⟨by omega, hfit, fun h => ?_⟩
      split at h <;> omega
    · rw [if_neg e]
      refine ⟨hi.1, hi.2.1, fun h => hi.2.2 ?_⟩
      split at h <;> omega

theorem intsV_len (f : Nat → Int) (n : Nat) : (intsV f n).length = n := by simp [intsV]
theorem intsV_at (f : Nat → Int) {n i : Nat} (h : i < n) : (intsV f n)[i]? = some (.int .i64 (f i)) := by
  rw [intsV, List.getElem?_map, List.getElem?_range h]; rfl
theorem intsV_one (f : Nat → Int) (n : Nat) : ∀ u ∈ intsV f n, u.oneCell' = true := fun u hu => by
  obtain ⟨i, _, rfl⟩ := List.mem_map.1 hu
  rfl
theorem IsList.newsI {w : World} {b n : Nat} {v : Value} {f : Nat → Int} (h : IsList w b v 1 n (fun i => .int .i64 (f i))) : IsList w b v 1 n (fun j => (intsV f n).getD j undef) := by
  rcases h with h | ⟨x, cap, cur, rfl, hg, hr, hs, hf⟩
  · exact .inl h
  · refine .inr ⟨x, cap, cur, rfl, hg, hr, hs, fun i hi => ?_⟩
    show cur[i]? = some ((intsV f n).getD i undef)
    rw [hf i hi, List.getD_eq_getElem?_getD, intsV_at f (by omega)]; rfl
set_option maxRecDepth 100000 in
set_option maxHeartbeats 1000000 in
theorem cloneI_own (b n : Nat) (v : Value) (f : Nat → Int) (w : World) (hv : IsList w b v 1 n (fun i => .int .i64 (f i))) (hn : n ≤ 2000000) :
    Calls Try.prog 120 #[v] w fun e w' => ∃ u, e = .returned u ∧ w'.ownsRow w.heap.size 2 1 u n (intsV f n) ∧ Below w.heap.size w w' := by
  obtain ⟨i0, hi0, hz0, hz1, hz2⟩ := info_parts A_infoIw
  obtain ⟨a, cap, rfl⟩ := hv.shape
  have hnil := fun W : World => Lib.run_eql_slice_nil (P := Try.prog) W 22 2 a n cap 0 0 Try.underlying22
  have own : (w.alloc (.cells #[] 2)).ownsRow w.heap.size 2 1 (.slice (some ⟨w.heap.size, 0, none⟩) 0 0) 0 [] := owns_zero w 2 1
  have hl1 := (hv.below (show Below w.heap.size w (w.alloc (.cells #[] 2)) from (Below.refl _ _).alloc (Nat.le_refl _) _) (Nat.le_refl _)).newsI
  cases a with
  | none =>
    have h0 : n = 0 := by
      rcases hv with ⟨h, _⟩ | ⟨g, cap', cur, h, _⟩
      · exact h
      · cases h
    subst h0
    simp only [Option.isNone_none] at hnil
    clear hv own hl1
    go_enter Try.func120, Try.ntmps120
    go_wp2_with fail
    go_ret
    exact ⟨_, rfl, World.ownsRow_nil _ _ _ _, Below.refl _ _⟩
  | some a =>
    simp only [Option.isNone_some] at hnil
    have HL := Lib.hid hl1
    have HO := Lib.hid own
    clear hv own hl1
    go_enter Try.func120, Try.ntmps120
    go_wp2_with (at_builtin; refine wpList_append_list rfl _ _ 22 rfl w.heap.size b 2 i0 (.int .i64 0) 1 8 Try.underlying22 hi0 hz0 hz1 hz2 rfl (by decide) _ _ _ rfl HO.out _ n (intsV f n) rfl HL.out ((intsV_len f n).trans (Nat.mul_one n).symm) (intsV_one f n) (by unfold maxLen; omega) (by omega) (by simp) ?_; intro v3 w3 own3 grow3)
    have B3 : Below w.heap.size w w3 := ((Below.refl w.heap.size w).alloc (Nat.le_refl _) _).grown grow3 (by simp) (by intro x hx; cases hx; exact Nat.le_refl _)
    rw [Nat.zero_add, List.nil_append] at own3
    obtain ⟨a3, cap3, rfl⟩ := owns_shape own3
    clear grow3
    go_wp2_with fail
    go_ret
    exact ⟨_, rfl, own3, B3⟩

set_option maxRecDepth 100000 in
set_option maxHeartbeats 1000000 in
theorem takes_end (b n : Nat) (vd vl : Value) (L : Nat → Int) (t y : Int) (w : World) (hl : IsList w b vl 1 n (fun i => .int .i64 (L i))) (hd : ∃ a m c, vd = .slice a m c) :
    Calls Try.prog 77 #[.agg #[vd, vl], .int .i64 t, .int .i64 y, .int .i64 n] w fun e w' => e = .returned (.bool true) ∧ Below w.heap.size w w' := by
  obtain ⟨ad, m, cd, rfl⟩ := hd
  obtain ⟨al, cl, rfl⟩ := hl.shape
  have hnn : ((n : Int) == n) = true := by simp
  clear hl
  go_enter Try.func77, Try.ntmps77
  go_wp2_with fail
  go_ret
  exact ⟨rfl, (Below.refl _ _).alloc (Nat.le_refl _) _⟩
set_option maxRecDepth 100000 in
set_option maxHeartbeats 1000000 in
theorem takes_in (b n a : Nat) (vd vl : Value) (L : Nat → Int) (t y : Int) (w : World) (hl : IsList w b vl 1 n (fun i => .int .i64 (L i))) (hd : ∃ a m c, vd = .slice a m c) (ha : a < n) (hL : 0 ≤ L a ∧ L a ≤ 1000) (ht : 0 ≤ t ∧ t ≤ 1000) (q : Bool) (hq : decide (L a + t ≤ y) = q) :
    Calls Try.prog 77 #[.agg #[vd, vl], .int .i64 t, .int .i64 y, .int .i64 a] w fun e w' => e = .returned (.bool q) ∧ Below w.heap.size w w' := by
  obtain ⟨ad, m, cd, rfl⟩ := hd
  obtain ⟨h0, _⟩ | ⟨gl, cl, cur, rfl, hg, hr, hs, hf⟩ := hl
  · omega
  have lt := rowAt_lt hr
  have c0 : w.cell? ⟨gl, a, none⟩ = some (.int .i64 (L a)) := (cell_of_rowAt hr _).trans (hf a (by omega))
  have hnn : ((a : Int) == n) = false := by simp; omega
  have a0 : (0 : Int) ≤ a := by omega
  have a1 : (a : Int) < n := by omega
  have e1 : IntKind.i64.wrap (L a + t) = L a + t := IntWalk.i64_in _ (by omega)
  clear hf hs hr
  generalize L a = z at *
  clear e1
  go_enter Try.func77, Try.ntmps77
  go_wp2_with fail
  go_ret
  exact ⟨by first | (rw [← hq]; done) | (rw [← hq]; rfl), (Below.refl _ _).alloc (Nat.le_refl _) _⟩
end Go.Proofs.Ytcdddngdjhjdbaa
