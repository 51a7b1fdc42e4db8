/- The first upward order: mathematics. Both sides pick the first free one of those that are left. -/
import Derived.Test.YtkbacpkpgfppiaaOverM
import Derived.Test.YtkbacpkpgfppiaaSrtM
namespace Go.Proofs.Ytkbacpkpgfppiaa
open Go.RowKit

/-- No place comes twice. -/
def InjE (f : Nat → Int) (n : Nat) : Prop := ∀ i j, i < n → j < n → f (i * 2) = f (j * 2) → f (i * 2 + 1) = f (j * 2 + 1) → i = j
theorem InjE.of_dup {f : Nat → Int} {n : Nat} (h : dupP f n = false) : InjE f n := by
  have key : ∀ i j, i < n → j < i → f (i * 2) = f (j * 2) → f (i * 2 + 1) = f (j * 2 + 1) → False := fun i j hi hj h0 h1 => by
    have h2 := anyI_f.1 h i hi
    unfold hasP at h2
    have h3 := anyI_f.1 h2 j hj
    simp [h0, h1] at h3
  intro i j hi hj h0 h1
  rcases Nat.lt_trichotomy i j with h2 | h2 | h2
  · exact (key j i hj h2 h0.symm h1.symm).elim
  · exact h2
  · exact (key i j hi h2 h0 h1).elim
theorem swE_at {F : Nat → Int} {p i : Nat} (h0 : 0 < p) : ∃ j, (swE F p (i * 2) = F (j * 2) ∧ swE F p (i * 2 + 1) = F (j * 2 + 1)) ∧ j = (if i = p then p - 1 else if i = p - 1 then p else i) := by
  refine ⟨_, ?_, rfl⟩
  unfold swE
  by_cases h1 : i = p
  · subst h1
    rw [if_pos rfl, if_pos rfl, if_neg (by omega), if_pos rfl]
    exact ⟨rfl, rfl⟩
  · by_cases h2 : i = p - 1
    · subst h2
      rw [if_neg h1, if_pos rfl, if_neg (by omega), if_neg (by omega), if_pos rfl, if_neg (by omega), if_neg (by omega), if_neg (by omega), if_pos rfl]
      exact ⟨rfl, rfl⟩
    · rw [if_neg h1, if_neg h2, if_neg (by omega), if_neg (by omega), if_neg (by omega), if_neg (by omega), if_neg (by omega), if_neg (by omega), if_neg (by omega), if_neg (by omega)]
      exact ⟨rfl, rfl⟩
theorem InjE.sw {F : Nat → Int} {n p : Nat} (h : InjE F n) (h0 : 0 < p) (hp : p < n) : InjE (swE F p) n := by
  intro i j hi hj e0 e1
  obtain ⟨i', ⟨a0, a1⟩, hi'⟩ := swE_at (F := F) (i := i) h0
  obtain ⟨j', ⟨b0, b1⟩, hj'⟩ := swE_at (F := F) (i := j) h0
  rw [a0, b0] at e0
  rw [a1, b1] at e1
  have l1 : i' < n := by rw [hi']; split <;> (try split) <;> omega
  have l2 : j' < n := by rw [hj']; split <;> (try split) <;> omega
  have := h i' j' l1 l2 e0 e1
  rw [hi', hj'] at this
  split at this <;> split at this <;> (try split at this) <;> (try split at this) <;> omega
theorem InjE.inn {n : Nat} : ∀ {j : Nat} {F : Nat → Int}, InjE F n → j < n → InjE (inn j F) n
  | 0, _, h, _ => h
  | j + 1, F, h, hj => by
    unfold Proofs.Ytkbacpkpgfppiaa.inn
    split
    · exact InjE.inn (h.sw (by omega) hj) (by omega)
    · exact h
theorem InjE.srt {n : Nat} {F : Nat → Int} (h : InjE F n) : ∀ {i : Nat}, i ≤ n → InjE (srt F i) n
  | 0, _ => h
  | i + 1, hi => (InjE.srt h (by omega)).inn (by omega)

/-- Whether i is free: it is not out, and laps over none that is not out. -/
def Rf.freeB (r : Rf) (g : Nat → Int) (n : Nat) (o : Nat → Int) (m i : Nat) : Bool :=
  !hasP o m (g (i * 2)) (g (i * 2 + 1)) && !anyI (fun k => !hasP o m (g (k * 2)) (g (k * 2 + 1)) && r.over (g (i * 2)) (g (i * 2 + 1)) (g (k * 2)) (g (k * 2 + 1))) n
/-- The order, behind m steps. -/
def Rf.upX (r : Rf) (g : Nat → Int) (n : Nat) : Nat → Nat → Int
  | 0 => fun _ => 0
  | m + 1 => fun x => if x = m * 2 then g ((firstI (r.freeB g n (r.upX g n m) m) n).toNat * 2) else if x = m * 2 + 1 then g ((firstI (r.freeB g n (r.upX g n m) m) n).toNat * 2 + 1) else r.upX g n m x
/-- The one that is picked next. -/
def Rf.upK (r : Rf) (g : Nat → Int) (n m : Nat) : Nat := (firstI (r.freeB g n (r.upX g n m) m) n).toNat
theorem Rf.upX_even (r : Rf) (g : Nat → Int) (n m : Nat) : r.upX g n (m + 1) (m * 2) = g (r.upK g n m * 2) := by
  show (if _ then _ else _) = _
  rw [if_pos rfl]; rfl
theorem Rf.upX_odd (r : Rf) (g : Nat → Int) (n m : Nat) : r.upX g n (m + 1) (m * 2 + 1) = g (r.upK g n m * 2 + 1) := by
  show (if _ then _ else _) = _
  rw [if_neg (by omega), if_pos rfl]; rfl
theorem Rf.upX_old (r : Rf) (g : Nat → Int) (n m x : Nat) (h : x < m * 2) : r.upX g n (m + 1) x = r.upX g n m x := by
  show (if _ then _ else _) = _
  rw [if_neg (by omega), if_neg (by omega)]
theorem hasP_congr {f h : Nat → Int} {n : Nat} {a b : Int} (e : ∀ x, x < n * 2 → f x = h x) : hasP f n a b = hasP h n a b := by
  unfold hasP anyI
  rw [firstI_congr fun j hj => by rw [e (j * 2) (by omega), e (j * 2 + 1) (by omega)]]
/-- Whether i is out behind m steps. -/
def Rf.inO (r : Rf) (g : Nat → Int) (n m i : Nat) : Bool := hasP (r.upX g n m) m (g (i * 2)) (g (i * 2 + 1))
theorem Rf.inO_zero (r : Rf) (g : Nat → Int) (n i : Nat) : r.inO g n 0 i = false := rfl
theorem Rf.inO_succ {r : Rf} {g : Nat → Int} {n m i : Nat} (hI : InjE g n) (hi : i < n) (hk : r.upK g n m < n) : r.inO g n (m + 1) i = (r.inO g n m i || i == r.upK g n m) := by
  unfold Rf.inO
  rw [hasP_succ]
  dsimp only
  rw [Rf.upX_even, Rf.upX_odd, hasP_congr (f := r.upX g n (m + 1)) (h := r.upX g n m) fun x hx => Rf.upX_old r g n m x hx]
  by_cases e : i = r.upK g n m
  · rw [← e]; simp
  · rw [if_neg fun h => e (hI _ _ hi hk h.1 h.2)]
    simp [e]
/-- Those that are left. -/
def Rf.lf (r : Rf) (g : Nat → Int) (n m : Nat) : List Nat := (List.range n).filter fun i => !r.inO g n m i
theorem Rf.lf_mem {r : Rf} {g : Nat → Int} {n m i : Nat} : i ∈ r.lf g n m ↔ i < n ∧ r.inO g n m i = false := by simp [Rf.lf]
theorem Rf.lf_nodup (r : Rf) (g : Nat → Int) (n m : Nat) : (r.lf g n m).Nodup := List.Pairwise.filter _ List.nodup_range
theorem Rf.lf_sorted (r : Rf) (g : Nat → Int) (n m : Nat) : (r.lf g n m).Pairwise (· < ·) := List.Pairwise.filter _ List.pairwise_lt_range
theorem Rf.lf_zero (r : Rf) (g : Nat → Int) (n : Nat) : r.lf g n 0 = List.range n := by
  unfold Rf.lf
  exact List.filter_eq_self.2 fun i _ => by rw [Rf.inO_zero]; rfl
theorem Rf.free_iff {r : Rf} {g : Nat → Int} {n m i : Nat} : r.freeB g n (r.upX g n m) m i = true ↔ r.inO g n m i = false ∧ ∀ k, k ∈ r.lf g n m → r.over (g (i * 2)) (g (i * 2 + 1)) (g (k * 2)) (g (k * 2 + 1)) = false := by
  unfold Rf.freeB
  rw [Bool.and_eq_true, Bool.not_eq_true', Bool.not_eq_true', anyI_f]
  refine and_congr Iff.rfl ⟨fun h k hk => ?_, fun h k hk => ?_⟩
  · obtain ⟨h1, h2⟩ := Rf.lf_mem.1 hk
    have := h k h1
    rw [show hasP (r.upX g n m) m (g (k * 2)) (g (k * 2 + 1)) = false from h2] at this
    simpa using this
  · cases e : hasP (r.upX g n m) m (g (k * 2)) (g (k * 2 + 1)) with
    | true => rfl
    | false => rw [h k (Rf.lf_mem.2 ⟨hk, e⟩)]; rfl
/-- There is a free one as long as one is left: no tile laps over one of its own course or above. -/
theorem Rf.free_ex {r : Rf} {g : Nat → Int} {n m : Nat} (hp : r.okP g n) : ∀ (d i : Nat), i ∈ r.lf g n m → r.h - g (i * 2) ≤ d → ∃ k, k < n ∧ r.freeB g n (r.upX g n m) m k = true
  | 0, i, hi, hd => by
    have := (hp i (Rf.lf_mem.1 hi).1).2.1
    omega
  | d + 1, i, hi, hd => by
    cases e : r.freeB g n (r.upX g n m) m i with
    | true => exact ⟨i, (Rf.lf_mem.1 hi).1, e⟩
    | false =>
      have h1 : ∃ k, k ∈ r.lf g n m ∧ r.over (g (i * 2)) (g (i * 2 + 1)) (g (k * 2)) (g (k * 2 + 1)) = true := by
        refine Classical.byContradiction fun hn => ?_
        have := (Rf.free_iff (r := r) (g := g) (n := n) (m := m) (i := i)).2 ⟨(Rf.lf_mem.1 hi).2, fun k hk => by
          cases h : r.over (g (i * 2)) (g (i * 2 + 1)) (g (k * 2)) (g (k * 2 + 1)) with
          | true => exact absurd ⟨k, hk, h⟩ hn
          | false => rfl⟩
        rw [e] at this
        cases this
      obtain ⟨k, hk, h⟩ := h1
      unfold Rf.over at h
      rw [Bool.and_eq_true, decide_eq_true_eq] at h
      exact Rf.free_ex hp d k hk (by omega)
theorem Rf.pick {r : Rf} {g : Nat → Int} {n m : Nat} (hp : r.okP g n) (hne : r.lf g n m ≠ []) :
    firstI (r.freeB g n (r.upX g n m) m) n = (r.upK g n m : Int) ∧ r.upK g n m < n ∧ (∀ j, j < r.upK g n m → r.freeB g n (r.upX g n m) m j = false) ∧ r.freeB g n (r.upX g n m) m (r.upK g n m) = true := by
  obtain ⟨i, hi⟩ := List.exists_mem_of_ne_nil _ hne
  obtain ⟨k, hk, h⟩ := Rf.free_ex hp (r.h - g (i * 2)).toNat i hi (by omega)
  have h0 : 0 ≤ firstI (r.freeB g n (r.upX g n m) m) n := by
    have := anyI_t hk h
    unfold anyI at this
    simpa using this
  have hb := firstI_bd (r.freeB g n (r.upX g n m) m) n
  have hU : (r.upK g n m : Int) = firstI (r.freeB g n (r.upX g n m) m) n := by unfold Rf.upK; omega
  obtain ⟨q, h1, h2, h3, h4⟩ : ∃ k, k < n ∧ firstI (r.freeB g n (r.upX g n m) m) n = k ∧ (∀ j, j < k → r.freeB g n (r.upX g n m) m j = false) ∧ r.freeB g n (r.upX g n m) m k = true := by
    have fI : ∀ (p : Nat → Bool) (n : Nat), 0 ≤ firstI p n → ∃ k, k < n ∧ firstI p n = k ∧ (∀ j, j < k → p j = false) ∧ p k = true := by
      intro p n
      induction n with
      | zero => intro h; simp [firstI] at h
      | succ n ih =>
        intro h
        by_cases e : 0 ≤ firstI p n
        · obtain ⟨k, h1, h2, h3⟩ := ih e
          exact ⟨k, by omega, by rw [firstI, if_pos e, h2], h3⟩
        · have hm : firstI p n = -1 := by have := (firstI_bd p n).1; omega
          rw [firstI, if_neg e] at h ⊢
          cases hp : p n with
          | true => exact ⟨n, by omega, by simp, firstI_of hm, hp⟩
          | false => rw [hp] at h; simp at h
    exact fI _ _ h0
  have e : r.upK g n m = q := by omega
  rw [e]
  exact ⟨h2, h1, h3, h4⟩
/-- A step takes the picked one out of those that are left. -/
theorem Rf.lf_succ {r : Rf} {g : Nat → Int} {n m : Nat} (hI : InjE g n) (hk : r.upK g n m < n) : r.lf g n (m + 1) = (r.lf g n m).eraseIdx ((r.lf g n m).idxOf (r.upK g n m)) := by
  rw [← List.erase_eq_eraseIdx_of_idxOf (l := r.lf g n m) (a := r.upK g n m) rfl, (Rf.lf_nodup r g n m).erase_eq_filter]
  unfold Rf.lf
  rw [List.filter_filter]
  refine List.filter_congr fun i hi => ?_
  rw [Rf.inO_succ hI (List.mem_range.1 hi) hk]
  cases r.inO g n m i <;> simp [bne]
theorem Rf.lf_len {r : Rf} {g : Nat → Int} {n : Nat} (hp : r.okP g n) (hI : InjE g n) : ∀ {m}, m ≤ n → (r.lf g n m).length = n - m
  | 0, _ => by rw [Rf.lf_zero]; simp
  | m + 1, h => by
    have ih := Rf.lf_len hp hI (m := m) (by omega)
    have hne : r.lf g n m ≠ [] := fun e => by rw [e] at ih; simp at ih; omega
    obtain ⟨_, h1, _, h2⟩ := Rf.pick hp hne
    rw [Rf.lf_succ hI h1, List.length_eraseIdx_of_lt (List.idxOf_lt_length_of_mem (Rf.lf_mem.2 ⟨h1, (Rf.free_iff.1 h2).1⟩)), ih]
    omega
theorem Rf.pickm {r : Rf} {g : Nat → Int} {n m : Nat} (hp : r.okP g n) (hI : InjE g n) (hm : m < n) :
    firstI (r.freeB g n (r.upX g n m) m) n = (r.upK g n m : Int) ∧ r.upK g n m < n ∧ (∀ j, j < r.upK g n m → r.freeB g n (r.upX g n m) m j = false) ∧ r.freeB g n (r.upX g n m) m (r.upK g n m) = true := by
  refine Rf.pick hp fun e => ?_
  have := Rf.lf_len hp hI (m := m) (by omega)
  rw [e] at this
  simp at this
  omega
/-- The cells of those that are left. -/
def Rf.lfF (r : Rf) (g : Nat → Int) (n m x : Nat) : Int := g ((r.lf g n m).getD (x / 2) 0 * 2 + x % 2)
theorem Rf.lfF_even (r : Rf) (g : Nat → Int) (n m q : Nat) : r.lfF g n m (q * 2) = g ((r.lf g n m).getD q 0 * 2) := by
  unfold Rf.lfF; rw [show q * 2 / 2 = q by omega, show q * 2 % 2 = 0 by omega]; rfl
theorem Rf.lfF_odd (r : Rf) (g : Nat → Int) (n m q : Nat) : r.lfF g n m (q * 2 + 1) = g ((r.lf g n m).getD q 0 * 2 + 1) := by
  unfold Rf.lfF; rw [show (q * 2 + 1) / 2 = q by omega, show (q * 2 + 1) % 2 = 1 by omega]
theorem Rf.lfF_zero (r : Rf) (g : Nat → Int) (n x : Nat) (hx : x < n * 2) : r.lfF g n 0 x = g x := by
  unfold Rf.lfF
  rw [Rf.lf_zero, List.getD_eq_getElem?_getD, List.getElem?_range (by omega), Option.getD_some]
  congr 1; omega
/-- Where the picked one stands among those that are left. -/
def Rf.upQ (r : Rf) (g : Nat → Int) (n m : Nat) : Nat := (r.lf g n m).idxOf (r.upK g n m)
theorem Rf.upQ_get {r : Rf} {g : Nat → Int} {n m : Nat} (hp : r.okP g n) (hI : InjE g n) (hm : m < n) : r.upQ g n m < n - m ∧ (r.lf g n m).getD (r.upQ g n m) 0 = r.upK g n m := by
  obtain ⟨_, h1, _, h2⟩ := Rf.pickm hp hI hm
  have hmem : r.upK g n m ∈ r.lf g n m := Rf.lf_mem.2 ⟨h1, (Rf.free_iff.1 h2).1⟩
  have hlt := List.idxOf_lt_length_of_mem hmem
  refine ⟨by rw [← Rf.lf_len hp hI (m := m) (by omega)]; exact hlt, ?_⟩
  unfold Rf.upQ
  rw [List.getD_eq_getElem?_getD, List.getElem?_eq_getElem hlt, Option.getD_some, List.getElem_idxOf]
/-- Behind the deletion. -/
theorem Rf.lfF_succ {r : Rf} {g : Nat → Int} {n m : Nat} (hp : r.okP g n) (hI : InjE g n) (hm : m < n) (x : Nat) : r.lfF g n (m + 1) x = if x < r.upQ g n m * 2 then r.lfF g n m x else r.lfF g n m (x + 2) := by
  obtain ⟨_, h1, _, h2⟩ := Rf.pickm hp hI hm
  have e : r.lf g n (m + 1) = (r.lf g n m).eraseIdx (r.upQ g n m) := Rf.lf_succ hI h1
  unfold Rf.lfF
  rw [e]
  simp only [List.getD_eq_getElem?_getD, List.getElem?_eraseIdx]
  by_cases h : x < r.upQ g n m * 2
  · rw [if_pos (by omega), if_pos h]
  · rw [if_neg (by omega), if_neg h, show (x + 2) / 2 = x / 2 + 1 by omega, show (x + 2) % 2 = x % 2 by omega]
theorem Rf.lf_lt {r : Rf} {g : Nat → Int} {n m q : Nat} (hq : q < (r.lf g n m).length) : (r.lf g n m).getD q 0 ∈ r.lf g n m := by
  rw [List.getD_eq_getElem?_getD, List.getElem?_eq_getElem hq, Option.getD_some]
  exact List.getElem_mem hq
theorem Rf.lfF_ok {r : Rf} {g : Nat → Int} {n m : Nat} (hp : r.okP g n) (hI : InjE g n) (hm : m ≤ n) : r.okP (r.lfF g n m) (n - m) := fun q hq => by
  have h := hp _ (Rf.lf_mem.1 (Rf.lf_lt (r := r) (g := g) (m := m) (q := q) (by rw [Rf.lf_len hp hI hm]; exact hq))).1
  unfold Rf.inP at h ⊢
  rw [Rf.lfF_even, Rf.lfF_odd]
  exact h
/-- The program's search finds the picked one. -/
theorem Rf.up_find {r : Rf} (ho : r.Ok) {g : Nat → Int} {n m : Nat} (hp : r.okP g n) (hI : InjE g n) (hm : m < n) : firstI (fun q => !r.lapsOver (r.lfF g n m (q * 2)) (r.lfF g n m (q * 2 + 1)) (r.lfF g n m) (n - m)) (n - m) = (r.upQ g n m : Int) := by
  obtain ⟨_, h1, h3, h2⟩ := Rf.pickm hp hI hm
  obtain ⟨hq, hg⟩ := Rf.upQ_get hp hI hm
  have hl := Rf.lf_len hp hI (m := m) (by omega)
  have hok := Rf.lfF_ok hp hI (m := m) (by omega)
  have key : ∀ q, q < n - m → ((!r.lapsOver (r.lfF g n m (q * 2)) (r.lfF g n m (q * 2 + 1)) (r.lfF g n m) (n - m)) = true ↔ r.freeB g n (r.upX g n m) m ((r.lf g n m).getD q 0) = true) := fun q hq => by
    have hmem := Rf.lf_lt (r := r) (g := g) (n := n) (m := m) (q := q) (by omega)
    rw [Rf.free_iff, Bool.not_eq_true', ← Bool.not_eq_true, Rf.lapsOver_iff ho ⟨(hok q hq).1, (hok q hq).2.1⟩ ⟨(hok q hq).2.2.1, (hok q hq).2.2.2⟩ hok]
    constructor
    · intro h
      refine ⟨(Rf.lf_mem.1 hmem).2, fun k hk => ?_⟩
      obtain ⟨j, hj, e⟩ := List.getElem_of_mem hk
      cases e2 : r.over (g ((r.lf g n m).getD q 0 * 2)) (g ((r.lf g n m).getD q 0 * 2 + 1)) (g (k * 2)) (g (k * 2 + 1)) with
      | false => rfl
      | true =>
        refine absurd ⟨j, by omega, ?_⟩ h
        rw [Rf.lfF_even, Rf.lfF_odd, Rf.lfF_even, Rf.lfF_odd, show (r.lf g n m).getD j 0 = k by rw [List.getD_eq_getElem?_getD, List.getElem?_eq_getElem hj, Option.getD_some, e]]
        exact e2
    · rintro ⟨_, h⟩ ⟨j, hj, e⟩
      rw [Rf.lfF_even, Rf.lfF_odd, Rf.lfF_even, Rf.lfF_odd, h _ (Rf.lf_lt (by omega))] at e
      cases e
  refine firstI_hit hq (fun j hj => ?_) ?_
  · cases e : (!r.lapsOver (r.lfF g n m (j * 2)) (r.lfF g n m (j * 2 + 1)) (r.lfF g n m) (n - m)) with
    | false => rfl
    | true =>
      have h4 := (key j (by omega)).1 e
      have h5 : (r.lf g n m).getD j 0 < r.upK g n m := by
        rw [← hg]
        simp only [List.getD_eq_getElem?_getD]
        rw [List.getElem?_eq_getElem (show j < (r.lf g n m).length by omega), List.getElem?_eq_getElem (show r.upQ g n m < (r.lf g n m).length by omega), Option.getD_some, Option.getD_some]
        exact List.pairwise_iff_getElem.1 (Rf.lf_sorted r g n m) j (r.upQ g n m) (by omega) (by omega) hj
      rw [h3 _ h5] at h4
      cases h4
  · rw [key _ hq, hg]
    exact h2
end Go.Proofs.Ytkbacpkpgfppiaa
