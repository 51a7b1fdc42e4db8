/- Roofs read from texts: what is read, and when. -/
import Derived.Test.YtgdhfcpmeaeioaaDoorSplt
import Derived.Test.YtgdhfcpmeaeioaaDoorRoof
import Derived.Test.YtgdhfcpmeaeioaaDoorNums
import Derived.Shelf.Strings.Split
namespace Go.Proofs.YtgdhfcpmeaeioaaDoor
open Go.RowKit

/-- A text split, as a function. -/
def splitL (b : UInt8) : List UInt8 → List (List UInt8) × List UInt8
  | [] => ([], [])
  | x :: t => if x = b then ([] :: (splitL b t).1, (splitL b t).2) else match (splitL b t).1 with
    | [] => ([], x :: (splitL b t).2)
    | l :: ls => ((x :: l) :: ls, (splitL b t).2)
theorem splitL_is (b : UInt8) : ∀ T, IsSplit b T (splitL b T).1 (splitL b T).2
  | [] => ⟨by simp [splitL], by simp [splitL], by simp [splitL, joinL]⟩
  | x :: t => by
    have ih := splitL_is b t
    unfold splitL
    by_cases e : x = b
    · rw [if_pos e]
      refine ⟨fun l hl => ?_, ih.nol, ?_⟩
      · rcases List.mem_cons.1 hl with rfl | hl
        · simp
        · exact ih.no l hl
      · show joinL b ([] :: (splitL b t).1) (splitL b t).2 = x :: t
        rw [joinL_cons, ih.eq, e]; rfl
    · rw [if_neg e]
      have hne : b ≠ x := fun h => e h.symm
      cases h1 : (splitL b t).1 with
      | nil =>
        have h2 := ih.eq
        rw [h1, joinL_nil] at h2
        refine ⟨by simp, ?_, ?_⟩
        · show b ∉ x :: (splitL b t).2
          intro hm
          rcases List.mem_cons.1 hm with h | h
          · exact hne h
          · exact ih.nol h
        · show joinL b [] (x :: (splitL b t).2) = x :: t
          rw [joinL_nil, h2]
      | cons l ls =>
        have h2 := ih.eq
        have h3 := ih.no
        rw [h1] at h2 h3
        refine ⟨fun m hm => ?_, ih.nol, ?_⟩
        · rcases List.mem_cons.1 hm with rfl | hm
          · intro h
            rcases List.mem_cons.1 h with h | h
            · exact hne h
            · exact h3 l (List.mem_cons_self ..) h
          · exact h3 m (List.mem_cons_of_mem _ hm)
        · show joinL b ((x :: l) :: ls) (splitL b t).2 = x :: t
          rw [joinL_cons] at h2 ⊢
          rw [List.cons_append, h2]

/-! ### What the library's split gives -/
theorem indexByte_miss {b : UInt8} : ∀ {l : List UInt8}, b ∉ l → Lib.indexByte l b = -1
  | [], _ => rfl
  | x :: l, h => by
    have hx : (x == b) = false := by rw [beq_eq_false_iff_ne]; exact fun e => h (e ▸ List.mem_cons_self ..)
    unfold Lib.indexByte
    rw [hx, indexByte_miss (fun m => h (List.mem_cons_of_mem _ m))]
    rfl
theorem indexByte_hit {b : UInt8} {r : List UInt8} : ∀ {l : List UInt8}, b ∉ l → Lib.indexByte (l ++ b :: r) b = l.length
  | [], _ => by unfold Lib.indexByte; simp
  | x :: l, h => by
    have hx : (x == b) = false := by rw [beq_eq_false_iff_ne]; exact fun e => h (e ▸ List.mem_cons_self ..)
    rw [List.cons_append]
    unfold Lib.indexByte
    rw [hx, indexByte_hit (fun m => h (List.mem_cons_of_mem _ m))]
    have : ((l.length : Int) == -1) = false := by rw [beq_eq_false_iff_ne]; omega
    simp [this]
theorem indexB_eq (s : ByteArray) (b : UInt8) : Lib.indexB s ⟨#[b]⟩ = Lib.indexByte s.data.toList b := Lib.index_one _ _
theorem splitB_of {b : UInt8} : ∀ {ls : List (List UInt8)} {last : List UInt8} {s : ByteArray} {k : Nat}, IsSplit b s.data.toList ls last →
    (ls.length ≤ k → Lib.splitB ⟨#[b]⟩ 0 k s = (ls ++ [last]).map fun l => ⟨l.toArray⟩) ∧ (k < ls.length → (Lib.splitB ⟨#[b]⟩ 0 k s).length = k + 1)
  | [], last, s, k, h => by
    refine ⟨fun _ => ?_, fun hk => by simp at hk⟩
    have he := h.eq
    rw [joinL_nil] at he
    have hs : s = ⟨last.toArray⟩ := by apply ByteArray.ext; apply Array.ext'; simpa using he.symm
    rw [Lib.splitB_miss _ _ _ _ (by rw [indexB_eq, ← he]; exact indexByte_miss h.nol), hs]
    rfl
  | l :: ls, last, s, 0, h => ⟨fun hk => by simp at hk, fun _ => rfl⟩
  | l :: ls, last, s, k + 1, h => by
    have he := h.eq
    rw [joinL_cons] at he
    have hi : Lib.indexB s ⟨#[b]⟩ = (l.length : Nat) := by rw [indexB_eq, ← he]; exact indexByte_hit (h.no l (List.mem_cons_self ..))
    have hlen : s.size = l.length + (joinL b ls last).length + 1 := by
      rw [← str_len, ← he]; simp; omega
    have h1 : s.extract 0 (l.length + 0) = ⟨l.toArray⟩ := by
      rw [str_extract, ← he]; simp
    have h2 : (s.extract (l.length + 1) s.size).data.toList = joinL b ls last := by
      rw [str_extract, ← he]
      rw [List.take_of_length_le (by simp; omega)]
      simp
    have ih := splitB_of (b := b) (ls := ls) (last := last) (s := s.extract (l.length + 1) s.size) (k := k) ⟨fun m hm => h.no m (List.mem_cons_of_mem _ hm), h.nol, h2.symm⟩
    rw [Lib.splitB_hit _ _ _ _ _ hi, h1]
    have e1 : (⟨#[b]⟩ : ByteArray).size = 1 := rfl
    rw [e1]
    refine ⟨fun hk => ?_, fun hk => ?_⟩
    · rw [ih.1 (by simp at hk; omega)]; rfl
    · rw [List.length_cons, ih.2 (by simp at hk; omega)]

theorem splitB_head {b : UInt8} {ls : List (List UInt8)} {last : List UInt8} {s : ByteArray} {k : Nat} (h : IsSplit b s.data.toList ls last) : ∃ t, Lib.splitB ⟨#[b]⟩ 0 (k + 1) s = ⟨((ls ++ [last]).getD 0 []).toArray⟩ :: t := by
  cases ls with
  | nil => exact ⟨[], by rw [(splitB_of h).1 (by simp)]; rfl⟩
  | cons l ls =>
    have he := h.eq
    rw [joinL_cons] at he
    have hi : Lib.indexB s ⟨#[b]⟩ = (l.length : Nat) := by rw [indexB_eq, ← he]; exact indexByte_hit (h.no l (List.mem_cons_self ..))
    refine ⟨Lib.splitB ⟨#[b]⟩ 0 k (s.extract (l.length + (⟨#[b]⟩ : ByteArray).size) s.size), ?_⟩
    rw [Lib.splitB_hit _ _ _ _ _ hi, str_extract s 0, ← he]
    simp
theorem split_body {T body : List UInt8} (h : T = body ++ [10]) : splitL 10 T = ((splitL 10 body).1 ++ [(splitL 10 body).2], []) := by
  have k := splitL_is 10 body
  have k2 : IsSplit 10 T ((splitL 10 body).1 ++ [(splitL 10 body).2]) [] := by
    refine ⟨fun l hl => ?_, by simp, ?_⟩
    · rcases List.mem_append.1 hl with hl | hl
      · exact k.no l hl
      · rw [List.mem_singleton.1 hl]; exact k.nol
    · rw [joinL_next, k.eq, h]
  obtain ⟨e1, e2⟩ := (splitL_is 10 T).uniq k2
  exact Prod.ext e1 e2
/-! ### Rows and roofs -/
def kl (b : UInt8) : Nat := if b = 46 then 0 else if b = 120 then 1 else if b = 115 then 2 else if b = 111 then 3 else 4
theorem kl_le (b : UInt8) : kl b ≤ 4 := by
  unfold kl
  repeat' split
  all_goals omega
theorem kl_index (b : UInt8) : Lib.indexByte [46, 120, 115, 111] b = if kl b < 4 then (kl b : Int) else -1 := by
  unfold kl
  by_cases h0 : b = 46
  · subst h0; rfl
  · by_cases h1 : b = 120
    · subst h1; rfl
    · by_cases h2 : b = 115
      · subst h2; rfl
      · by_cases h3 : b = 111
        · subst h3; rfl
        · rw [if_neg h0, if_neg h1, if_neg h2, if_neg h3]
          exact indexByte_miss (by simp [h0, h1, h2, h3])
def lineR (wi ib : Nat) (l : List UInt8) : Prop := l.length = wi + 1 ∧ l.getD ((1 - ib) * wi) 0 = 45 ∧ ∀ k, k < wi → kl (l.getD (k + ib) 0) < 4
def rWi (A : List (List UInt8)) : Nat := (A.getD 0 []).length - 1
def rSh (A : List (List UInt8)) : Nat := if (A.getD 0 []).getD 0 0 = 45 then 1 else 0
def rBy (A : List (List UInt8)) (i : Nat) : Nat := (i + rSh A) % 2
/-- The kinds of so many rows, and of so many of the next one's tiles. -/
def tR (A : List (List UInt8)) (n k : Nat) (j : Nat) : Int := if j % 8 < rWi A ∧ (j / 8 < n ∨ j / 8 = n ∧ j % 8 < k) then (kl ((A.getD (j / 8) []).getD (j % 8 + rBy A (j / 8)) 0) : Int) else 0
structure GoodR (A : List (List UInt8)) : Prop where
  h1 : 1 ≤ A.length
  h8 : A.length ≤ 8
  w1 : 2 ≤ (A.getD 0 []).length
  w8 : (A.getD 0 []).length ≤ 9
  ok : ∀ i, i < A.length → lineR (rWi A) (rBy A i) (A.getD i [])
def goodRT (T : List UInt8) : Prop := (splitL 10 T).2 = [] ∧ GoodR (splitL 10 T).1
def mkR (w h s : Int) (t : Nat → Int) : Array Value := #[.int .i8 w, .int .i8 h, .int .u8 s] ++ mkI .u8 64 t
open Classical in
noncomputable def rrC (T : List UInt8) : Int := if goodRT T then 0 else 5
open Classical in
noncomputable def rrA (T : List UInt8) : Array Value := if goodRT T then mkR (rWi (splitL 10 T).1) (splitL 10 T).1.length (rSh (splitL 10 T).1) (tR (splitL 10 T).1 (splitL 10 T).1.length 0) else mkR 0 0 0 fun _ => 0
open Classical in
noncomputable def rrQ (T : List UInt8) : Rf := if goodRT T then ⟨rWi (splitL 10 T).1, (splitL 10 T).1.length, rSh (splitL 10 T).1, tR (splitL 10 T).1 (splitL 10 T).1.length 0⟩ else ⟨0, 0, 0, fun _ => 0⟩
theorem good_ends {T : List UInt8} (g : goodRT T) : ∃ body, T = body ++ [10] := by
  have k := splitL_is 10 T
  have h1 := g.2.h1
  have h2 := k.eq
  rw [g.1] at h2
  rcases List.eq_nil_or_concat (splitL 10 T).1 with h | ⟨A, l, h⟩
  · rw [h] at h1; simp at h1
  · rw [h, List.concat_eq_append, joinL_next] at h2; exact ⟨_, h2.symm⟩
theorem rrC_ok {T : List UInt8} (h : goodRT T) : rrC T = 0 := if_pos h
theorem rrC_no {T : List UInt8} (h : ¬ goodRT T) : rrC T = 5 := if_neg h
theorem rrA_ok {T : List UInt8} (h : goodRT T) : rrA T = mkR (rWi (splitL 10 T).1) (splitL 10 T).1.length (rSh (splitL 10 T).1) (tR (splitL 10 T).1 (splitL 10 T).1.length 0) := if_pos h
theorem rrA_no {T : List UInt8} (h : ¬ goodRT T) : rrA T = mkR 0 0 0 fun _ => 0 := if_neg h
theorem size_mkR (w h s : Int) (t : Nat → Int) : (mkR w h s t).size = 67 := by unfold mkR; rw [Array.size_append, size_mkI]; rfl
theorem mkR_get {w h s : Int} {t : Nat → Int} {j : Nat} (hj : j < 64) : (mkR w h s t)[3 + j]? = some (.int .u8 (t j)) := by
  unfold mkR
  rw [Array.getElem?_append_right (by simp)]
  have e : 3 + j - (#[.int .i8 w, .int .i8 h, .int .u8 s] : Array Value).size = j := by simp
  rw [e]
  exact (isK_mkI .u8 64 t).get hj
theorem getX {c : Array Value} {i : Nat} {v : Value} (h : c[i]? = some v) (hi : i < c.size) : c[i] = v := by
  rw [Array.getElem?_eq_getElem hi] at h; exact Option.some.inj h
theorem mkR_hd (w h s : Int) (t : Nat → Int) : (mkR w h s t)[0]? = some (.int .i8 w) ∧ (mkR w h s t)[1]? = some (.int .i8 h) ∧ (mkR w h s t)[2]? = some (.int .u8 s) := by
  unfold mkR
  refine ⟨?_, ?_, ?_⟩ <;> rw [Array.getElem?_append_left (by simp)] <;> rfl
theorem mkR_is {w h s : Int} {t : Nat → Int} (hw : -128 ≤ w ∧ w ≤ 127) (hh : -128 ≤ h ∧ h ≤ 127) (hs : 0 ≤ s ∧ s ≤ 255) (ht : ∀ i, i < 64 → 0 ≤ t i ∧ t i ≤ 255) : IsRoof (mkR w h s t) ⟨w, h, s, t⟩ where
  size := size_mkR _ _ _ _
  wide hi := getX (mkR_hd w h s t).1 hi
  high hi := getX (mkR_hd w h s t).2.1 hi
  shift hi := getX (mkR_hd w h s t).2.2 hi
  tiles := by
    refine ⟨by rw [Array.size_extract, size_mkR]; rfl, fun i hi => ?_, fun i hi => (ht i hi).1, fun i hi => (ht i hi).2⟩
    have hi' : i < 64 := by rw [Array.size_extract, size_mkR] at hi; omega
    rw [Array.getElem_extract]
    exact getX (mkR_get hi') _
  w0 := hw.1
  w1 := hw.2
  h0 := hh.1
  h1 := hh.2
  s0 := hs.1
  s1 := hs.2
theorem tR_bd (A : List (List UInt8)) (n k j : Nat) : 0 ≤ tR A n k j ∧ tR A n k j ≤ 255 := by
  unfold tR
  split
  · have := kl_le ((A.getD (j / 8) []).getD (j % 8 + rBy A (j / 8)) 0); omega
  · omega
theorem rSh_bd (A : List (List UInt8)) : rSh A ≤ 1 := by unfold rSh; split <;> omega
theorem rrA_is (T : List UInt8) : IsRoof (rrA T) (rrQ T) := by
  by_cases h : goodRT T
  · rw [rrA_ok h, show rrQ T = _ from if_pos h]
    have := h.2.h8; have := h.2.w8; have := rSh_bd (splitL 10 T).1
    refine mkR_is ?_ (by omega) (by omega) (fun i _ => tR_bd _ _ _ _)
    unfold rWi; omega
  · rw [rrA_no h, show rrQ T = _ from if_neg h]
    exact mkR_is (by omega) (by omega) (by omega) (fun _ _ => by omega)
theorem mkR_congr {w h s : Int} {t u : Nat → Int} (e : ∀ i, i < 64 → t i = u i) : mkR w h s t = mkR w h s u := by unfold mkR; rw [mkI_congr e]
theorem mkR_set {w h s : Int} {t : Nat → Int} {j : Nat} (hj : j < 64) (x : Int) : (mkR w h s t).setIfInBounds (3 + j) (.int .u8 x) = mkR w h s (upd t j x) := by
  apply Array.ext
  · rw [Array.size_setIfInBounds, size_mkR, size_mkR]
  · intro i h1 h2
    have hi : i < 67 := by rw [size_mkR] at h2; exact h2
    have e : ∀ (c : Array Value) (h : i < c.size), c[i]? = some c[i] := fun c h => Array.getElem?_eq_getElem h
    apply Option.some.inj
    rw [← e _ h1, ← e _ h2, Array.getElem?_setIfInBounds]
    by_cases ej : 3 + j = i
    · subst ej
      rw [if_pos rfl, if_pos (by rw [size_mkR]; omega), mkR_get hj, upd_at]
    · rw [if_neg ej]
      by_cases h3 : i < 3
      · unfold mkR; rw [Array.getElem?_append_left (by simpa using h3), Array.getElem?_append_left (by simpa using h3)]
      · obtain ⟨k, rfl⟩ : ∃ k, i = 3 + k := ⟨i - 3, by omega⟩
        rw [mkR_get (by omega), mkR_get (by omega), upd_ne _ _ (by omega)]
theorem tR_row {A : List (List UInt8)} {n : Nat} {j : Nat} : (if j / 8 = n then (if j % 8 < rWi A then (kl ((A.getD n []).getD (j % 8 + rBy A n) 0) : Int) else 0) else tR A n 0 j) = tR A (n + 1) 0 j := by
  unfold tR
  by_cases e : j / 8 = n
  · rw [if_pos e]
    by_cases h : j % 8 < rWi A
    · rw [if_pos h, if_pos ⟨h, .inl (by omega)⟩, e]
    · rw [if_neg h, if_neg (fun a => h a.1)]
  · rw [if_neg e]
    by_cases h : j % 8 < rWi A ∧ (j / 8 < n ∨ j / 8 = n ∧ j % 8 < 0)
    · rw [if_pos h, if_pos ⟨h.1, .inl (by omega)⟩]
    · rw [if_neg h, if_neg (fun a => h ⟨a.1, .inl (by omega)⟩)]
theorem tR_one {A : List (List UInt8)} {n k : Nat} (hk : k < rWi A) (hw : rWi A ≤ 8) {j : Nat} : upd (tR A n k) (n * 8 + k) (kl ((A.getD n []).getD (k + rBy A n) 0) : Int) j = tR A n (k + 1) j := by
  by_cases e : j = n * 8 + k
  · subst e
    rw [upd_at]
    have e1 : (n * 8 + k) / 8 = n := by omega
    have e2 : (n * 8 + k) % 8 = k := by omega
    unfold tR
    rw [e1, e2, if_pos ⟨hk, .inr ⟨rfl, by omega⟩⟩]
  · rw [upd_ne _ _ e]
    unfold tR
    by_cases h : j % 8 < rWi A ∧ (j / 8 < n ∨ j / 8 = n ∧ j % 8 < k)
    · rw [if_pos h, if_pos ⟨h.1, h.2.imp id fun a => ⟨a.1, by omega⟩⟩]
    · rw [if_neg h, if_neg (fun a => h ⟨a.1, a.2.imp id fun b => ⟨b.1, by omega⟩⟩)]
theorem tR_next {A : List (List UInt8)} {n j : Nat} : tR A n (rWi A) j = tR A (n + 1) 0 j := by
  unfold tR
  by_cases h : j % 8 < rWi A ∧ (j / 8 < n ∨ j / 8 = n ∧ j % 8 < rWi A)
  · rw [if_pos h, if_pos ⟨h.1, .inl (by omega)⟩]
  · rw [if_neg h, if_neg (fun a => h ⟨a.1, by omega⟩)]
theorem IsRoof.uniqR {c e : Array Value} {r : Rf} (h : IsRoof c r) (k : IsRoof e r) : c = e := by
  have hs := h.size
  have ks := k.size
  refine Array.ext (by omega) fun i h1 h2 => ?_
  by_cases h3 : 3 ≤ i
  · rw [h.tile i h1 h3, k.tile i h2 h3]
  · have : i = 0 ∨ i = 1 ∨ i = 2 := by omega
    rcases this with rfl | rfl | rfl
    · rw [h.wide h1, k.wide h2]
    · rw [h.high h1, k.high h2]
    · rw [h.shift h1, k.shift h2]
theorem mkR_wide {w h s x : Int} {t : Nat → Int} : (mkR w h s t).setIfInBounds 0 (.int .i8 x) = mkR x h s t := by
  unfold mkR
  rw [Array.setIfInBounds_append_left (by simp)]
  rfl
theorem mkR_high {w h s x : Int} {t : Nat → Int} : (mkR w h s t).setIfInBounds 1 (.int .i8 x) = mkR w x s t := by
  unfold mkR
  rw [Array.setIfInBounds_append_left (by simp)]
  rfl
theorem mkR_ones (w h s : Int) (t : Nat → Int) : Ones (mkR w h s t) := by
  refine Ones.of_get fun i hi => ?_
  have hi' : i < 67 := by rw [size_mkR] at hi; exact hi
  have hd := mkR_hd w h s t
  by_cases h3 : 3 ≤ i
  · obtain ⟨k, rfl⟩ : ∃ k, i = 3 + k := ⟨i - 3, by omega⟩
    rw [getX (mkR_get (by omega)) hi]; rfl
  · have : i = 0 ∨ i = 1 ∨ i = 2 := by omega
    rcases this with rfl | rfl | rfl
    · rw [getX hd.1 hi]; rfl
    · rw [getX hd.2.1 hi]; rfl
    · rw [getX hd.2.2 hi]; rfl
theorem mkR_shift {w h s x : Int} {t : Nat → Int} : (mkR w h s t).setIfInBounds 2 (.int .u8 x) = mkR w h x t := by
  unfold mkR
  rw [Array.setIfInBounds_append_left (by simp)]
  rfl
theorem mkR_splice {w h s : Int} {t f : Nat → Int} {c : Nat} (hc : c < 8) : splice (mkR w h s t) (3 + c * 8) (mkI .u8 8 f) = mkR w h s (fun i => if i / 8 = c then f (i % 8) else t i) := by
  have es : (mkI .u8 8 f).size = 8 := size_mkI _ _ _
  have hsz : (splice (mkR w h s t) (3 + c * 8) (mkI .u8 8 f)).size = 67 := by rw [size_splice _ _ _ (by rw [size_mkR, es]; omega), size_mkR]
  apply Array.ext
  · rw [hsz, size_mkR]
  · intro i h1 h2
    have hi : i < 67 := by rw [size_mkR] at h2; exact h2
    have e : ∀ (c : Array Value) (h : i < c.size), c[i]? = some c[i] := fun c h => Array.getElem?_eq_getElem h
    apply Option.some.inj
    rw [← e _ h1, ← e _ h2, get_splice _ _ _ (by rw [size_mkR, es]; omega), es]
    by_cases h3 : i < 3
    · rw [if_pos (by omega)]
      unfold mkR; rw [Array.getElem?_append_left (by simpa using h3), Array.getElem?_append_left (by simpa using h3)]
    · obtain ⟨k, rfl⟩ : ∃ k, i = 3 + k := ⟨i - 3, by omega⟩
      rw [mkR_get (by omega), mkR_get (by omega)]
      by_cases a : 3 + k < 3 + c * 8
      · rw [if_pos a, if_neg (by omega)]
      · rw [if_neg a]
        by_cases b : 3 + k < 3 + c * 8 + 8
        · rw [if_pos b, if_pos (by omega), (isK_mkI .u8 8 f).get (by omega), show 3 + k - (3 + c * 8) = k % 8 from by omega]
        · rw [if_neg b, if_neg (by omega)]
end Go.Proofs.YtgdhfcpmeaeioaaDoor
