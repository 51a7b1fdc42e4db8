/- Words of the letters r and b: both sides' checks. -/
import Derived.Test.YtppohghejhcilaaDoorSpecA
import Derived.Test.YtppohghejhcilaaDoorNums
import Derived.Test.YtppohghejhcilaaDoorShf
namespace Go.Proofs.YtppohghejhcilaaDoor
open Go.RowKit

def isLet (b : UInt8) : Bool := [98, 114].contains b
/-- A valid word. -/
def wordB (s : ByteArray) : Bool := decide (1 ≤ s.size ∧ s.size ≤ 12) && s.data.toList.all isLet
theorem drop_all (p : UInt8 → Bool) : ∀ l : List UInt8, (∀ x ∈ l.dropWhile p, p x = true) → l.dropWhile p = []
  | [], _ => rfl
  | a :: l, h => by
    by_cases hp : p a = true
    · rw [List.dropWhile_cons_of_pos hp] at h ⊢
      exact drop_all p l h
    · rw [List.dropWhile_cons_of_neg hp] at h
      exact absurd (h a (List.mem_cons_self ..)) hp
theorem drop_nil (p : UInt8 → Bool) : ∀ l : List UInt8, l.dropWhile p = [] → ∀ x ∈ l, p x = true
  | [], _, _, h => by cases h
  | a :: l, h, x, hx => by
    by_cases hp : p a = true
    · rw [List.dropWhile_cons_of_pos hp] at h
      rcases List.mem_cons.1 hx with rfl | hx
      · exact hp
      · exact drop_nil p l h x hx
    · rw [List.dropWhile_cons_of_neg hp] at h
      cases h
theorem drop_of (p : UInt8 → Bool) : ∀ l : List UInt8, (∀ x ∈ l, p x = true) → l.dropWhile p = []
  | [], _ => rfl
  | a :: l, h => by
    rw [List.dropWhile_cons_of_pos (h a (List.mem_cons_self ..))]
    exact drop_of p l fun x hx => h x (List.mem_cons_of_mem _ hx)
theorem trim_nil (l : List UInt8) : Lib.trimS l [98, 114] = [] ↔ l.all isLet = true := by
  unfold Lib.trimS Lib.trimLeftS Lib.trimRightS
  rw [List.all_eq_true]
  constructor
  · intro h x hx
    have h1 := drop_nil _ _ h
    have h2 : l.reverse.dropWhile (fun x => [98, 114].contains x) = [] := drop_all _ _ fun y hy => h1 y (List.mem_reverse.2 hy)
    exact drop_nil _ _ h2 x (List.mem_reverse.2 hx)
  · intro h
    rw [show l.reverse.dropWhile (fun x => [98, 114].contains x) = [] from drop_of _ l.reverse fun x hx => h x (List.mem_reverse.1 hx)]
    rfl
theorem isLet_t {b : UInt8} (h : b.toNat = 114 ∨ b.toNat = 98) : isLet b = true := by
  have : b = 114 ∨ b = 98 := h.imp (fun e => UInt8.toNat_inj.1 e) (fun e => UInt8.toNat_inj.1 e)
  rcases this with rfl | rfl <;> decide
theorem isLet_f {b : UInt8} (h : ¬ b.toNat = 114) (h2 : ¬ b.toNat = 98) : isLet b = false := by
  cases e : isLet b with
  | false => rfl
  | true =>
    have : b = 98 ∨ b = 114 := by simpa [isLet] using e
    rcases this with rfl | rfl
    · exact absurd rfl h2
    · exact absurd rfl h
theorem word_f {s : ByteArray} (h : ¬ (1 ≤ s.size ∧ s.size ≤ 12)) : wordB s = false := by
  unfold wordB; rw [decide_eq_false h]; rfl
theorem word_t {s : ByteArray} (h : 1 ≤ s.size ∧ s.size ≤ 12) : wordB s = s.data.toList.all isLet := by
  unfold wordB; rw [decide_eq_true h]; rfl

theorem trim_any (s : ByteArray) (w : World) (hs : s.size ≤ 9223372036854775807) :
    Calls Tryd.prog 108 #[.string s, .string ⟨#[98, 114]⟩] w fun e w' => e = .returned (.string ⟨(Lib.trimS s.data.toList [98, 114]).toArray⟩) ∧ Below w.heap.size w w' :=
  Any.strings_Trim_laid Tryd.lays160 (by kernel_rfl) s ⟨#[98, 114]⟩ w hs (by decide) (ascii_of_all (by decide))

set_option maxRecDepth 100000 in
set_option maxHeartbeats 1000000 in
theorem validWord_any (s : ByteArray) (w : World) (hs : s.size ≤ 9223372036854775807) :
    Calls Tryd.prog 93 #[.string s] w fun e w' => e = .returned (.bool (wordB s)) ∧ Below w.heap.size w w' := by
  by_cases h1 : 1 ≤ s.size
  · by_cases h2 : s.size ≤ 12
    · have i1 : (1 : Int) ≤ s.size := by omega
      have i2 : (s.size : Int) ≤ 12 := by omega
      have d1 : decide ((1 : Int) ≤ s.size) = true := by simpa using i1
      have d2 : decide ((s.size : Int) ≤ 12) = true := by simpa using i2
      rw [word_t ⟨h1, h2⟩]
      have CT := fun W => trim_any s W hs
      cases hl : s.data.toList.all isLet with
      | true =>
        rw [(trim_nil _).2 hl] at CT
        clear hl
        go_enter Tryd.func93, Tryd.ntmps93
        go_wp2_with fail
        refine (CT _).mono ?_
        rintro e w1 ⟨rfl, b1⟩
        go_wp2_with fail
        go_ret
        exact ⟨rfl, b1⟩
      | false =>
        have hn : Lib.trimS s.data.toList [98, 114] ≠ [] := fun h => by rw [(trim_nil _).1 h] at hl; cases hl
        generalize Lib.trimS s.data.toList [98, 114] = t at *
        have hb : t.isEmpty = false := by cases t with | nil => exact absurd rfl hn | cons x l => rfl
        clear hl
        go_enter Tryd.func93, Tryd.ntmps93
        go_wp2_with fail
        refine (CT _).mono ?_
        rintro e w1 ⟨rfl, b1⟩
        go_wp2_with fail
        go_ret
        exact ⟨rfl, b1⟩
    · have i1 : (1 : Int) ≤ s.size := by omega
      have i2 : ¬ (s.size : Int) ≤ 12 := by omega
      have d1 : decide ((1 : Int) ≤ s.size) = true := by simpa using i1
      have d2 : decide ((s.size : Int) ≤ 12) = false := by simpa using i2
      rw [word_f (by omega)]
      go_enter Tryd.func93, Tryd.ntmps93
      go_wp2_with fail
      go_ret
      exact ⟨rfl, Below.refl _ _⟩
  · have i1 : ¬ (1 : Int) ≤ s.size := by omega
    have d1 : decide ((1 : Int) ≤ s.size) = false := by simpa using i1
    rw [word_f (by omega)]
    go_enter Tryd.func93, Tryd.ntmps93
    go_wp2_with fail
    go_ret
    exact ⟨rfl, Below.refl _ _⟩

set_option maxRecDepth 100000 in
set_option maxHeartbeats 1000000 in
theorem l07Word_any (s : ByteArray) (w : World) (hs : s.size ≤ 9223372036854775807) :
    Calls Tryd.prog 66 #[.string s] w fun e w' => e = .returned (.bool (wordB s)) ∧ w = w' := by
  have HE := Lib.hid (fun (h : ∀ b ∈ s.data.toList, isLet b = true) => (show wordB s = inB s.size 1 12 by
    unfold wordB inB
    rw [List.all_eq_true.2 h, Bool.and_true]
    by_cases a : 1 ≤ s.size
    · by_cases b : s.size ≤ 12
      · simp [a, b]; omega
      · simp [b]; omega
    · simp [a]; omega))
  have HN := Lib.hid (fun b (hb : b ∈ s.data.toList) (h : isLet b = false) => (show wordB s = false by
    unfold wordB
    have : s.data.toList.all isLet = false := List.all_eq_false.2 ⟨b, hb, by simp [h]⟩
    rw [this, Bool.and_false]))
  have hsz : s.data.toList.length = s.size := (Lib.size_eq s).symm
  go_enter Tryd.func66, Tryd.ntmps66
  go_wp2_with fail
  go_loop [3] (fun i => ∃ k : Nat, k ≤ s.size ∧ i = .int .i64 k ∧ Hid (∀ b ∈ s.data.toList.take k, isLet b = true)) (fun i => s.size - (intOf i).toNat)
  case atStart => exact ⟨0, by omega, rfl, Lib.hid (fun b hb => by simp at hb)⟩
  case round =>
    obtain ⟨k, hk, rfl, hF⟩ := hrel
    by_cases hlt : k < s.size
    · have k0 : 0 ≤ (k : Int) := by omega
      have k1 : (k : Int) < s.size := by omega
      have HM := Lib.hid (show s[k] ∈ s.data.toList from by
        have : s[k] = s.data.toList[k]'(by omega) := rfl
        rw [this]; exact List.getElem_mem _)
      have HT := Lib.hid (show s.data.toList.take (k + 1) = s.data.toList.take k ++ [s[k]] from by
        rw [List.take_succ_eq_append_getElem (by omega)]; rfl)
      have HI := Lib.hid (show s[k].toNat = 114 ∨ s[k].toNat = 98 → isLet s[k] = true from isLet_t)
      have HJ := Lib.hid (show ¬ s[k].toNat = 114 → ¬ s[k].toNat = 98 → isLet s[k] = false from isLet_f)
      have hc : ∀ b, isLet s[k] = true → b ∈ s.data.toList.take (k + 1) → isLet b = true := fun b hl hb => by
        rw [HT.out] at hb
        rcases List.mem_append.1 hb with hb | hb
        · exact hF.out b hb
        · obtain rfl := List.mem_singleton.1 hb; exact hl
      have HC := Lib.hid hc
      clear hc
      by_cases h1 : (s[k].toNat : Int) = 114
      · have e1 : ((s[k].toNat : Int) != 114) = false := by simp [h1]
        have HL := Lib.hid (HI.out (.inl (by omega)))
        clear h1
        go_wp2_with fail
        refine ⟨⟨k + 1, by omega, by go_num, Lib.hid (fun b hb => HC.out b HL.out hb)⟩, by simp [intOf]; omega⟩
      · have e1 : ((s[k].toNat : Int) != 114) = true := by simpa using h1
        by_cases h2 : (s[k].toNat : Int) = 98
        · have e2 : ((s[k].toNat : Int) != 98) = false := by simp [h2]
          have HL := Lib.hid (HI.out (.inr (by omega)))
          clear h1 h2
          go_wp2_with fail
          refine ⟨⟨k + 1, by omega, by go_num, Lib.hid (fun b hb => HC.out b HL.out hb)⟩, by simp [intOf]; omega⟩
        · have e2 : ((s[k].toNat : Int) != 98) = true := by simpa using h2
          have HL := Lib.hid (HN.out _ HM.out (HJ.out (by omega) (by omega)))
          clear h1 h2
          go_wp2_with fail
          go_ret
          exact ⟨by rw [HL.out]; rfl, rfl⟩
    · obtain rfl : k = s.size := by omega
      have HL := Lib.hid (HE.out (by have := hF.out; rwa [List.take_of_length_le (by omega)] at this))
      go_wp2_with fail
      refine (l00In_any _ _ _ _).mono ?_
      rintro e w1 ⟨rfl, rfl⟩
      go_wp2_with fail
      go_ret
      exact ⟨by rw [HL.out]; rfl, rfl⟩
end Go.Proofs.YtppohghejhcilaaDoor
