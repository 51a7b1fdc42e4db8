/- A text split at each such byte: what the model's split gives. -/
import Derived.Test.YtgdhfcpmeaeioaaDoorNums
import Derived.Test.YtgdhfcpmeaeioaaDoorGrow
import Derived.Test.YtgdhfcpmeaeioaaDoorTxt
namespace Go.Proofs.YtgdhfcpmeaeioaaDoor
open Go.RowKit

/-- Pieces joined by a byte. -/
def joinL (b : UInt8) (ls : List (List UInt8)) (last : List UInt8) : List UInt8 := (ls.flatMap fun l => l ++ [b]) ++ last
structure IsSplit (b : UInt8) (T : List UInt8) (ls : List (List UInt8)) (last : List UInt8) : Prop where
  no : ∀ l ∈ ls, b ∉ l
  nol : b ∉ last
  eq : joinL b ls last = T
theorem cut_one {b : UInt8} : ∀ {x y r t : List UInt8}, b ∉ x → b ∉ y → x ++ b :: r = y ++ b :: t → x = y ∧ r = t
  | [], [], _, _, _, _, h => ⟨rfl, (List.cons.inj h).2⟩
  | [], c :: y, _, _, _, hy, h => absurd (List.cons.inj h).1 fun e => hy (e ▸ List.mem_cons_self ..)
  | c :: x, [], _, _, hx, _, h => absurd (List.cons.inj h).1 fun e => hx (e ▸ List.mem_cons_self ..)
  | c :: x, d :: y, _, _, hx, hy, h => by
    have h' := List.cons.inj h
    have := cut_one (fun m => hx (List.mem_cons_of_mem _ m)) (fun m => hy (List.mem_cons_of_mem _ m)) h'.2
    exact ⟨by rw [h'.1, this.1], this.2⟩
theorem joinL_cons (b : UInt8) (l : List UInt8) (ls : List (List UInt8)) (last : List UInt8) : joinL b (l :: ls) last = l ++ b :: joinL b ls last := by simp [joinL]
theorem joinL_nil (b : UInt8) (x : List UInt8) : joinL b [] x = x := by simp [joinL]
theorem joinL_snoc (b : UInt8) (ls : List (List UInt8)) (a m : List UInt8) : joinL b ls (a ++ m) = joinL b ls a ++ m := by simp [joinL]
theorem joinL_next (b : UInt8) (ls : List (List UInt8)) (a : List UInt8) : joinL b (ls ++ [a]) [] = joinL b ls a ++ [b] := by simp [joinL]
theorem joinL_uniq {b : UInt8} : ∀ {ls ms : List (List UInt8)} {x y : List UInt8}, (∀ l ∈ ls, b ∉ l) → (∀ l ∈ ms, b ∉ l) → b ∉ x → b ∉ y → joinL b ls x = joinL b ms y → ls = ms ∧ x = y
  | [], [], _, _, _, _, _, _, h => ⟨rfl, by simpa [joinL] using h⟩
  | [], m :: ms, x, y, _, _, hx, _, h => by
    rw [joinL_cons, joinL_nil] at h
    exact absurd (h ▸ List.mem_append_right m (List.mem_cons_self ..)) hx
  | l :: ls, [], x, y, _, _, _, hy, h => by
    rw [joinL_cons, joinL_nil] at h
    exact absurd (h ▸ List.mem_append_right l (List.mem_cons_self ..)) hy
  | l :: ls, m :: ms, x, y, h1, h2, hx, hy, h => by
    rw [joinL_cons, joinL_cons] at h
    obtain ⟨rfl, hr⟩ := cut_one (h1 l (List.mem_cons_self ..)) (h2 m (List.mem_cons_self ..)) h
    obtain ⟨rfl, rfl⟩ := joinL_uniq (fun a ha => h1 a (List.mem_cons_of_mem _ ha)) (fun a ha => h2 a (List.mem_cons_of_mem _ ha)) hx hy hr
    exact ⟨rfl, rfl⟩
theorem IsSplit.uniq {b : UInt8} {T : List UInt8} {ls ms : List (List UInt8)} {x y : List UInt8} (h : IsSplit b T ls x) (k : IsSplit b T ms y) : ls = ms ∧ x = y :=
  joinL_uniq h.no k.no h.nol k.nol (h.eq.trans k.eq.symm)
theorem joinL_len (b : UInt8) : ∀ (ls : List (List UInt8)) (last : List UInt8), ls.length ≤ (joinL b ls last).length
  | [], _ => by simp
  | l :: ls, last => by
    have := joinL_len b ls last
    rw [joinL_cons]
    simp only [List.length_append, List.length_cons]
    omega
theorem IsSplit.len {b : UInt8} {T : List UInt8} {ls : List (List UInt8)} {x : List UInt8} (h : IsSplit b T ls x) : ls.length ≤ T.length := by rw [← h.eq]; exact joinL_len _ _ _
def strs (ls : List (List UInt8)) : List Value := ls.map fun l => .string ⟨l.toArray⟩
theorem strs_len (ls : List (List UInt8)) : (strs ls).length = ls.length := by simp [strs]
theorem str_len (s : ByteArray) : s.data.toList.length = s.size := rfl
theorem str_extract (s : ByteArray) (a b : Nat) : s.extract a b = ⟨((s.data.toList.take b).drop a).toArray⟩ := by
  apply ByteArray.ext
  apply Array.ext'
  simp only [ByteArray.data_extract, Array.toList_extract, List.extract_eq_take_drop, List.drop_take]

theorem strs_row {W : World} {B n : Nat} {e : TypeId} {v : Value} {ls : List (List UInt8)} (own : W.ownsRow B e 1 v (n + 1) (strs ls)) : ∃ g cap cur, v = .slice (some ⟨g, 0, none⟩) (n + 1) cap ∧ n + 1 ≤ cap ∧ B ≤ g ∧ rowAt W g = some cur ∧ ∀ j, j < ls.length → cur[j]? = some (.string ⟨(ls.getD j []).toArray⟩) := by
  obtain ⟨hl, h | ⟨g, cap, cur, rfl, hg, hh, hn, hm, hs, ht⟩⟩ := own
  · omega
  · refine ⟨g, cap, cur, rfl, hn, hg, rowAt_of_heap hh, fun j hj => ?_⟩
    have h1 : cur[j]? = (cur.toList.take ((n + 1) * 1))[j]? := by rw [List.getElem?_take, if_pos (by rw [strs_len] at hl; omega), Array.getElem?_toList]
    rw [h1, ht]
    simp [strs, hj]
theorem A_infoStr : (Tryd.prog.info? 9).map (fun i => (i.zero, i.size, i.bytes)) = some (some (.string ⟨#[]⟩), 1, 16) := by kernel_rfl
set_option maxRecDepth 100000 in
set_option maxHeartbeats 2000000 in
theorem l01Split_any (s : ByteArray) (b : UInt8) (w : World) (hs : s.size ≤ 2000000) :
    Calls Tryd.prog 26 #[.string s, .int .u8 b.toNat] w fun e w' => ∃ v ls last, e = .returned v ∧ IsSplit b s.data.toList ls last ∧ w'.ownsRow w.heap.size 9 1 v (ls.length + 1) (strs (ls ++ [last])) ∧ Below w.heap.size w w' := by
  obtain ⟨T, hT⟩ : ∃ T, s.data.toList = T := ⟨_, rfl⟩
  have hl : T.length = s.size := by rw [← hT]; exact str_len s
  have hsx := str_extract s
  have hget : ∀ k (h : k < s.size), s[k] = T[k]'(by omega) := fun k h => by subst hT; rfl
  rw [hT] at hsx ⊢
  clear hT
  have HG := Lib.hid hget
  clear hget
  go_enter Tryd.func26, Tryd.ntmps26
  obtain ⟨i0, hi0, hz0, hz1, hz2⟩ := info_parts A_infoStr
  go_wp2_with fail
  refine gen_world fun W0 hW => ?_
  have o0 : W0.ownsRow w.heap.size 9 1 (.slice (some ⟨w.heap.size, 0, none⟩) 0 0) 0 (strs []) := by rw [hW]; exact owns_zero w _ _
  have B0 : Below w.heap.size w W0 := by rw [hW]; exact (Below.refl _ _).alloc (Nat.le_refl _) _
  clear hW
  have SG : ∀ (ls : List (List UInt8)) (k bg : Nat), Hid (joinL b ls ((T.take k).drop bg) = T.take k ∧ (∀ l ∈ ls, b ∉ l) ∧ b ∉ (T.take k).drop bg) → ∀ (hk : k < T.length), bg ≤ k → (T[k] ≠ b → Hid (joinL b ls ((T.take (k + 1)).drop bg) = T.take (k + 1) ∧ (∀ l ∈ ls, b ∉ l) ∧ b ∉ (T.take (k + 1)).drop bg)) ∧ (T[k] = b → Hid (joinL b (ls ++ [(T.take k).drop bg]) ((T.take (k + 1)).drop (k + 1)) = T.take (k + 1) ∧ (∀ l ∈ ls ++ [(T.take k).drop bg], b ∉ l) ∧ b ∉ (T.take (k + 1)).drop (k + 1))) := by
    intro ls k bg h hk hb
    obtain ⟨h1, h2, h3⟩ := h.out
    have e1 : T.take (k + 1) = T.take k ++ [T[k]] := List.take_succ_eq_append_getElem hk
    have e2 : (T.take (k + 1)).drop bg = (T.take k).drop bg ++ [T[k]] := by
      rw [e1, List.drop_append_of_le_length (by rw [List.length_take]; omega)]
    have e3 : (T.take (k + 1)).drop (k + 1) = [] := List.drop_eq_nil_of_le (by rw [List.length_take]; omega)
    constructor
    · intro hne
      refine Lib.hid ⟨?_, h2, ?_⟩
      · rw [e2, joinL_snoc, h1, e1]
      · rw [e2]; intro hm
        rcases List.mem_append.1 hm with hm | hm
        · exact h3 hm
        · exact hne (List.mem_singleton.1 hm).symm
    · intro he
      refine Lib.hid ⟨?_, ?_, by rw [e3]; simp⟩
      · rw [e3, joinL_next, h1, e1, he]
      · intro l hl
        rcases List.mem_append.1 hl with hl | hl
        · exact h2 l hl
        · rw [List.mem_singleton.1 hl]; exact h3
  go_loopw [5, 6, 7] (fun v g i W => ∃ (k bg : Nat) (ls : List (List UInt8)), k ≤ s.size ∧ bg ≤ k ∧ ls.length ≤ k ∧ i = .int .i64 k ∧ g = .int .i64 bg ∧ Hid (joinL b ls ((T.take k).drop bg) = T.take k ∧ (∀ l ∈ ls, b ∉ l) ∧ b ∉ (T.take k).drop bg) ∧ W.ownsRow w.heap.size 9 1 v ls.length (strs ls) ∧ Below w.heap.size w W) (fun _ _ i _ => s.size - (intOf i).toNat)
  case atStart => exact ⟨0, 0, [], by omega, by omega, by simp, rfl, rfl, Lib.hid ⟨by simp [joinL], by simp, by simp⟩, o0, B0⟩
  case round =>
    clear o0 B0
    obtain ⟨k, bg, ls, hk, hbg, hll, rfl, rfl, hS, own, hB⟩ := hrel
    by_cases hlt : k < s.size
    · have hstep := SG ls k bg hS (by omega) hbg
      have hgk := HG.out k hlt
      have k0 : (0 : Int) ≤ k := by omega
      have k1 : (k : Int) < s.size := by omega
      have k2 : (k : Int) ≤ s.size := by omega
      have g0 : (0 : Int) ≤ bg := by omega
      have g1 : (bg : Int) ≤ k := by omega
      obtain ⟨ad, cp, rfl⟩ := owns_shape own
      by_cases he : T[k]'(by omega) = b
      · have hn := hstep.2 he
        have hx : ((s[k]'hlt).toNat : Int) = b.toNat := by rw [hgk, he]
        clear hstep hgk he SG hS
        go_wp2_with (at_builtin; refine wpList_append_own _ rfl _ _ 32 rfl w.heap.size 9 i0 (.string ⟨#[]⟩) 1 16 Tryd.underlying32 hi0 hz0 hz1 hz2 rfl (by decide) _ _ _ rfl (own.alloc _) ⟨wr.heap.size, 0, none⟩ 1 1 [.string ⟨((T.take k).drop bg).toArray⟩] rfl rfl ?c1 ?c2 ?c3 ?c4 ?c5 ?_)
        case c1 => exact cell_one_new _ _ _
        case c2 => intro u hu; simp at hu; subst hu; rfl
        case c3 => unfold maxLen; omega
        case c4 => omega
        case c5 => have := hB.size; simp; omega
        intro v' w2 own' grow _
        have hc := owns_shape own'
        obtain ⟨ad2, cp2, rfl⟩ := hc
        have B2 : Below w.heap.size w w2 := (hB.alloc hB.size _).grown grow (by have := hB.size; simp; omega) (fun x hx => owns_base' own x hx)
        go_wp2_with fail
        refine ⟨⟨k + 1, k + 1, ls ++ [(T.take k).drop bg], by omega, by omega, by simp; omega, by go_num, by go_num, hn, ?_, B2⟩, by simp [intOf]; omega⟩
        have e : strs (ls ++ [(T.take k).drop bg]) = strs ls ++ [.string ⟨((T.take k).drop bg).toArray⟩] := by simp [strs]
        rw [e, List.length_append]
        exact own'
      · have hn := hstep.1 he
        have hx : ((s[k]'hlt).toNat : Int) ≠ b.toNat := by rw [hgk]; exact fun e => he (UInt8.toNat_inj.1 (by omega))
        have hxb : (((s[k]'hlt).toNat : Int) == b.toNat) = false := by simpa using hx
        clear hstep hgk he SG hS hx
        go_wp2_with fail
        refine ⟨⟨k + 1, bg, ls, by omega, by omega, by omega, by go_num, rfl, hn, own, hB⟩, by simp [intOf]; omega⟩
    · obtain rfl : k = s.size := by omega
      have hS2 : IsSplit b T ls (T.drop bg) := by
        have h := hS.out
        rw [List.take_of_length_le (by omega)] at h
        exact ⟨h.2.1, h.2.2, h.1⟩
      have HS2 := Lib.hid hS2
      have g0 : (0 : Int) ≤ bg := by omega
      have g1 : (bg : Int) ≤ s.size := by omega
      obtain ⟨ad, cp, rfl⟩ := owns_shape own
      have htk : T.take s.size = T := List.take_of_length_le (by omega)
      clear SG hS hS2
      go_wp2_with (at_builtin; refine wpList_append_own _ rfl _ _ 32 rfl w.heap.size 9 i0 (.string ⟨#[]⟩) 1 16 Tryd.underlying32 hi0 hz0 hz1 hz2 rfl (by decide) _ _ _ rfl (own.alloc _) ⟨wr.heap.size, 0, none⟩ 1 1 [.string ⟨(T.drop bg).toArray⟩] rfl rfl ?c1 ?c2 ?c3 ?c4 ?c5 ?_)
      case c1 => exact cell_one_new _ _ _
      case c2 => intro u hu; simp at hu; subst hu; rfl
      case c3 => unfold maxLen; omega
      case c4 => omega
      case c5 => have := hB.size; simp; omega
      intro v' w2 own' grow _
      have B2 : Below w.heap.size w w2 := (hB.alloc hB.size _).grown grow (by have := hB.size; simp; omega) (fun x hx => owns_base' own x hx)
      obtain ⟨ad2, cp2, rfl⟩ := owns_shape own'
      go_wp2_with fail
      go_ret
      refine ⟨_, ls, T.drop bg, rfl, HS2.out, ?_, B2⟩
      have e : strs (ls ++ [T.drop bg]) = strs ls ++ [.string ⟨(T.drop bg).toArray⟩] := by simp [strs]
      rw [e]
      exact own'
end Go.Proofs.YtgdhfcpmeaeioaaDoor
