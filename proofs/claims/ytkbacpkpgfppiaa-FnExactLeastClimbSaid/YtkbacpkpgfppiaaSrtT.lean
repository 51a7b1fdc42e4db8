/- Sorted places: the model's l04Sorted, whole. -/
import Derived.Test.YtkbacpkpgfppiaaSrtS
namespace Go.Proofs.Ytkbacpkpgfppiaa
open Go.RowKit

theorem LeS.alloc {g : Nat} {w W : World} (h : LeS g w W) (o : Obj) : LeS g w (W.alloc o) :=
  ⟨by have := h.size; simp; omega, fun B b1 b2 => (h.bel B b1 b2).alloc (Nat.le_trans b2 h.size) _, fun k h1 h2 => (rowAt_alloc_past _ _ _ (Nat.lt_of_lt_of_le h2 h.size)).trans (h.other k h1 h2)⟩
set_option maxRecDepth 100000 in
set_option maxHeartbeats 4000000 in
theorem l04Sorted_any (b n : Nat) (v : Value) (f : Nat → Int) (w : World) (hv : IsList w b v 2 n (fun i => .int .i8 (f i))) (hn : n ≤ 2000000) :
    Calls Try.prog 44 #[v] w fun e w' => ∃ a cap, e = .returned (.slice a n cap) ∧ n ≤ cap ∧ IsList w' w.heap.size (.slice a n cap) 2 n (fun i => .int .i8 (srt f n i)) ∧ Below w.heap.size w w' := by
  obtain ⟨i0, hi0, hz0, hz1, hz2⟩ := info_parts A_infoPlC
  obtain ⟨a, cap, rfl⟩ := hv.shape
  have own : (w.alloc (.cells #[] 58)).ownsRow w.heap.size 58 2 (.slice (some ⟨w.heap.size, 0, none⟩) 0 0) 0 [] := owns_emptyS w 58 2
  have hl1 : IsList (w.alloc (.cells #[] 58)) b (.slice a n cap) 2 n (fun j => (cellsTo .i8 f (n * 2)).getD j undef) := (hv.below ((Below.refl _ _).alloc (Nat.le_refl _) _) (Nat.le_refl _)).newc
  have HL := Lib.hid hl1
  have HO := Lib.hid own
  clear hv own hl1
  go_enter Try.func44, Try.ntmps44
  go_wp2_with (at_builtin; refine wpList_append_list rfl _ _ 33 rfl w.heap.size b 58 i0 (.agg #[.int .i8 0, .int .i8 0]) 2 2 Try.underlying33 hi0 hz0 hz1 hz2 rfl (by decide) _ _ _ rfl HO.out _ n (cellsTo .i8 f (n * 2)) rfl HL.out (cellsTo_len .i8 f (n * 2)) (cellsTo_ones .i8 f (n * 2)) (by unfold maxLen; omega) (by omega) (by simp) ?_; intro v3 w3 own3 grow3)
  have B3 : Below w.heap.size w w3 := ((Below.refl w.heap.size w).alloc (Nat.le_refl _) _).grown grow3 (by simp) (by intro x hx; cases hx; exact Nat.le_refl _)
  rw [Nat.zero_add, List.nil_append] at own3
  have hl := owns_list own3
  obtain ⟨a3, cap3, rfl⟩ := hl.shape
  have hcap : n ≤ cap3 := by
    obtain ⟨_, ⟨h, _⟩ | ⟨g, cap', cur, e, hg, hh, hn', hr⟩⟩ := own3
    · cases h; omega
    · cases e; exact hn'
  clear own3 grow3 HL HO
  go_wp2_with fail
  rcases Nat.eq_zero_or_pos n with h0 | h0
  · subst h0
    go_loopw [4, 5, 6] (fun i _ _ V => i = .int .i64 1 ∧ V = w3) (fun _ _ _ _ => 0)
    case atStart => exact ⟨rfl, rfl⟩
    case round =>
    obtain ⟨rfl, rfl⟩ := hrel
    go_wp2_with fail
    go_ret
    exact ⟨a3, cap3, rfl, hcap, .inl ⟨rfl, _, _, rfl⟩, B3⟩
  · obtain ⟨g, cur, rfl, hg, hr, hP⟩ : ∃ g cur, a3 = some ⟨g, 0, none⟩ ∧ w.heap.size ≤ g ∧ rowAt w3 g = some cur ∧ IsP cur n f := by
      rcases hl with ⟨h, _⟩ | ⟨g, c, cur, e, hg, hr, hs, hf⟩
      · omega
      · cases e
        exact ⟨g, cur, rfl, hg, hr, hs, hf⟩
    have HP := Lib.hid hP
    have HB3 := Lib.hid B3
    clear hl hP B3
    go_loopw [4, 5, 6] (fun i _ _ V => ∃ (k : Nat) (cu : Array Value), 1 ≤ k ∧ k ≤ n ∧ i = .int .i64 k ∧ rowAt V g = some cu ∧ Hid (IsP cu n (srt f k)) ∧ Hid (LeS g w3 V)) (fun i _ _ _ => n - (intOf i).toNat)
    case atStart => exact ⟨1, cur, Nat.le_refl _, h0, rfl, hr, HP, Lib.hid (LeS.refl _ _)⟩
    case round =>
      clear hr HP
      obtain ⟨k, cu, hk1, hkn, rfl, hr, hP, hL⟩ := hrel
      by_cases hlt : k < n
      · have i0' : (k : Int) < n := by omega
        go_wp2_with fail
        go_loopw [5, 6] (fun jv _ V => ∃ (q : Nat) (cv : Array Value) (G : Nat → Int), q ≤ k ∧ jv = .int .i64 q ∧ rowAt V g = some cv ∧ Hid (IsP cv n G) ∧ Hid (inn q G = srt f (k + 1)) ∧ Hid (LeS g w3 V)) (fun jv _ _ => (intOf jv).toNat)
        case atStart => exact ⟨k, cu, srt f k, Nat.le_refl _, rfl, hr, hP, Lib.hid rfl, hL⟩
        case round =>
          clear hr hP hL
          obtain ⟨q, cv, G, hqk, rfl, hr, hP, hI, hL⟩ := hrel
          cases q with
          | zero =>
            have HI := Lib.hid (show G = srt f (k + 1) from hI.out)
            have HP2 := Lib.hid (show IsP cv n (srt f (k + 1)) by rw [← HI.out]; exact hP.out)
            clear hI
            go_wp2_with fail
            refine wp_region_held_drew (S := fun w' => Below wr.heap.size wr w') (by kernel_rfl) ((Below.refl _ _).drew) (fun hH => ?_)
            refine wpAnyH_take (i := 0) (v := .int .i64 0) rfl (by kernel_rfl) (by kernel_rfl) (by kernel_rfl) (fun _ _ _ h => h) (Or.inl ⟨by rfl, ?_⟩) hH ?_
            · intro w1 hS; (try dsimp only at hS); go_simp
            (try simp only [List.getElem_toArray]); (try simp only [List.getElem_cons_succ]); (try simp only [List.getElem_cons_zero]); (try simp only [Act.put]); (try simp only [List.setIfInBounds_toArray]); (try simp only [List.set_cons_succ]); (try simp only [List.set_cons_zero])
            refine wpAnyH_take (i := 1) (v := .bool false) rfl (by kernel_rfl) (by kernel_rfl) (by kernel_rfl) (fun _ _ _ h => h) (Or.inl ⟨by rfl, ?_⟩) hH ?_
            · intro w1 hS; (try dsimp only at hS); go_simp
            (try simp only [List.getElem_toArray]); (try simp only [List.getElem_cons_succ]); (try simp only [List.getElem_cons_zero]); (try simp only [Act.put]); (try simp only [List.setIfInBounds_toArray]); (try simp only [List.set_cons_succ]); (try simp only [List.set_cons_zero])
            refine wpAnyH_take (i := 2) (v := .bool false) rfl (by kernel_rfl) (by kernel_rfl) (by kernel_rfl) (fun _ _ _ h => h) (Or.inl ⟨by rfl, ?_⟩) hH ?_
            · intro w1 hS; (try dsimp only at hS); go_simp
            (try simp only [List.getElem_toArray]); (try simp only [List.getElem_cons_succ]); (try simp only [List.getElem_cons_zero]); (try simp only [Act.put]); (try simp only [List.setIfInBounds_toArray]); (try simp only [List.set_cons_succ]); (try simp only [List.set_cons_zero])
            refine wpAnyH_take (i := 3) (v := undef) rfl (by kernel_rfl) (by kernel_rfl) (by kernel_rfl) (fun _ _ _ h => h) (Or.inr ⟨by rfl, rfl⟩) hH ?_
            (try simp only [List.getElem_toArray]); (try simp only [List.getElem_cons_succ]); (try simp only [List.getElem_cons_zero]); (try simp only [Act.put]); (try simp only [List.setIfInBounds_toArray]); (try simp only [List.set_cons_succ]); (try simp only [List.set_cons_zero])
            refine wpAnyH_take (i := 4) (v := undef) rfl (by kernel_rfl) (by kernel_rfl) (by kernel_rfl) (fun _ _ _ h => h) (Or.inr ⟨by rfl, rfl⟩) hH ?_
            (try simp only [List.getElem_toArray]); (try simp only [List.getElem_cons_succ]); (try simp only [List.getElem_cons_zero]); (try simp only [Act.put]); (try simp only [List.setIfInBounds_toArray]); (try simp only [List.set_cons_succ]); (try simp only [List.set_cons_zero])
            refine wpAnyH_take (i := 5) (v := undef) rfl (by kernel_rfl) (by kernel_rfl) (by kernel_rfl) (fun _ _ _ h => h) (Or.inr ⟨by rfl, rfl⟩) hH ?_
            (try simp only [List.getElem_toArray]); (try simp only [List.getElem_cons_succ]); (try simp only [List.getElem_cons_zero]); (try simp only [Act.put]); (try simp only [List.setIfInBounds_toArray]); (try simp only [List.set_cons_succ]); (try simp only [List.set_cons_zero])
            refine wpAnyH_take (i := 6) (v := undef) rfl (by kernel_rfl) (by kernel_rfl) (by kernel_rfl) (fun _ _ _ h => h) (Or.inr ⟨by rfl, rfl⟩) hH ?_
            (try simp only [List.getElem_toArray]); (try simp only [List.getElem_cons_succ]); (try simp only [List.getElem_cons_zero]); (try simp only [Act.put]); (try simp only [List.setIfInBounds_toArray]); (try simp only [List.set_cons_succ]); (try simp only [List.set_cons_zero])
            refine wpAnyH_take (i := 7) (v := undef) rfl (by kernel_rfl) (by kernel_rfl) (by kernel_rfl) (fun _ _ _ h => h) (Or.inr ⟨by rfl, rfl⟩) hH ?_
            (try simp only [List.getElem_toArray]); (try simp only [List.getElem_cons_succ]); (try simp only [List.getElem_cons_zero]); (try simp only [Act.put]); (try simp only [List.setIfInBounds_toArray]); (try simp only [List.set_cons_succ]); (try simp only [List.set_cons_zero])
            refine wpAnyH_take (i := 8) (v := undef) rfl (by kernel_rfl) (by kernel_rfl) (by kernel_rfl) (fun _ _ _ h => h) (Or.inr ⟨by rfl, rfl⟩) hH ?_
            (try simp only [List.getElem_toArray]); (try simp only [List.getElem_cons_succ]); (try simp only [List.getElem_cons_zero]); (try simp only [Act.put]); (try simp only [List.setIfInBounds_toArray]); (try simp only [List.set_cons_succ]); (try simp only [List.set_cons_zero])
            refine wpAnyH_take (i := 9) (v := undef) rfl (by kernel_rfl) (by kernel_rfl) (by kernel_rfl) (fun _ _ _ h => h) (Or.inr ⟨by rfl, rfl⟩) hH ?_
            (try simp only [List.getElem_toArray]); (try simp only [List.getElem_cons_succ]); (try simp only [List.getElem_cons_zero]); (try simp only [Act.put]); (try simp only [List.setIfInBounds_toArray]); (try simp only [List.set_cons_succ]); (try simp only [List.set_cons_zero])
            refine wpAnyH_take (i := 10) (v := undef) rfl (by kernel_rfl) (by kernel_rfl) (by kernel_rfl) (fun _ _ _ h => h) (Or.inr ⟨by rfl, rfl⟩) hH ?_
            (try simp only [List.getElem_toArray]); (try simp only [List.getElem_cons_succ]); (try simp only [List.getElem_cons_zero]); (try simp only [Act.put]); (try simp only [List.setIfInBounds_toArray]); (try simp only [List.set_cons_succ]); (try simp only [List.set_cons_zero])
            refine wpAnyH_take (i := 11) (v := undef) rfl (by kernel_rfl) (by kernel_rfl) (by kernel_rfl) (fun _ _ _ h => h) (Or.inr ⟨by rfl, rfl⟩) hH ?_
            (try simp only [List.getElem_toArray]); (try simp only [List.getElem_cons_succ]); (try simp only [List.getElem_cons_zero]); (try simp only [Act.put]); (try simp only [List.setIfInBounds_toArray]); (try simp only [List.set_cons_succ]); (try simp only [List.set_cons_zero])
            refine wpAnyH_take (i := 12) (v := undef) rfl (by kernel_rfl) (by kernel_rfl) (by kernel_rfl) (fun _ _ _ h => h) (Or.inr ⟨by rfl, rfl⟩) hH ?_
            (try simp only [List.getElem_toArray]); (try simp only [List.getElem_cons_succ]); (try simp only [List.getElem_cons_zero]); (try simp only [Act.put]); (try simp only [List.setIfInBounds_toArray]); (try simp only [List.set_cons_succ]); (try simp only [List.set_cons_zero])
            refine wpAnyH_take (i := 13) (v := undef) rfl (by kernel_rfl) (by kernel_rfl) (by kernel_rfl) (fun _ _ _ h => h) (Or.inr ⟨by rfl, rfl⟩) hH ?_
            (try simp only [List.getElem_toArray]); (try simp only [List.getElem_cons_succ]); (try simp only [List.getElem_cons_zero]); (try simp only [Act.put]); (try simp only [List.setIfInBounds_toArray]); (try simp only [List.set_cons_succ]); (try simp only [List.set_cons_zero])
            refine wpAnyH_take (i := 14) (v := .bool false) rfl (by kernel_rfl) (by kernel_rfl) (by kernel_rfl) (fun _ _ _ h => h) (Or.inl ⟨by rfl, ?_⟩) hH ?_
            · intro w1 hS; (try dsimp only at hS); go_simp
            (try simp only [List.getElem_toArray]); (try simp only [List.getElem_cons_succ]); (try simp only [List.getElem_cons_zero]); (try simp only [Act.put]); (try simp only [List.setIfInBounds_toArray]); (try simp only [List.set_cons_succ]); (try simp only [List.set_cons_zero])
            refine wpAnyH_done (by kernel_rfl) ?_ _
            have R := Lib.hid (brow hH hr)
            have L9 := Lib.hid (hL.out.below hH)
            clear hH hr hL
            go_wp2_with fail
            refine ⟨⟨k + 1, cv, by omega, by omega, by go_num, R.out, HP2, L9⟩, by simp [intOf]; omega⟩
          | succ p =>
            obtain ⟨J, hJ⟩ : ∃ J : Int, J = ((p + 1 : Nat) : Int) := ⟨_, rfl⟩
            have hJ0 : 0 < J := by omega
            have hJd : decide (0 < J) = true := by simpa using hJ0
            have hJn : J < n := by omega
            have hJ0' : 0 ≤ J := by omega
            have hJt : J.toNat = p + 1 := by omega
            have hw : IntKind.i64.wrap (J - 1) = (p : Int) := by rw [IntKind.wrap_i64]; omega
            have hw1 : IntKind.i64.wrap (J + 1) = J + 1 := by rw [IntKind.wrap_i64]; omega
            have hJ1 : J ≤ J + 1 := by omega
            have hJ2 : J + 1 ≤ cap3 := by omega
            have hJ3 : (J + 1).toNat = p + 1 + 1 := by omega
            have hJ4 : 0 ≤ J + 1 := by omega
            have hJ5 : (p : Int) ≤ J := by omega
            have hJ6 : J ≤ cap3 := by omega
            have hJc : ¬ cap3 = p + 1 := by omega
            have hJd2 : ¬ cap3 = p := by omega
            have p0 : 0 ≤ (p : Int) := by omega
            have pn : (p : Int) < n := by omega
            have pk : (p + 1 + 1 - (p + 1)) = 1 := by omega
            have pk2 : (p + 1 - p) = 1 := by omega
            have c0 := hP.out.get ((p + 1) * 2) (by omega)
            have c1 := hP.out.get ((p + 1) * 2 + 1) (by omega)
            have d0 := hP.out.get (p * 2) (by omega)
            have d1 := hP.out.get (p * 2 + 1) (by omega)
            rw [← hJ]
            have HJ := Lib.hid hJ
            clear hJ
            go_wp2_with fail
            refine wp_region_held_drew (S := fun w' => Below wr.heap.size wr w') (by kernel_rfl) ((Below.refl _ _).drew) (fun hH => ?_)
            refine wpAnyH_take (i := 0) (v := .int .i64 J) rfl (by kernel_rfl) (by kernel_rfl) (by kernel_rfl) (fun _ _ _ h => h) (Or.inl ⟨by rfl, ?_⟩) hH ?_
            · intro w1 hS; (try dsimp only at hS); go_simp
            (try simp only [List.getElem_toArray]); (try simp only [List.getElem_cons_succ]); (try simp only [List.getElem_cons_zero]); (try simp only [Act.put]); (try simp only [List.setIfInBounds_toArray]); (try simp only [List.set_cons_succ]); (try simp only [List.set_cons_zero])
            refine wpAnyH_take (i := 1) (v := .bool true) rfl (by kernel_rfl) (by kernel_rfl) (by kernel_rfl) (fun _ _ _ h => h) (Or.inl ⟨by rfl, ?_⟩) hH ?_
            · intro w1 hS; (try dsimp only at hS); go_simp
            (try simp only [List.getElem_toArray]); (try simp only [List.getElem_cons_succ]); (try simp only [List.getElem_cons_zero]); (try simp only [Act.put]); (try simp only [List.setIfInBounds_toArray]); (try simp only [List.set_cons_succ]); (try simp only [List.set_cons_zero])
            refine wpAnyH_take (i := 2) (v := .bool true) rfl (by kernel_rfl) (by kernel_rfl) (by kernel_rfl) (fun _ _ _ h => h) (Or.inl ⟨by rfl, ?_⟩) hH ?_
            · intro w1 hS; (try dsimp only at hS); go_simp
            (try simp only [List.getElem_toArray]); (try simp only [List.getElem_cons_succ]); (try simp only [List.getElem_cons_zero]); (try simp only [Act.put]); (try simp only [List.setIfInBounds_toArray]); (try simp only [List.set_cons_succ]); (try simp only [List.set_cons_zero])
            refine wpAnyH_take (i := 3) (v := .slice (some ⟨g, 0, none⟩) n cap3) rfl (by kernel_rfl) (by kernel_rfl) (by kernel_rfl) (fun _ _ _ h => h) (Or.inl ⟨by rfl, ?_⟩) hH ?_
            · intro w1 hS; (try dsimp only at hS); go_simp
            (try simp only [List.getElem_toArray]); (try simp only [List.getElem_cons_succ]); (try simp only [List.getElem_cons_zero]); (try simp only [Act.put]); (try simp only [List.setIfInBounds_toArray]); (try simp only [List.set_cons_succ]); (try simp only [List.set_cons_zero])
            refine wpAnyH_take (i := 4) (v := .int .i64 J) rfl (by kernel_rfl) (by kernel_rfl) (by kernel_rfl) (fun _ _ _ h => h) (Or.inl ⟨by rfl, ?_⟩) hH ?_
            · intro w1 hS; (try dsimp only at hS); go_simp
            (try simp only [List.getElem_toArray]); (try simp only [List.getElem_cons_succ]); (try simp only [List.getElem_cons_zero]); (try simp only [Act.put]); (try simp only [List.setIfInBounds_toArray]); (try simp only [List.set_cons_succ]); (try simp only [List.set_cons_zero])
            refine wpAnyH_take (i := 5) (v := .int .i64 J) rfl (by kernel_rfl) (by kernel_rfl) (by kernel_rfl) (fun _ _ _ h => h) (Or.inl ⟨by rfl, ?_⟩) hH ?_
            · intro w1 hS; (try dsimp only at hS); go_simp
            (try simp only [List.getElem_toArray]); (try simp only [List.getElem_cons_succ]); (try simp only [List.getElem_cons_zero]); (try simp only [Act.put]); (try simp only [List.setIfInBounds_toArray]); (try simp only [List.set_cons_succ]); (try simp only [List.set_cons_zero])
            refine wpAnyH_take (i := 6) (v := .int .i64 (J + 1)) rfl (by kernel_rfl) (by kernel_rfl) (by kernel_rfl) (fun _ _ _ h => h) (Or.inl ⟨by rfl, ?_⟩) hH ?_
            · intro w1 hS; (try dsimp only at hS); go_simp
            (try simp only [List.getElem_toArray]); (try simp only [List.getElem_cons_succ]); (try simp only [List.getElem_cons_zero]); (try simp only [Act.put]); (try simp only [List.setIfInBounds_toArray]); (try simp only [List.set_cons_succ]); (try simp only [List.set_cons_zero])
            refine wpAnyH_take (i := 7) (v := .slice (some ⟨g, (p + 1) * 2, none⟩) 1 (cap3 - (p + 1))) rfl (by kernel_rfl) (by kernel_rfl) (by kernel_rfl) (fun _ _ _ h => h) (Or.inl ⟨by rfl, ?_⟩) hH ?_
            · intro w1 hS; (try dsimp only at hS); go_simp
            (try simp only [List.getElem_toArray]); (try simp only [List.getElem_cons_succ]); (try simp only [List.getElem_cons_zero]); (try simp only [Act.put]); (try simp only [List.setIfInBounds_toArray]); (try simp only [List.set_cons_succ]); (try simp only [List.set_cons_zero])
            refine wpAnyH_take (i := 8) (v := .slice (some ⟨g, 0, none⟩) n cap3) rfl (by kernel_rfl) (by kernel_rfl) (by kernel_rfl) (fun _ _ _ h => h) (Or.inl ⟨by rfl, ?_⟩) hH ?_
            · intro w1 hS; (try dsimp only at hS); go_simp
            (try simp only [List.getElem_toArray]); (try simp only [List.getElem_cons_succ]); (try simp only [List.getElem_cons_zero]); (try simp only [Act.put]); (try simp only [List.setIfInBounds_toArray]); (try simp only [List.set_cons_succ]); (try simp only [List.set_cons_zero])
            refine wpAnyH_take (i := 9) (v := .int .i64 J) rfl (by kernel_rfl) (by kernel_rfl) (by kernel_rfl) (fun _ _ _ h => h) (Or.inl ⟨by rfl, ?_⟩) hH ?_
            · intro w1 hS; (try dsimp only at hS); go_simp
            (try simp only [List.getElem_toArray]); (try simp only [List.getElem_cons_succ]); (try simp only [List.getElem_cons_zero]); (try simp only [Act.put]); (try simp only [List.setIfInBounds_toArray]); (try simp only [List.set_cons_succ]); (try simp only [List.set_cons_zero])
            refine wpAnyH_take (i := 10) (v := .int .i64 (p : Int)) rfl (by kernel_rfl) (by kernel_rfl) (by kernel_rfl) (fun _ _ _ h => h) (Or.inl ⟨by rfl, ?_⟩) hH ?_
            · intro w1 hS; (try dsimp only at hS); go_simp
            (try simp only [List.getElem_toArray]); (try simp only [List.getElem_cons_succ]); (try simp only [List.getElem_cons_zero]); (try simp only [Act.put]); (try simp only [List.setIfInBounds_toArray]); (try simp only [List.set_cons_succ]); (try simp only [List.set_cons_zero])
            refine wpAnyH_take (i := 11) (v := .int .i64 J) rfl (by kernel_rfl) (by kernel_rfl) (by kernel_rfl) (fun _ _ _ h => h) (Or.inl ⟨by rfl, ?_⟩) hH ?_
            · intro w1 hS; (try dsimp only at hS); go_simp
            (try simp only [List.getElem_toArray]); (try simp only [List.getElem_cons_succ]); (try simp only [List.getElem_cons_zero]); (try simp only [Act.put]); (try simp only [List.setIfInBounds_toArray]); (try simp only [List.set_cons_succ]); (try simp only [List.set_cons_zero])
            refine wpAnyH_take (i := 12) (v := .slice (some ⟨g, p * 2, none⟩) 1 (cap3 - p)) rfl (by kernel_rfl) (by kernel_rfl) (by kernel_rfl) (fun _ _ _ h => h) (Or.inl ⟨by rfl, ?_⟩) hH ?_
            · intro w1 hS; (try dsimp only at hS); go_simp
            (try simp only [List.getElem_toArray]); (try simp only [List.getElem_cons_succ]); (try simp only [List.getElem_cons_zero]); (try simp only [Act.put]); (try simp only [List.setIfInBounds_toArray]); (try simp only [List.set_cons_succ]); (try simp only [List.set_cons_zero])
            refine wpAnyH_ready (rs := [13]) (by kernel_rfl) (by simp) (AllReadyH.cons rfl (fun K hK => ?_) AllReadyH.nil)
            go_simp
            refine (less1_any g ((p + 1) * 2) (p * 2) _ _ (G ((p + 1) * 2)) (G ((p + 1) * 2 + 1)) (G (p * 2)) (G (p * 2 + 1)) _ (by rw [cell_of_rowAt (brow hH hr)]; exact c0) (by rw [cell_of_rowAt (brow hH hr)]; exact c1) (by rw [cell_of_rowAt (brow hH hr)]; exact d0) (by rw [cell_of_rowAt (brow hH hr)]; exact d1)).mono ?_
            rintro x wx ⟨z, rfl, hz, bx⟩
            have HZ := Lib.hid hz
            clear hz
            go_simp
            refine hK.out _ _ (bnext hH bx hH.size) (fun hG => ?_)
            clear hK K hH bx
            replace hH := hG
            clear hG
            (try simp only [List.getElem_toArray]); (try simp only [List.getElem_cons_succ]); (try simp only [List.getElem_cons_zero]); (try simp only [Act.put]); (try simp only [List.setIfInBounds_toArray]); (try simp only [List.set_cons_succ]); (try simp only [List.set_cons_zero])
            refine wpAnyH_take (i := 14) (v := .bool z) rfl (by kernel_rfl) (by kernel_rfl) (by kernel_rfl) (fun _ _ _ h => h) (Or.inl ⟨by rfl, ?_⟩) hH ?_
            · intro w1 hS; (try dsimp only at hS); go_simp
            (try simp only [List.getElem_toArray]); (try simp only [List.getElem_cons_succ]); (try simp only [List.getElem_cons_zero]); (try simp only [Act.put]); (try simp only [List.setIfInBounds_toArray]); (try simp only [List.set_cons_succ]); (try simp only [List.set_cons_zero])
            refine wpAnyH_done (by kernel_rfl) ?_ _
            have R := brow hH hr
            have L9 := Lib.hid (hL.out.below hH)
            clear hH hr hL
            by_cases hlt2 : lsP G (p + 1)
            · have hzt : z = true := HZ.out.2 (lsP_succ.1 hlt2)
              have HG := Lib.hid ((inn_go hlt2).symm.trans hI.out)
              have HP2 := Lib.hid (hP.out.sw (p := p) (by omega))
              subst hzt
              clear hlt2 hI
              have e0 : wx.cell? ⟨g, (p + 1) * 2, none⟩ = some (.int .i8 (G ((p + 1) * 2))) := by rw [cell_of_rowAt R]; exact c0
              have e1 : wx.cell? ⟨g, (p + 1) * 2 + 1, none⟩ = some (.int .i8 (G ((p + 1) * 2 + 1))) := by rw [cell_of_rowAt R]; exact c1
              have e2 : wx.cell? ⟨g, p * 2, none⟩ = some (.int .i8 (G (p * 2))) := by rw [cell_of_rowAt R]; exact d0
              have e3 : wx.cell? ⟨g, p * 2 + 1, none⟩ = some (.int .i8 (G (p * 2 + 1))) := by rw [cell_of_rowAt R]; exact d1
              have fr := frozen_of_rowAt R
              have lg := rowAt_lt R
              have ng := Nat.ne_of_lt lg
              have RR := Lib.hid R
              clear R c0 c1 d0 d1
              generalize G ((p + 1) * 2) = x0 at *
              generalize G ((p + 1) * 2 + 1) = x1 at *
              generalize G (p * 2) = y0 at *
              generalize G (p * 2 + 1) = y1 at *
              go_wp2_with fail
              have R1 := rowAt_setCell_at wx g ((p + 1) * 2) (.int .i8 y0) (congrArg Option.isSome RR.out)
              rw [RR.out, Option.getD_some] at R1
              have R2 := rowAt_setCell_at _ g ((p + 1) * 2 + 1) (.int .i8 y1) (congrArg Option.isSome R1)
              rw [R1, Option.getD_some] at R2
              have R3 := rowAt_setCell_at _ g (p * 2) (.int .i8 x0) (congrArg Option.isSome R2)
              rw [R2, Option.getD_some] at R3
              have R4 := rowAt_setCell_at _ g (p * 2 + 1) (.int .i8 x1) (congrArg Option.isSome R3)
              rw [R3, Option.getD_some] at R4
              exact ⟨⟨p, _, swE G (p + 1), by omega, by go_num, (rowAt_alloc_past _ _ _ (rowAt_lt R4)).trans R4, HP2, HG, Lib.hid (((((L9.out.setC _ _).setC _ _).setC _ _).setC _ _).alloc _)⟩, by simp [intOf]; omega⟩
            · have hzf : z = false := by
                cases z with
                | false => rfl
                | true => exact absurd (lsP_succ.2 (HZ.out.1 rfl)) hlt2
              have HP2 := Lib.hid (show IsP cv n (srt f (k + 1)) by rw [← hI.out, inn_stop hlt2]; exact hP.out)
              have RR := Lib.hid R
              subst hzf
              clear hlt2 hI R c0 c1 d0 d1
              go_wp2_with fail
              refine ⟨⟨k + 1, cv, by omega, by omega, by go_num, RR.out, HP2, L9⟩, by simp [intOf]; omega⟩
      · obtain rfl : k = n := by omega
        go_wp2_with fail
        go_ret
        exact ⟨_, cap3, rfl, hcap, .inr ⟨g, cap3, cu, rfl, hg, hr, hP.out.size, hP.out.get⟩, HB3.out.trans (hL.out.bel w.heap.size hg HB3.out.size)⟩
end Go.Proofs.Ytkbacpkpgfppiaa
