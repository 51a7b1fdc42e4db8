/- Insertion sort of places: the program's. -/
import Derived.Test.YtkbacpkpgfppiaaSrtM
import Derived.Test.YtkbacpkpgfppiaaNums
import Derived.Deep.RegionHeld3
import Derived.StillTailTactics
namespace Go.Proofs.Ytkbacpkpgfppiaa
open Go.RowKit

/-- Of the blocks of w only g may have changed. -/
structure LeS (g : Nat) (w W : World) : Prop where
  size : w.heap.size ≤ W.heap.size
  bel : ∀ B, B ≤ g → B ≤ w.heap.size → Below B w W
  other : ∀ k, k ≠ g → k < w.heap.size → rowAt W k = rowAt w k
theorem LeS.refl (g : Nat) (w : World) : LeS g w w := ⟨Nat.le_refl _, fun _ _ _ => Below.refl _ _, fun _ _ _ => rfl⟩
theorem LeS.setC {g : Nat} {w W : World} (h : LeS g w W) (o : Nat) (u : Value) : LeS g w (W.setCell ⟨g, o, none⟩ u) :=
  ⟨by simpa using h.size, fun B b1 b2 => (h.bel B b1 b2).setCell (by simpa using b1) _, fun k h1 h2 => (rowAt_setCell_ne _ _ _ _ _ h1).trans (h.other k h1 h2)⟩
theorem LeS.drew {g : Nat} {w W : World} (h : LeS g w W) : LeS g w W.drew := ⟨h.size, fun B b1 b2 => (h.bel B b1 b2).drew, fun k h1 h2 => h.other k h1 h2⟩
theorem LeS.below {g : Nat} {w W X : World} (h : LeS g w W) (b : Below W.heap.size W X) : LeS g w X :=
  ⟨Nat.le_trans h.size b.size, fun B b1 b2 => (h.bel B b1 b2).trans (b.mono (Nat.le_trans b2 h.size)), fun k h1 h2 => (rowAt_below b k (Nat.lt_of_lt_of_le h2 h.size)).trans (h.other k h1 h2)⟩
theorem LeS.trans {g : Nat} {w W X : World} (h : LeS g w W) (b : LeS g W X) : LeS g w X :=
  ⟨Nat.le_trans h.size b.size, fun B b1 b2 => (h.bel B b1 b2).trans (b.bel B b1 (Nat.le_trans b2 h.size)), fun k h1 h2 => (b.other k h1 (Nat.lt_of_lt_of_le h2 h.size)).trans (h.other k h1 h2)⟩
/-- A row holds n places. -/
structure IsP (cur : Array Value) (n : Nat) (f : Nat → Int) : Prop where
  size : n * 2 ≤ cur.size
  get : ∀ i, i < n * 2 → cur[i]? = some (.int .i8 (f i))
/-- The places that are stored one for the other. -/
theorem IsP.sw {cur : Array Value} {n : Nat} {f : Nat → Int} (h : IsP cur n f) {p : Nat} (hp : p + 1 < n) :
    IsP ((((cur.setIfInBounds ((p + 1) * 2) (.int .i8 (f (p * 2)))).setIfInBounds ((p + 1) * 2 + 1) (.int .i8 (f (p * 2 + 1)))).setIfInBounds (p * 2) (.int .i8 (f ((p + 1) * 2)))).setIfInBounds (p * 2 + 1) (.int .i8 (f ((p + 1) * 2 + 1)))) n (swE f (p + 1)) := by
  have hs := h.size
  refine ⟨by simpa using hs, fun i hi => ?_⟩
  unfold swE
  simp only [Nat.add_sub_cancel]
  by_cases h1 : i = p * 2 + 1
  · subst h1
    rw [Array.getElem?_setIfInBounds_self_of_lt (by simp; omega), if_neg (by omega), if_neg (by omega), if_neg (by omega), if_pos rfl]
  · rw [Array.getElem?_setIfInBounds_ne (Ne.symm h1)]
    by_cases h2 : i = p * 2
    · subst h2
      rw [Array.getElem?_setIfInBounds_self_of_lt (by simp; omega), if_neg (by omega), if_neg (by omega), if_pos rfl]
    · rw [Array.getElem?_setIfInBounds_ne (Ne.symm h2)]
      by_cases h3 : i = (p + 1) * 2 + 1
      · subst h3
        rw [Array.getElem?_setIfInBounds_self_of_lt (by simp; omega), if_neg (by omega), if_pos rfl]
      · rw [Array.getElem?_setIfInBounds_ne (Ne.symm h3)]
        by_cases h4 : i = (p + 1) * 2
        · subst h4
          rw [Array.getElem?_setIfInBounds_self_of_lt (by omega), if_pos rfl]
        · rw [Array.getElem?_setIfInBounds_ne (Ne.symm h4), if_neg h4, if_neg h3, if_neg h2, if_neg h1]
          exact h.get i hi
theorem lsP_succ {G : Nat → Int} {p : Nat} : lsP G (p + 1) ↔ (G ((p + 1) * 2) < G (p * 2) ∨ G ((p + 1) * 2) = G (p * 2) ∧ G ((p + 1) * 2 + 1) < G (p * 2 + 1)) := by
  unfold lsP
  simp only [Nat.add_sub_cancel]
/-- A closure over the box kb compares places that have Q as their texts are ordered. -/
def CmpP (fid : FuncId) (Q : Int → Int → Prop) (kb : Nat) (kc : Array Value) : Prop :=
  ∀ (W : World) (x0 x1 y0 y1 : Int), rowAt W kb = some kc → Q x0 x1 → Q y0 y1 → Calls Try.prog fid #[.agg #[.int .i8 x0, .int .i8 x1], .agg #[.int .i8 y0, .int .i8 y1], .pointer (some ⟨kb, 0, none⟩)] W fun e w' => ∃ z : Int, e = .returned (.int .i64 z) ∧ (z < 0 ↔ (x0 < y0 ∨ x0 = y0 ∧ x1 < y1)) ∧ Below W.heap.size W w'

set_option maxRecDepth 100000 in
set_option maxHeartbeats 4000000 in
theorem insSort_any (g n cap kb : Nat) (fid : FuncId) (kc cur : Array Value) (f : Nat → Int) (Q : Int → Int → Prop) (w : World) (eg : ∀ args w, (callFunc fid args).run Try.prog w = .ok (.enter fid args) w) (hC : CmpP fid Q kb kc) (hr : rowAt w g = some cur) (hP : IsP cur n f) (hQ : AllE Q n f) (hk : rowAt w kb = some kc) (hne : kb ≠ g) (h0 : 0 < n) (hn : n ≤ 2000000) :
    Calls Try.prog 163 #[.slice (some ⟨g, 0, none⟩) n cap, .int .i64 0, .int .i64 n, .func (.func fid) #[] #[.pointer (some ⟨kb, 0, none⟩)]] w fun e w' => e = .returned (.tuple #[]) ∧ (∃ cur', rowAt w' g = some cur' ∧ IsP cur' n (srt f n)) ∧ LeS g w w' := by
  have HC := Lib.hid hC
  have HQ := Lib.hid hQ
  have HP := Lib.hid hP
  clear hC hQ hP
  go_enter Try.func163, Try.ntmps163
  go_wp2_with fail
  go_loopw [8, 9] (fun i _ W => ∃ (k : Nat) (cu : Array Value), 1 ≤ k ∧ k ≤ n ∧ i = .int .i64 k ∧ rowAt W g = some cu ∧ Hid (IsP cu n (srt f k)) ∧ rowAt W kb = some kc ∧ Hid (LeS g w W)) (fun i _ _ => n - (intOf i).toNat)
  case atStart => exact ⟨1, cur, Nat.le_refl _, h0, rfl, hr, HP, hk, Lib.hid (LeS.refl _ _)⟩
  case round =>
    clear hr hk HP
    obtain ⟨k, cu, hk1, hkn, rfl, hr, hP, hk, hL⟩ := hrel
    by_cases hlt : k < n
    · have i0 : (k : Int) < n := by omega
      have HQK := Lib.hid (HQ.out.srt (i := k) (by omega))
      go_wp2_with fail
      go_loopw [9] (fun jv W => ∃ (q : Nat) (cv : Array Value) (G : Nat → Int), q ≤ k ∧ jv = .int .i64 q ∧ rowAt W g = some cv ∧ Hid (IsP cv n G) ∧ Hid (inn q G = srt f (k + 1)) ∧ Hid (AllE Q n G) ∧ rowAt W kb = some kc ∧ Hid (LeS g w W)) (fun jv _ => (intOf jv).toNat)
      case atStart => exact ⟨k, cu, srt f k, Nat.le_refl _, rfl, hr, hP, Lib.hid rfl, HQK, hk, hL⟩
      case round =>
        clear hr hP hk hL HQK
        obtain ⟨q, cv, G, hqk, rfl, hr, hP, hI, hA, hk, hL⟩ := hrel
        cases q with
        | zero =>
          have HI := Lib.hid (show G = srt f (k + 1) from hI.out)
          have HP2 := Lib.hid (show IsP cv n (srt f (k + 1)) by rw [← HI.out]; exact hP.out)
          clear hI
          go_wp2_with fail
          refine wp_region_held_drew (S := fun w' => Below wr.heap.size wr w') (by kernel_rfl) ((Below.refl _ _).drew) (fun hH => ?_)
          refine wpAnyH_take (i := 0) (v := .int .i64 0) rfl (by kernel_rfl) (by kernel_rfl) (by kernel_rfl) (fun _ _ _ h => h) (Or.inl ⟨by rfl, ?_⟩) hH ?_
          · intro w1 hS; (try dsimp only at hS); go_simp
          (try simp only [List.getElem_toArray]); (try simp only [List.getElem_cons_succ]); (try simp only [List.getElem_cons_zero]); (try simp only [Act.put]); (try simp only [List.setIfInBounds_toArray]); (try simp only [List.set_cons_succ]); (try simp only [List.set_cons_zero])
          refine wpAnyH_take (i := 1) (v := .int .i64 0) rfl (by kernel_rfl) (by kernel_rfl) (by kernel_rfl) (fun _ _ _ h => h) (Or.inl ⟨by rfl, ?_⟩) hH ?_
          · intro w1 hS; (try dsimp only at hS); go_simp
          (try simp only [List.getElem_toArray]); (try simp only [List.getElem_cons_succ]); (try simp only [List.getElem_cons_zero]); (try simp only [Act.put]); (try simp only [List.setIfInBounds_toArray]); (try simp only [List.set_cons_succ]); (try simp only [List.set_cons_zero])
          refine wpAnyH_take (i := 2) (v := .bool false) rfl (by kernel_rfl) (by kernel_rfl) (by kernel_rfl) (fun _ _ _ h => h) (Or.inl ⟨by rfl, ?_⟩) hH ?_
          · intro w1 hS; (try dsimp only at hS); go_simp
          (try simp only [List.getElem_toArray]); (try simp only [List.getElem_cons_succ]); (try simp only [List.getElem_cons_zero]); (try simp only [Act.put]); (try simp only [List.setIfInBounds_toArray]); (try simp only [List.set_cons_succ]); (try simp only [List.set_cons_zero])
          refine wpAnyH_take (i := 3) (v := .bool false) rfl (by kernel_rfl) (by kernel_rfl) (by kernel_rfl) (fun _ _ _ h => h) (Or.inl ⟨by rfl, ?_⟩) hH ?_
          · intro w1 hS; (try dsimp only at hS); go_simp
          (try simp only [List.getElem_toArray]); (try simp only [List.getElem_cons_succ]); (try simp only [List.getElem_cons_zero]); (try simp only [Act.put]); (try simp only [List.setIfInBounds_toArray]); (try simp only [List.set_cons_succ]); (try simp only [List.set_cons_zero])
          refine wpAnyH_take (i := 4) (v := undef) rfl (by kernel_rfl) (by kernel_rfl) (by kernel_rfl) (fun _ _ _ h => h) (Or.inr ⟨by rfl, rfl⟩) hH ?_
          (try simp only [List.getElem_toArray]); (try simp only [List.getElem_cons_succ]); (try simp only [List.getElem_cons_zero]); (try simp only [Act.put]); (try simp only [List.setIfInBounds_toArray]); (try simp only [List.set_cons_succ]); (try simp only [List.set_cons_zero])
          refine wpAnyH_take (i := 5) (v := undef) rfl (by kernel_rfl) (by kernel_rfl) (by kernel_rfl) (fun _ _ _ h => h) (Or.inr ⟨by rfl, rfl⟩) hH ?_
          (try simp only [List.getElem_toArray]); (try simp only [List.getElem_cons_succ]); (try simp only [List.getElem_cons_zero]); (try simp only [Act.put]); (try simp only [List.setIfInBounds_toArray]); (try simp only [List.set_cons_succ]); (try simp only [List.set_cons_zero])
          refine wpAnyH_take (i := 6) (v := undef) rfl (by kernel_rfl) (by kernel_rfl) (by kernel_rfl) (fun _ _ _ h => h) (Or.inr ⟨by rfl, rfl⟩) hH ?_
          (try simp only [List.getElem_toArray]); (try simp only [List.getElem_cons_succ]); (try simp only [List.getElem_cons_zero]); (try simp only [Act.put]); (try simp only [List.setIfInBounds_toArray]); (try simp only [List.set_cons_succ]); (try simp only [List.set_cons_zero])
          refine wpAnyH_take (i := 7) (v := undef) rfl (by kernel_rfl) (by kernel_rfl) (by kernel_rfl) (fun _ _ _ h => h) (Or.inr ⟨by rfl, rfl⟩) hH ?_
          (try simp only [List.getElem_toArray]); (try simp only [List.getElem_cons_succ]); (try simp only [List.getElem_cons_zero]); (try simp only [Act.put]); (try simp only [List.setIfInBounds_toArray]); (try simp only [List.set_cons_succ]); (try simp only [List.set_cons_zero])
          refine wpAnyH_take (i := 8) (v := undef) rfl (by kernel_rfl) (by kernel_rfl) (by kernel_rfl) (fun _ _ _ h => h) (Or.inr ⟨by rfl, rfl⟩) hH ?_
          (try simp only [List.getElem_toArray]); (try simp only [List.getElem_cons_succ]); (try simp only [List.getElem_cons_zero]); (try simp only [Act.put]); (try simp only [List.setIfInBounds_toArray]); (try simp only [List.set_cons_succ]); (try simp only [List.set_cons_zero])
          refine wpAnyH_take (i := 9) (v := undef) rfl (by kernel_rfl) (by kernel_rfl) (by kernel_rfl) (fun _ _ _ h => h) (Or.inr ⟨by rfl, rfl⟩) hH ?_
          (try simp only [List.getElem_toArray]); (try simp only [List.getElem_cons_succ]); (try simp only [List.getElem_cons_zero]); (try simp only [Act.put]); (try simp only [List.setIfInBounds_toArray]); (try simp only [List.set_cons_succ]); (try simp only [List.set_cons_zero])
          refine wpAnyH_take (i := 10) (v := undef) rfl (by kernel_rfl) (by kernel_rfl) (by kernel_rfl) (fun _ _ _ h => h) (Or.inr ⟨by rfl, rfl⟩) hH ?_
          (try simp only [List.getElem_toArray]); (try simp only [List.getElem_cons_succ]); (try simp only [List.getElem_cons_zero]); (try simp only [Act.put]); (try simp only [List.setIfInBounds_toArray]); (try simp only [List.set_cons_succ]); (try simp only [List.set_cons_zero])
          refine wpAnyH_take (i := 11) (v := undef) rfl (by kernel_rfl) (by kernel_rfl) (by kernel_rfl) (fun _ _ _ h => h) (Or.inr ⟨by rfl, rfl⟩) hH ?_
          (try simp only [List.getElem_toArray]); (try simp only [List.getElem_cons_succ]); (try simp only [List.getElem_cons_zero]); (try simp only [Act.put]); (try simp only [List.setIfInBounds_toArray]); (try simp only [List.set_cons_succ]); (try simp only [List.set_cons_zero])
          refine wpAnyH_take (i := 12) (v := undef) rfl (by kernel_rfl) (by kernel_rfl) (by kernel_rfl) (fun _ _ _ h => h) (Or.inr ⟨by rfl, rfl⟩) hH ?_
          (try simp only [List.getElem_toArray]); (try simp only [List.getElem_cons_succ]); (try simp only [List.getElem_cons_zero]); (try simp only [Act.put]); (try simp only [List.setIfInBounds_toArray]); (try simp only [List.set_cons_succ]); (try simp only [List.set_cons_zero])
          refine wpAnyH_take (i := 13) (v := undef) rfl (by kernel_rfl) (by kernel_rfl) (by kernel_rfl) (fun _ _ _ h => h) (Or.inr ⟨by rfl, rfl⟩) hH ?_
          (try simp only [List.getElem_toArray]); (try simp only [List.getElem_cons_succ]); (try simp only [List.getElem_cons_zero]); (try simp only [Act.put]); (try simp only [List.setIfInBounds_toArray]); (try simp only [List.set_cons_succ]); (try simp only [List.set_cons_zero])
          refine wpAnyH_take (i := 14) (v := undef) rfl (by kernel_rfl) (by kernel_rfl) (by kernel_rfl) (fun _ _ _ h => h) (Or.inr ⟨by rfl, rfl⟩) hH ?_
          (try simp only [List.getElem_toArray]); (try simp only [List.getElem_cons_succ]); (try simp only [List.getElem_cons_zero]); (try simp only [Act.put]); (try simp only [List.setIfInBounds_toArray]); (try simp only [List.set_cons_succ]); (try simp only [List.set_cons_zero])
          refine wpAnyH_take (i := 15) (v := undef) rfl (by kernel_rfl) (by kernel_rfl) (by kernel_rfl) (fun _ _ _ h => h) (Or.inr ⟨by rfl, rfl⟩) hH ?_
          (try simp only [List.getElem_toArray]); (try simp only [List.getElem_cons_succ]); (try simp only [List.getElem_cons_zero]); (try simp only [Act.put]); (try simp only [List.setIfInBounds_toArray]); (try simp only [List.set_cons_succ]); (try simp only [List.set_cons_zero])
          refine wpAnyH_take (i := 16) (v := .bool false) rfl (by kernel_rfl) (by kernel_rfl) (by kernel_rfl) (fun _ _ _ h => h) (Or.inl ⟨by rfl, ?_⟩) hH ?_
          · intro w1 hS; (try dsimp only at hS); go_simp
          (try simp only [List.getElem_toArray]); (try simp only [List.getElem_cons_succ]); (try simp only [List.getElem_cons_zero]); (try simp only [Act.put]); (try simp only [List.setIfInBounds_toArray]); (try simp only [List.set_cons_succ]); (try simp only [List.set_cons_zero])
          refine wpAnyH_done (by kernel_rfl) ?_ _
          have R := Lib.hid (brow hH hr)
          have RK := Lib.hid (brow hH hk)
          have L9 := Lib.hid (hL.out.below hH)
          clear hH hr hk hL
          go_wp2_with fail
          refine ⟨⟨k + 1, cv, by omega, by omega, by go_num, R.out, HP2, RK.out, L9⟩, by simp [intOf]; omega⟩
        | succ p =>
          obtain ⟨J, hJ⟩ : ∃ J : Int, J = ((p + 1 : Nat) : Int) := ⟨_, rfl⟩
          have hJ0 : 0 < J := by omega
          have hJd : decide (0 < J) = true := by simpa using hJ0
          have hJn : J < n := by omega
          have hJ0' : 0 ≤ J := by omega
          have hJt : J.toNat = p + 1 := by omega
          have hw : IntKind.i64.wrap (J - 1) = (p : Int) := by rw [IntKind.wrap_i64]; omega
          have p0 : 0 ≤ (p : Int) := by omega
          have pn : (p : Int) < n := by omega
          have c0 := hP.out.get ((p + 1) * 2) (by omega)
          have c1 := hP.out.get ((p + 1) * 2 + 1) (by omega)
          have d0 := hP.out.get (p * 2) (by omega)
          have d1 := hP.out.get (p * 2 + 1) (by omega)
          have CM := fun W h => HC.out W (G ((p + 1) * 2)) (G ((p + 1) * 2 + 1)) (G (p * 2)) (G (p * 2 + 1)) h (hA.out (p + 1) (by omega)) (hA.out p (by omega))
          rw [← hJ]
          have HJ := Lib.hid hJ
          clear hJ
          go_wp2_with fail
          refine wp_region_held_drew (S := fun w' => Below wr.heap.size wr w') (by kernel_rfl) ((Below.refl _ _).drew) (fun hH => ?_)
          refine wpAnyH_take (i := 0) (v := .int .i64 J) rfl (by kernel_rfl) (by kernel_rfl) (by kernel_rfl) (fun _ _ _ h => h) (Or.inl ⟨by rfl, ?_⟩) hH ?_
          · intro w1 hS; (try dsimp only at hS); go_simp
          (try simp only [List.getElem_toArray]); (try simp only [List.getElem_cons_succ]); (try simp only [List.getElem_cons_zero]); (try simp only [Act.put]); (try simp only [List.setIfInBounds_toArray]); (try simp only [List.set_cons_succ]); (try simp only [List.set_cons_zero])
          refine wpAnyH_take (i := 1) (v := .int .i64 0) rfl (by kernel_rfl) (by kernel_rfl) (by kernel_rfl) (fun _ _ _ h => h) (Or.inl ⟨by rfl, ?_⟩) hH ?_
          · intro w1 hS; (try dsimp only at hS); go_simp
          (try simp only [List.getElem_toArray]); (try simp only [List.getElem_cons_succ]); (try simp only [List.getElem_cons_zero]); (try simp only [Act.put]); (try simp only [List.setIfInBounds_toArray]); (try simp only [List.set_cons_succ]); (try simp only [List.set_cons_zero])
          refine wpAnyH_take (i := 2) (v := .bool true) rfl (by kernel_rfl) (by kernel_rfl) (by kernel_rfl) (fun _ _ _ h => h) (Or.inl ⟨by rfl, ?_⟩) hH ?_
          · intro w1 hS; (try dsimp only at hS); go_simp
          (try simp only [List.getElem_toArray]); (try simp only [List.getElem_cons_succ]); (try simp only [List.getElem_cons_zero]); (try simp only [Act.put]); (try simp only [List.setIfInBounds_toArray]); (try simp only [List.set_cons_succ]); (try simp only [List.set_cons_zero])
          refine wpAnyH_take (i := 3) (v := .bool true) rfl (by kernel_rfl) (by kernel_rfl) (by kernel_rfl) (fun _ _ _ h => h) (Or.inl ⟨by rfl, ?_⟩) hH ?_
          · intro w1 hS; (try dsimp only at hS); go_simp
          (try simp only [List.getElem_toArray]); (try simp only [List.getElem_cons_succ]); (try simp only [List.getElem_cons_zero]); (try simp only [Act.put]); (try simp only [List.setIfInBounds_toArray]); (try simp only [List.set_cons_succ]); (try simp only [List.set_cons_zero])
          refine wpAnyH_take (i := 4) (v := .func (.func fid) #[] #[.pointer (some ⟨kb, 0, none⟩)]) rfl (by kernel_rfl) (by kernel_rfl) (by kernel_rfl) (fun _ _ _ h => h) (Or.inl ⟨by rfl, ?_⟩) hH ?_
          · intro w1 hS; (try dsimp only at hS); go_simp
          (try simp only [List.getElem_toArray]); (try simp only [List.getElem_cons_succ]); (try simp only [List.getElem_cons_zero]); (try simp only [Act.put]); (try simp only [List.setIfInBounds_toArray]); (try simp only [List.set_cons_succ]); (try simp only [List.set_cons_zero])
          refine wpAnyH_take (i := 5) (v := .slice (some ⟨g, 0, none⟩) n cap) rfl (by kernel_rfl) (by kernel_rfl) (by kernel_rfl) (fun _ _ _ h => h) (Or.inl ⟨by rfl, ?_⟩) hH ?_
          · intro w1 hS; (try dsimp only at hS); go_simp
          (try simp only [List.getElem_toArray]); (try simp only [List.getElem_cons_succ]); (try simp only [List.getElem_cons_zero]); (try simp only [Act.put]); (try simp only [List.setIfInBounds_toArray]); (try simp only [List.set_cons_succ]); (try simp only [List.set_cons_zero])
          refine wpAnyH_take (i := 6) (v := .int .i64 J) rfl (by kernel_rfl) (by kernel_rfl) (by kernel_rfl) (fun _ _ _ h => h) (Or.inl ⟨by rfl, ?_⟩) hH ?_
          · intro w1 hS; (try dsimp only at hS); go_simp
          (try simp only [List.getElem_toArray]); (try simp only [List.getElem_cons_succ]); (try simp only [List.getElem_cons_zero]); (try simp only [Act.put]); (try simp only [List.setIfInBounds_toArray]); (try simp only [List.set_cons_succ]); (try simp only [List.set_cons_zero])
          refine wpAnyH_take (i := 7) (v := .pointer (some ⟨g, (p + 1) * 2, none⟩)) rfl (by kernel_rfl) (by kernel_rfl) (by kernel_rfl) (fun _ _ _ h => h) (Or.inl ⟨by rfl, ?_⟩) hH ?_
          · intro w1 hS; (try dsimp only at hS); go_simp
          (try simp only [List.getElem_toArray]); (try simp only [List.getElem_cons_succ]); (try simp only [List.getElem_cons_zero]); (try simp only [Act.put]); (try simp only [List.setIfInBounds_toArray]); (try simp only [List.set_cons_succ]); (try simp only [List.set_cons_zero])
          refine wpAnyH_take (i := 8) (v := .agg #[.int .i8 (G ((p + 1) * 2)), .int .i8 (G ((p + 1) * 2 + 1))]) rfl (by kernel_rfl) (by kernel_rfl) (by kernel_rfl) (fun _ _ _ h => h) (Or.inl ⟨by rfl, ?_⟩) hH ?_
          · intro w1 hS; (try dsimp only at hS); have s0 : w1.cell? ⟨g, (p + 1) * 2, none⟩ = some (.int .i8 (G ((p + 1) * 2))) := (by rw [cell_of_rowAt (brow hS hr)]; exact c0); have s1 : w1.cell? ⟨g, (p + 1) * 2 + 1, none⟩ = some (.int .i8 (G ((p + 1) * 2 + 1))) := (by rw [cell_of_rowAt (brow hS hr)]; exact c1); go_simp
          (try simp only [List.getElem_toArray]); (try simp only [List.getElem_cons_succ]); (try simp only [List.getElem_cons_zero]); (try simp only [Act.put]); (try simp only [List.setIfInBounds_toArray]); (try simp only [List.set_cons_succ]); (try simp only [List.set_cons_zero])
          refine wpAnyH_take (i := 9) (v := .slice (some ⟨g, 0, none⟩) n cap) rfl (by kernel_rfl) (by kernel_rfl) (by kernel_rfl) (fun _ _ _ h => h) (Or.inl ⟨by rfl, ?_⟩) hH ?_
          · intro w1 hS; (try dsimp only at hS); go_simp
          (try simp only [List.getElem_toArray]); (try simp only [List.getElem_cons_succ]); (try simp only [List.getElem_cons_zero]); (try simp only [Act.put]); (try simp only [List.setIfInBounds_toArray]); (try simp only [List.set_cons_succ]); (try simp only [List.set_cons_zero])
          refine wpAnyH_take (i := 10) (v := .int .i64 J) rfl (by kernel_rfl) (by kernel_rfl) (by kernel_rfl) (fun _ _ _ h => h) (Or.inl ⟨by rfl, ?_⟩) hH ?_
          · intro w1 hS; (try dsimp only at hS); go_simp
          (try simp only [List.getElem_toArray]); (try simp only [List.getElem_cons_succ]); (try simp only [List.getElem_cons_zero]); (try simp only [Act.put]); (try simp only [List.setIfInBounds_toArray]); (try simp only [List.set_cons_succ]); (try simp only [List.set_cons_zero])
          refine wpAnyH_take (i := 11) (v := .int .i64 (p : Int)) rfl (by kernel_rfl) (by kernel_rfl) (by kernel_rfl) (fun _ _ _ h => h) (Or.inl ⟨by rfl, ?_⟩) hH ?_
          · intro w1 hS; (try dsimp only at hS); go_simp
          (try simp only [List.getElem_toArray]); (try simp only [List.getElem_cons_succ]); (try simp only [List.getElem_cons_zero]); (try simp only [Act.put]); (try simp only [List.setIfInBounds_toArray]); (try simp only [List.set_cons_succ]); (try simp only [List.set_cons_zero])
          refine wpAnyH_take (i := 12) (v := .pointer (some ⟨g, p * 2, none⟩)) rfl (by kernel_rfl) (by kernel_rfl) (by kernel_rfl) (fun _ _ _ h => h) (Or.inl ⟨by rfl, ?_⟩) hH ?_
          · intro w1 hS; (try dsimp only at hS); go_simp
          (try simp only [List.getElem_toArray]); (try simp only [List.getElem_cons_succ]); (try simp only [List.getElem_cons_zero]); (try simp only [Act.put]); (try simp only [List.setIfInBounds_toArray]); (try simp only [List.set_cons_succ]); (try simp only [List.set_cons_zero])
          refine wpAnyH_take (i := 13) (v := .agg #[.int .i8 (G (p * 2)), .int .i8 (G (p * 2 + 1))]) rfl (by kernel_rfl) (by kernel_rfl) (by kernel_rfl) (fun _ _ _ h => h) (Or.inl ⟨by rfl, ?_⟩) hH ?_
          · intro w1 hS; (try dsimp only at hS); have s0 : w1.cell? ⟨g, p * 2, none⟩ = some (.int .i8 (G (p * 2))) := (by rw [cell_of_rowAt (brow hS hr)]; exact d0); have s1 : w1.cell? ⟨g, p * 2 + 1, none⟩ = some (.int .i8 (G (p * 2 + 1))) := (by rw [cell_of_rowAt (brow hS hr)]; exact d1); go_simp
          (try simp only [List.getElem_toArray]); (try simp only [List.getElem_cons_succ]); (try simp only [List.getElem_cons_zero]); (try simp only [Act.put]); (try simp only [List.setIfInBounds_toArray]); (try simp only [List.set_cons_succ]); (try simp only [List.set_cons_zero])
          refine wpAnyH_ready (rs := [14]) (by kernel_rfl) (by simp) (AllReadyH.cons rfl (fun K hK => ?_) AllReadyH.nil)
          go_simp
          refine (CM _ (brow hH hk)).mono ?_
          rintro x wx ⟨z, rfl, hz, bx⟩
          have HZ := Lib.hid hz
          clear hz
          obtain ⟨zb, hzb⟩ : ∃ zb, zb = decide (z < 0) := ⟨_, rfl⟩
          go_simp
          refine hK.out _ _ (bnext hH bx hH.size) (fun hG => ?_)
          clear hK K hH bx
          replace hH := hG
          clear hG
          (try simp only [List.getElem_toArray]); (try simp only [List.getElem_cons_succ]); (try simp only [List.getElem_cons_zero]); (try simp only [Act.put]); (try simp only [List.setIfInBounds_toArray]); (try simp only [List.set_cons_succ]); (try simp only [List.set_cons_zero])
          refine wpAnyH_take (i := 15) (v := .bool zb) rfl (by kernel_rfl) (by kernel_rfl) (by kernel_rfl) (fun _ _ _ h => h) (Or.inl ⟨by rfl, ?_⟩) hH ?_
          · intro w1 hS; (try dsimp only at hS); go_simp
          (try simp only [List.getElem_toArray]); (try simp only [List.getElem_cons_succ]); (try simp only [List.getElem_cons_zero]); (try simp only [Act.put]); (try simp only [List.setIfInBounds_toArray]); (try simp only [List.set_cons_succ]); (try simp only [List.set_cons_zero])
          refine wpAnyH_take (i := 16) (v := .bool zb) rfl (by kernel_rfl) (by kernel_rfl) (by kernel_rfl) (fun _ _ _ h => h) (Or.inl ⟨by rfl, ?_⟩) hH ?_
          · intro w1 hS; (try dsimp only at hS); go_simp
          (try simp only [List.getElem_toArray]); (try simp only [List.getElem_cons_succ]); (try simp only [List.getElem_cons_zero]); (try simp only [Act.put]); (try simp only [List.setIfInBounds_toArray]); (try simp only [List.set_cons_succ]); (try simp only [List.set_cons_zero])
          refine wpAnyH_done (by kernel_rfl) ?_ _
          have R := brow hH hr
          have RK := brow hH hk
          have L9 := Lib.hid (hL.out.below hH)
          clear hH hr hk hL CM
          by_cases hlt2 : lsP G (p + 1)
          · have hzt : zb = true := by rw [hzb]; exact decide_eq_true (HZ.out.2 (lsP_succ.1 hlt2))
            have HG := Lib.hid ((inn_go hlt2).symm.trans hI.out)
            have HA2 := Lib.hid (hA.out.sw (j := p + 1) (by omega) (by omega))
            have HP2 := Lib.hid (hP.out.sw (p := p) (by omega))
            subst hzt
            clear hzb hlt2 hI hA
            have e0 : wx.cell? ⟨g, (p + 1) * 2, none⟩ = some (.int .i8 (G ((p + 1) * 2))) := by rw [cell_of_rowAt R]; exact c0
            have e1 : wx.cell? ⟨g, (p + 1) * 2 + 1, none⟩ = some (.int .i8 (G ((p + 1) * 2 + 1))) := by rw [cell_of_rowAt R]; exact c1
            have e2 : wx.cell? ⟨g, p * 2, none⟩ = some (.int .i8 (G (p * 2))) := by rw [cell_of_rowAt R]; exact d0
            have e3 : wx.cell? ⟨g, p * 2 + 1, none⟩ = some (.int .i8 (G (p * 2 + 1))) := by rw [cell_of_rowAt R]; exact d1
            have fr := frozen_of_rowAt R
            have lg := rowAt_lt R
            have RR := Lib.hid R
            have RRK := Lib.hid RK
            clear R RK c0 c1 d0 d1
            generalize G ((p + 1) * 2) = x0 at *
            generalize G ((p + 1) * 2 + 1) = x1 at *
            generalize G (p * 2) = y0 at *
            generalize G (p * 2 + 1) = y1 at *
            go_wp2_with fail
            refine wp_region_held_drew (S := fun _ => True) (by kernel_rfl) trivial (fun hH => ?_)
            refine wpAnyH_take (i := 0) (v := .slice (some ⟨g, 0, none⟩) n cap) rfl (by kernel_rfl) (by kernel_rfl) (by kernel_rfl) (fun _ _ _ h => h) (Or.inl ⟨by rfl, ?_⟩) hH ?_
            · intro w1 _; go_simp
            (try simp only [List.getElem_toArray]); (try simp only [List.getElem_cons_succ]); (try simp only [List.getElem_cons_zero]); (try simp only [Act.put]); (try simp only [List.setIfInBounds_toArray]); (try simp only [List.set_cons_succ]); (try simp only [List.set_cons_zero])
            refine wpAnyH_take (i := 1) (v := .int .i64 J) rfl (by kernel_rfl) (by kernel_rfl) (by kernel_rfl) (fun _ _ _ h => h) (Or.inl ⟨by rfl, ?_⟩) hH ?_
            · intro w1 _; go_simp
            (try simp only [List.getElem_toArray]); (try simp only [List.getElem_cons_succ]); (try simp only [List.getElem_cons_zero]); (try simp only [Act.put]); (try simp only [List.setIfInBounds_toArray]); (try simp only [List.set_cons_succ]); (try simp only [List.set_cons_zero])
            refine wpAnyH_take (i := 2) (v := .slice (some ⟨g, 0, none⟩) n cap) rfl (by kernel_rfl) (by kernel_rfl) (by kernel_rfl) (fun _ _ _ h => h) (Or.inl ⟨by rfl, ?_⟩) hH ?_
            · intro w1 _; go_simp
            (try simp only [List.getElem_toArray]); (try simp only [List.getElem_cons_succ]); (try simp only [List.getElem_cons_zero]); (try simp only [Act.put]); (try simp only [List.setIfInBounds_toArray]); (try simp only [List.set_cons_succ]); (try simp only [List.set_cons_zero])
            refine wpAnyH_take (i := 3) (v := .int .i64 J) rfl (by kernel_rfl) (by kernel_rfl) (by kernel_rfl) (fun _ _ _ h => h) (Or.inl ⟨by rfl, ?_⟩) hH ?_
            · intro w1 _; go_simp
            (try simp only [List.getElem_toArray]); (try simp only [List.getElem_cons_succ]); (try simp only [List.getElem_cons_zero]); (try simp only [Act.put]); (try simp only [List.setIfInBounds_toArray]); (try simp only [List.set_cons_succ]); (try simp only [List.set_cons_zero])
            refine wpAnyH_take (i := 4) (v := .int .i64 (p : Int)) rfl (by kernel_rfl) (by kernel_rfl) (by kernel_rfl) (fun _ _ _ h => h) (Or.inl ⟨by rfl, ?_⟩) hH ?_
            · intro w1 _; go_simp
            (try simp only [List.getElem_toArray]); (try simp only [List.getElem_cons_succ]); (try simp only [List.getElem_cons_zero]); (try simp only [Act.put]); (try simp only [List.setIfInBounds_toArray]); (try simp only [List.set_cons_succ]); (try simp only [List.set_cons_zero])
            refine wpAnyH_take (i := 5) (v := .slice (some ⟨g, 0, none⟩) n cap) rfl (by kernel_rfl) (by kernel_rfl) (by kernel_rfl) (fun _ _ _ h => h) (Or.inl ⟨by rfl, ?_⟩) hH ?_
            · intro w1 _; go_simp
            (try simp only [List.getElem_toArray]); (try simp only [List.getElem_cons_succ]); (try simp only [List.getElem_cons_zero]); (try simp only [Act.put]); (try simp only [List.setIfInBounds_toArray]); (try simp only [List.set_cons_succ]); (try simp only [List.set_cons_zero])
            refine wpAnyH_take (i := 6) (v := .int .i64 J) rfl (by kernel_rfl) (by kernel_rfl) (by kernel_rfl) (fun _ _ _ h => h) (Or.inl ⟨by rfl, ?_⟩) hH ?_
            · intro w1 _; go_simp
            (try simp only [List.getElem_toArray]); (try simp only [List.getElem_cons_succ]); (try simp only [List.getElem_cons_zero]); (try simp only [Act.put]); (try simp only [List.setIfInBounds_toArray]); (try simp only [List.set_cons_succ]); (try simp only [List.set_cons_zero])
            refine wpAnyH_take (i := 7) (v := .int .i64 (p : Int)) rfl (by kernel_rfl) (by kernel_rfl) (by kernel_rfl) (fun _ _ _ h => h) (Or.inl ⟨by rfl, ?_⟩) hH ?_
            · intro w1 _; go_simp
            (try simp only [List.getElem_toArray]); (try simp only [List.getElem_cons_succ]); (try simp only [List.getElem_cons_zero]); (try simp only [Act.put]); (try simp only [List.setIfInBounds_toArray]); (try simp only [List.set_cons_succ]); (try simp only [List.set_cons_zero])
            refine wpAnyH_take (i := 8) (v := .pointer (some ⟨g, p * 2, none⟩)) rfl (by kernel_rfl) (by kernel_rfl) (by kernel_rfl) (fun _ _ _ h => h) (Or.inl ⟨by rfl, ?_⟩) hH ?_
            · intro w1 _; go_simp
            (try simp only [List.getElem_toArray]); (try simp only [List.getElem_cons_succ]); (try simp only [List.getElem_cons_zero]); (try simp only [Act.put]); (try simp only [List.setIfInBounds_toArray]); (try simp only [List.set_cons_succ]); (try simp only [List.set_cons_zero])
            refine wpAnyH_take (i := 10) (v := .slice (some ⟨g, 0, none⟩) n cap) rfl (by kernel_rfl) (by kernel_rfl) (by kernel_rfl) (fun _ _ _ h => h) (Or.inl ⟨by rfl, ?_⟩) hH ?_
            · intro w1 _; go_simp
            (try simp only [List.getElem_toArray]); (try simp only [List.getElem_cons_succ]); (try simp only [List.getElem_cons_zero]); (try simp only [Act.put]); (try simp only [List.setIfInBounds_toArray]); (try simp only [List.set_cons_succ]); (try simp only [List.set_cons_zero])
            refine wpAnyH_take (i := 11) (v := .int .i64 J) rfl (by kernel_rfl) (by kernel_rfl) (by kernel_rfl) (fun _ _ _ h => h) (Or.inl ⟨by rfl, ?_⟩) hH ?_
            · intro w1 _; go_simp
            (try simp only [List.getElem_toArray]); (try simp only [List.getElem_cons_succ]); (try simp only [List.getElem_cons_zero]); (try simp only [Act.put]); (try simp only [List.setIfInBounds_toArray]); (try simp only [List.set_cons_succ]); (try simp only [List.set_cons_zero])
            refine wpAnyH_take (i := 12) (v := .pointer (some ⟨g, (p + 1) * 2, none⟩)) rfl (by kernel_rfl) (by kernel_rfl) (by kernel_rfl) (fun _ _ _ h => h) (Or.inl ⟨by rfl, ?_⟩) hH ?_
            · intro w1 _; go_simp
            (try simp only [List.getElem_toArray]); (try simp only [List.getElem_cons_succ]); (try simp only [List.getElem_cons_zero]); (try simp only [Act.put]); (try simp only [List.setIfInBounds_toArray]); (try simp only [List.set_cons_succ]); (try simp only [List.set_cons_zero])
            refine wpAnyH_ready (rs := [9, 13]) (by kernel_rfl) (by simp) (AllReadyH.cons rfl (fun K hK => ?_) (AllReadyH.cons rfl (fun K hK => ?_) (AllReadyH.nil)))
            · go_simp
              refine hK.out _ _ trivial (fun hG => ?_)
              clear hK K hG
              (try simp only [List.getElem_toArray]); (try simp only [List.getElem_cons_succ]); (try simp only [List.getElem_cons_zero]); (try simp only [Act.put]); (try simp only [List.setIfInBounds_toArray]); (try simp only [List.set_cons_succ]); (try simp only [List.set_cons_zero])
              have hH := trivial
              refine wpAnyH_ready (rs := [13]) (by kernel_rfl) (by simp) (AllReadyH.cons rfl (fun K hK => ?_) (AllReadyH.nil))
              go_simp
              refine hK.out _ _ trivial (fun hG => ?_)
              clear hK K hG
              (try simp only [List.getElem_toArray]); (try simp only [List.getElem_cons_succ]); (try simp only [List.getElem_cons_zero]); (try simp only [Act.put]); (try simp only [List.setIfInBounds_toArray]); (try simp only [List.set_cons_succ]); (try simp only [List.set_cons_zero])
              have hH := trivial
              refine wpAnyH_take (i := 14) (v := .pointer (some ⟨g, (p + 1) * 2, none⟩)) rfl (by kernel_rfl) (by kernel_rfl) (by kernel_rfl) (fun _ _ _ h => h) (Or.inl ⟨by rfl, ?_⟩) hH ?_
              · intro w1 _; go_simp
              (try simp only [List.getElem_toArray]); (try simp only [List.getElem_cons_succ]); (try simp only [List.getElem_cons_zero]); (try simp only [Act.put]); (try simp only [List.setIfInBounds_toArray]); (try simp only [List.set_cons_succ]); (try simp only [List.set_cons_zero])
              refine wpAnyH_ready (rs := [15]) (by kernel_rfl) (by simp) (AllReadyH.cons rfl (fun K hK => ?_) (AllReadyH.nil))
              go_simp
              refine hK.out _ _ trivial (fun hG => ?_)
              clear hK K hG
              (try simp only [List.getElem_toArray]); (try simp only [List.getElem_cons_succ]); (try simp only [List.getElem_cons_zero]); (try simp only [Act.put]); (try simp only [List.setIfInBounds_toArray]); (try simp only [List.set_cons_succ]); (try simp only [List.set_cons_zero])
              have hH := trivial
              refine wpAnyH_take (i := 16) (v := .pointer (some ⟨g, p * 2, none⟩)) rfl (by kernel_rfl) (by kernel_rfl) (by kernel_rfl) (fun _ _ _ h => h) (Or.inl ⟨by rfl, ?_⟩) hH ?_
              · intro w1 _; go_simp
              (try simp only [List.getElem_toArray]); (try simp only [List.getElem_cons_succ]); (try simp only [List.getElem_cons_zero]); (try simp only [Act.put]); (try simp only [List.setIfInBounds_toArray]); (try simp only [List.set_cons_succ]); (try simp only [List.set_cons_zero])
              refine wpAnyH_ready (rs := [17]) (by kernel_rfl) (by simp) (AllReadyH.cons rfl (fun K hK => ?_) (AllReadyH.nil))
              go_simp
              refine hK.out _ _ trivial (fun hG => ?_)
              clear hK K hG
              (try simp only [List.getElem_toArray]); (try simp only [List.getElem_cons_succ]); (try simp only [List.getElem_cons_zero]); (try simp only [Act.put]); (try simp only [List.setIfInBounds_toArray]); (try simp only [List.set_cons_succ]); (try simp only [List.set_cons_zero])
              refine wpAnyH_done (by kernel_rfl) ?_ _
              have R1 := rowAt_setCell_at wx.drew g ((p + 1) * 2) (.int .i8 y0) (congrArg Option.isSome RR.out)
              rw [show rowAt wx.drew g = some cv from RR.out, Option.getD_some] at R1
              have R2 := rowAt_setCell_at _ g ((p + 1) * 2 + 1) (.int .i8 y1) (congrArg Option.isSome R1)
              rw [R1, Option.getD_some] at R2
              have R3 := rowAt_setCell_at _ g (p * 2) (.int .i8 x0) (congrArg Option.isSome R2)
              rw [R2, Option.getD_some] at R3
              have R4 := rowAt_setCell_at _ g (p * 2 + 1) (.int .i8 x1) (congrArg Option.isSome R3)
              rw [R3, Option.getD_some] at R4
              clear R1 R2 R3
              go_wp2_with fail
              refine ⟨⟨p, _, swE G (p + 1), by omega, by go_num, R4, HP2, HG, HA2, ?_, ?_⟩, by simp [intOf]; omega⟩
              · exact (rowAt_setCell_ne _ _ _ _ _ hne).trans ((rowAt_setCell_ne _ _ _ _ _ hne).trans ((rowAt_setCell_ne _ _ _ _ _ hne).trans ((rowAt_setCell_ne _ _ _ _ _ hne).trans RRK.out)))
              · exact Lib.hid (by first | exact (((L9.out.setC _ _).setC _ _).setC _ _).setC _ _ | exact ((((L9.out.drew).setC _ _).setC _ _).setC _ _).setC _ _ | exact ((((L9.out.setC _ _).setC _ _).setC _ _).setC _ _).drew)
            · go_simp
              refine hK.out _ _ trivial (fun hG => ?_)
              clear hK K hG
              (try simp only [List.getElem_toArray]); (try simp only [List.getElem_cons_succ]); (try simp only [List.getElem_cons_zero]); (try simp only [Act.put]); (try simp only [List.setIfInBounds_toArray]); (try simp only [List.set_cons_succ]); (try simp only [List.set_cons_zero])
              have hH := trivial
              refine wpAnyH_ready (rs := [9]) (by kernel_rfl) (by simp) (AllReadyH.cons rfl (fun K hK => ?_) (AllReadyH.nil))
              go_simp
              refine hK.out _ _ trivial (fun hG => ?_)
              clear hK K hG
              (try simp only [List.getElem_toArray]); (try simp only [List.getElem_cons_succ]); (try simp only [List.getElem_cons_zero]); (try simp only [Act.put]); (try simp only [List.setIfInBounds_toArray]); (try simp only [List.set_cons_succ]); (try simp only [List.set_cons_zero])
              have hH := trivial
              refine wpAnyH_take (i := 14) (v := .pointer (some ⟨g, (p + 1) * 2, none⟩)) rfl (by kernel_rfl) (by kernel_rfl) (by kernel_rfl) (fun _ _ _ h => h) (Or.inl ⟨by rfl, ?_⟩) hH ?_
              · intro w1 _; go_simp
              (try simp only [List.getElem_toArray]); (try simp only [List.getElem_cons_succ]); (try simp only [List.getElem_cons_zero]); (try simp only [Act.put]); (try simp only [List.setIfInBounds_toArray]); (try simp only [List.set_cons_succ]); (try simp only [List.set_cons_zero])
              refine wpAnyH_ready (rs := [15]) (by kernel_rfl) (by simp) (AllReadyH.cons rfl (fun K hK => ?_) (AllReadyH.nil))
              go_simp
              refine hK.out _ _ trivial (fun hG => ?_)
              clear hK K hG
              (try simp only [List.getElem_toArray]); (try simp only [List.getElem_cons_succ]); (try simp only [List.getElem_cons_zero]); (try simp only [Act.put]); (try simp only [List.setIfInBounds_toArray]); (try simp only [List.set_cons_succ]); (try simp only [List.set_cons_zero])
              have hH := trivial
              refine wpAnyH_take (i := 16) (v := .pointer (some ⟨g, p * 2, none⟩)) rfl (by kernel_rfl) (by kernel_rfl) (by kernel_rfl) (fun _ _ _ h => h) (Or.inl ⟨by rfl, ?_⟩) hH ?_
              · intro w1 _; go_simp
              (try simp only [List.getElem_toArray]); (try simp only [List.getElem_cons_succ]); (try simp only [List.getElem_cons_zero]); (try simp only [Act.put]); (try simp only [List.setIfInBounds_toArray]); (try simp only [List.set_cons_succ]); (try simp only [List.set_cons_zero])
              refine wpAnyH_ready (rs := [17]) (by kernel_rfl) (by simp) (AllReadyH.cons rfl (fun K hK => ?_) (AllReadyH.nil))
              go_simp
              refine hK.out _ _ trivial (fun hG => ?_)
              clear hK K hG
              (try simp only [List.getElem_toArray]); (try simp only [List.getElem_cons_succ]); (try simp only [List.getElem_cons_zero]); (try simp only [Act.put]); (try simp only [List.setIfInBounds_toArray]); (try simp only [List.set_cons_succ]); (try simp only [List.set_cons_zero])
              refine wpAnyH_done (by kernel_rfl) ?_ _
              have R1 := rowAt_setCell_at wx.drew g ((p + 1) * 2) (.int .i8 y0) (congrArg Option.isSome RR.out)
              rw [show rowAt wx.drew g = some cv from RR.out, Option.getD_some] at R1
              have R2 := rowAt_setCell_at _ g ((p + 1) * 2 + 1) (.int .i8 y1) (congrArg Option.isSome R1)
              rw [R1, Option.getD_some] at R2
              have R3 := rowAt_setCell_at _ g (p * 2) (.int .i8 x0) (congrArg Option.isSome R2)
              rw [R2, Option.getD_some] at R3
              have R4 := rowAt_setCell_at _ g (p * 2 + 1) (.int .i8 x1) (congrArg Option.isSome R3)
              rw [R3, Option.getD_some] at R4
              clear R1 R2 R3
              go_wp2_with fail
              refine ⟨⟨p, _, swE G (p + 1), by omega, by go_num, R4, HP2, HG, HA2, ?_, ?_⟩, by simp [intOf]; omega⟩
              · exact (rowAt_setCell_ne _ _ _ _ _ hne).trans ((rowAt_setCell_ne _ _ _ _ _ hne).trans ((rowAt_setCell_ne _ _ _ _ _ hne).trans ((rowAt_setCell_ne _ _ _ _ _ hne).trans RRK.out)))
              · exact Lib.hid (by first | exact (((L9.out.setC _ _).setC _ _).setC _ _).setC _ _ | exact ((((L9.out.drew).setC _ _).setC _ _).setC _ _).setC _ _ | exact ((((L9.out.setC _ _).setC _ _).setC _ _).setC _ _).drew)
          · have hzf : zb = false := by rw [hzb]; exact decide_eq_false (fun h => hlt2 (lsP_succ.2 (HZ.out.1 h)))
            have HP2 := Lib.hid (show IsP cv n (srt f (k + 1)) by rw [← hI.out, inn_stop hlt2]; exact hP.out)
            have RR := Lib.hid R
            have RRK := Lib.hid RK
            subst hzf
            clear hzb hlt2 hI hA R RK c0 c1 d0 d1
            go_wp2_with fail
            refine ⟨⟨k + 1, cv, by omega, by omega, by go_num, RR.out, HP2, RRK.out, L9⟩, by simp [intOf]; omega⟩
    · obtain rfl : k = n := by omega
      go_wp2_with fail
      go_end0
      exact ⟨rfl, ⟨cu, hr, hP.out⟩, hL.out⟩
end Go.Proofs.Ytkbacpkpgfppiaa
