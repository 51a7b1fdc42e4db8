/- DifferIn: both sides. -/
import Derived.Test.YtoibolmippfcgaaTiles
import Derived.Test.YtoibolmippfcgaaMended
import Derived.Test.YtoibolmippfcgaaEqRoof
import Derived.Test.YtoibolmippfcgaaRainA
import Derived.Test.YtoibolmippfcgaaPlW
import Derived.Deep.RegionHeld3
namespace Go.Proofs.Ytoibolmippfcgaa
open Go.RowKit Go.Shelf
attribute [local go_sem] Oper.semAt_some

def Rf.same (r q : Rf) : Prop := r.w = q.w ∧ r.h = q.h ∧ r.s = q.s
instance (r q : Rf) : Decidable (r.same q) := inferInstanceAs (Decidable (_ ∧ _ ∧ _))
/-- Of some places those whose tiles differ. -/
def Rf.diff (r q : Rf) {h w : Nat} (l : List (Pl h w)) : List (Pl h w) := l.filter fun x => r.t (x.1.1 * 8 + x.1.2) != q.t (x.1.1 * 8 + x.1.2)
theorem Rf.diff_hit {r q : Rf} {h w : Nat} {l : List (Pl h w)} {x : Pl h w} (e : (r.t (x.1.1 * 8 + x.1.2) != q.t (x.1.1 * 8 + x.1.2)) = true) : r.diff q (l ++ [x]) = r.diff q l ++ [x] := by simp only [Rf.diff, List.filter_append, List.filter_cons, e, List.filter_nil, if_true]
theorem Rf.diff_miss {r q : Rf} {h w : Nat} {l : List (Pl h w)} {x : Pl h w} (e : (r.t (x.1.1 * 8 + x.1.2) != q.t (x.1.1 * 8 + x.1.2)) = false) : r.diff q (l ++ [x]) = r.diff q l := by simp [Rf.diff, e]
theorem Rf.diff_len {r q : Rf} {h w : Nat} (l : List (Pl h w)) : (r.diff q l).length ≤ l.length := List.length_filter_le _ _
theorem Rf.bare_tiles (r q : Rf) : r.bare.tilesEq q.bare = true := by
  unfold Rf.tilesEq Rf.rowEq Rf.bare
  simp
theorem Rf.bare_t {r q : Rf} (h : r.same q) : r.bare.eqB q.bare = true := by
  unfold Rf.eqB
  rw [Rf.bare_tiles]
  exact (if_pos (show r.bare.w = q.bare.w from h.1)).trans ((if_pos (show r.bare.h = q.bare.h from h.2.1)).trans (if_pos (show r.bare.s = q.bare.s from h.2.2)))
theorem onlyN_out {Q : Exit → Act → World → Prop} : ∀ e a w, OnlyN Q e a w → Q e a w
  | .normal, _, _, h => h
  | .exit _, _, _, h => h.elim
  | .goto _, _, _, h => h.elim
  | .ret, _, _, h => h.elim
  | .panic _, _, _, h => h.elim
theorem Rf.bare_f {r q : Rf} (h : ¬ r.same q) : r.bare.eqB q.bare = false := by
  unfold Rf.eqB
  by_cases h0 : r.bare.w = q.bare.w
  · by_cases h1 : r.bare.h = q.bare.h
    · by_cases h2 : r.bare.s = q.bare.s
      · exact absurd ⟨h0, h1, h2⟩ h
      · rw [if_pos h0, if_pos h1, if_neg h2]
    · rw [if_pos h0, if_neg h1]
  · rw [if_neg h0]
noncomputable def Rf.dcode (r q : Rf) : Int := if r.ok = true then if q.ok = true then if r.same q then 0 else 4 else 1 else 1
noncomputable def Rf.dfL (r q : Rf) : List (Pl r.h.toNat r.w.toNat) := if r.dcode q = 0 then r.diff q r.all else []
theorem Rf.dfL_le (r q : Rf) : (r.dfL q).length ≤ 64 := by
  unfold Rf.dfL
  by_cases h : r.dcode q = 0
  · rw [if_pos h]
    unfold Rf.dcode at h
    by_cases ho : r.ok = true
    · exact Nat.le_trans (Rf.diff_len _) (Rf.all_le (by by_cases hk : r.Ok; exact hk; rw [Rf.ok_false hk] at ho; exact absurd ho (by simp)))
    · rw [if_neg ho] at h; exact absurd h (by decide)
  · rw [if_neg h]; simp

set_option maxRecDepth 100000 in
set_option maxHeartbeats 1000000 in
theorem differ_pred (B0 B1 : Nat) (c e : Array Value) (r q : Rf) (w : World) (h0 : rowAt w B0 = some c) (h1 : rowAt w B1 = some e) (hR : IsRoof c r) (hQ : IsRoof e q) :
    PredW 53 #[] #[.pointer (some ⟨B0, 0, none⟩), .pointer (some ⟨B1, 0, none⟩)] (fun i j => r.t (i * 8 + j) != q.t (i * 8 + j)) w := fun i j W hi hj hb => by
  have hc := hR.size
  have he := hQ.size
  have CK := fun W => kind_any c r i j W hR hi hj
  have CL := fun W => kind_any e q i j W hQ hi hj
  show Calls Try.prog 53 #[.agg #[.int .i8 (i : Int), .int .i8 (j : Int)], .pointer (some ⟨B0, 0, none⟩), .pointer (some ⟨B1, 0, none⟩)] W _
  obtain ⟨b, hcmp⟩ : ∃ b, (fun i j => r.t (i * 8 + j) != q.t (i * 8 + j)) i j = b := ⟨_, rfl⟩
  rw [hcmp]
  dsimp only at hcmp
  have hcq : (r.t (i * 8 + j) != q.t (i * 8 + j)) = b := by first | exact hcmp | (rw [← hcmp]; first | rfl | simp [bne])
  go_enter Try.func53, Try.ntmps53
  go_wp2_with fail
  refine gen_world fun W2 hW => ?_
  have rB : Below W.heap.size W W2 := by rw [hW]; exact (Below.refl _ _).alloc (Nat.le_refl _) _
  have rA : rowAt W2 W.heap.size = some #[.int .i8 (i : Int), .int .i8 (j : Int)] := by rw [hW]; exact rowAt_alloc_at _ _ _ _ rfl
  have r0 : rowAt W2 B0 = some c := brow rB (brow hb h0)
  have r1 : rowAt W2 B1 = some e := brow rB (brow hb h1)
  clear hW
  refine wp_region_held_drew (S := fun w' => Below W2.heap.size W2 w') (by kernel_rfl) ((Below.refl _ _).drew) (fun hH => ?_)
  refine wpAnyH_take (i := 0) (v := .agg c) rfl (by kernel_rfl) (by kernel_rfl) (by kernel_rfl) (fun _ _ _ h => h) (Or.inl ⟨by rfl, ?_⟩) hH ?_
  · intro w1 hS; (try dsimp only at hS); have u := brow hS r0; go_simp
  (try simp only [List.getElem_toArray]); (try simp only [List.getElem_cons_succ]); (try simp only [List.getElem_cons_zero]); (try simp only [Act.put]); (try simp only [List.setIfInBounds_toArray]); (try simp only [List.set_cons_succ]); (try simp only [List.set_cons_zero])
  refine wpAnyH_take (i := 1) (v := .agg #[.int .i8 (i : Int), .int .i8 (j : Int)]) rfl (by kernel_rfl) (by kernel_rfl) (by kernel_rfl) (fun _ _ _ h => h) (Or.inl ⟨by rfl, ?_⟩) hH ?_
  · intro w1 hS; (try dsimp only at hS); have u0 := (cell_of_rowAt (brow hS rA) 0); have u1 := (cell_of_rowAt (brow hS rA) 1); simp at u0 u1; go_simp
  (try simp only [List.getElem_toArray]); (try simp only [List.getElem_cons_succ]); (try simp only [List.getElem_cons_zero]); (try simp only [Act.put]); (try simp only [List.setIfInBounds_toArray]); (try simp only [List.set_cons_succ]); (try simp only [List.set_cons_zero])
  refine wpAnyH_take (i := 3) (v := .agg e) rfl (by kernel_rfl) (by kernel_rfl) (by kernel_rfl) (fun _ _ _ h => h) (Or.inl ⟨by rfl, ?_⟩) hH ?_
  · intro w1 hS; (try dsimp only at hS); have u := brow hS r1; go_simp
  (try simp only [List.getElem_toArray]); (try simp only [List.getElem_cons_succ]); (try simp only [List.getElem_cons_zero]); (try simp only [Act.put]); (try simp only [List.setIfInBounds_toArray]); (try simp only [List.set_cons_succ]); (try simp only [List.set_cons_zero])
  refine wpAnyH_take (i := 4) (v := .agg #[.int .i8 (i : Int), .int .i8 (j : Int)]) rfl (by kernel_rfl) (by kernel_rfl) (by kernel_rfl) (fun _ _ _ h => h) (Or.inl ⟨by rfl, ?_⟩) hH ?_
  · intro w1 hS; (try dsimp only at hS); have u0 := (cell_of_rowAt (brow hS rA) 0); have u1 := (cell_of_rowAt (brow hS rA) 1); simp at u0 u1; go_simp
  (try simp only [List.getElem_toArray]); (try simp only [List.getElem_cons_succ]); (try simp only [List.getElem_cons_zero]); (try simp only [Act.put]); (try simp only [List.setIfInBounds_toArray]); (try simp only [List.set_cons_succ]); (try simp only [List.set_cons_zero])
  refine wpAnyH_ready (rs := [2]) (by kernel_rfl) (by simp) (AllReadyH.cons rfl (fun K hK => ?_) AllReadyH.nil)
  go_simp
  refine (CK _).mono ?_
  rintro x wx ⟨rfl, bx⟩
  go_simp
  refine hK.out _ _ (bnext hH bx hH.size) (fun hG => ?_)
  clear hK K hH bx
  replace hH := hG
  clear hG
  (try simp only [List.getElem_toArray]); (try simp only [List.getElem_cons_succ]); (try simp only [List.getElem_cons_zero]); (try simp only [Act.put]); (try simp only [List.setIfInBounds_toArray]); (try simp only [List.set_cons_succ]); (try simp only [List.set_cons_zero])
  refine wpAnyH_ready (rs := [5]) (by kernel_rfl) (by simp) (AllReadyH.cons rfl (fun K hK => ?_) AllReadyH.nil)
  go_simp
  refine (CL _).mono ?_
  rintro x wx ⟨rfl, bx⟩
  go_simp
  refine hK.out _ _ (bnext hH bx hH.size) (fun hG => ?_)
  clear hK K hH bx
  replace hH := hG
  clear hG
  (try simp only [List.getElem_toArray]); (try simp only [List.getElem_cons_succ]); (try simp only [List.getElem_cons_zero]); (try simp only [Act.put]); (try simp only [List.setIfInBounds_toArray]); (try simp only [List.set_cons_succ]); (try simp only [List.set_cons_zero])
  refine wpAnyH_take (i := 6) (v := .bool b) rfl (by kernel_rfl) (by kernel_rfl) (by kernel_rfl) (fun _ _ _ h => h) (Or.inl ⟨by rfl, ?_⟩) hH ?_
  · intro w1 hS; (try dsimp only at hS); go_simp
  (try simp only [List.getElem_toArray]); (try simp only [List.getElem_cons_succ]); (try simp only [List.getElem_cons_zero]); (try simp only [Act.put]); (try simp only [List.setIfInBounds_toArray]); (try simp only [List.set_cons_succ]); (try simp only [List.set_cons_zero])
  refine wpAnyH_take (i := 7) (v := .bool b) rfl (by kernel_rfl) (by kernel_rfl) (by kernel_rfl) (fun _ _ _ h => h) (Or.inl ⟨by rfl, ?_⟩) hH ?_
  · intro w1 hS; (try dsimp only at hS); go_simp
  (try simp only [List.getElem_toArray]); (try simp only [List.getElem_cons_succ]); (try simp only [List.getElem_cons_zero]); (try simp only [Act.put]); (try simp only [List.setIfInBounds_toArray]); (try simp only [List.set_cons_succ]); (try simp only [List.set_cons_zero])
  refine wpAnyH_done (by kernel_rfl) ?_ _
  have HB := rB.trans (hH.mono rB.size)
  clear hH
  go_wp2_with fail
  go_ret
  exact ⟨rfl, HB⟩

set_option maxRecDepth 100000 in
set_option maxHeartbeats 4000000 in
theorem differ_any (c e : Array Value) (r q : Rf) (hh ww : Nat) (hhe : r.h = hh) (hwe : r.w = ww) (h8 : hh ≤ 8) (w8 : ww ≤ 8) (w : World) (hR : IsRoof c r) (hQ : IsRoof e q) (ho : r.Ok) (hp : q.Ok) (hs : r.same q) :
    Calls Try.prog 24 #[.agg c, .agg e] w (GivesPs w (r.diff q (plUpto hh ww (hh * ww))) 0) := by
  have hc := hR.size
  have he := hQ.size
  have CM := fun w => mended_any c r w hR
  have CN := fun w => mended_any e q w hQ
  have heq := fun W => run_eq_roof (bareC c) (bareC e) r.bare q.bare hR.bare hQ.bare W
  rw [Rf.bare_t hs] at heq
  generalize bareC c = X at *
  generalize bareC e = Y at *
  have HEQ := Lib.hid heq
  clear heq
  have CW := fun W h0 h1 => placesWhere_any 53 #[] #[.pointer (some ⟨w.heap.size, 0, none⟩), .pointer (some ⟨w.heap.size + 1, 0, none⟩)] (fun i j => r.t (i * 8 + j) != q.t (i * 8 + j)) (enters_of Try.func53 (by kernel_rfl) rfl) c r hh ww hhe hwe h8 w8 W hR (differ_pred w.heap.size (w.heap.size + 1) c e r q W h0 h1 hR hQ)
  have HCW := Lib.hid CW
  clear CW hhe hwe
  obtain ⟨p0, p1, pB⟩ := two_boxes w c e 29 29
  go_enter Try.func24, Try.ntmps24
  go_wp2_with fail
  refine (implValid_t c r _ hR ho).mono ?_
  rintro x w1 ⟨rfl, b1⟩
  have q0 := brow b1 p0
  have q1 := brow b1 p1
  have B1 := bnext pB b1 pB.size
  clear b1 p0 p1 pB
  go_wp2_with fail
  refine (implValid_t e q _ hQ hp).mono ?_
  rintro x w2 ⟨rfl, b2⟩
  have p0 := brow b2 q0
  have p1 := brow b2 q1
  have B2 := bnext B1 b2 B1.size
  clear b2 q0 q1 B1
  go_wp2_with fail
  have heq := HEQ.out
  refine wp_region_held_drew (S := fun w' => Below w2.heap.size w2 w') (by kernel_rfl) ((Below.refl _ _).drew) (fun hH => ?_)
  refine wpAnyH_take (i := 0) (v := .agg c) rfl (by kernel_rfl) (by kernel_rfl) (by kernel_rfl) (fun _ _ _ h => h) (Or.inl ⟨by rfl, ?_⟩) hH ?_
  · intro w1 hS; (try dsimp only at hS); have u := brow hS p0; go_simp
  (try simp only [List.getElem_toArray]); (try simp only [List.getElem_cons_succ]); (try simp only [List.getElem_cons_zero]); (try simp only [Act.put]); (try simp only [List.setIfInBounds_toArray]); (try simp only [List.set_cons_succ]); (try simp only [List.set_cons_zero])
  refine wpAnyH_take (i := 2) (v := .agg e) rfl (by kernel_rfl) (by kernel_rfl) (by kernel_rfl) (fun _ _ _ h => h) (Or.inl ⟨by rfl, ?_⟩) hH ?_
  · intro w1 hS; (try dsimp only at hS); have u := brow hS p1; go_simp
  (try simp only [List.getElem_toArray]); (try simp only [List.getElem_cons_succ]); (try simp only [List.getElem_cons_zero]); (try simp only [Act.put]); (try simp only [List.setIfInBounds_toArray]); (try simp only [List.set_cons_succ]); (try simp only [List.set_cons_zero])
  refine wpAnyH_ready (rs := [1]) (by kernel_rfl) (by simp) (AllReadyH.cons rfl (fun K hK => ?_) AllReadyH.nil)
  go_simp
  refine (CM _).mono ?_
  rintro x wx ⟨rfl, bx⟩
  go_simp
  refine hK.out _ _ (bnext hH bx hH.size) (fun hG => ?_)
  clear hK K hH bx
  replace hH := hG
  clear hG
  (try simp only [List.getElem_toArray]); (try simp only [List.getElem_cons_succ]); (try simp only [List.getElem_cons_zero]); (try simp only [Act.put]); (try simp only [List.setIfInBounds_toArray]); (try simp only [List.set_cons_succ]); (try simp only [List.set_cons_zero])
  refine wpAnyH_ready (rs := [3]) (by kernel_rfl) (by simp) (AllReadyH.cons rfl (fun K hK => ?_) AllReadyH.nil)
  go_simp
  refine (CN _).mono ?_
  rintro x wx ⟨rfl, bx⟩
  go_simp
  refine hK.out _ _ (bnext hH bx hH.size) (fun hG => ?_)
  clear hK K hH bx
  replace hH := hG
  clear hG
  (try simp only [List.getElem_toArray]); (try simp only [List.getElem_cons_succ]); (try simp only [List.getElem_cons_zero]); (try simp only [Act.put]); (try simp only [List.setIfInBounds_toArray]); (try simp only [List.set_cons_succ]); (try simp only [List.set_cons_zero])
  refine wpAnyH_take (i := 4) (v := .bool false) rfl (by kernel_rfl) (by kernel_rfl) (by kernel_rfl) (fun _ _ _ h => h) (Or.inl ⟨by rfl, ?_⟩) hH ?_
  · intro w1 hS; (try dsimp only at hS); go_simp
  (try simp only [List.getElem_toArray]); (try simp only [List.getElem_cons_succ]); (try simp only [List.getElem_cons_zero]); (try simp only [Act.put]); (try simp only [List.setIfInBounds_toArray]); (try simp only [List.set_cons_succ]); (try simp only [List.set_cons_zero])
  refine wpAnyH_done (by kernel_rfl) ?_ _
  have s0 := brow hH p0
  have s1 := brow hH p1
  have B3 := bnext B2 hH B2.size
  clear heq HEQ CM CN hH p0 p1 B2
  go_wp2_with fail
  refine (HCW.out _ s0 s1).mono ?_
  rintro x w4 ⟨v, rfl, l1, b1, cp⟩
  have B4 := bnext B3 b1 B3.size
  replace l1 := l1.mono B3.size
  obtain ⟨av, cv, rfl⟩ := l1.shape
  clear b1 s0 s1
  go_wp2_with fail
  go_ret2
  exact ⟨_, rfl, l1, B4⟩
end Go.Proofs.Ytoibolmippfcgaa
