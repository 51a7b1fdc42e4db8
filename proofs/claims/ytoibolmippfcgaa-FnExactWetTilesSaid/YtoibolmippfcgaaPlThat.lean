/- r.placesThatAre(w, wet): the places of all tiles that are wet, or not. -/
import Derived.Test.YtoibolmippfcgaaWets
import Derived.Test.YtoibolmippfcgaaPlOf
import Derived.Test.YtoibolmippfcgaaPlW
import Derived.Deep.RegionHeld3
import Derived.Test.YtoibolmippfcgaaRunDown
namespace Go.Proofs.Ytoibolmippfcgaa
open Go.RowKit Go.Shelf
attribute [local go_sem] Oper.semAt_some

/-- Of some places those whose tiles are wet (or not). -/
def Rf.wetL (r : Rf) (t : Nat → Int) (b : Bool) {h w : Nat} (l : List (Pl h w)) : List (Pl h w) := l.filter fun x => r.wetB t x.1.1 x.1.2 == b
theorem Rf.wetL_hit {r : Rf} {t : Nat → Int} {b : Bool} {h w : Nat} {l : List (Pl h w)} {x : Pl h w} (e : (r.wetB t x.1.1 x.1.2 == b) = true) : r.wetL t b (l ++ [x]) = r.wetL t b l ++ [x] := by simp only [Rf.wetL, List.filter_append, List.filter_cons, e, List.filter_nil, if_true]
theorem Rf.wetL_miss {r : Rf} {t : Nat → Int} {b : Bool} {h w : Nat} {l : List (Pl h w)} {x : Pl h w} (e : (r.wetB t x.1.1 x.1.2 == b) = false) : r.wetL t b (l ++ [x]) = r.wetL t b l := by simp [Rf.wetL, e]
theorem Rf.wetL_len {r : Rf} {t : Nat → Int} {b : Bool} {h w : Nat} (l : List (Pl h w)) : (r.wetL t b l).length ≤ l.length := List.length_filter_le _ _
theorem Rf.comes_at {r : Rf} {t : Nat → Int} {i q : Nat} (hi : (i : Int) < r.h) (hq : (q : Int) < 2 * r.w + 1) (hw : r.w ≤ 8) : r.comes t (i * 17 + q) = r.come (t q) q i := by
  have h1 : (i * 17 + q) % 17 = q := by omega
  have h2 : (i * 17 + q) / 17 = i := by omega
  unfold Rf.comes Rf.fullG
  rw [h1, h2, if_pos ⟨by omega, by omega⟩]

/-- Whether a tile is wet, as what comes tells. -/
def Rf.wetP (r : Rf) (t : Nat → Int) (z : Bool) (i j : Nat) : Bool := decide (0 < r.comes t (i * 17 + r.cell0 i j) ∨ 0 < r.comes t (i * 17 + (r.cell0 i j + 1))) == z
theorem Rf.wetP_flt (r : Rf) (t : Nat → Int) (z : Bool) (hh ww : Nat) (hhe : r.h = hh) (hwe : r.w = ww) (w8 : ww ≤ 8) (l : List (Pl hh ww)) : fltW (r.wetP t z) l = r.wetL t z l := by
  unfold fltW Rf.wetL
  refine List.filter_congr fun x _ => ?_
  have xh := x.2.1
  have xw := x.2.2
  have hby := r.by_bd x.1.1
  have hce := r.cell0_eq x.1.1 x.1.2
  unfold Rf.wetP
  rw [Rf.comes_at (by omega) (by omega) (by omega), Rf.comes_at (by omega) (by omega) (by omega)]
  rfl
set_option maxRecDepth 100000 in
set_option maxHeartbeats 1000000 in
theorem wets_pred (B0 B1 B2 : Nat) (c F : Array Value) (r : Rf) (t : Nat → Int) (z : Bool) (w : World) (h0 : rowAt w B0 = some F) (h1 : rowAt w B1 = some c) (h2 : rowAt w B2 = some #[.bool z]) (hR : IsRoof c r) (hI : IsFlow F (r.comes t) (r.drips t)) :
    PredW 83 #[] #[.pointer (some ⟨B0, 0, none⟩), .pointer (some ⟨B1, 0, none⟩), .pointer (some ⟨B2, 0, none⟩)] (r.wetP t z) w := fun i j W hi hj hb => by
  have hc := hR.size
  have hFs := hI.size
  have CK := fun W h => wets_any B0 c F r _ _ i j W hR hi hj h hI
  generalize hg : (decide (0 < r.comes t (i * 17 + r.cell0 i j) ∨ 0 < r.comes t (i * 17 + (r.cell0 i j + 1)))) = g at CK
  show Calls Try.prog 83 #[.agg #[.int .i8 (i : Int), .int .i8 (j : Int)], .pointer (some ⟨B0, 0, none⟩), .pointer (some ⟨B1, 0, none⟩), .pointer (some ⟨B2, 0, none⟩)] W _
  obtain ⟨b, hcmp⟩ : ∃ b, (r.wetP t z) i j = b := ⟨_, rfl⟩
  rw [hcmp]
  have hcq : (g == z) = b := by rw [← hcmp, ← hg]; rfl
  clear hcmp hg

  go_enter Try.func83, Try.ntmps83
  go_wp2_with fail
  refine gen_world fun W2 hW => ?_
  have rB : Below W.heap.size W W2 := by rw [hW]; exact (Below.refl _ _).alloc (Nat.le_refl _) _
  have rA : rowAt W2 W.heap.size = some #[.int .i8 (i : Int), .int .i8 (j : Int)] := by rw [hW]; exact rowAt_alloc_at _ _ _ _ rfl
  have r0 : rowAt W2 B0 = some F := brow rB (brow hb h0)
  have r1 : rowAt W2 B1 = some c := brow rB (brow hb h1)
  have r2 : rowAt W2 B2 = some #[.bool z] := brow rB (brow hb h2)
  clear hW
  refine wp_region_held_drew (S := fun w' => Below W2.heap.size W2 w') (by kernel_rfl) ((Below.refl _ _).drew) (fun hH => ?_)
  refine wpAnyH_take (i := 0) (v := .agg c) rfl (by kernel_rfl) (by kernel_rfl) (by kernel_rfl) (fun _ _ _ h => h) (Or.inl ⟨by rfl, ?_⟩) hH ?_
  · intro w1 hS; (try dsimp only at hS); have u := brow hS r1; go_simp
  (try simp only [List.getElem_toArray]); (try simp only [List.getElem_cons_succ]); (try simp only [List.getElem_cons_zero]); (try simp only [Act.put]); (try simp only [List.setIfInBounds_toArray]); (try simp only [List.set_cons_succ]); (try simp only [List.set_cons_zero])
  refine wpAnyH_take (i := 1) (v := .agg #[.int .i8 (i : Int), .int .i8 (j : Int)]) rfl (by kernel_rfl) (by kernel_rfl) (by kernel_rfl) (fun _ _ _ h => h) (Or.inl ⟨by rfl, ?_⟩) hH ?_
  · intro w1 hS; (try dsimp only at hS); have u0 := (cell_of_rowAt (brow hS rA) 0); have u1 := (cell_of_rowAt (brow hS rA) 1); simp at u0 u1; go_simp
  (try simp only [List.getElem_toArray]); (try simp only [List.getElem_cons_succ]); (try simp only [List.getElem_cons_zero]); (try simp only [Act.put]); (try simp only [List.setIfInBounds_toArray]); (try simp only [List.set_cons_succ]); (try simp only [List.set_cons_zero])
  refine wpAnyH_take (i := 3) (v := .bool z) rfl (by kernel_rfl) (by kernel_rfl) (by kernel_rfl) (fun _ _ _ h => h) (Or.inl ⟨by rfl, ?_⟩) hH ?_
  · intro w1 hS; (try dsimp only at hS); have u := (cell_of_rowAt (brow hS r2) 0); simp at u; go_simp
  (try simp only [List.getElem_toArray]); (try simp only [List.getElem_cons_succ]); (try simp only [List.getElem_cons_zero]); (try simp only [Act.put]); (try simp only [List.setIfInBounds_toArray]); (try simp only [List.set_cons_succ]); (try simp only [List.set_cons_zero])
  refine wpAnyH_ready (rs := [2]) (by kernel_rfl) (by simp) (AllReadyH.cons rfl (fun K hK => ?_) AllReadyH.nil)
  go_simp
  refine (CK _ (brow hH r0)).mono ?_
  rintro x wx ⟨rfl, bx⟩
  go_simp
  refine hK.out _ _ (bnext hH bx hH.size) (fun hG => ?_)
  clear hK K hH bx
  replace hH := hG
  clear hG
  (try simp only [List.getElem_toArray]); (try simp only [List.getElem_cons_succ]); (try simp only [List.getElem_cons_zero]); (try simp only [Act.put]); (try simp only [List.setIfInBounds_toArray]); (try simp only [List.set_cons_succ]); (try simp only [List.set_cons_zero])
  refine wpAnyH_take (i := 4) (v := .bool b) rfl (by kernel_rfl) (by kernel_rfl) (by kernel_rfl) (fun _ _ _ h => h) (Or.inl ⟨by rfl, ?_⟩) hH ?_
  · intro w1 hS; (try dsimp only at hS); go_simp
  (try simp only [List.getElem_toArray]); (try simp only [List.getElem_cons_succ]); (try simp only [List.getElem_cons_zero]); (try simp only [Act.put]); (try simp only [List.setIfInBounds_toArray]); (try simp only [List.set_cons_succ]); (try simp only [List.set_cons_zero])
  refine wpAnyH_take (i := 5) (v := .bool b) rfl (by kernel_rfl) (by kernel_rfl) (by kernel_rfl) (fun _ _ _ h => h) (Or.inl ⟨by rfl, ?_⟩) hH ?_
  · intro w1 hS; (try dsimp only at hS); go_simp
  (try simp only [List.getElem_toArray]); (try simp only [List.getElem_cons_succ]); (try simp only [List.getElem_cons_zero]); (try simp only [Act.put]); (try simp only [List.setIfInBounds_toArray]); (try simp only [List.set_cons_succ]); (try simp only [List.set_cons_zero])
  refine wpAnyH_done (by kernel_rfl) ?_ _
  have HB := rB.trans (hH.mono rB.size)
  clear hH
  go_wp2_with fail
  go_ret
  exact ⟨rfl, HB⟩

set_option maxRecDepth 100000 in
set_option maxHeartbeats 4000000 in
theorem placesThat_any (c d : Array Value) (r : Rf) (t : Nat → Int) (b : Bool) (hh ww : Nat) (hhe : r.h = hh) (hwe : r.w = ww) (h8 : hh ≤ 8) (w8 : ww ≤ 8) (w : World) (hR : IsRoof c r) (hT : IsRain d t) (ho : r.Rains t) :
    Calls Try.prog 58 #[.agg c, .agg d, .bool b] w (GivesP w (r.wetL t b (plUpto hh ww (hh * ww)))) := by
  have hc := hR.size
  have hd := hT.size
  have hI := isFlow_mkF (r.comes t) (r.drips t)
  have CR := fun w => runDown_any c d r t w hR hT ho
  have HW := Lib.hid (r.wetP_flt t b hh ww hhe hwe w8 (plUpto hh ww (hh * ww)))
  have CW := fun n W F (hI : IsFlow F (r.comes t) (r.drips t)) h0 h1 h2 => placesWhere_any 83 #[] #[.pointer (some ⟨n, 0, none⟩), .pointer (some ⟨w.heap.size, 0, none⟩), .pointer (some ⟨w.heap.size + 1 + 1, 0, none⟩)] (r.wetP t b) (enters_of Try.func83 (by kernel_rfl) rfl) c r hh ww hhe hwe h8 w8 W hR (wets_pred n w.heap.size (w.heap.size + 1 + 1) c F r t b W h0 h1 h2 hR hI)
  have HCW := Lib.hid CW
  generalize mkF (r.comes t) (r.drips t) = F at *
  have hFs := hI.size
  have hFo := hI.ones
  clear CW hhe hwe
  have e0 : rowAt (((w.alloc (.cells c 29)).alloc (.cells d 46)).alloc (.cells #[.bool b] 4)) w.heap.size = some c := (rowAt_alloc_past _ _ _ (by simp; omega)).trans ((rowAt_alloc_past _ _ _ (by simp)).trans (rowAt_alloc_at _ _ _ _ rfl))
  have e2 : rowAt (((w.alloc (.cells c 29)).alloc (.cells d 46)).alloc (.cells #[.bool b] 4)) (w.heap.size + 1 + 1) = some #[.bool b] := rowAt_alloc_at _ _ _ _ (by simp)
  have eB : Below w.heap.size w (((w.alloc (.cells c 29)).alloc (.cells d 46)).alloc (.cells #[.bool b] 4)) := (((Below.refl _ w).alloc (Nat.le_refl _) _).alloc (by simp) _).alloc (by simp; omega) _
  go_enter Try.func58, Try.ntmps58
  go_wp2_with fail
  refine (CR _).mono ?_
  rintro e w1 ⟨rfl, b1⟩
  have f0 := brow b1 e0
  have f2 := brow b1 e2
  have fB := bnext eB b1 eB.size
  have lt0 := rowAt_lt f0
  clear b1 e0 e2 eB CR
  go_wp2_with fail
  refine gen_callsW fun W hW => ?_
  have r0 : rowAt W w1.heap.size = some F := by rw [hW]; exact rowAt_alloc_at _ _ _ _ rfl
  have r1 : rowAt W w.heap.size = some c := by rw [hW]; exact (rowAt_alloc_past _ _ _ lt0).trans f0
  have r2 : rowAt W (w.heap.size + 1 + 1) = some #[.bool b] := by rw [hW]; exact (rowAt_alloc_past _ _ _ (rowAt_lt f2)).trans f2
  have pB : Below w.heap.size w W := by rw [hW]; exact fB.alloc fB.size _
  clear hW f0 f2 fB
  refine (HCW.out _ _ F hI r0 r1 r2).mono ?_
  rw [HW.out]
  rintro e w2 ⟨v, rfl, l1, b1, cp⟩
  have B1 := bnext pB b1 pB.size
  replace l1 := l1.mono pB.size
  obtain ⟨av, cv, rfl⟩ := l1.shape
  clear b1 r0 r1 r2
  go_wp2_with fail
  go_ret
  exact ⟨_, rfl, l1, B1⟩
end Go.Proofs.Ytoibolmippfcgaa
