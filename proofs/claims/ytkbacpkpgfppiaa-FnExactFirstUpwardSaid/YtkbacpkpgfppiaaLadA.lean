/- Chapter 4: bounded numbers as the program builds them; checkLadders, checkWalk. -/
import Derived.Test.YtkbacpkpgfppiaaAskC
import Derived.Deep.RegionHeld3
namespace Go.Proofs.Ytkbacpkpgfppiaa
open Go.RowKit

/-- A number and its bounds. -/
def bnd3 (x lo hi : Int) : Nat → Int := fun i => if i = 0 then x else if i = 1 then lo else hi
theorem IsList.lit3 {w : World} {n base cap : Nat} {x lo hi : Int} (hr : rowAt w n = some #[.int .i64 x, .int .i64 lo, .int .i64 hi]) (hb : base ≤ n) : IsList w base (.slice (some ⟨n, 0, none⟩) 1 cap) 3 1 (fun i => .int .i64 (bnd3 x lo hi i)) :=
  .inr ⟨n, cap, _, rfl, hb, hr, by simp, fun i hi => by
    have : i = 0 ∨ i = 1 ∨ i = 2 := by omega
    rcases this with rfl | rfl | rfl <;> simp [bnd3]⟩
theorem fineB_bnd (x lo hi : Int) : fineB (bnd3 x lo hi) 1 = inB x lo hi := by
  unfold fineB anyI firstI firstI outs outB bnd3 inB
  by_cases h1 : x < lo <;> by_cases h2 : hi < x <;> simp [h1, h2] <;> omega

set_option maxRecDepth 100000 in
set_option maxHeartbeats 1000000 in
theorem checkLadders_any (b2 m n : Nat) (c : Array Value) (r : Rf) (g f : Nat → Int) (v1 v2 : Value) (y : Int) (w : World) (hR : IsRoof c r)
    (hv1 : NumsAt w v1 m g) (hm : m ≤ 2000000) (hv2 : IsList w b2 v2 2 n (fun i => .int .i8 (f i))) (hn : n ≤ 2000000) :
    Calls Try.prog 59 #[.agg c, v1, .int .i64 y, v2] w fun e w' => e = .returned (.int .i64 (r.wcode g m f n (inB y 0 8))) ∧ Below w.heap.size w w' := by
  have hc := hR.size
  have CW := fun W B k H1 H2 H3 => checkWork_any b2 B m n 1 c r g f (bnd3 y 0 8) v1 v2 (.slice (some ⟨k, 0, none⟩) 1 1) W hR H1 hm H2 hn H3 (by omega)
  rw [fineB_bnd] at CW
  have HV1 := Lib.hid hv1
  have HV2 := Lib.hid hv2
  obtain ⟨a1, c1, rfl⟩ := hv1.shape
  obtain ⟨a2, c2, rfl⟩ := hv2.shape
  clear hv1 hv2
  go_enter Try.func59, Try.ntmps59
  go_wp2_with fail
  refine gen_callsC fun W hW => ?_
  have p3 : rowAt W (w.heap.size + 1) = some #[.int .i64 y, .int .i64 0, .int .i64 8] := by rw [hW]; exact rowAt_alloc_at _ _ _ _ (by simp)
  have pB : Below w.heap.size w W := by rw [hW]; exact ((Below.refl _ _).alloc (Nat.le_refl _) _).alloc (by simp) _
  clear hW
  refine (CW W 0 _ (HV1.out.below pB (Nat.le_refl _)) (HV2.out.below pB (Nat.le_refl _)) (IsList.lit3 p3 (Nat.zero_le _))).mono ?_
  rintro e w1 ⟨rfl, b1⟩
  have B1 := bnext pB b1 pB.size
  clear b1 p3 pB
  go_wp2_with fail
  go_ret
  exact ⟨rfl, B1⟩

set_option maxRecDepth 100000 in
set_option maxHeartbeats 1000000 in
theorem checkWalk_any (m : Nat) (c : Array Value) (r : Rf) (g : Nat → Int) (v1 : Value) (y : Int) (w : World) (hR : IsRoof c r)
    (hv1 : NumsAt w v1 m g) (hm : m ≤ 2000000) :
    Calls Try.prog 69 #[.agg c, v1, .int .i64 y] w fun e w' => e = .returned (.int .i64 (r.wcode g m (fun _ => 0) 0 (inB y 0 (2 * r.w)))) ∧ Below w.heap.size w w' := by
  have hc := hR.size
  have CW := fun W B k H1 H3 => checkWork_any 0 B m 0 1 c r g (fun _ => 0) (bnd3 y 0 (2 * r.w)) v1 (.slice none 0 0) (.slice (some ⟨k, 0, none⟩) 1 1) W hR H1 hm (IsList.none0 _ _ _ _ _ _) (by omega) H3 (by omega)
  rw [fineB_bnd] at CW
  generalize r.wcode g m (fun _ => 0) 0 (inB y 0 (2 * r.w)) = code at *
  have HV1 := Lib.hid hv1
  obtain ⟨a1, c1, rfl⟩ := hv1.shape
  clear hv1
  go_enter Try.func69, Try.ntmps69
  go_wp2_with fail
  refine gen_world fun W hW => ?_
  have p0 : Hid (rowAt W w.heap.size = some c) := Lib.hid (by rw [hW]; exact rowAt_alloc_at _ _ _ _ rfl)
  have pB : Hid (Below w.heap.size w W) := Lib.hid (by rw [hW]; exact (Below.refl _ _).alloc (Nat.le_refl _) _)
  clear hW
  refine wp_region_held_drew (S := fun w' => Below W.heap.size W w') (by kernel_rfl) ((Below.refl _ _).drew) (fun hH => ?_)
  refine wpAnyH_take (i := 0) (v := .agg c) rfl (by kernel_rfl) (by kernel_rfl) (by kernel_rfl) (fun _ _ _ h => h) (Or.inl ⟨by rfl, ?_⟩) hH ?_
  · intro w1 hS; (try dsimp only at hS); have s0 := brow hS p0.out; go_simp
  (try simp only [List.getElem_toArray]); (try simp only [List.getElem_cons_succ]); (try simp only [List.getElem_cons_zero]); (try simp only [Act.put]); (try simp only [List.setIfInBounds_toArray]); (try simp only [List.set_cons_succ]); (try simp only [List.set_cons_zero])
  refine wpAnyH_take (i := 1) (v := .slice a1 m c1) rfl (by kernel_rfl) (by kernel_rfl) (by kernel_rfl) (fun _ _ _ h => h) (Or.inl ⟨by rfl, ?_⟩) hH ?_
  · intro w1 hS; (try dsimp only at hS); go_simp
  (try simp only [List.getElem_toArray]); (try simp only [List.getElem_cons_succ]); (try simp only [List.getElem_cons_zero]); (try simp only [Act.put]); (try simp only [List.setIfInBounds_toArray]); (try simp only [List.set_cons_succ]); (try simp only [List.set_cons_zero])
  refine wpAnyH_take (i := 2) (v := .agg c) rfl (by kernel_rfl) (by kernel_rfl) (by kernel_rfl) (fun _ _ _ h => h) (Or.inl ⟨by rfl, ?_⟩) hH ?_
  · intro w1 hS; (try dsimp only at hS); have s0 := brow hS p0.out; go_simp
  (try simp only [List.getElem_toArray]); (try simp only [List.getElem_cons_succ]); (try simp only [List.getElem_cons_zero]); (try simp only [Act.put]); (try simp only [List.setIfInBounds_toArray]); (try simp only [List.set_cons_succ]); (try simp only [List.set_cons_zero])
  refine wpAnyH_take (i := 3) (v := .int .i64 y) rfl (by kernel_rfl) (by kernel_rfl) (by kernel_rfl) (fun _ _ _ h => h) (Or.inl ⟨by rfl, ?_⟩) hH ?_
  · intro w1 hS; (try dsimp only at hS); go_simp
  (try simp only [List.getElem_toArray]); (try simp only [List.getElem_cons_succ]); (try simp only [List.getElem_cons_zero]); (try simp only [Act.put]); (try simp only [List.setIfInBounds_toArray]); (try simp only [List.set_cons_succ]); (try simp only [List.set_cons_zero])
  refine wpAnyH_ready (rs := [4]) (by kernel_rfl) (by simp) (AllReadyH.cons rfl (fun K hK => ?_) AllReadyH.nil)
  go_simp
  refine (cellNumber_any c r y _ hR).mono ?_
  rintro x wx ⟨rfl, bx⟩
  go_simp
  refine hK.out _ _ (bnext hH bx hH.size) (fun hG => ?_)
  clear hK K hH bx
  replace hH := hG
  clear hG
  (try simp only [List.getElem_toArray]); (try simp only [List.getElem_cons_succ]); (try simp only [List.getElem_cons_zero]); (try simp only [Act.put]); (try simp only [List.setIfInBounds_toArray]); (try simp only [List.set_cons_succ]); (try simp only [List.set_cons_zero])
  refine wpAnyH_ready (rs := [5]) (by kernel_rfl) (by simp) (AllReadyH.cons rfl (fun K hK => ?_) AllReadyH.nil)
  go_simp
  refine hK.out _ _ (hH.alloc hH.size _) (fun hG => ?_)
  clear hK K hH
  obtain ⟨p3⟩ : ∃ _ : True, True := ⟨trivial, trivial⟩
  replace hH := hG
  clear hG
  (try simp only [List.getElem_toArray]); (try simp only [List.getElem_cons_succ]); (try simp only [List.getElem_cons_zero]); (try simp only [Act.put]); (try simp only [List.setIfInBounds_toArray]); (try simp only [List.set_cons_succ]); (try simp only [List.set_cons_zero])
  refine wpAnyH_ready (rs := [6]) (by kernel_rfl) (by simp) (AllReadyH.cons rfl (fun K hK => ?_) AllReadyH.nil)
  go_simp
  refine (CW _ 0 _ (HV1.out.below (bnext pB.out hH pB.out.size) (Nat.le_refl _)) (IsList.lit3 (rowAt_alloc_at _ _ _ _ rfl) (Nat.zero_le _))).mono ?_
  rintro x wx ⟨rfl, bx⟩
  go_simp
  refine hK.out _ _ (bnext hH bx hH.size) (fun hG => ?_)
  clear hK K hH bx
  replace hH := hG
  clear hG
  (try simp only [List.getElem_toArray]); (try simp only [List.getElem_cons_succ]); (try simp only [List.getElem_cons_zero]); (try simp only [Act.put]); (try simp only [List.setIfInBounds_toArray]); (try simp only [List.set_cons_succ]); (try simp only [List.set_cons_zero])
  refine wpAnyH_take (i := 7) (v := .int .i64 code) rfl (by kernel_rfl) (by kernel_rfl) (by kernel_rfl) (fun _ _ _ h => h) (Or.inl ⟨by rfl, ?_⟩) hH ?_
  · intro w1 hS; (try dsimp only at hS); go_simp
  (try simp only [List.getElem_toArray]); (try simp only [List.getElem_cons_succ]); (try simp only [List.getElem_cons_zero]); (try simp only [Act.put]); (try simp only [List.setIfInBounds_toArray]); (try simp only [List.set_cons_succ]); (try simp only [List.set_cons_zero])
  refine wpAnyH_done (by kernel_rfl) ?_ _
  have B1 := Lib.hid (bnext pB.out hH pB.out.size)
  clear hH
  go_wp2_with fail
  go_ret
  exact ⟨rfl, B1.out⟩
end Go.Proofs.Ytkbacpkpgfppiaa
