/- r.placesOf(kind): the places of all tiles of a kind. -/
import Derived.Test.YtcdddngdjhjdbaaRowT
import Derived.Test.YtcdddngdjhjdbaaLift
import Derived.Test.YtcdddngdjhjdbaaPlW
import Derived.Test.YtcdddngdjhjdbaaNums
import Derived.Deep.RegionHeld3
namespace Go.Proofs.Ytcdddngdjhjdbaa
open Go.RowKit Go.Shelf
attribute [local go_sem] Oper.semAt_some

theorem A_infoPc : (Try.prog.info? 65).map (fun i => (i.zero, i.size, i.bytes)) = some (some (.agg #[.int .i8 0, .int .i8 0]), 2, 2) := by kernel_rfl

/-- Of some places those whose tiles are of a kind. -/
def Rf.ofKind (r : Rf) (k : Int) {h w : Nat} (l : List (Pl h w)) : List (Pl h w) := l.filter fun x => decide (r.t (x.1.1 * 8 + x.1.2) = k)
theorem Rf.ofKind_hit {r : Rf} {k : Int} {h w : Nat} {l : List (Pl h w)} {x : Pl h w} (e : r.t (x.1.1 * 8 + x.1.2) = k) : r.ofKind k (l ++ [x]) = r.ofKind k l ++ [x] := by simp [Rf.ofKind, e]
theorem Rf.ofKind_miss {r : Rf} {k : Int} {h w : Nat} {l : List (Pl h w)} {x : Pl h w} (e : ¬ r.t (x.1.1 * 8 + x.1.2) = k) : r.ofKind k (l ++ [x]) = r.ofKind k l := by simp [Rf.ofKind, e]
theorem Rf.ofKind_len {r : Rf} {k : Int} {h w : Nat} (l : List (Pl h w)) : (r.ofKind k l).length ≤ l.length := List.length_filter_le _ _

set_option maxRecDepth 100000 in
set_option maxHeartbeats 1000000 in
theorem ofKind_pred (B0 B1 : Nat) (c : Array Value) (r : Rf) (k : Int) (w : World) (h0 : rowAt w B0 = some c) (h1 : rowAt w B1 = some #[.int .i64 k]) (hR : IsRoof c r) :
    PredW 108 #[] #[.pointer (some ⟨B0, 0, none⟩), .pointer (some ⟨B1, 0, none⟩)] (fun i j => decide (r.t (i * 8 + j) = k)) w := fun i j W hi hj hb => by
  have hc := hR.size
  have CK := fun W => kind_any c r i j W hR hi hj
  show Calls Try.prog 108 #[.agg #[.int .i8 (i : Int), .int .i8 (j : Int)], .pointer (some ⟨B0, 0, none⟩), .pointer (some ⟨B1, 0, none⟩)] W _
  obtain ⟨b, hcmp⟩ : ∃ b, (fun i j => decide (r.t (i * 8 + j) = k)) i j = b := ⟨_, rfl⟩
  rw [hcmp]
  dsimp only at hcmp
  have hcq : (r.t (i * 8 + j) == k) = b := by rw [← hcmp]; first | rfl | (simp [bne])
  go_enter Try.func108, Try.ntmps108
  go_wp2_with fail
  refine gen_world fun W2 hW => ?_
  have rB : Below W.heap.size W W2 := by rw [hW]; exact (Below.refl _ _).alloc (Nat.le_refl _) _
  have rA : rowAt W2 W.heap.size = some #[.int .i8 (i : Int), .int .i8 (j : Int)] := by rw [hW]; exact rowAt_alloc_at _ _ _ _ rfl
  have r0 : rowAt W2 B0 = some c := brow rB (brow hb h0)
  have r1 : rowAt W2 B1 = some #[.int .i64 k] := brow rB (brow hb h1)
  clear hW
  refine wp_region_held_drew (S := fun w' => Below W2.heap.size W2 w') (by kernel_rfl) ((Below.refl _ _).drew) (fun hH => ?_)
  refine wpAnyH_take (i := 0) (v := .agg c) rfl (by kernel_rfl) (by kernel_rfl) (by kernel_rfl) (fun _ _ _ h => h) (Or.inl ⟨by rfl, ?_⟩) hH ?_
  · intro w1 hS; (try dsimp only at hS); have u := brow hS r0; go_simp
  (try simp only [List.getElem_toArray]); (try simp only [List.getElem_cons_succ]); (try simp only [List.getElem_cons_zero]); (try simp only [Act.put]); (try simp only [List.setIfInBounds_toArray]); (try simp only [List.set_cons_succ]); (try simp only [List.set_cons_zero])
  refine wpAnyH_take (i := 1) (v := .agg #[.int .i8 (i : Int), .int .i8 (j : Int)]) rfl (by kernel_rfl) (by kernel_rfl) (by kernel_rfl) (fun _ _ _ h => h) (Or.inl ⟨by rfl, ?_⟩) hH ?_
  · intro w1 hS; (try dsimp only at hS); have u0 := (cell_of_rowAt (brow hS rA) 0); have u1 := (cell_of_rowAt (brow hS rA) 1); simp at u0 u1; go_simp
  (try simp only [List.getElem_toArray]); (try simp only [List.getElem_cons_succ]); (try simp only [List.getElem_cons_zero]); (try simp only [Act.put]); (try simp only [List.setIfInBounds_toArray]); (try simp only [List.set_cons_succ]); (try simp only [List.set_cons_zero])
  refine wpAnyH_take (i := 3) (v := .int .i64 k) rfl (by kernel_rfl) (by kernel_rfl) (by kernel_rfl) (fun _ _ _ h => h) (Or.inl ⟨by rfl, ?_⟩) hH ?_
  · intro w1 hS; (try dsimp only at hS); have u := (cell_of_rowAt (brow hS r1) 0); simp at u; go_simp
  (try simp only [List.getElem_toArray]); (try simp only [List.getElem_cons_succ]); (try simp only [List.getElem_cons_zero]); (try simp only [Act.put]); (try simp only [List.setIfInBounds_toArray]); (try simp only [List.set_cons_succ]); (try simp only [List.set_cons_zero])
  refine wpAnyH_ready (rs := [2]) (by kernel_rfl) (by simp) (AllReadyH.cons rfl (fun K hK => ?_) AllReadyH.nil)
  go_simp
  refine (CK _).mono ?_
  rintro x wx ⟨rfl, bx⟩
  go_simp
  refine hK.out _ _ (bnext hH bx hH.size) (fun hG => ?_)
  clear hK K hH bx
  replace hH := hG
  clear hG
  (try simp only [List.getElem_toArray]); (try simp only [List.getElem_cons_succ]); (try simp only [List.getElem_cons_zero]); (try simp only [Act.put]); (try simp only [List.setIfInBounds_toArray]); (try simp only [List.set_cons_succ]); (try simp only [List.set_cons_zero])
  refine wpAnyH_take (i := 4) (v := .bool b) rfl (by kernel_rfl) (by kernel_rfl) (by kernel_rfl) (fun _ _ _ h => h) (Or.inl ⟨by rfl, ?_⟩) hH ?_
  · intro w1 hS; (try dsimp only at hS); go_simp
  (try simp only [List.getElem_toArray]); (try simp only [List.getElem_cons_succ]); (try simp only [List.getElem_cons_zero]); (try simp only [Act.put]); (try simp only [List.setIfInBounds_toArray]); (try simp only [List.set_cons_succ]); (try simp only [List.set_cons_zero])
  refine wpAnyH_take (i := 5) (v := .bool b) rfl (by kernel_rfl) (by kernel_rfl) (by kernel_rfl) (fun _ _ _ h => h) (Or.inl ⟨by rfl, ?_⟩) hH ?_
  · intro w1 hS; (try dsimp only at hS); go_simp
  (try simp only [List.getElem_toArray]); (try simp only [List.getElem_cons_succ]); (try simp only [List.getElem_cons_zero]); (try simp only [Act.put]); (try simp only [List.setIfInBounds_toArray]); (try simp only [List.set_cons_succ]); (try simp only [List.set_cons_zero])
  refine wpAnyH_done (by kernel_rfl) ?_ _
  have HB := rB.trans (hH.mono rB.size)
  clear hH
  go_wp2_with fail
  go_ret
  exact ⟨rfl, HB⟩

set_option maxRecDepth 100000 in
set_option maxHeartbeats 1000000 in
theorem placesOf_any (c : Array Value) (r : Rf) (k : Int) (hh ww : Nat) (hhe : r.h = hh) (hwe : r.w = ww) (h8 : hh ≤ 8) (w8 : ww ≤ 8) (w : World) (hR : IsRoof c r) :
    Calls Try.prog 61 #[.agg c, .int .i64 k] w (GivesP w (r.ofKind k (plUpto hh ww (hh * ww)))) := by
  have hc := hR.size
  have CW := fun W h0 h1 => placesWhere_any 108 #[] #[.pointer (some ⟨w.heap.size, 0, none⟩), .pointer (some ⟨w.heap.size + 1, 0, none⟩)] (fun i j => decide (r.t (i * 8 + j) = k)) (enters_of Try.func108 (by kernel_rfl) rfl) c r hh ww hhe hwe h8 w8 W hR (ofKind_pred w.heap.size (w.heap.size + 1) c r k W h0 h1 hR)
  have HCW := Lib.hid CW
  clear CW hhe hwe
  go_enter Try.func61, Try.ntmps61
  go_wp2_with fail
  refine gen_callsW fun W hW => ?_
  have r0 : rowAt W w.heap.size = some c := by rw [hW]; exact (rowAt_alloc_past _ _ _ (by simp)).trans (rowAt_alloc_at _ _ _ _ rfl)
  have r1 : rowAt W (w.heap.size + 1) = some #[.int .i64 k] := by rw [hW]; exact rowAt_alloc_at _ _ _ _ (by simp)
  have pB : Below w.heap.size w W := by rw [hW]; exact ((Below.refl _ _).alloc (Nat.le_refl _) _).alloc (by simp) _
  clear hW
  refine (HCW.out _ r0 r1).mono ?_
  rintro e w1 ⟨v, rfl, l1, b1, cp⟩
  have B1 := bnext pB b1 pB.size
  replace l1 := l1.mono pB.size
  obtain ⟨av, cv, rfl⟩ := l1.shape
  clear b1 r0 r1
  go_wp2_with fail
  go_ret
  exact ⟨_, rfl, l1, B1⟩
end Go.Proofs.Ytcdddngdjhjdbaa
