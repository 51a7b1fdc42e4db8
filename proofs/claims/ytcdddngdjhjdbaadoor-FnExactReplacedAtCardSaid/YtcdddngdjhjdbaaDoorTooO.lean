/- olderThan: the places of all tiles of more than some years; both sides. -/
import Derived.Test.YtcdddngdjhjdbaaDoorPlW
import Derived.Test.YtcdddngdjhjdbaaDoorOldM
import Derived.Test.YtcdddngdjhjdbaaDoorOldS
import Derived.Deep.RegionHeld3
namespace Go.Proofs.YtcdddngdjhjdbaaDoor
open Go.RowKit

/-- A tile of more than y years. -/
def oldB (t : Nat → Int) (y : Int) (i j : Nat) : Bool := decide (y < t (i * 8 + j))
set_option maxRecDepth 100000 in
set_option maxHeartbeats 1000000 in
theorem older_pred (fg : FuncId) (la lb : Array Value) (t : Nat → Int) (eg : ∀ args w, (callFunc fg args).run Tryd.prog w = .ok (.enter fg args) w) (B0 B1 : Nat) (y : Int) (w : World) (h0 : rowAt w B0 = some #[.func (.func fg) la lb]) (h1 : rowAt w B1 = some #[.int .i64 y]) (hp : NumPl fg la lb t w) :
    PredW 122 #[] #[.pointer (some ⟨B0, 0, none⟩), .pointer (some ⟨B1, 0, none⟩)] (oldB t y) w := fun i j W hi hj hb => by
  have HP := Lib.hid hp
  clear hp
  show Calls Tryd.prog 122 #[.agg #[.int .i8 (i : Int), .int .i8 (j : Int)], .pointer (some ⟨B0, 0, none⟩), .pointer (some ⟨B1, 0, none⟩)] W _
  obtain ⟨b, hcmp⟩ : ∃ b, decide (y < t (i * 8 + j)) = b := ⟨_, rfl⟩
  have hob : oldB t y i j = b := hcmp
  rw [hob]
  clear hob
  go_enter Tryd.func122, Tryd.ntmps122
  go_wp2_with fail
  refine gen_world fun W2 hW => ?_
  have rB : Below W.heap.size W W2 := by rw [hW]; exact (Below.refl _ _).alloc (Nat.le_refl _) _
  have r2 : rowAt W2 W.heap.size = some #[.int .i8 (i : Int), .int .i8 (j : Int)] := by rw [hW]; exact rowAt_alloc_at _ _ _ _ rfl
  have r0 : rowAt W2 B0 = some #[.func (.func fg) la lb] := brow rB (brow hb h0)
  have r1 : rowAt W2 B1 = some #[.int .i64 y] := brow rB (brow hb h1)
  clear hW
  refine wp_region_held_drew (S := fun w' => Below W2.heap.size W2 w') (by kernel_rfl) ((Below.refl _ _).drew) (fun hH => ?_)
  refine wpAnyH_take (i := 0) (v := .func (.func fg) la lb) rfl (by kernel_rfl) (by kernel_rfl) (by kernel_rfl) (fun _ _ _ h => h) (Or.inl ⟨by rfl, ?_⟩) hH ?_
  · intro w1 hS; (try dsimp only at hS); have u := (cell_of_rowAt (brow hS r0) 0); simp at u; go_simp
  (try simp only [List.getElem_toArray]); (try simp only [List.getElem_cons_succ]); (try simp only [List.getElem_cons_zero]); (try simp only [Act.put]); (try simp only [List.setIfInBounds_toArray]); (try simp only [List.set_cons_succ]); (try simp only [List.set_cons_zero])
  refine wpAnyH_take (i := 1) (v := .agg #[.int .i8 (i : Int), .int .i8 (j : Int)]) rfl (by kernel_rfl) (by kernel_rfl) (by kernel_rfl) (fun _ _ _ h => h) (Or.inl ⟨by rfl, ?_⟩) hH ?_
  · intro w1 hS; (try dsimp only at hS); have u0 := (cell_of_rowAt (brow hS r2) 0); have u1 := (cell_of_rowAt (brow hS r2) 1); simp at u0 u1; go_simp
  (try simp only [List.getElem_toArray]); (try simp only [List.getElem_cons_succ]); (try simp only [List.getElem_cons_zero]); (try simp only [Act.put]); (try simp only [List.setIfInBounds_toArray]); (try simp only [List.set_cons_succ]); (try simp only [List.set_cons_zero])
  refine wpAnyH_take (i := 3) (v := .int .i64 y) rfl (by kernel_rfl) (by kernel_rfl) (by kernel_rfl) (fun _ _ _ h => h) (Or.inl ⟨by rfl, ?_⟩) hH ?_
  · intro w1 hS; (try dsimp only at hS); have u := (cell_of_rowAt (brow hS r1) 0); simp at u; go_simp
  (try simp only [List.getElem_toArray]); (try simp only [List.getElem_cons_succ]); (try simp only [List.getElem_cons_zero]); (try simp only [Act.put]); (try simp only [List.setIfInBounds_toArray]); (try simp only [List.set_cons_succ]); (try simp only [List.set_cons_zero])
  refine wpAnyH_ready (rs := [2]) (by kernel_rfl) (by simp) (AllReadyH.cons rfl (fun K hK => ?_) AllReadyH.nil)
  go_simp
  refine (HP.out i j _ hi hj ((hb.trans (rB.mono hb.size)).trans (hH.mono (by have := hb.size; have := rB.size; omega)))).mono ?_
  rintro x wx ⟨rfl, bx⟩
  go_simp
  refine hK.out _ _ (bnext hH bx hH.size) (fun hG => ?_)
  clear hK K hH bx
  replace hH := hG
  clear hG
  (try simp only [List.getElem_toArray]); (try simp only [List.getElem_cons_succ]); (try simp only [List.getElem_cons_zero]); (try simp only [Act.put]); (try simp only [List.setIfInBounds_toArray]); (try simp only [List.set_cons_succ]); (try simp only [List.set_cons_zero])
  refine wpAnyH_take (i := 4) (v := .bool b) rfl (by kernel_rfl) (by kernel_rfl) (by kernel_rfl) (fun _ _ _ h => h) (Or.inl ⟨by rfl, ?_⟩) hH ?_
  · intro w1 hS; (try dsimp only at hS); (try exact hcmp); go_simp
  (try simp only [List.getElem_toArray]); (try simp only [List.getElem_cons_succ]); (try simp only [List.getElem_cons_zero]); (try simp only [Act.put]); (try simp only [List.setIfInBounds_toArray]); (try simp only [List.set_cons_succ]); (try simp only [List.set_cons_zero])
  refine wpAnyH_take (i := 5) (v := .bool b) rfl (by kernel_rfl) (by kernel_rfl) (by kernel_rfl) (fun _ _ _ h => h) (Or.inl ⟨by rfl, ?_⟩) hH ?_
  · intro w1 hS; (try dsimp only at hS); go_simp
  (try simp only [List.getElem_toArray]); (try simp only [List.getElem_cons_succ]); (try simp only [List.getElem_cons_zero]); (try simp only [Act.put]); (try simp only [List.setIfInBounds_toArray]); (try simp only [List.set_cons_succ]); (try simp only [List.set_cons_zero])
  refine wpAnyH_done (by kernel_rfl) ?_ _
  have HB := rB.trans (hH.mono rB.size)
  clear hH eg
  go_wp2_with fail
  go_ret
  exact ⟨rfl, HB⟩

set_option maxRecDepth 100000 in
set_option maxHeartbeats 1000000 in
theorem olderThan_any (fg : FuncId) (la lb : Array Value) (t : Nat → Int) (eg : ∀ args w, (callFunc fg args).run Tryd.prog w = .ok (.enter fg args) w) (c : Array Value) (r : Rf) (y : Int) (hh ww : Nat) (hhe : r.h = hh) (hwe : r.w = ww) (h8 : hh ≤ 8) (w8 : ww ≤ 8) (w : World) (hR : IsRoof c r) (hp : ∀ W, NumPl fg la lb t W) :
    Calls Tryd.prog 86 #[.agg c, .int .i64 y, .func (.func fg) la lb] w (GivesW w (fltW (oldB t y) (plUpto hh ww (hh * ww)))) := by
  have hc := hR.size
  have CW := fun W h0 h1 => placesWhere_any 122 #[] #[.pointer (some ⟨w.heap.size + 1 + 1, 0, none⟩), .pointer (some ⟨w.heap.size + 1, 0, none⟩)] (oldB t y) (enters_of Tryd.func122 (by kernel_rfl) rfl) c r hh ww hhe hwe h8 w8 W hR (older_pred fg la lb t eg (w.heap.size + 1 + 1) (w.heap.size + 1) y W h0 h1 (hp W))
  have HCW := Lib.hid CW
  clear CW eg hp hhe hwe
  go_enter Tryd.func86, Tryd.ntmps86
  go_wp2_with fail
  refine gen_callsW fun W hW => ?_
  have r1 : rowAt W (w.heap.size + 1) = some #[.int .i64 y] := by rw [hW]; exact (rowAt_alloc_past _ _ _ (by simp)).trans (rowAt_alloc_at _ _ _ _ (by simp))
  have r2 : rowAt W (w.heap.size + 1 + 1) = some #[.func (.func fg) la lb] := by rw [hW]; exact rowAt_alloc_at _ _ _ _ (by simp)
  have pB : Below w.heap.size w W := by rw [hW]; exact (((Below.refl _ _).alloc (Nat.le_refl _) _).alloc (by simp) _).alloc (by simp; omega) _
  clear hW
  refine (HCW.out _ r2 r1).mono ?_
  rintro e w1 ⟨v, rfl, l1, b1, cp⟩
  have B1 := bnext pB b1 pB.size
  replace l1 := l1.mono pB.size
  obtain ⟨av, cv, rfl⟩ := l1.shape
  clear b1 r1 r2
  go_wp2_with fail
  go_ret
  exact ⟨_, rfl, l1, B1, cp⟩

end Go.Proofs.YtcdddngdjhjdbaaDoor
