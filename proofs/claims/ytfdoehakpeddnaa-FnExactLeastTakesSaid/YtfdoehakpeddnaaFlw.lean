/- To where a cell flows: mathematics, and the program's flowOf. -/
import Derived.Test.YtfdoehakpeddnaaSite
import Derived.Test.YtfdoehakpeddnaaOuts
import Derived.Deep.RegionHeld3
namespace Go.Proofs.Ytfdoehakpeddnaa
open Go.RowKit

@[go_sem] theorem idx2_0 (a b : Value) (w : World) : (Instr.index 152 (.agg #[a, b]) (.int .i64 0)).run Try.prog w = .ok a w := by kernel_rfl
@[go_sem] theorem idx2_1 (a b : Value) (w : World) : (Instr.index 152 (.agg #[a, b]) (.int .i64 1)).run Try.prog w = .ok b w := by kernel_rfl
/-- To where a cell flows that has no pipe and no leaves, and how low that is: behind k looks. -/
def Gt.toK (g : Gt) (j : Nat) : Nat → Int
  | 0 => -1
  | 1 => if 0 < j ∧ g.h (j - 1) < g.h j then (j : Int) - 1 else -1
  | _ => if (j : Int) + 1 < g.n ∧ g.h (j + 1) < (if 0 < j ∧ g.h (j - 1) < g.h j then g.h (j - 1) else g.h j) then (j : Int) + 1 else if 0 < j ∧ g.h (j - 1) < g.h j then (j : Int) - 1 else -1
def Gt.lowK (g : Gt) (j : Nat) : Nat → Int
  | 0 => g.h j
  | 1 => if 0 < j ∧ g.h (j - 1) < g.h j then g.h (j - 1) else g.h j
  | _ => if (j : Int) + 1 < g.n ∧ g.h (j + 1) < (if 0 < j ∧ g.h (j - 1) < g.h j then g.h (j - 1) else g.h j) then g.h (j + 1) else (if 0 < j ∧ g.h (j - 1) < g.h j then g.h (j - 1) else g.h j)
/-- To where a cell flows, if b tells whether a pipe is at it. -/
def Gt.toB (g : Gt) (b : Bool) (j : Nat) : Int := if b = true ∨ g.leaf j = true then -1 else g.toK j 2

theorem cellNumberG_any (c : Array Value) (g : Gt) (v : Value) (x : Int) (w : World) (hG : IsGut c g v) :
    Calls Try.prog 100 #[.agg c, .int .i64 x] w fun e w' => e = .returned (.agg #[.int .i64 x, .int .i64 0, .int .i64 (g.n - 1)]) ∧ Below w.heap.size w w' := by
  have n0 := hG.n0
  have n1 := hG.n1
  have hc := hG.size
  have k0 := hG.cells
  clear hG
  go_enter Try.func100, Try.ntmps100
  go_wp2_with fail
  refine bodyPost_ret (v := .agg #[.int .i64 x, .int .i64 0, .int .i64 (g.n - 1)]) (by simp [results, Try.results100, go_sem]) rfl ⟨rfl, ?_⟩
  exact ((Below.refl _ _).alloc (Nat.le_refl _) _).alloc (by simp) _

set_option maxRecDepth 100000 in
set_option maxHeartbeats 2000000 in
theorem flowOf_out (c : Array Value) (g : Gt) (v : Value) (i x : Int) (w : World) (hG : IsGut c g v) :
    Calls Try.prog 103 #[.agg c, outV i x] w fun e w' => e = .returned (.int .i64 (-1)) ∧ Below w.heap.size w w' := by
  have hc := hG.size
  have rA : rowAt (w.alloc (.cells c 37)) w.heap.size = some c := rowAt_alloc_at _ _ _ _ rfl
  have hB0 : Below w.heap.size w (w.alloc (.cells c 37)) := (Below.refl _ _).alloc (Nat.le_refl _) _
  have CP := fun w => hasPipe_t i x w
  generalize outV i x = s at *
  go_enter Try.func103, Try.ntmps103
  go_wp2_with fail
  refine gen_world fun W hW => ?_
  rw [← hW] at rA hB0
  clear hW
  refine wp_region_held_drew (S := fun w' => Below W.heap.size W w') (by kernel_rfl) ((Below.refl _ _).drew) (fun hH => ?_)
  refine wpAnyH_take (i := 0) (v := s) rfl (by kernel_rfl) (by kernel_rfl) (by kernel_rfl) (fun _ _ _ h => h) (Or.inl ⟨by rfl, ?_⟩) hH ?_
  · intro w1 hS; (try dsimp only at hS); go_simp
  (try simp only [List.getElem_toArray]); (try simp only [List.getElem_cons_succ]); (try simp only [List.getElem_cons_zero]); (try simp only [Act.put]); (try simp only [List.setIfInBounds_toArray]); (try simp only [List.set_cons_succ]); (try simp only [List.set_cons_zero])
  refine wpAnyH_ready (rs := [1]) (by kernel_rfl) (by simp) (AllReadyH.cons rfl (fun K hK => ?_) AllReadyH.nil)
  go_simp
  refine (CP _).mono ?_
  rintro x wx ⟨rfl, bx⟩
  go_simp
  refine hK.out _ _ (bnext hH bx hH.size) (fun hG => ?_)
  clear hK K hH bx
  replace hH := hG
  clear hG
  (try simp only [List.getElem_toArray]); (try simp only [List.getElem_cons_succ]); (try simp only [List.getElem_cons_zero]); (try simp only [Act.put]); (try simp only [List.setIfInBounds_toArray]); (try simp only [List.set_cons_succ]); (try simp only [List.set_cons_zero])
  refine wpAnyH_take (i := 2) (v := .bool true) rfl (by kernel_rfl) (by kernel_rfl) (by kernel_rfl) (fun _ _ _ h => h) (Or.inl ⟨by rfl, ?_⟩) hH ?_
  · intro w1 hS; (try dsimp only at hS); go_simp
  (try simp only [List.getElem_toArray]); (try simp only [List.getElem_cons_succ]); (try simp only [List.getElem_cons_zero]); (try simp only [Act.put]); (try simp only [List.setIfInBounds_toArray]); (try simp only [List.set_cons_succ]); (try simp only [List.set_cons_zero])
  refine wpAnyH_take (i := 3) (v := undef) rfl (by kernel_rfl) (by kernel_rfl) (by kernel_rfl) (fun _ _ _ h => h) (Or.inr ⟨by rfl, rfl⟩) hH ?_
  (try simp only [List.getElem_toArray]); (try simp only [List.getElem_cons_succ]); (try simp only [List.getElem_cons_zero]); (try simp only [Act.put]); (try simp only [List.setIfInBounds_toArray]); (try simp only [List.set_cons_succ]); (try simp only [List.set_cons_zero])
  refine wpAnyH_take (i := 4) (v := undef) rfl (by kernel_rfl) (by kernel_rfl) (by kernel_rfl) (fun _ _ _ h => h) (Or.inr ⟨by rfl, rfl⟩) hH ?_
  (try simp only [List.getElem_toArray]); (try simp only [List.getElem_cons_succ]); (try simp only [List.getElem_cons_zero]); (try simp only [Act.put]); (try simp only [List.setIfInBounds_toArray]); (try simp only [List.set_cons_succ]); (try simp only [List.set_cons_zero])
  refine wpAnyH_take (i := 5) (v := undef) rfl (by kernel_rfl) (by kernel_rfl) (by kernel_rfl) (fun _ _ _ h => h) (Or.inr ⟨by rfl, rfl⟩) hH ?_
  (try simp only [List.getElem_toArray]); (try simp only [List.getElem_cons_succ]); (try simp only [List.getElem_cons_zero]); (try simp only [Act.put]); (try simp only [List.setIfInBounds_toArray]); (try simp only [List.set_cons_succ]); (try simp only [List.set_cons_zero])
  refine wpAnyH_take (i := 6) (v := undef) rfl (by kernel_rfl) (by kernel_rfl) (by kernel_rfl) (fun _ _ _ h => h) (Or.inr ⟨by rfl, rfl⟩) hH ?_
  (try simp only [List.getElem_toArray]); (try simp only [List.getElem_cons_succ]); (try simp only [List.getElem_cons_zero]); (try simp only [Act.put]); (try simp only [List.setIfInBounds_toArray]); (try simp only [List.set_cons_succ]); (try simp only [List.set_cons_zero])
  refine wpAnyH_take (i := 7) (v := .bool true) rfl (by kernel_rfl) (by kernel_rfl) (by kernel_rfl) (fun _ _ _ h => h) (Or.inl ⟨by rfl, ?_⟩) hH ?_
  · intro w1 hS; (try dsimp only at hS); go_simp
  (try simp only [List.getElem_toArray]); (try simp only [List.getElem_cons_succ]); (try simp only [List.getElem_cons_zero]); (try simp only [Act.put]); (try simp only [List.setIfInBounds_toArray]); (try simp only [List.set_cons_succ]); (try simp only [List.set_cons_zero])
  refine wpAnyH_done (by kernel_rfl) ?_ _
  have B1 := hB0.trans (hH.mono hB0.size)
  clear hH CP
  go_wp2_with fail
  go_ret
  exact ⟨rfl, B1⟩
set_option maxRecDepth 100000 in
set_option maxHeartbeats 2000000 in
theorem flowOf_spot (c : Array Value) (g : Gt) (v : Value) (j : Nat) (w : World) (hG : IsGut c g v) (hj : (j : Int) < g.n) (hn : g.n ≤ 17) :
    Calls Try.prog 103 #[.agg c, spotV j] w fun e w' => e = .returned (.int .i64 (g.toB false j)) ∧ Below w.heap.size w w' := by
  have hc := hG.size
  have rA : rowAt (w.alloc (.cells c 37)) w.heap.size = some c := rowAt_alloc_at _ _ _ _ rfl
  have hB0 : Below w.heap.size w (w.alloc (.cells c 37)) := (Below.refl _ _).alloc (Nat.le_refl _) _
  have CP := fun w => hasPipe_f j w
  have CL := fun w => hasLeaves_any c g v j w hG (by omega)
  have CA := fun w => spotAt_any j w
  unfold spotV at CP ⊢
  cases hl : g.leaf j with
  | true =>
    rw [hl] at CL
    have HR : Hid (g.toB false j = -1) := Lib.hid (if_pos (.inr hl))
    clear hl
    go_enter Try.func103, Try.ntmps103
    go_wp2_with fail
    refine gen_world fun W hW => ?_
    rw [← hW] at rA hB0
    clear hW
    refine wp_region_held_drew (S := fun w' => Below W.heap.size W w') (by kernel_rfl) ((Below.refl _ _).drew) (fun hH => ?_)
    refine wpAnyH_take (i := 0) (v := .iface 137 (.agg #[.int .i64 (j : Int)])) rfl (by kernel_rfl) (by kernel_rfl) (by kernel_rfl) (fun _ _ _ h => h) (Or.inl ⟨by rfl, ?_⟩) hH ?_
    · intro w1 hS; (try dsimp only at hS); go_simp
    (try simp only [List.getElem_toArray]); (try simp only [List.getElem_cons_succ]); (try simp only [List.getElem_cons_zero]); (try simp only [Act.put]); (try simp only [List.setIfInBounds_toArray]); (try simp only [List.set_cons_succ]); (try simp only [List.set_cons_zero])
    refine wpAnyH_ready (rs := [1]) (by kernel_rfl) (by simp) (AllReadyH.cons rfl (fun K hK => ?_) AllReadyH.nil)
    go_simp
    refine (CP _).mono ?_
    rintro x wx ⟨rfl, bx⟩
    go_simp
    refine hK.out _ _ (bnext hH bx hH.size) (fun hG => ?_)
    clear hK K hH bx
    replace hH := hG
    clear hG
    (try simp only [List.getElem_toArray]); (try simp only [List.getElem_cons_succ]); (try simp only [List.getElem_cons_zero]); (try simp only [Act.put]); (try simp only [List.setIfInBounds_toArray]); (try simp only [List.set_cons_succ]); (try simp only [List.set_cons_zero])
    refine wpAnyH_take (i := 2) (v := .bool false) rfl (by kernel_rfl) (by kernel_rfl) (by kernel_rfl) (fun _ _ _ h => h) (Or.inl ⟨by rfl, ?_⟩) hH ?_
    · intro w1 hS; (try dsimp only at hS); go_simp
    (try simp only [List.getElem_toArray]); (try simp only [List.getElem_cons_succ]); (try simp only [List.getElem_cons_zero]); (try simp only [Act.put]); (try simp only [List.setIfInBounds_toArray]); (try simp only [List.set_cons_succ]); (try simp only [List.set_cons_zero])
    refine wpAnyH_take (i := 3) (v := .agg c) rfl (by kernel_rfl) (by kernel_rfl) (by kernel_rfl) (fun _ _ _ h => h) (Or.inl ⟨by rfl, ?_⟩) hH ?_
    · intro w1 hS; (try dsimp only at hS); have s0 := brow hS rA; go_simp
    (try simp only [List.getElem_toArray]); (try simp only [List.getElem_cons_succ]); (try simp only [List.getElem_cons_zero]); (try simp only [Act.put]); (try simp only [List.setIfInBounds_toArray]); (try simp only [List.set_cons_succ]); (try simp only [List.set_cons_zero])
    refine wpAnyH_take (i := 4) (v := .iface 137 (.agg #[.int .i64 (j : Int)])) rfl (by kernel_rfl) (by kernel_rfl) (by kernel_rfl) (fun _ _ _ h => h) (Or.inl ⟨by rfl, ?_⟩) hH ?_
    · intro w1 hS; (try dsimp only at hS); go_simp
    (try simp only [List.getElem_toArray]); (try simp only [List.getElem_cons_succ]); (try simp only [List.getElem_cons_zero]); (try simp only [Act.put]); (try simp only [List.setIfInBounds_toArray]); (try simp only [List.set_cons_succ]); (try simp only [List.set_cons_zero])
    refine wpAnyH_ready (rs := [5]) (by kernel_rfl) (by simp) (AllReadyH.cons rfl (fun K hK => ?_) AllReadyH.nil)
    go_simp
    refine (CA _).mono ?_
    rintro x wx ⟨rfl, bx⟩
    go_simp
    refine hK.out _ _ (bnext hH bx hH.size) (fun hG => ?_)
    clear hK K hH bx
    replace hH := hG
    clear hG
    (try simp only [List.getElem_toArray]); (try simp only [List.getElem_cons_succ]); (try simp only [List.getElem_cons_zero]); (try simp only [Act.put]); (try simp only [List.setIfInBounds_toArray]); (try simp only [List.set_cons_succ]); (try simp only [List.set_cons_zero])
    refine wpAnyH_ready (rs := [6]) (by kernel_rfl) (by simp) (AllReadyH.cons rfl (fun K hK => ?_) AllReadyH.nil)
    go_simp
    refine (CL _).mono ?_
    rintro x wx ⟨rfl, bx⟩
    go_simp
    refine hK.out _ _ (bnext hH bx hH.size) (fun hG => ?_)
    clear hK K hH bx
    replace hH := hG
    clear hG
    (try simp only [List.getElem_toArray]); (try simp only [List.getElem_cons_succ]); (try simp only [List.getElem_cons_zero]); (try simp only [Act.put]); (try simp only [List.setIfInBounds_toArray]); (try simp only [List.set_cons_succ]); (try simp only [List.set_cons_zero])
    refine wpAnyH_take (i := 7) (v := .bool true) rfl (by kernel_rfl) (by kernel_rfl) (by kernel_rfl) (fun _ _ _ h => h) (Or.inl ⟨by rfl, ?_⟩) hH ?_
    · intro w1 hS; (try dsimp only at hS); go_simp
    (try simp only [List.getElem_toArray]); (try simp only [List.getElem_cons_succ]); (try simp only [List.getElem_cons_zero]); (try simp only [Act.put]); (try simp only [List.setIfInBounds_toArray]); (try simp only [List.set_cons_succ]); (try simp only [List.set_cons_zero])
    refine wpAnyH_done (by kernel_rfl) ?_ _
    have B1 := hB0.trans (hH.mono hB0.size)
    clear hH CP CL CA
    go_wp2_with fail
    go_ret
    exact ⟨by rw [HR.out]; rfl, B1⟩
  | false =>
    rw [hl] at CL
    have HR : Hid (g.toB false j = g.toK j 2) := Lib.hid (if_neg (by simp [hl]))
    have CN := fun w x => cellNumberG_any c g v x w hG
    have hh0 := hG.h0 j (by omega)
    have hh1 := hG.h1 j (by omega)
    have HGH := Lib.hid (fun i (hi : i < 17) => hG.getH hi)
    have HB := Lib.hid (fun i (hi : i < 17) => (⟨hG.h0 i hi, hG.h1 i hi⟩ : -128 ≤ g.h i ∧ g.h i ≤ 127))
    have j0 : 0 ≤ (j : Int) := by omega
    have j1 : (j : Int) < 17 := by omega
    have jn : (j : Int).toNat = j := by omega
    clear hl hG
    go_enter Try.func103, Try.ntmps103
    go_wp2_with fail
    refine gen_world fun W hW => ?_
    rw [← hW] at rA hB0
    clear hW
    refine wp_region_held_drew (S := fun w' => Below W.heap.size W w') (by kernel_rfl) ((Below.refl _ _).drew) (fun hH => ?_)
    refine wpAnyH_take (i := 0) (v := .iface 137 (.agg #[.int .i64 (j : Int)])) rfl (by kernel_rfl) (by kernel_rfl) (by kernel_rfl) (fun _ _ _ h => h) (Or.inl ⟨by rfl, ?_⟩) hH ?_
    · intro w1 hS; (try dsimp only at hS); go_simp
    (try simp only [List.getElem_toArray]); (try simp only [List.getElem_cons_succ]); (try simp only [List.getElem_cons_zero]); (try simp only [Act.put]); (try simp only [List.setIfInBounds_toArray]); (try simp only [List.set_cons_succ]); (try simp only [List.set_cons_zero])
    refine wpAnyH_ready (rs := [1]) (by kernel_rfl) (by simp) (AllReadyH.cons rfl (fun K hK => ?_) AllReadyH.nil)
    go_simp
    refine (CP _).mono ?_
    rintro x wx ⟨rfl, bx⟩
    go_simp
    refine hK.out _ _ (bnext hH bx hH.size) (fun hG => ?_)
    clear hK K hH bx
    replace hH := hG
    clear hG
    (try simp only [List.getElem_toArray]); (try simp only [List.getElem_cons_succ]); (try simp only [List.getElem_cons_zero]); (try simp only [Act.put]); (try simp only [List.setIfInBounds_toArray]); (try simp only [List.set_cons_succ]); (try simp only [List.set_cons_zero])
    refine wpAnyH_take (i := 2) (v := .bool false) rfl (by kernel_rfl) (by kernel_rfl) (by kernel_rfl) (fun _ _ _ h => h) (Or.inl ⟨by rfl, ?_⟩) hH ?_
    · intro w1 hS; (try dsimp only at hS); go_simp
    (try simp only [List.getElem_toArray]); (try simp only [List.getElem_cons_succ]); (try simp only [List.getElem_cons_zero]); (try simp only [Act.put]); (try simp only [List.setIfInBounds_toArray]); (try simp only [List.set_cons_succ]); (try simp only [List.set_cons_zero])
    refine wpAnyH_take (i := 3) (v := .agg c) rfl (by kernel_rfl) (by kernel_rfl) (by kernel_rfl) (fun _ _ _ h => h) (Or.inl ⟨by rfl, ?_⟩) hH ?_
    · intro w1 hS; (try dsimp only at hS); have s0 := brow hS rA; go_simp
    (try simp only [List.getElem_toArray]); (try simp only [List.getElem_cons_succ]); (try simp only [List.getElem_cons_zero]); (try simp only [Act.put]); (try simp only [List.setIfInBounds_toArray]); (try simp only [List.set_cons_succ]); (try simp only [List.set_cons_zero])
    refine wpAnyH_take (i := 4) (v := .iface 137 (.agg #[.int .i64 (j : Int)])) rfl (by kernel_rfl) (by kernel_rfl) (by kernel_rfl) (fun _ _ _ h => h) (Or.inl ⟨by rfl, ?_⟩) hH ?_
    · intro w1 hS; (try dsimp only at hS); go_simp
    (try simp only [List.getElem_toArray]); (try simp only [List.getElem_cons_succ]); (try simp only [List.getElem_cons_zero]); (try simp only [Act.put]); (try simp only [List.setIfInBounds_toArray]); (try simp only [List.set_cons_succ]); (try simp only [List.set_cons_zero])
    refine wpAnyH_ready (rs := [5]) (by kernel_rfl) (by simp) (AllReadyH.cons rfl (fun K hK => ?_) AllReadyH.nil)
    go_simp
    refine (CA _).mono ?_
    rintro x wx ⟨rfl, bx⟩
    go_simp
    refine hK.out _ _ (bnext hH bx hH.size) (fun hG => ?_)
    clear hK K hH bx
    replace hH := hG
    clear hG
    (try simp only [List.getElem_toArray]); (try simp only [List.getElem_cons_succ]); (try simp only [List.getElem_cons_zero]); (try simp only [Act.put]); (try simp only [List.setIfInBounds_toArray]); (try simp only [List.set_cons_succ]); (try simp only [List.set_cons_zero])
    refine wpAnyH_ready (rs := [6]) (by kernel_rfl) (by simp) (AllReadyH.cons rfl (fun K hK => ?_) AllReadyH.nil)
    go_simp
    refine (CL _).mono ?_
    rintro x wx ⟨rfl, bx⟩
    go_simp
    refine hK.out _ _ (bnext hH bx hH.size) (fun hG => ?_)
    clear hK K hH bx
    replace hH := hG
    clear hG
    (try simp only [List.getElem_toArray]); (try simp only [List.getElem_cons_succ]); (try simp only [List.getElem_cons_zero]); (try simp only [Act.put]); (try simp only [List.setIfInBounds_toArray]); (try simp only [List.set_cons_succ]); (try simp only [List.set_cons_zero])
    refine wpAnyH_take (i := 7) (v := .bool false) rfl (by kernel_rfl) (by kernel_rfl) (by kernel_rfl) (fun _ _ _ h => h) (Or.inl ⟨by rfl, ?_⟩) hH ?_
    · intro w1 hS; (try dsimp only at hS); go_simp
    (try simp only [List.getElem_toArray]); (try simp only [List.getElem_cons_succ]); (try simp only [List.getElem_cons_zero]); (try simp only [Act.put]); (try simp only [List.setIfInBounds_toArray]); (try simp only [List.set_cons_succ]); (try simp only [List.set_cons_zero])
    refine wpAnyH_done (by kernel_rfl) ?_ _
    obtain ⟨W2, hW2⟩ : ∃ W2, W2 = wx := ⟨_, rfl⟩
    rw [← hW2] at hH ⊢
    have rB := brow hH rA
    have B1 := hB0.trans (hH.mono hB0.size)
    have zj : W2.cell? ⟨w.heap.size, 2 + j, none⟩ = some (.int .i8 (g.h j)) := by rw [cell_of_rowAt rB]; exact HGH.out j (by omega)
    clear hH hW2 CP CL rA hB0
    go_wp2_with fail
    refine wp_region_held_drew (S := fun w' => Below W2.heap.size W2 w') (by kernel_rfl) ((Below.refl _ _).drew) (fun hH => ?_)
    refine wpAnyH_take (i := 0) (v := .iface 137 (.agg #[.int .i64 (j : Int)])) rfl (by kernel_rfl) (by kernel_rfl) (by kernel_rfl) (fun _ _ _ h => h) (Or.inl ⟨by rfl, ?_⟩) hH ?_
    · intro w1 hS; (try dsimp only at hS); go_simp
    (try simp only [List.getElem_toArray]); (try simp only [List.getElem_cons_succ]); (try simp only [List.getElem_cons_zero]); (try simp only [Act.put]); (try simp only [List.setIfInBounds_toArray]); (try simp only [List.set_cons_succ]); (try simp only [List.set_cons_zero])
    refine wpAnyH_take (i := 2) (v := .pointer (some ⟨w.heap.size, 2, none⟩)) rfl (by kernel_rfl) (by kernel_rfl) (by kernel_rfl) (fun _ _ _ h => h) (Or.inl ⟨by rfl, ?_⟩) hH ?_
    · intro w1 hS; (try dsimp only at hS); go_simp
    (try simp only [List.getElem_toArray]); (try simp only [List.getElem_cons_succ]); (try simp only [List.getElem_cons_zero]); (try simp only [Act.put]); (try simp only [List.setIfInBounds_toArray]); (try simp only [List.set_cons_succ]); (try simp only [List.set_cons_zero])
    refine wpAnyH_ready (rs := [1]) (by kernel_rfl) (by simp) (AllReadyH.cons rfl (fun K hK => ?_) AllReadyH.nil)
    go_simp
    refine (CA _).mono ?_
    rintro x wx ⟨rfl, bx⟩
    go_simp
    refine hK.out _ _ (bnext hH bx hH.size) (fun hG => ?_)
    clear hK K hH bx
    replace hH := hG
    clear hG
    (try simp only [List.getElem_toArray]); (try simp only [List.getElem_cons_succ]); (try simp only [List.getElem_cons_zero]); (try simp only [Act.put]); (try simp only [List.setIfInBounds_toArray]); (try simp only [List.set_cons_succ]); (try simp only [List.set_cons_zero])
    refine wpAnyH_take (i := 3) (v := .pointer (some ⟨w.heap.size, 2 + j, none⟩)) rfl (by kernel_rfl) (by kernel_rfl) (by kernel_rfl) (fun _ _ _ h => h) (Or.inl ⟨by rfl, ?_⟩) hH ?_
    · intro w1 hS; (try dsimp only at hS); go_simp
    (try simp only [List.getElem_toArray]); (try simp only [List.getElem_cons_succ]); (try simp only [List.getElem_cons_zero]); (try simp only [Act.put]); (try simp only [List.setIfInBounds_toArray]); (try simp only [List.set_cons_succ]); (try simp only [List.set_cons_zero])
    refine wpAnyH_take (i := 5) (v := .int .i64 (-1)) rfl (by kernel_rfl) (by kernel_rfl) (by kernel_rfl) (fun _ _ _ h => h) (Or.inl ⟨by rfl, ?_⟩) hH ?_
    · intro w1 hS; (try dsimp only at hS); go_simp
    (try simp only [List.getElem_toArray]); (try simp only [List.getElem_cons_succ]); (try simp only [List.getElem_cons_zero]); (try simp only [Act.put]); (try simp only [List.setIfInBounds_toArray]); (try simp only [List.set_cons_succ]); (try simp only [List.set_cons_zero])
    refine wpAnyH_take (i := 4) (v := .int .i8 (g.h j)) rfl (by kernel_rfl) (by kernel_rfl) (by kernel_rfl) (fun _ _ _ h => h) (Or.inl ⟨by rfl, ?_⟩) hH ?_
    · intro w1 hS; (try dsimp only at hS); have s0 := (hS.cell (p := ⟨w.heap.size, 2 + j, none⟩) (rowAt_lt rB)).trans zj; go_simp
    (try simp only [List.getElem_toArray]); (try simp only [List.getElem_cons_succ]); (try simp only [List.getElem_cons_zero]); (try simp only [Act.put]); (try simp only [List.setIfInBounds_toArray]); (try simp only [List.set_cons_succ]); (try simp only [List.set_cons_zero])
    refine wpAnyH_take (i := 6) (v := .int .i8 (g.h j)) rfl (by kernel_rfl) (by kernel_rfl) (by kernel_rfl) (fun _ _ _ h => h) (Or.inl ⟨by rfl, ?_⟩) hH ?_
    · intro w1 hS; (try dsimp only at hS); go_simp
    (try simp only [List.getElem_toArray]); (try simp only [List.getElem_cons_succ]); (try simp only [List.getElem_cons_zero]); (try simp only [Act.put]); (try simp only [List.setIfInBounds_toArray]); (try simp only [List.set_cons_succ]); (try simp only [List.set_cons_zero])
    refine wpAnyH_done (by kernel_rfl) ?_ _
    obtain ⟨W3, hW3⟩ : ∃ W3, W3 = wx := ⟨_, rfl⟩
    rw [← hW3] at hH ⊢
    have rC := brow hH rB
    have B2 := B1.trans (hH.mono B1.size)
    clear hH hW3 rB B1 zj CA
    go_wp2_with fail
    go_loopw [5, 6, 26] (fun t l i W => ∃ k : Nat, k ≤ 2 ∧ i = .int .i64 k ∧ t = .int .i64 (g.toK j k) ∧ l = .int .i8 (g.lowK j k) ∧ rowAt W w.heap.size = some c ∧ Below w.heap.size w W) (fun _ _ i _ => 2 - (intOf i).toNat)
    case atStart => exact ⟨0, by omega, rfl, rfl, rfl, rC, B2⟩
    case round =>
      clear rC B2
      obtain ⟨k, hk, rfl, rfl, rfl, rD, BD⟩ := hrel
      by_cases h0 : k = 0
      · subst h0
        rw [show g.toK j 0 = -1 from rfl, show g.lowK j 0 = g.h j from rfl]
        have CF := fun w => spotLeft_any j w (by omega)
        by_cases hp : 0 < j
        · have ho : outB ((j : Int) - 1) 0 (g.n - 1) = false := by simp [outB]; omega
          have i0 : 0 ≤ (j : Int) - 1 := by omega
          have i1 : (j : Int) - 1 < 17 := by omega
          have i2 : ((j : Int) - 1).toNat = j - 1 := by omega
          have hm := HB.out (j - 1) (by omega)
          obtain ⟨hm0, hm1⟩ := hm
          by_cases hx : g.h (j - 1) < g.h j
          · have hxd : decide (g.h (j - 1) < g.h j) = true := by simp [hx]
            have E1 := Lib.hid (show g.toK j 1 = (j : Int) - 1 from if_pos ⟨hp, hx⟩)
            have E2 := Lib.hid (show g.lowK j 1 = g.h (j - 1) from if_pos ⟨hp, hx⟩)
            clear hx hp
            go_wp2_with fail
            refine (CF _).mono ?_
            rintro e w1 ⟨rfl, b1⟩
            have r1 := brow b1 rD
            have B1 := bnext BD b1 BD.size
            clear b1 rD BD CF
            go_wp2_with fail
            refine (CN _ _).mono ?_
            rintro e w2 ⟨rfl, b2⟩
            have r2 := brow b2 r1
            have B2 := bnext B1 b2 B1.size
            clear b2 r1 B1
            go_wp2_with fail
            refine (isOutside_any _ _ _ _).mono ?_
            rw [ho]
            rintro e w3 ⟨rfl, b3⟩
            have r3 := brow b3 r2
            have B3 := bnext B2 b3 B2.size
            have zz : w3.cell? ⟨w.heap.size, 2 + (j - 1), none⟩ = some (.int .i8 (g.h (j - 1))) := by rw [cell_of_rowAt r3]; exact HGH.out (j - 1) (by omega)
            have l3 := rowAt_lt r3
            clear b3 r2 B2 ho
            go_wp2_with fail
            go_quiet (fail)
            go_wp2_with fail
            refine ⟨⟨1, by omega, by go_num, by rw [E1.out], by rw [E2.out], r3, below_drewN B3 _⟩, by simp [intOf]⟩
          · have hxd : decide (g.h (j - 1) < g.h j) = false := by simp; omega
            have E1 := Lib.hid (show g.toK j 1 = -1 from if_neg (fun a => hx a.2))
            have E2 := Lib.hid (show g.lowK j 1 = g.h j from if_neg (fun a => hx a.2))
            clear hx hp
            go_wp2_with fail
            refine (CF _).mono ?_
            rintro e w1 ⟨rfl, b1⟩
            have r1 := brow b1 rD
            have B1 := bnext BD b1 BD.size
            clear b1 rD BD CF
            go_wp2_with fail
            refine (CN _ _).mono ?_
            rintro e w2 ⟨rfl, b2⟩
            have r2 := brow b2 r1
            have B2 := bnext B1 b2 B1.size
            clear b2 r1 B1
            go_wp2_with fail
            refine (isOutside_any _ _ _ _).mono ?_
            rw [ho]
            rintro e w3 ⟨rfl, b3⟩
            have r3 := brow b3 r2
            have B3 := bnext B2 b3 B2.size
            have zz : w3.cell? ⟨w.heap.size, 2 + (j - 1), none⟩ = some (.int .i8 (g.h (j - 1))) := by rw [cell_of_rowAt r3]; exact HGH.out (j - 1) (by omega)
            have l3 := rowAt_lt r3
            clear b3 r2 B2 ho
            go_wp2_with fail
            refine ⟨⟨1, by omega, by go_num, by rw [E1.out], by rw [E2.out], r3, B3⟩, by simp [intOf]⟩
        · have ho : outB ((j : Int) - 1) 0 (g.n - 1) = true := by simp [outB]; omega
          have E1 := Lib.hid (show g.toK j 1 = -1 from if_neg (fun a => hp a.1))
          have E2 := Lib.hid (show g.lowK j 1 = g.h j from if_neg (fun a => hp a.1))
          clear hp
          go_wp2_with fail
          refine (CF _).mono ?_
          rintro e w1 ⟨rfl, b1⟩
          have r1 := brow b1 rD
          have B1 := bnext BD b1 BD.size
          clear b1 rD BD CF
          go_wp2_with fail
          refine (CN _ _).mono ?_
          rintro e w2 ⟨rfl, b2⟩
          have r2 := brow b2 r1
          have B2 := bnext B1 b2 B1.size
          clear b2 r1 B1
          go_wp2_with fail
          refine (isOutside_any _ _ _ _).mono ?_
          rw [ho]
          rintro e w3 ⟨rfl, b3⟩
          have r3 := brow b3 r2
          have B3 := bnext B2 b3 B2.size
          clear b3 r2 B2 ho
          go_wp2_with fail
          refine ⟨⟨1, by omega, by go_num, by rw [E1.out], by rw [E2.out], r3, B3⟩, by simp [intOf]⟩
      by_cases h1 : k = 1
      · subst h1
        have K2 := Lib.hid (show g.toK j 2 = if (j : Int) + 1 < g.n ∧ g.h (j + 1) < g.lowK j 1 then (j : Int) + 1 else g.toK j 1 from rfl)
        have L2 := Lib.hid (show g.lowK j 2 = if (j : Int) + 1 < g.n ∧ g.h (j + 1) < g.lowK j 1 then g.h (j + 1) else g.lowK j 1 from rfl)
        generalize g.toK j 1 = T1 at *
        generalize g.lowK j 1 = L1 at *
        have CF := fun w => spotRight_any j w (by omega)
        by_cases hp : (j : Int) + 1 < g.n
        · have ho : outB ((j : Int) + 1) 0 (g.n - 1) = false := by simp [outB]; omega
          have i0 : 0 ≤ (j : Int) + 1 := by omega
          have i1 : (j : Int) + 1 < 17 := by omega
          have i2 : ((j : Int) + 1).toNat = j + 1 := by omega
          have hm := HB.out (j + 1) (by omega)
          obtain ⟨hm0, hm1⟩ := hm
          by_cases hx : g.h (j + 1) < L1
          · have hxd : decide (g.h (j + 1) < L1) = true := by simp [hx]
            have E1 := Lib.hid (K2.out.trans (if_pos ⟨hp, hx⟩))
            have E2 := Lib.hid (L2.out.trans (if_pos ⟨hp, hx⟩))
            clear hx hp
            go_wp2_with fail
            refine (CF _).mono ?_
            rintro e w1 ⟨rfl, b1⟩
            have r1 := brow b1 rD
            have B1 := bnext BD b1 BD.size
            clear b1 rD BD CF
            go_wp2_with fail
            refine (CN _ _).mono ?_
            rintro e w2 ⟨rfl, b2⟩
            have r2 := brow b2 r1
            have B2 := bnext B1 b2 B1.size
            clear b2 r1 B1
            go_wp2_with fail
            refine (isOutside_any _ _ _ _).mono ?_
            rw [ho]
            rintro e w3 ⟨rfl, b3⟩
            have r3 := brow b3 r2
            have B3 := bnext B2 b3 B2.size
            have zz : w3.cell? ⟨w.heap.size, 2 + (j + 1), none⟩ = some (.int .i8 (g.h (j + 1))) := by rw [cell_of_rowAt r3]; exact HGH.out (j + 1) (by omega)
            have l3 := rowAt_lt r3
            clear b3 r2 B2 ho
            go_wp2_with fail
            go_quiet (fail)
            go_wp2_with fail
            refine ⟨⟨2, by omega, by go_num, by rw [E1.out], by rw [E2.out], r3, below_drewN B3 _⟩, by simp [intOf]⟩
          · have hxd : decide (g.h (j + 1) < L1) = false := by simp; omega
            have E1 := Lib.hid (K2.out.trans (if_neg (fun a => hx a.2)))
            have E2 := Lib.hid (L2.out.trans (if_neg (fun a => hx a.2)))
            clear hx hp
            go_wp2_with fail
            refine (CF _).mono ?_
            rintro e w1 ⟨rfl, b1⟩
            have r1 := brow b1 rD
            have B1 := bnext BD b1 BD.size
            clear b1 rD BD CF
            go_wp2_with fail
            refine (CN _ _).mono ?_
            rintro e w2 ⟨rfl, b2⟩
            have r2 := brow b2 r1
            have B2 := bnext B1 b2 B1.size
            clear b2 r1 B1
            go_wp2_with fail
            refine (isOutside_any _ _ _ _).mono ?_
            rw [ho]
            rintro e w3 ⟨rfl, b3⟩
            have r3 := brow b3 r2
            have B3 := bnext B2 b3 B2.size
            have zz : w3.cell? ⟨w.heap.size, 2 + (j + 1), none⟩ = some (.int .i8 (g.h (j + 1))) := by rw [cell_of_rowAt r3]; exact HGH.out (j + 1) (by omega)
            have l3 := rowAt_lt r3
            clear b3 r2 B2 ho
            go_wp2_with fail
            refine ⟨⟨2, by omega, by go_num, by rw [E1.out], by rw [E2.out], r3, B3⟩, by simp [intOf]⟩
        · have ho : outB ((j : Int) + 1) 0 (g.n - 1) = true := by simp [outB]; omega
          have E1 := Lib.hid (K2.out.trans (if_neg (fun a => hp a.1)))
          have E2 := Lib.hid (L2.out.trans (if_neg (fun a => hp a.1)))
          clear hp
          go_wp2_with fail
          refine (CF _).mono ?_
          rintro e w1 ⟨rfl, b1⟩
          have r1 := brow b1 rD
          have B1 := bnext BD b1 BD.size
          clear b1 rD BD CF
          go_wp2_with fail
          refine (CN _ _).mono ?_
          rintro e w2 ⟨rfl, b2⟩
          have r2 := brow b2 r1
          have B2 := bnext B1 b2 B1.size
          clear b2 r1 B1
          go_wp2_with fail
          refine (isOutside_any _ _ _ _).mono ?_
          rw [ho]
          rintro e w3 ⟨rfl, b3⟩
          have r3 := brow b3 r2
          have B3 := bnext B2 b3 B2.size
          clear b3 r2 B2 ho
          go_wp2_with fail
          refine ⟨⟨2, by omega, by go_num, by rw [E1.out], by rw [E2.out], r3, B3⟩, by simp [intOf]⟩
      obtain rfl : k = 2 := by omega
      go_wp2_with fail
      go_ret
      exact ⟨by rw [HR.out]; rfl, BD⟩
end Go.Proofs.Ytfdoehakpeddnaa
