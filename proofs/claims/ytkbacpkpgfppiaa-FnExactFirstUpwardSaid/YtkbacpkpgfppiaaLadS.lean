/- CanReach, LadderFor: the model's side. -/
import Derived.Test.YtkbacpkpgfppiaaReach
import Derived.Test.YtkbacpkpgfppiaaGive
import Derived.Test.YtkbacpkpgfppiaaLadA
import Derived.Test.YtkbacpkpgfppiaaArgN
import Derived.Deep.RegionHeld3
namespace Go.Proofs.Ytkbacpkpgfppiaa
open Go.RowKit

/-- The first of m ladders from which place k of a list is reached, or -1. -/
def Rf.lad (r : Rf) (y : Int) (g : Nat → Int) (m : Nat) (f : Nat → Int) (k : Nat) : Int := firstI (fun q => r.can y (f (k * 2)).toNat (f (k * 2 + 1)).toNat (g q)) m
theorem Rf.lad_bd (r : Rf) (y : Int) (g : Nat → Int) (m : Nat) (f : Nat → Int) (k : Nat) : -1 ≤ r.lad y g m f k ∧ r.lad y g m f k < m := firstI_bd _ _
/-- Whether a place is not reached. -/
def Rf.miss (r : Rf) (y : Int) (g : Nat → Int) (m : Nat) (f : Nat → Int) (k : Nat) : Bool := decide (r.lad y g m f k < 0)
noncomputable def Rf.lcode (r : Rf) (g : Nat → Int) (m : Nat) (f : Nat → Int) (n : Nat) (y : Int) : Int := r.wcode g m f n (inB y 0 8)
noncomputable def Rf.canV (r : Rf) (g : Nat → Int) (m : Nat) (f : Nat → Int) (n : Nat) (y : Int) : Bool := if r.lcode g m f n y = 0 then !(anyI (r.miss y g m f) n) else false
noncomputable def Rf.ladC (r : Rf) (g : Nat → Int) (m : Nat) (f : Nat → Int) (n : Nat) (y : Int) : Int := if r.lcode g m f n y = 0 then (if anyI (r.miss y g m f) n = true then 6 else 0) else r.lcode g m f n y
noncomputable def Rf.ladN (r : Rf) (g : Nat → Int) (m : Nat) (f : Nat → Int) (n : Nat) (y : Int) : Nat := if r.ladC g m f n y = 0 then n else 0
theorem Rf.ladN_le (r : Rf) (g : Nat → Int) (m : Nat) (f : Nat → Int) (n : Nat) (y : Int) : r.ladN g m f n y ≤ n := by unfold Rf.ladN; split <;> omega
theorem Rf.lcode_in {r : Rf} {g : Nat → Int} {m : Nat} {f : Nat → Int} {n : Nat} {y : Int} (h : r.lcode g m f n y = 0) : r.Ok ∧ (0 ≤ y ∧ y ≤ 8) ∧ r.okC g m ∧ r.okP f n ∧ m ≤ 8 ∧ n ≤ 8 := by
  obtain ⟨ho, hf, hg, hp, hm, hn⟩ := Rf.wcode_zero h
  exact ⟨ho, by simpa [inB] using hf, hg, hp, hm, hn⟩
/-- A place of a list as natural numbers. -/
theorem Rf.inP_nat {r : Rf} {f : Nat → Int} {k : Nat} (ho : r.Ok) (h : r.inP f k) : ∃ i j : Nat, f (k * 2) = i ∧ f (k * 2 + 1) = j ∧ i < 8 ∧ j < 8 ∧ (f (k * 2)).toNat = i ∧ (f (k * 2 + 1)).toNat = j ∧ (i : Int) < r.h ∧ (j : Int) < r.w := by
  have h1 := ho.2.1
  have h2 := ho.2.2.2.1
  obtain ⟨a, b, c, d⟩ := h
  exact ⟨(f (k * 2)).toNat, (f (k * 2 + 1)).toNat, by omega, by omega, by omega, by omega, rfl, rfl, by omega, by omega⟩

set_option maxRecDepth 100000 in
set_option maxHeartbeats 1000000 in
theorem l04First_any (n0 B m : Nat) (c : Array Value) (r : Rf) (g : Nat → Int) (v : Value) (y : Int) (i j : Nat) (w : World) (hr : rowAt w n0 = some c) (hR : IsRoof c r) (hv : IsList w B v 1 m (fun i => .int .i64 (g i))) (hm : m ≤ 2000000) (hi : i < 8) (hj : j < 8) (hy : 0 ≤ y ∧ y ≤ 8) :
    Calls Try.prog 151 #[.pointer (some ⟨n0, 0, none⟩), v, .int .i64 y, .agg #[.int .i8 i, .int .i8 j]] w fun e w' => e = .returned (.int .i64 (firstI (fun q => r.can y i j (g q)) m)) ∧ Below w.heap.size w w' := by
  have hn0 := rowAt_lt hr
  obtain ⟨av, cv, rfl⟩ := hv.shape
  have CN := fun W x h => l04Can_any n0 c r x y i j W h hR hi hj hy
  go_enter Try.func151, Try.ntmps151
  go_wp2_with fail
  refine gen_world fun W0 hW => ?_
  have pB : Hid (Below w.heap.size w W0) := Lib.hid (by rw [hW]; exact (Below.refl _ _).alloc (Nat.le_refl _) _)
  have pX : Hid (rowAt W0 w.heap.size = some #[.int .i8 i, .int .i8 j]) := Lib.hid (by rw [hW]; exact rowAt_alloc_at _ _ _ _ rfl)
  have HR := Lib.hid (brow pB.out hr)
  have HV := Lib.hid (hv.below pB.out (Nat.le_refl _))
  clear hW hr hv
  go_loopw [9] (fun i' W => ∃ k : Nat, k ≤ m ∧ i' = .int .i64 k ∧ Hid (∀ q, q < k → r.can y i j (g q) = false) ∧ Below W0.heap.size W0 W) (fun i' _ => m - (intOf i').toNat)
  case atStart => exact ⟨0, by omega, rfl, Lib.hid (by omega), Below.refl _ _⟩
  case round =>
    obtain ⟨k, hk, rfl, hF, hB⟩ := hrel
    by_cases hlt : k < m
    · obtain ⟨gg, rfl, cc⟩ := (HV.out.below hB (Nat.le_refl _)).num hlt
      have hi0 : 0 ≤ (k : Int) := by omega
      have hi1 : (k : Int) < m := by omega
      have HB := Lib.hid hB
      have HC := Lib.hid cc
      clear hB cc
      cases hx : r.can y i j (g k) with
      | true =>
        have HX := Lib.hid hx
        go_wp2_with fail
        refine wp_region_held_drew (S := fun w' => Below wr.heap.size wr w') (by kernel_rfl) ((Below.refl _ _).drew) (fun hH => ?_)
        refine wpAnyH_take (i := 0) (v := .pointer (some ⟨n0, 0, none⟩)) rfl (by kernel_rfl) (by kernel_rfl) (by kernel_rfl) (fun _ _ _ h => h) (Or.inl ⟨by rfl, ?_⟩) hH ?_
        · intro w1 hS; (try dsimp only at hS); go_simp
        (try simp only [List.getElem_toArray]); (try simp only [List.getElem_cons_succ]); (try simp only [List.getElem_cons_zero]); (try simp only [Act.put]); (try simp only [List.setIfInBounds_toArray]); (try simp only [List.set_cons_succ]); (try simp only [List.set_cons_zero])
        refine wpAnyH_take (i := 1) (v := .slice (some ⟨gg, 0, none⟩) m cv) rfl (by kernel_rfl) (by kernel_rfl) (by kernel_rfl) (fun _ _ _ h => h) (Or.inl ⟨by rfl, ?_⟩) hH ?_
        · intro w1 hS; (try dsimp only at hS); go_simp
        (try simp only [List.getElem_toArray]); (try simp only [List.getElem_cons_succ]); (try simp only [List.getElem_cons_zero]); (try simp only [Act.put]); (try simp only [List.setIfInBounds_toArray]); (try simp only [List.set_cons_succ]); (try simp only [List.set_cons_zero])
        refine wpAnyH_take (i := 2) (v := .int .i64 k) rfl (by kernel_rfl) (by kernel_rfl) (by kernel_rfl) (fun _ _ _ h => h) (Or.inl ⟨by rfl, ?_⟩) hH ?_
        · intro w1 hS; (try dsimp only at hS); go_simp
        (try simp only [List.getElem_toArray]); (try simp only [List.getElem_cons_succ]); (try simp only [List.getElem_cons_zero]); (try simp only [Act.put]); (try simp only [List.setIfInBounds_toArray]); (try simp only [List.set_cons_succ]); (try simp only [List.set_cons_zero])
        refine wpAnyH_take (i := 3) (v := .pointer (some ⟨gg, k, none⟩)) rfl (by kernel_rfl) (by kernel_rfl) (by kernel_rfl) (fun _ _ _ h => h) (Or.inl ⟨by rfl, ?_⟩) hH ?_
        · intro w1 hS; (try dsimp only at hS); go_simp
        (try simp only [List.getElem_toArray]); (try simp only [List.getElem_cons_succ]); (try simp only [List.getElem_cons_zero]); (try simp only [Act.put]); (try simp only [List.setIfInBounds_toArray]); (try simp only [List.set_cons_succ]); (try simp only [List.set_cons_zero])
        refine wpAnyH_take (i := 4) (v := .int .i64 (g k)) rfl (by kernel_rfl) (by kernel_rfl) (by kernel_rfl) (fun _ _ _ h => h) (Or.inl ⟨by rfl, ?_⟩) hH ?_
        · intro w1 hS; (try dsimp only at hS); have cc := (IsList.num (HV.out.below (bnext HB.out hS HB.out.size) (Nat.le_refl _)) hlt); have sx := brow hS (brow HB.out pX.out); have x0 := cell_of_rowAt sx 0; have x1 := cell_of_rowAt sx 1; obtain ⟨gg2, eg2, cc2⟩ := cc; cases eg2; clear sx; go_simp
        (try simp only [List.getElem_toArray]); (try simp only [List.getElem_cons_succ]); (try simp only [List.getElem_cons_zero]); (try simp only [Act.put]); (try simp only [List.setIfInBounds_toArray]); (try simp only [List.set_cons_succ]); (try simp only [List.set_cons_zero])
        refine wpAnyH_take (i := 5) (v := .int .i64 y) rfl (by kernel_rfl) (by kernel_rfl) (by kernel_rfl) (fun _ _ _ h => h) (Or.inl ⟨by rfl, ?_⟩) hH ?_
        · intro w1 hS; (try dsimp only at hS); go_simp
        (try simp only [List.getElem_toArray]); (try simp only [List.getElem_cons_succ]); (try simp only [List.getElem_cons_zero]); (try simp only [Act.put]); (try simp only [List.setIfInBounds_toArray]); (try simp only [List.set_cons_succ]); (try simp only [List.set_cons_zero])
        refine wpAnyH_take (i := 6) (v := .agg #[.int .i8 i, .int .i8 j]) rfl (by kernel_rfl) (by kernel_rfl) (by kernel_rfl) (fun _ _ _ h => h) (Or.inl ⟨by rfl, ?_⟩) hH ?_
        · intro w1 hS; (try dsimp only at hS); have cc := (IsList.num (HV.out.below (bnext HB.out hS HB.out.size) (Nat.le_refl _)) hlt); have sx := brow hS (brow HB.out pX.out); have x0 := cell_of_rowAt sx 0; have x1 := cell_of_rowAt sx 1; obtain ⟨gg2, eg2, cc2⟩ := cc; cases eg2; clear sx; go_simp
        (try simp only [List.getElem_toArray]); (try simp only [List.getElem_cons_succ]); (try simp only [List.getElem_cons_zero]); (try simp only [Act.put]); (try simp only [List.setIfInBounds_toArray]); (try simp only [List.set_cons_succ]); (try simp only [List.set_cons_zero])
        refine wpAnyH_ready (rs := [7]) (by kernel_rfl) (by simp) (AllReadyH.cons rfl (fun K hK => ?_) AllReadyH.nil)
        go_simp
        refine (CN _ (g k) (brow hH (brow HB.out HR.out))).mono ?_
        rintro x wx ⟨rfl, bx⟩
        rw [hx]
        go_simp
        refine hK.out _ _ (bnext hH bx hH.size) (fun hG => ?_)
        clear hK K hH bx
        replace hH := hG
        clear hG
        (try simp only [List.getElem_toArray]); (try simp only [List.getElem_cons_succ]); (try simp only [List.getElem_cons_zero]); (try simp only [Act.put]); (try simp only [List.setIfInBounds_toArray]); (try simp only [List.set_cons_succ]); (try simp only [List.set_cons_zero])
        refine wpAnyH_done (by kernel_rfl) ?_ _
        have hB2 := Lib.hid (bnext pB.out (bnext HB.out hH HB.out.size) pB.out.size)
        clear hH hx
        go_wp2_with fail
        go_ret
        exact ⟨by rw [firstI_hit hlt hF.out HX.out]; rfl, hB2.out⟩
      | false =>
        have HX := Lib.hid hx
        go_wp2_with fail
        refine wp_region_held_drew (S := fun w' => Below wr.heap.size wr w') (by kernel_rfl) ((Below.refl _ _).drew) (fun hH => ?_)
        refine wpAnyH_take (i := 0) (v := .pointer (some ⟨n0, 0, none⟩)) rfl (by kernel_rfl) (by kernel_rfl) (by kernel_rfl) (fun _ _ _ h => h) (Or.inl ⟨by rfl, ?_⟩) hH ?_
        · intro w1 hS; (try dsimp only at hS); go_simp
        (try simp only [List.getElem_toArray]); (try simp only [List.getElem_cons_succ]); (try simp only [List.getElem_cons_zero]); (try simp only [Act.put]); (try simp only [List.setIfInBounds_toArray]); (try simp only [List.set_cons_succ]); (try simp only [List.set_cons_zero])
        refine wpAnyH_take (i := 1) (v := .slice (some ⟨gg, 0, none⟩) m cv) rfl (by kernel_rfl) (by kernel_rfl) (by kernel_rfl) (fun _ _ _ h => h) (Or.inl ⟨by rfl, ?_⟩) hH ?_
        · intro w1 hS; (try dsimp only at hS); go_simp
        (try simp only [List.getElem_toArray]); (try simp only [List.getElem_cons_succ]); (try simp only [List.getElem_cons_zero]); (try simp only [Act.put]); (try simp only [List.setIfInBounds_toArray]); (try simp only [List.set_cons_succ]); (try simp only [List.set_cons_zero])
        refine wpAnyH_take (i := 2) (v := .int .i64 k) rfl (by kernel_rfl) (by kernel_rfl) (by kernel_rfl) (fun _ _ _ h => h) (Or.inl ⟨by rfl, ?_⟩) hH ?_
        · intro w1 hS; (try dsimp only at hS); go_simp
        (try simp only [List.getElem_toArray]); (try simp only [List.getElem_cons_succ]); (try simp only [List.getElem_cons_zero]); (try simp only [Act.put]); (try simp only [List.setIfInBounds_toArray]); (try simp only [List.set_cons_succ]); (try simp only [List.set_cons_zero])
        refine wpAnyH_take (i := 3) (v := .pointer (some ⟨gg, k, none⟩)) rfl (by kernel_rfl) (by kernel_rfl) (by kernel_rfl) (fun _ _ _ h => h) (Or.inl ⟨by rfl, ?_⟩) hH ?_
        · intro w1 hS; (try dsimp only at hS); go_simp
        (try simp only [List.getElem_toArray]); (try simp only [List.getElem_cons_succ]); (try simp only [List.getElem_cons_zero]); (try simp only [Act.put]); (try simp only [List.setIfInBounds_toArray]); (try simp only [List.set_cons_succ]); (try simp only [List.set_cons_zero])
        refine wpAnyH_take (i := 4) (v := .int .i64 (g k)) rfl (by kernel_rfl) (by kernel_rfl) (by kernel_rfl) (fun _ _ _ h => h) (Or.inl ⟨by rfl, ?_⟩) hH ?_
        · intro w1 hS; (try dsimp only at hS); have cc := (IsList.num (HV.out.below (bnext HB.out hS HB.out.size) (Nat.le_refl _)) hlt); have sx := brow hS (brow HB.out pX.out); have x0 := cell_of_rowAt sx 0; have x1 := cell_of_rowAt sx 1; obtain ⟨gg2, eg2, cc2⟩ := cc; cases eg2; clear sx; go_simp
        (try simp only [List.getElem_toArray]); (try simp only [List.getElem_cons_succ]); (try simp only [List.getElem_cons_zero]); (try simp only [Act.put]); (try simp only [List.setIfInBounds_toArray]); (try simp only [List.set_cons_succ]); (try simp only [List.set_cons_zero])
        refine wpAnyH_take (i := 5) (v := .int .i64 y) rfl (by kernel_rfl) (by kernel_rfl) (by kernel_rfl) (fun _ _ _ h => h) (Or.inl ⟨by rfl, ?_⟩) hH ?_
        · intro w1 hS; (try dsimp only at hS); go_simp
        (try simp only [List.getElem_toArray]); (try simp only [List.getElem_cons_succ]); (try simp only [List.getElem_cons_zero]); (try simp only [Act.put]); (try simp only [List.setIfInBounds_toArray]); (try simp only [List.set_cons_succ]); (try simp only [List.set_cons_zero])
        refine wpAnyH_take (i := 6) (v := .agg #[.int .i8 i, .int .i8 j]) rfl (by kernel_rfl) (by kernel_rfl) (by kernel_rfl) (fun _ _ _ h => h) (Or.inl ⟨by rfl, ?_⟩) hH ?_
        · intro w1 hS; (try dsimp only at hS); have cc := (IsList.num (HV.out.below (bnext HB.out hS HB.out.size) (Nat.le_refl _)) hlt); have sx := brow hS (brow HB.out pX.out); have x0 := cell_of_rowAt sx 0; have x1 := cell_of_rowAt sx 1; obtain ⟨gg2, eg2, cc2⟩ := cc; cases eg2; clear sx; go_simp
        (try simp only [List.getElem_toArray]); (try simp only [List.getElem_cons_succ]); (try simp only [List.getElem_cons_zero]); (try simp only [Act.put]); (try simp only [List.setIfInBounds_toArray]); (try simp only [List.set_cons_succ]); (try simp only [List.set_cons_zero])
        refine wpAnyH_ready (rs := [7]) (by kernel_rfl) (by simp) (AllReadyH.cons rfl (fun K hK => ?_) AllReadyH.nil)
        go_simp
        refine (CN _ (g k) (brow hH (brow HB.out HR.out))).mono ?_
        rintro x wx ⟨rfl, bx⟩
        rw [hx]
        go_simp
        refine hK.out _ _ (bnext hH bx hH.size) (fun hG => ?_)
        clear hK K hH bx
        replace hH := hG
        clear hG
        (try simp only [List.getElem_toArray]); (try simp only [List.getElem_cons_succ]); (try simp only [List.getElem_cons_zero]); (try simp only [Act.put]); (try simp only [List.setIfInBounds_toArray]); (try simp only [List.set_cons_succ]); (try simp only [List.set_cons_zero])
        refine wpAnyH_done (by kernel_rfl) ?_ _
        have hB2 := Lib.hid (bnext HB.out hH HB.out.size)
        clear hH hx
        go_wp2_with fail
        refine ⟨⟨k + 1, by omega, by go_num, Lib.hid (fun q hq => ?_), hB2.out⟩, by simp [intOf]; omega⟩
        by_cases e : q = k
        · subst e; exact HX.out
        · exact hF.out q (by omega)
    · obtain rfl : k = m := by omega
      go_wp2_with fail
      go_ret
      exact ⟨by rw [firstI_miss hF.out]; rfl, pB.out.trans (hB.mono pB.out.size)⟩

set_option maxRecDepth 100000 in
set_option maxHeartbeats 1000000 in
theorem l04All_any (n0 B1 B2 m n : Nat) (c : Array Value) (r : Rf) (g f : Nat → Int) (v1 v2 : Value) (y : Int) (w : World) (hr : rowAt w n0 = some c) (hR : IsRoof c r) (ho : r.Ok) (hv1 : IsList w B1 v1 1 m (fun i => .int .i64 (g i))) (hm : m ≤ 2000000) (hv2 : IsList w B2 v2 2 n (fun i => .int .i8 (f i))) (hn : n ≤ 2000000) (hp : r.okP f n) (hy : 0 ≤ y ∧ y ≤ 8) :
    Calls Try.prog 107 #[.pointer (some ⟨n0, 0, none⟩), v1, .int .i64 y, v2] w fun e w' => e = .returned (.bool (!(anyI (r.miss y g m f) n))) ∧ Below w.heap.size w w' := by
  obtain ⟨a1, c1, rfl⟩ := hv1.shape
  obtain ⟨a2, c2, rfl⟩ := hv2.shape
  have HR := Lib.hid hr
  have HV1 := Lib.hid hv1
  have HV2 := Lib.hid hv2
  have HP := Lib.hid hp
  clear hr hv1 hv2 hp
  go_enter Try.func107, Try.ntmps107
  go_wp2_with fail
  go_loopw [9] (fun i' W => ∃ k : Nat, k ≤ n ∧ i' = .int .i64 k ∧ Hid (∀ q, q < k → r.miss y g m f q = false) ∧ Below w.heap.size w W) (fun i' _ => n - (intOf i').toNat)
  case atStart => exact ⟨0, by omega, rfl, Lib.hid (by omega), Below.refl _ _⟩
  case round =>
    obtain ⟨k, hk, rfl, hF, hB⟩ := hrel
    by_cases hlt : k < n
    · obtain ⟨gg, rfl, k0, k1⟩ := (HV2.out.below hB (Nat.le_refl _)).pl hlt
      obtain ⟨i, j, e0, e1, i8, j8, t0, t1, _, _⟩ := Rf.inP_nat ho (HP.out k hlt)
      rw [e0] at k0
      rw [e1] at k1
      have hi0 : 0 ≤ (k : Int) := by omega
      have hi1 : (k : Int) < n := by omega
      have CF := l04First_any n0 B1 m c r g (.slice a1 m c1) y i j wr (brow hB HR.out) hR (HV1.out.below hB (Nat.le_refl _)) hm i8 j8 hy
      have hz : firstI (fun q => r.can y i j (g q)) m = r.lad y g m f k := by unfold Rf.lad; rw [t0, t1]
      rw [hz] at CF
      have HB := Lib.hid hB
      clear hB e0 e1 t0 t1 hz
      by_cases hx : r.lad y g m f k < 0
      · have HX : Hid (r.miss y g m f k = true) := Lib.hid (by simp [Rf.miss, hx])
        go_wp2_with fail
        refine CF.mono ?_
        rintro e w2 ⟨rfl, b2⟩
        have hB2 := Lib.hid (bnext HB.out b2 HB.out.size)
        clear b2 k0 k1
        go_wp2_with fail
        go_ret
        have HV : (!(anyI (r.miss y g m f) n)) = false := by unfold anyI; rw [firstI_hit hlt hF.out HX.out]; simp
        exact ⟨by rw [HV]; rfl, hB2.out⟩
      · have HX : Hid (r.miss y g m f k = false) := Lib.hid (by simp [Rf.miss]; omega)
        go_wp2_with fail
        refine CF.mono ?_
        rintro e w2 ⟨rfl, b2⟩
        have hB2 := Lib.hid (bnext HB.out b2 HB.out.size)
        clear b2 k0 k1
        go_wp2_with fail
        refine ⟨⟨k + 1, by omega, by go_num, Lib.hid (fun q hq => ?_), hB2.out⟩, by simp [intOf]; omega⟩
        by_cases e : q = k
        · subst e; exact HX.out
        · exact hF.out q (by omega)
    · obtain rfl : k = n := by omega
      go_wp2_with fail
      go_ret
      exact ⟨by rw [anyI_f.2 hF.out]; rfl, hB⟩
end Go.Proofs.Ytkbacpkpgfppiaa
