/- Pipes copied, and gutters without leaves in a cell. -/
import Derived.Test.YtlkmdoccnbnacaaFew
import Derived.Test.YtlkmdoccnbnacaaGrowX
import Derived.Test.YtlkmdoccnbnacaaEnd
import Derived.Lib.SliceRun
namespace Go.Proofs.Ytlkmdoccnbnacaa
open Go.RowKit

def pipesV (f : Nat → Int) (n : Nat) : List Value := (List.range (n * 2)).map (pipeV f)
theorem pipesV_len (f : Nat → Int) (n : Nat) : (pipesV f n).length = n * 2 := by simp [pipesV]
theorem pipesV_get {f : Nat → Int} {n i : Nat} (h : i < n * 2) : (pipesV f n).getD i undef = pipeV f i := by
  rw [List.getD_eq_getElem?_getD, pipesV, List.getElem?_map, List.getElem?_range h]; rfl
theorem pipesV_one (f : Nat → Int) (n : Nat) : ∀ u ∈ pipesV f n, u.oneCell' = true := by
  intro u hu
  simp only [pipesV, List.mem_map] at hu
  obtain ⟨i, _, rfl⟩ := hu
  unfold pipeV
  split <;> rfl
theorem IsList.news {w : World} {b n : Nat} {v : Value} {f : Nat → Int} (h : IsList w b v 2 n (pipeV f)) : IsList w b v 2 n (fun j => (pipesV f n).getD j undef) := by
  rcases h with h | ⟨g, cap, cur, rfl, hg, hr, hs, hf⟩
  · exact .inl h
  · exact .inr ⟨g, cap, cur, rfl, hg, hr, hs, fun i hi => by rw [hf i hi]; exact congrArg some (pipesV_get (by omega)).symm⟩
theorem IsList.of_pipesV {w : World} {base n : Nat} {e : TypeId} {v : Value} {f : Nat → Int} (h : w.ownsRow base e 2 v n (pipesV f n)) : IsList w base v 2 n (pipeV f) := by
  obtain ⟨hl, h | ⟨g, cap, cur, rfl, hg, hh, hn, hm, hs, ht⟩⟩ := h
  · exact .inl ⟨h.2, none, 0, by rw [h.1]⟩
  · refine .inr ⟨g, cap, cur, rfl, hg, rowAt_of_heap hh, by have := Nat.mul_le_mul_right 2 hn; omega, fun i hi => ?_⟩
    have h1 : cur[i]? = (cur.toList.take (n * 2))[i]? := by rw [List.getElem?_take, if_pos (by omega), Array.getElem?_toList]
    rw [h1, ht, pipesV, List.getElem?_map, List.getElem?_range (by omega)]; rfl

set_option maxRecDepth 100000 in
set_option maxHeartbeats 1000000 in
theorem clonePp_any (b n : Nat) (v : Value) (f : Nat → Int) (w : World) (hv : IsList w b v 2 n (pipeV f)) (hn : n ≤ 2000000) :
    Calls Try.prog 99 #[v] w fun e w' => ∃ a cap, e = .returned (.slice a n cap) ∧ IsList w' w.heap.size (.slice a n cap) 2 n (pipeV f) ∧ Below w.heap.size w w' := by
  obtain ⟨i0, hi0, hz0, hz1, hz2⟩ := info_parts A_infoPp
  have HV := Lib.hid hv
  obtain ⟨a, cap, rfl⟩ := hv.shape
  have hnil := fun W : World => Lib.run_eql_slice_nil (P := Try.prog) W 31 77 a n cap 0 0 Try.underlying31
  have own : (w.alloc (.cells #[] 77)).ownsRow w.heap.size 77 2 (.slice (some ⟨w.heap.size, 0, none⟩) 0 0) 0 [] := owns_empty w 77 2
  have hl1 : IsList (w.alloc (.cells #[] 77)) b (.slice a n cap) 2 n (fun j => (pipesV f n).getD j undef) := (hv.below ((Below.refl _ _).alloc (Nat.le_refl _) _) (Nat.le_refl _)).news
  cases a with
  | none =>
    have h0 : n = 0 := by
      rcases hv with ⟨h, _⟩ | ⟨g, cap', cur, h, _⟩
      · exact h
      · cases h
    subst h0
    simp only [Option.isNone_none] at hnil
    clear hv own hl1
    go_enter Try.func99, Try.ntmps99
    go_wp2_with fail
    go_ret
    exact ⟨none, 0, rfl, .inl ⟨rfl, _, _, rfl⟩, Below.refl _ _⟩
  | some a =>
    simp only [Option.isNone_some] at hnil
    have HL := Lib.hid hl1
    have HO := Lib.hid own
    clear hv own hl1
    go_enter Try.func99, Try.ntmps99
    go_wp2_with (at_builtin; refine wpList_append_list rfl _ _ 31 rfl w.heap.size b 77 i0 (.agg #[.int .i8 0, .int .i16 0]) 2 4 Try.underlying31 hi0 hz0 hz1 hz2 rfl (by decide) _ _ _ rfl HO.out _ n (pipesV f n) rfl HL.out (pipesV_len f n) (pipesV_one f n) (by unfold maxLen; omega) (by omega) (by simp) ?_; intro v3 w3 own3 grow3)
    have B3 : Below w.heap.size w w3 := ((Below.refl w.heap.size w).alloc (Nat.le_refl _) _).grown grow3 (by simp) (by intro x hx; cases hx; exact Nat.le_refl _)
    rw [Nat.zero_add, List.nil_append] at own3
    have hl := IsList.of_pipesV own3
    obtain ⟨a3, cap3, rfl⟩ := hl.shape
    clear own3 grow3
    go_wp2_with fail
    go_ret
    exact ⟨a3, cap3, rfl, hl, B3⟩

theorem grown3 {w w3 : World} {z c : Array Value} {t1 t2 t3 : TypeId} (h : (((w.alloc (.cells z t1)).alloc (.cells c t2)).alloc (.cells #[] t3)).grownBy w3 (some (w.heap.size + 1 + 1))) :
    rowAt w3 w.heap.size = some z ∧ rowAt w3 (w.heap.size + 1) = some c ∧ Below w.heap.size w w3 := by
  refine ⟨rowAt_grown h ((rowAt_alloc_past _ _ _ (by simp; omega)).trans ((rowAt_alloc_past _ _ _ (by simp)).trans (rowAt_alloc_at _ _ _ _ rfl))) (by simp; omega), rowAt_grown h ((rowAt_alloc_past _ _ _ (by simp)).trans (rowAt_alloc_at _ _ _ _ (by simp))) (by simp), ?_⟩
  exact ((((Below.refl _ _).alloc (Nat.le_refl _) _).alloc (by simp) _).alloc (by simp; omega) _).grown h (by simp; omega) (by intro x hx; cases hx; omega)
theorem own_at {W : World} {n : Nat} {e : TypeId} {size : Nat} (h : W.heap.size = n) : (W.alloc (.cells #[] e)).ownsRow n e size (.slice (some ⟨n, 0, none⟩) 0 0) 0 [] := by subst h; exact owns_empty W e size
set_option maxRecDepth 100000 in
set_option maxHeartbeats 2000000 in
theorem l06Own_any (k b : Nat) (c : Array Value) (g : Gt) (v : Value) (w : World) (hA : GutAt w k c g v b) (hm : g.m ≤ 2000000) :
    Calls Try.prog 80 #[.pointer (some ⟨k, 0, none⟩)] w fun e w' => ∃ a cap, e = .returned (.agg (setP c (.slice a g.m cap))) ∧ IsList w' w.heap.size (.slice a g.m cap) 2 g.m (pipeV g.p) ∧ Below w.heap.size w w' := by
  obtain ⟨i0, hi0, hz0, hz1, hz2⟩ := info_parts A_infoPp
  have HA := Lib.hid hA
  have hr := hA.row
  have hc := hA.is.size
  have ho := hA.is.ones
  have hlt := hA.lt
  obtain ⟨a, cap, rfl⟩ := hA.pipes.shape
  have z20 : w.cell? ⟨k, 20, none⟩ = some (.slice a g.m cap) := by rw [cell_of_rowAt hr]; exact hA.is.getP
  have hlt1 : k < w.heap.size + 1 := by omega
  have hlt2 : k < w.heap.size + 1 + 1 := by omega
  have hl0 : w.heap.size ≠ k := by omega
  have hl1 : w.heap.size + 1 ≠ k := by omega
  have hl2 : w.heap.size + 1 + 1 ≠ k := by omega
  clear hA
  go_enter Try.func80, Try.ntmps80
  go_wp2_with (at_builtin; refine wpList_append_list rfl _ _ 31 rfl (w.heap.size + 1 + 1) b 77 i0 (.agg #[.int .i8 0, .int .i16 0]) 2 4 Try.underlying31 hi0 hz0 hz1 hz2 rfl (by decide) _ _ _ rfl (own_at (by simp)) _ g.m (pipesV g.p g.m) rfl (HA.out.pipes.below ((((Below.refl _ _).alloc (Nat.le_refl _) _).alloc (by simp) _).alloc (by simp; omega) _) (Nat.le_refl _)).news (pipesV_len g.p g.m) (pipesV_one g.p g.m) (by unfold maxLen; omega) (by omega) (by simp) ?_)
  intro v3 w3 own3 grow3
  obtain ⟨g0, g1, gB⟩ := grown3 grow3
  clear grow3
  try rw [Nat.zero_add] at own3
  try rw [List.nil_append] at own3
  have hl3 := IsList.of_pipesV own3
  clear own3
  obtain ⟨a3, cap3, rfl⟩ := hl3.shape
  have cl1 := cell_of_rowAt g1
  have f1 := frozen_of_rowAt g1
  have x20 : w3.cell? ⟨w.heap.size + 1, 20, none⟩ = some (c[20]'(by omega)) := by rw [cl1, Array.getElem?_eq_getElem]
  clear cl1
  have lt1 := rowAt_lt g1
  have lt0 := rowAt_lt g0
  have hso : Ones (c.setIfInBounds 20 (.slice a3 g.m cap3)) := (HA.out.is.setP' a3 cap3).ones
  have hss : (c.setIfInBounds 20 (.slice a3 g.m cap3)).size = 21 := by simpa using hc
  have ne01 : w.heap.size ≠ w.heap.size + 1 := by omega
  repeat go_step
  refine bodyPost_ret (v := .agg (setP c (.slice a3 g.m cap3))) (results_row1 rfl _ _ w.heap.size _ rfl (rowAt_setRow_at _ _ _ (by rw [rowAt_setCell_ne _ _ _ _ _ ne01, g0]; rfl)) Try.underlying33 rfl (by kernel_rfl) hss) rfl ⟨a3, cap3, rfl, ?_, below_setRow (gB.setCell (p := ⟨_, _, none⟩) (by simp) _) (Nat.le_refl _) _⟩
  rcases hl3 with h | ⟨gb, cc, cur, e, hg, hr, hs, hf⟩
  · exact .inl h
  · refine .inr ⟨gb, cc, cur, e, by omega, ?_, hs, hf⟩
    rw [rowAt_setRow_ne _ _ _ _ (by omega), rowAt_setCell_ne _ _ _ _ _ (by omega)]
    exact hr

theorem bits_u32 (op : BinOp) (x y : Int) : 0 ≤ bits op .u32 x y ∧ bits op .u32 x y ≤ 4294967295 := by
  unfold bits IntKind.wrap
  simp only [IntKind.bits, IntKind.signed, Bool.false_and, Bool.false_eq_true, if_false]
  omega
/-- The gutter without leaves in a cell. -/
def Gt.clrL (g : Gt) (j : Nat) : Int := bits .andNot .u32 g.l (IntKind.u32.wrap (2 ^ j))
def Gt.clr (g : Gt) (j : Nat) : Gt := { g with l := g.clrL j }
theorem Gt.clr_m (g : Gt) (j : Nat) : (g.clr j).m = g.m := rfl
theorem Gt.clr_p (g : Gt) (j : Nat) : (g.clr j).p = g.p := rfl
theorem IsGut.clr {c : Array Value} {g : Gt} {v : Value} (h : IsGut c g v) (j : Nat) : IsGut (c.setIfInBounds 19 (.int .u32 (g.clrL j))) (g.clr j) v := by
  have hs := h.size
  refine IsGut.of_get (by simpa using hs) ?_ ?_ (fun i hi => ?_) ?_ ?_ ⟨h.n0, h.n1⟩ ⟨h.d0, h.d1⟩ (fun i hi => ⟨h.h0 i hi, h.h1 i hi⟩) (show 0 ≤ g.clrL j ∧ g.clrL j ≤ 4294967295 from bits_u32 _ _ _) h.p0 h.vs
  · rw [Array.getElem?_setIfInBounds_ne (by omega)]; exact h.get0
  · rw [Array.getElem?_setIfInBounds_ne (by omega)]; exact h.get1
  · rw [Array.getElem?_setIfInBounds_ne (by omega)]; exact h.getH hi
  · rw [Array.getElem?_setIfInBounds_self_of_lt (by omega)]; rfl
  · rw [Array.getElem?_setIfInBounds_ne (by omega)]; exact h.getP

set_option maxRecDepth 100000 in
set_option maxHeartbeats 2000000 in
theorem cleaned_any (b : Nat) (c : Array Value) (g : Gt) (v : Value) (j : Nat) (w : World) (hG : IsGut c g v) (hv : IsList w b v 2 g.m (pipeV g.p)) (hj : j < 32) (hm : g.m ≤ 2000000) :
    Calls Try.prog 82 #[.agg c, .int .i64 j] w fun e w' => ∃ a cap, e = .returned (.agg (setP (c.setIfInBounds 19 (.int .u32 (g.clrL j))) (.slice a g.m cap))) ∧ IsList w' w.heap.size (.slice a g.m cap) 2 g.m (pipeV g.p) ∧ Below w.heap.size w w' := by
  have HG := Lib.hid hG
  have hc := hG.size
  have ho := hG.ones
  have k19 := hG.leaves
  have l0 := hG.l0
  have l1 := hG.l1
  have j0 : 0 ≤ (j : Int) := by omega
  have jn : (j : Int).toNat = j := by omega
  clear hG
  go_enter Try.func82, Try.ntmps82
  go_wp2_with fail
  refine gen_world fun W hW => ?_
  have q0 : rowAt W w.heap.size = some c := by rw [hW]; exact (rowAt_alloc_past _ _ _ (by simp)).trans (rowAt_alloc_at _ _ _ _ rfl)
  obtain ⟨z, q1, hz⟩ : ∃ z : Array Value, rowAt W (w.heap.size + 1) = some z ∧ z.size = 21 := by rw [hW]; exact ⟨_, rowAt_alloc_at _ _ _ _ (by simp), by simp⟩
  have B0 : Below w.heap.size w W := by rw [hW]; exact ((Below.refl _ _).alloc (Nat.le_refl _) _).alloc (by simp) _
  clear hW
  obtain ⟨a, cap, rfl⟩ := hv.shape
  have z20 : W.cell? ⟨w.heap.size, 20, none⟩ = some (.slice a g.m cap) := by rw [cell_of_rowAt q0]; exact HG.out.getP
  have z19 : W.cell? ⟨w.heap.size, 19, none⟩ = some (.int .u32 g.l) := by rw [cell_of_rowAt q0, Array.getElem?_eq_getElem (by omega), k19]
  have f0 := frozen_of_rowAt q0
  have lt0 := rowAt_lt q0
  go_still_tail 6, (by kernel_rfl)
  change wpList _ _ _ _ _ W.drew
  repeat go_step
  refine gen_callsW fun W1 hW1 => ?_
  have p0 : rowAt W1 w.heap.size = some (c.setIfInBounds 19 (.int .u32 (g.clrL j))) := by
    rw [hW1]
    have := rowAt_setCell_at W w.heap.size 19 (.int .u32 (g.clrL j)) (by rw [q0]; rfl)
    rw [q0, Option.getD_some] at this
    exact this
  have p1 : rowAt W1 (w.heap.size + 1) = some z := by rw [hW1]; exact (rowAt_setCell_ne _ _ _ _ _ (by omega)).trans q1
  have PB : Below w.heap.size w W1 := by rw [hW1]; exact (B0.setCell (p := ⟨w.heap.size, 19, none⟩) (Nat.le_refl _) _).drew
  have HC := Lib.hid (HG.out.clr j)
  have hc1 : (c.setIfInBounds 19 (.int .u32 (g.clrL j))).size = 21 := by simpa using hc
  clear hW1 q0 q1 B0 z19 z20 f0 lt0 k19
  obtain ⟨c1, hX⟩ : ∃ c1, c.setIfInBounds 19 (.int .u32 (g.clrL j)) = c1 := ⟨_, rfl⟩
  rw [hX] at p0 HC hc1
  have HX := Lib.hid hX
  clear hX
  refine (clonePp_any b g.m _ g.p W1 (hv.below PB (Nat.le_refl _)) hm).mono ?_
  rintro e w2 ⟨a2, cap2, rfl, l2, b2⟩
  have s0 := brow b2 p0
  have s1 := brow b2 p1
  have SB := bnext PB b2 PB.size
  have x20 : w2.cell? ⟨w.heap.size, 20, none⟩ = some (c1[20]'(by omega)) := by rw [cell_of_rowAt s0, Array.getElem?_eq_getElem]
  have f1 := frozen_of_rowAt s0
  have lt1 := rowAt_lt s1
  have lt0 := rowAt_lt s0
  have hso : Ones (c1.setIfInBounds 20 (.slice a2 g.m cap2)) := (HC.out.setP' a2 cap2).ones
  have hss : (c1.setIfInBounds 20 (.slice a2 g.m cap2)).size = 21 := by simpa using hc1
  have ne01 : w.heap.size + 1 ≠ w.heap.size := by omega
  have HL := Lib.hid l2
  have lt2 : w.heap.size + 1 < W1.heap.size := rowAt_lt p1
  have HLT := Lib.hid lt2
  clear b2 p0 p1 PB l2 lt2
  go_wp2_with fail
  refine bodyPost_ret (v := .agg (setP c1 (.slice a2 g.m cap2))) (results_row1 rfl _ _ (w.heap.size + 1) _ rfl (rowAt_setRow_at _ _ _ (by rw [rowAt_setCell_ne _ _ _ _ _ ne01, s1]; rfl)) Try.underlying33 rfl (by kernel_rfl) hss) rfl ⟨a2, cap2, by rw [HX.out], ?_, below_setRow (SB.setCell (p := ⟨_, _, none⟩) (Nat.le_refl _) _) (by omega) _⟩
  have hB2 := HLT.out
  rcases HL.out with h | ⟨gb, cc, cur, e, hg, hr, hs, hf⟩
  · exact .inl h
  · refine .inr ⟨gb, cc, cur, e, by omega, ?_, hs, hf⟩
    rw [rowAt_setRow_ne _ _ _ _ (by omega), rowAt_setCell_ne _ _ _ _ _ (by omega)]
    exact hr

/-- The gutter of nothing. -/
def Gt.zero : Gt := ⟨0, 0, fun _ => 0, 0, 0, fun _ => 0⟩
def zeroG : Array Value := #[.int .i8 0, .int .i16 0, .int .i8 0, .int .i8 0, .int .i8 0, .int .i8 0, .int .i8 0, .int .i8 0, .int .i8 0, .int .i8 0, .int .i8 0, .int .i8 0, .int .i8 0, .int .i8 0, .int .i8 0, .int .i8 0, .int .i8 0, .int .i8 0, .int .i8 0, .int .u32 0, .slice none 0 0]
theorem isGut_zero : IsGut zeroG Gt.zero (.slice none 0 0) := by
  refine IsGut.of_get rfl rfl rfl (fun i hi => ?_) rfl rfl ⟨by decide, by decide⟩ ⟨by decide, by decide⟩ (fun i hi => ⟨by show (-128 : Int) ≤ 0; omega, by show (0 : Int) ≤ 127; omega⟩) ⟨by decide, by decide⟩ (fun i hi => absurd hi (Nat.not_lt_zero i)) ⟨_, _, rfl⟩
  match i with
  | 0 => rfl
  | 1 => rfl
  | 2 => rfl
  | 3 => rfl
  | 4 => rfl
  | 5 => rfl
  | 6 => rfl
  | 7 => rfl
  | 8 => rfl
  | 9 => rfl
  | 10 => rfl
  | 11 => rfl
  | 12 => rfl
  | 13 => rfl
  | 14 => rfl
  | 15 => rfl
  | 16 => rfl
  | n + 17 => omega
/-- The answer of CleanLeaf. -/
noncomputable def Gt.clG (g : Gt) (y : Int) : Gt := if g.ask (inB y 0 (g.n - 1)) = 0 ∧ g.leaf y.toNat = true then g.clr y.toNat else Gt.zero
noncomputable def Gt.clC (g : Gt) (y : Int) : Int := if g.ask (inB y 0 (g.n - 1)) = 0 then (if g.leaf y.toNat = true then 0 else 4) else g.ask (inB y 0 (g.n - 1))
theorem Gt.clG_le (g : Gt) (y : Int) (h : g.m ≤ 2000000) : (g.clG y).m ≤ 2000000 := by
  unfold Gt.clG
  split
  · exact h
  · exact Nat.zero_le _
theorem Gt.cl_a {g : Gt} {y : Int} (h : g.ask (inB y 0 (g.n - 1)) ≠ 0) : g.clG y = Gt.zero ∧ g.clC y = g.ask (inB y 0 (g.n - 1)) := ⟨if_neg fun x => h x.1, if_neg h⟩
theorem Gt.cl_b {g : Gt} {y : Int} (h : g.ask (inB y 0 (g.n - 1)) = 0) (k : g.leaf y.toNat = false) : g.clG y = Gt.zero ∧ g.clC y = 4 := ⟨if_neg (fun x => by rw [k] at x; cases x.2), by unfold Gt.clC; rw [if_pos h, k]; rfl⟩
theorem Gt.cl_c {g : Gt} {y : Int} (h : g.ask (inB y 0 (g.n - 1)) = 0) (k : g.leaf y.toNat = true) : g.clG y = g.clr y.toNat ∧ g.clC y = 0 := ⟨if_pos (And.intro h k), by unfold Gt.clC; rw [if_pos h, k]; rfl⟩
set_option maxRecDepth 100000 in
set_option maxHeartbeats 4000000 in
theorem specCleanLeaf_any (b : Nat) (c : Array Value) (g : Gt) (v : Value) (y : Int) (w : World) (hG : IsGut c g v) (hv : IsList w b v 2 g.m (pipeV g.p)) (hm : g.m ≤ 2000000) :
    Calls Try.prog 43 #[.agg c, .int .i64 y] w (GivesGutT w (g.clG y) [.int .i64 (g.clC y)]) := by
  have hc := hG.size
  have CC := fun W H => l06Cell_any w.heap.size b c g v y W H
  have CK := fun W H => l06Asked_any w.heap.size b c g v (inB y 0 (g.n - 1)) W H hm
  have hA := gutAt_box hG hv
  obtain ⟨W0, hW0⟩ : ∃ W0, W0 = (w.alloc (.cells c 33)).alloc (.cells zeroG 33) := ⟨_, rfl⟩
  have hb : Below (w.alloc (.cells c 33)).heap.size (w.alloc (.cells c 33)) W0 := by rw [hW0]; exact (Below.refl _ _).alloc (Nat.le_refl _) _
  have hA0 := Lib.hid (hA.below hb (Nat.le_refl _))
  have B0 : Below w.heap.size w W0 := by rw [hW0]; exact ((Below.refl _ _).alloc (Nat.le_refl _) _).alloc (by simp) _
  have r0 : rowAt W0 (w.heap.size + 1) = some zeroG := by rw [hW0]; exact rowAt_alloc_at _ _ _ _ (by simp)
  unfold zeroG at hW0
  have hoz : Ones zeroG := isGut_zero.ones
  have hozl := hoz
  unfold zeroG at hozl
  have hzs : zeroG.size = 21 := rfl
  clear hA hb
  by_cases ha : g.ask (inB y 0 (g.n - 1)) = 0
  rotate_left
  · obtain ⟨e1, e2⟩ := Gt.cl_a ha
    have E1 := Lib.hid e1
    have E2 := Lib.hid e2
    have hx : (g.ask (inB y 0 (g.n - 1)) != 0) = true := by simpa using ha
    clear e1 e2 ha hG hv
    generalize g.ask (inB y 0 (g.n - 1)) = x at *
    go_enter Try.func43, Try.ntmps43
    go_wp2_with fail
    rw [← hW0]
    refine (CC _ hA0.out).mono ?_
    rintro e w1 ⟨rfl, b1⟩
    have A1 := Lib.hid (hA0.out.below b1 (Nat.le_refl _))
    have s1 := brow b1 r0
    have B1 := bnext B0 b1 B0.size
    clear b1 r0 B0 hA0 hW0 CC
    go_wp2_with fail
    refine (CK _ A1.out).mono ?_
    rintro e w2 ⟨rfl, b2⟩
    have t1 := brow b2 s1
    have B2 := bnext B1 b2 B1.size
    have lt1 := rowAt_lt t1
    clear b2 s1 B1 A1 CK
    have B9 := Lib.hid B2
    clear B2
    go_wp2_with fail
    refine bodyPost_ret (v := .tuple #[.agg zeroG, .int .i64 x]) (results_row2 (m := 21) rfl _ _ (w.heap.size + 1) _ _ rfl rfl (rowAt_setRow_at _ _ _ (by rw [t1]; rfl)) Try.underlying33 rfl (by kernel_rfl) rfl) rfl ⟨zeroG, .slice none 0 0, by rw [E2.out], by rw [E1.out]; exact isGut_zero, by rw [E1.out]; exact .inl ⟨rfl, _, _, rfl⟩, below_setRow B9.out (by omega) _⟩
  obtain ⟨hO, hi⟩ := Gt.ask_0 ha
  obtain ⟨i0, i1⟩ := inB_of hi
  have n17 := hO.n17
  obtain ⟨j, rfl⟩ := Int.eq_ofNat_of_zero_le i0
  have hj : j < 32 := by omega
  have hjt : ((j : Nat) : Int).toNat = j := by omega
  have CL := fun W H => l06Leaf_any w.heap.size b c g v j W H hj
  have hkb : (g.ask (inB (j : Int) 0 (g.n - 1)) != 0) = false := by simp [ha]
  cases hl : g.leaf j with
  | false =>
    obtain ⟨e1, e2⟩ := Gt.cl_b ha (by rw [hjt]; exact hl)
    have E1 := Lib.hid e1
    have E2 := Lib.hid e2
    rw [hl] at CL
    clear e1 e2 ha hG hv hl i0 i1 hO hi
    generalize g.ask (inB (j : Int) 0 (g.n - 1)) = x at *
    go_enter Try.func43, Try.ntmps43
    go_wp2_with fail
    rw [← hW0]
    refine (CC _ hA0.out).mono ?_
    rintro e w1 ⟨rfl, b1⟩
    have A1 := Lib.hid (hA0.out.below b1 (Nat.le_refl _))
    have s1 := brow b1 r0
    have B1 := bnext B0 b1 B0.size
    clear b1 r0 B0 hA0 hW0 CC
    go_wp2_with fail
    refine (CK _ A1.out).mono ?_
    rintro e w2 ⟨rfl, b2⟩
    have A2 := Lib.hid (A1.out.below b2 (Nat.le_refl _))
    have t1 := brow b2 s1
    have B2 := bnext B1 b2 B1.size
    have lt1 := rowAt_lt t1
    clear b2 s1 B1 A1 CK
    go_wp2_with fail
    refine (CL _ A2.out).mono ?_
    rintro e w3 ⟨rfl, b3⟩
    have t2 := brow b3 t1
    have B3 := bnext B2 b3 B2.size
    have lt2 := rowAt_lt t2
    clear b3 t1 B2 CL
    have B9 := Lib.hid B3
    clear B3
    go_wp2_with fail
    refine bodyPost_ret (v := .tuple #[.agg zeroG, .int .i64 4]) (results_row2 (m := 21) rfl _ _ (w.heap.size + 1) _ _ rfl rfl (rowAt_setRow_at _ _ _ (by rw [t2]; rfl)) Try.underlying33 rfl (by kernel_rfl) rfl) rfl ⟨zeroG, .slice none 0 0, by rw [E2.out], by rw [E1.out]; exact isGut_zero, by rw [E1.out]; exact .inl ⟨rfl, _, _, rfl⟩, below_setRow B9.out (by omega) _⟩
  | true =>
    obtain ⟨e1, e2⟩ := Gt.cl_c ha (by rw [hjt]; exact hl)
    rw [hjt] at e1
    have E1 := Lib.hid e1
    have E2 := Lib.hid e2
    rw [hl] at CL
    have CO := fun W H => l06Own_any w.heap.size b c g v W H hm
    have HG := Lib.hid hG
    have l0 := hG.l0
    have l1 := hG.l1
    have j0 : 0 ≤ (j : Int) := by omega
    clear e1 e2 ha hG hv hl i0 i1 hO hi
    generalize g.ask (inB (j : Int) 0 (g.n - 1)) = x at *
    go_enter Try.func43, Try.ntmps43
    go_wp2_with fail
    rw [← hW0]
    refine (CC _ hA0.out).mono ?_
    rintro e w1 ⟨rfl, b1⟩
    have A1 := Lib.hid (hA0.out.below b1 (Nat.le_refl _))
    have s1 := brow b1 r0
    have B1 := bnext B0 b1 B0.size
    clear b1 r0 B0 hA0 hW0 CC
    go_wp2_with fail
    refine (CK _ A1.out).mono ?_
    rintro e w2 ⟨rfl, b2⟩
    have A2 := Lib.hid (A1.out.below b2 (Nat.le_refl _))
    have t1 := brow b2 s1
    have B2 := bnext B1 b2 B1.size
    have lt1 := rowAt_lt t1
    clear b2 s1 B1 A1 CK
    go_wp2_with fail
    refine (CL _ A2.out).mono ?_
    rintro e w3 ⟨rfl, b3⟩
    have A3 := Lib.hid (A2.out.below b3 (Nat.le_refl _))
    have t2 := brow b3 t1
    have B3 := bnext B2 b3 B2.size
    clear b3 t1 B2 CL A2
    go_wp2_with fail
    refine (CO _ A3.out).mono ?_
    rintro e w4 ⟨a4, cap4, rfl, l4, b4⟩
    have t4 := brow b4 t2
    have B4 := bnext B3 b4 B3.size
    have lt4 := rowAt_lt t4
    have HL4 := Lib.hid l4
    have base := Lib.hid (rowAt_lt t2)
    obtain ⟨X, hX⟩ : ∃ X, setP c (.slice a4 g.m cap4) = X := ⟨_, rfl⟩
    have hI := HG.out.setP' a4 cap4
    rw [hX] at hI ⊢
    have zx := hI.size
    have x19 := hI.leaves
    have xo := hI.ones
    have HI := Lib.hid hI
    have fo : Ones (X.setIfInBounds 19 (.int .u32 (bits BinOp.andNot IntKind.u32 g.l (2 ^ j % 4294967296)))) := (hI.clr j).ones
    have fz : (X.setIfInBounds 19 (.int .u32 (bits BinOp.andNot IntKind.u32 g.l (2 ^ j % 4294967296)))).size = 21 := (hI.clr j).size
    have fc := Lib.hid (show IsGut (X.setIfInBounds 19 (.int .u32 (bits BinOp.andNot IntKind.u32 g.l (2 ^ j % 4294967296)))) (g.clr j) (.slice a4 g.m cap4) from hI.clr j)
    have HB4 := Lib.hid B4
    have T4 := Lib.hid t4
    clear b4 t2 B3 l4 CO A3 hX hI B4
    go_wp2_with fail
    refine bodyPost_ret (v := .tuple #[.agg (X.setIfInBounds 19 (.int .u32 (bits BinOp.andNot IntKind.u32 g.l (2 ^ j % 4294967296)))), .int .i64 0]) (results_row2 (m := 21) rfl _ _ (w.heap.size + 1) _ _ rfl rfl ((rowAt_alloc_past _ _ _ (by simpa using lt4)).trans (rowAt_setRow_at _ _ _ (by rw [T4.out]; rfl))) Try.underlying33 rfl (by kernel_rfl) fz) rfl ⟨_, _, by rw [E2.out], by rw [E1.out]; exact fc.out, ?_, (below_setRow HB4.out (by omega) _).alloc (by have := HB4.out.size; simpa using this) _⟩
    rw [E1.out]
    have hB2 := base.out
    rcases HL4.out with h | ⟨gb, cc, cur, e, hg, hr, hs, hf⟩
    · exact .inl h
    · refine .inr ⟨gb, cc, cur, e, by omega, ?_, hs, hf⟩
      rw [rowAt_alloc_past _ _ _ (by have := rowAt_lt hr; simpa using this), rowAt_setRow_ne _ _ _ _ (by omega)]
      exact hr


set_option maxRecDepth 100000 in
set_option maxHeartbeats 4000000 in
theorem implCleanLeaf_any (b : Nat) (c : Array Value) (g : Gt) (v : Value) (y : Int) (w : World) (hG : IsGut c g v) (hv : IsList w b v 2 g.m (pipeV g.p)) (hm : g.m ≤ 2000000) :
    Calls Try.prog 44 #[.agg c, .int .i64 y] w (GivesGutT w (g.clG y) [.int .i64 (g.clC y)]) := by
  have hc := hG.size
  have ho := hG.ones
  have CK := fun W H => checkCell_any b c g v y W hG H hm
  obtain ⟨W0, hW0⟩ : ∃ W0, W0 = (w.alloc (.cells c 33)).alloc (.cells zeroG 33) := ⟨_, rfl⟩
  have B0 : Below w.heap.size w W0 := by rw [hW0]; exact ((Below.refl _ _).alloc (Nat.le_refl _) _).alloc (by simp) _
  have rA : rowAt W0 w.heap.size = some c := by rw [hW0]; exact (rowAt_alloc_past _ _ _ (by simp)).trans (rowAt_alloc_at _ _ _ _ rfl)
  have r0 : rowAt W0 (w.heap.size + 1) = some zeroG := by rw [hW0]; exact rowAt_alloc_at _ _ _ _ (by simp)
  have hV := Lib.hid (hv.below B0 (Nat.le_refl _))
  unfold zeroG at hW0
  have hoz : Ones zeroG := isGut_zero.ones
  have hozl := hoz
  unfold zeroG at hozl
  have hzs : zeroG.size = 21 := rfl
  by_cases ha : g.ask (inB y 0 (g.n - 1)) = 0
  rotate_left
  · obtain ⟨e1, e2⟩ := Gt.cl_a ha
    have E1 := Lib.hid e1
    have E2 := Lib.hid e2
    have hx : (g.ask (inB y 0 (g.n - 1)) != 0) = true := by simpa using ha
    clear e1 e2 ha hG hv
    generalize g.ask (inB y 0 (g.n - 1)) = x at *
    go_enter Try.func44, Try.ntmps44
    go_wp2_with fail
    rw [← hW0]
    refine (CK _ hV.out).mono ?_
    rintro e w1 ⟨rfl, b1⟩
    have V1 := Lib.hid (hV.out.below b1 (Nat.le_refl _))
    have t0 := brow b1 rA
    have t1 := brow b1 r0
    have B1 := bnext B0 b1 B0.size
    have lt1 := rowAt_lt t1
    have lt0 := rowAt_lt t0
    clear b1 rA r0 B0 hW0 CK hV
    have B9 := Lib.hid B1
    have TT := Lib.hid t1
    clear B1
    go_wp2_with fail
    refine bodyPost_ret (v := .tuple #[.agg zeroG, .int .i64 x]) (results_row2 (m := 21) rfl _ _ (w.heap.size + 1) _ _ rfl rfl (rowAt_setRow_at _ _ _ (by rw [TT.out]; rfl)) Try.underlying33 rfl (by kernel_rfl) rfl) rfl ⟨zeroG, .slice none 0 0, by rw [E2.out], by rw [E1.out]; exact isGut_zero, by rw [E1.out]; exact .inl ⟨rfl, _, _, rfl⟩, below_setRow B9.out (by omega) _⟩
  obtain ⟨hO, hi⟩ := Gt.ask_0 ha
  obtain ⟨i0, i1⟩ := inB_of hi
  have n17 := hO.n17
  obtain ⟨j, rfl⟩ := Int.eq_ofNat_of_zero_le i0
  have hj : j < 32 := by omega
  have hjt : ((j : Nat) : Int).toNat = j := by omega
  have CL := fun W => hasLeaves_any c g v j W hG hj
  have hkb : (g.ask (inB (j : Int) 0 (g.n - 1)) != 0) = false := by simp [ha]
  cases hl : g.leaf j with
  | false =>
    obtain ⟨e1, e2⟩ := Gt.cl_b ha (by rw [hjt]; exact hl)
    have E1 := Lib.hid e1
    have E2 := Lib.hid e2
    rw [hl] at CL
    clear e1 e2 ha hG hv hl i0 i1 hO hi
    generalize g.ask (inB (j : Int) 0 (g.n - 1)) = x at *
    go_enter Try.func44, Try.ntmps44
    go_wp2_with fail
    rw [← hW0]
    refine (CK _ hV.out).mono ?_
    rintro e w1 ⟨rfl, b1⟩
    have V1 := Lib.hid (hV.out.below b1 (Nat.le_refl _))
    have t0 := brow b1 rA
    have t1 := brow b1 r0
    have B1 := bnext B0 b1 B0.size
    have lt1 := rowAt_lt t1
    have lt0 := rowAt_lt t0
    clear b1 rA r0 B0 hW0 CK hV
    go_wp2_with fail
    refine (CL _).mono ?_
    rintro e w3 ⟨rfl, b3⟩
    have t2 := brow b3 t1
    have B3 := bnext B1 b3 B1.size
    have lt2 := rowAt_lt t2
    clear b3 t1 t0 B1 CL
    have B9 := Lib.hid B3
    have TT := Lib.hid t2
    clear B3
    go_wp2_with fail
    refine bodyPost_ret (v := .tuple #[.agg zeroG, .int .i64 4]) (results_row2 (m := 21) rfl _ _ (w.heap.size + 1) _ _ rfl rfl (rowAt_setRow_at _ _ _ (by rw [TT.out]; rfl)) Try.underlying33 rfl (by kernel_rfl) rfl) rfl ⟨zeroG, .slice none 0 0, by rw [E2.out], by rw [E1.out]; exact isGut_zero, by rw [E1.out]; exact .inl ⟨rfl, _, _, rfl⟩, below_setRow B9.out (by omega) _⟩
  | true =>
    obtain ⟨e1, e2⟩ := Gt.cl_c ha (by rw [hjt]; exact hl)
    rw [hjt] at e1
    have E1 := Lib.hid e1
    have E2 := Lib.hid e2
    rw [hl] at CL
    have CO := fun W H => cleaned_any b c g v j W hG H hj hm
    have HI := Lib.hid (fun a cap => (hG.clr j).setP' a cap)
    clear e1 e2 ha hG hv hl i0 i1 hO hi
    generalize g.ask (inB (j : Int) 0 (g.n - 1)) = x at *
    go_enter Try.func44, Try.ntmps44
    go_wp2_with fail
    rw [← hW0]
    refine (CK _ hV.out).mono ?_
    rintro e w1 ⟨rfl, b1⟩
    have V1 := Lib.hid (hV.out.below b1 (Nat.le_refl _))
    have t0 := brow b1 rA
    have t1 := brow b1 r0
    have B1 := bnext B0 b1 B0.size
    have lt1 := rowAt_lt t1
    have lt0 := rowAt_lt t0
    clear b1 rA r0 B0 hW0 CK hV
    go_wp2_with fail
    refine (CL _).mono ?_
    rintro e w3 ⟨rfl, b3⟩
    have V3 := Lib.hid (V1.out.below b3 (Nat.le_refl _))
    have t2 := brow b3 t1
    have t3 := brow b3 t0
    have B3 := bnext B1 b3 B1.size
    have lt3 := rowAt_lt t3
    clear b3 t1 t0 B1 CL V1
    go_wp2_with fail
    refine (CO _ V3.out).mono ?_
    rintro e w4 ⟨a4, cap4, rfl, l4, b4⟩
    have t4 := brow b4 t2
    have B4 := bnext B3 b4 B3.size
    have lt4 := rowAt_lt t4
    have HL4 := Lib.hid l4
    have base := Lib.hid (rowAt_lt t2)
    have hI := HI.out a4 cap4
    rw [Gt.clr_m] at hI
    obtain ⟨X, hX⟩ : ∃ X, setP (c.setIfInBounds 19 (.int .u32 (g.clrL j))) (.slice a4 g.m cap4) = X := ⟨_, rfl⟩
    rw [hX] at hI ⊢
    have zx := hI.size
    have xo := hI.ones
    have HX := Lib.hid hI
    have HB4 := Lib.hid B4
    have T4 := Lib.hid t4
    clear b4 t2 t3 B3 l4 CO V3 hX hI B4
    go_wp2_with fail
    refine bodyPost_ret (v := .tuple #[.agg X, .int .i64 0]) (results_row2 (m := 21) rfl _ _ (w.heap.size + 1) _ _ rfl rfl (rowAt_setRow_at _ _ _ (by rw [T4.out]; rfl)) Try.underlying33 rfl (by kernel_rfl) zx) rfl ⟨_, _, by rw [E2.out], by rw [E1.out]; exact HX.out, ?_, below_setRow HB4.out (by omega) _⟩
    rw [E1.out]
    have hB2 := base.out
    rcases HL4.out with h | ⟨gb, cc, cur, e, hg, hr, hs, hf⟩
    · exact .inl h
    · refine .inr ⟨gb, cc, cur, e, by omega, ?_, hs, hf⟩
      rw [rowAt_setRow_ne _ _ _ _ (by omega)]
      exact hr
end Go.Proofs.Ytlkmdoccnbnacaa
