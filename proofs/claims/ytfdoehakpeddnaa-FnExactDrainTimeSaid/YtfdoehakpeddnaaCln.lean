/- Pipes copied, and gutters without leaves in a cell. -/
import Derived.Test.YtfdoehakpeddnaaFew
import Derived.Test.YtfdoehakpeddnaaGrowX
import Derived.Test.YtfdoehakpeddnaaEnd
import Derived.Lib.SliceRun
namespace Go.Proofs.Ytfdoehakpeddnaa
open Go.RowKit

def pipesV (f : Nat → Int) (n : Nat) : List Value := (List.range (n * 2)).map (pipeV f)
theorem pipesV_len (f : Nat → Int) (n : Nat) : (pipesV f n).length = n * 2 := by simp [pipesV]
theorem pipesV_get {f : Nat → Int} {n i : Nat} (h : i < n * 2) : (pipesV f n).getD i undef = pipeV f i := by
  rw [List.getD_eq_getElem?_getD, pipesV, List.getElem?_map, List.getElem?_range h]; rfl
theorem pipesV_one (f : Nat → Int) (n : Nat) : ∀ u ∈ pipesV f n, u.oneCell' = true := by
  intro u hu
  simp only [pipesV, List.mem_map] at hu
  obtain ⟨i, _, rfl⟩ := hu
  unfold pipeV
  split <;> rfl
theorem IsList.news {w : World} {b n : Nat} {v : Value} {f : Nat → Int} (h : IsList w b v 2 n (pipeV f)) : IsList w b v 2 n (fun j => (pipesV f n).getD j undef) := by
  rcases h with h | ⟨g, cap, cur, rfl, hg, hr, hs, hf⟩
  · exact .inl h
  · exact .inr ⟨g, cap, cur, rfl, hg, hr, hs, fun i hi => by rw [hf i hi]; exact congrArg some (pipesV_get (by omega)).symm⟩
theorem IsList.of_pipesV {w : World} {base n : Nat} {e : TypeId} {v : Value} {f : Nat → Int} (h : w.ownsRow base e 2 v n (pipesV f n)) : IsList w base v 2 n (pipeV f) := by
  obtain ⟨hl, h | ⟨g, cap, cur, rfl, hg, hh, hn, hm, hs, ht⟩⟩ := h
  · exact .inl ⟨h.2, none, 0, by rw [h.1]⟩
  · refine .inr ⟨g, cap, cur, rfl, hg, rowAt_of_heap hh, by have := Nat.mul_le_mul_right 2 hn; omega, fun i hi => ?_⟩
    have h1 : cur[i]? = (cur.toList.take (n * 2))[i]? := by rw [List.getElem?_take, if_pos (by omega), Array.getElem?_toList]
    rw [h1, ht, pipesV, List.getElem?_map, List.getElem?_range (by omega)]; rfl

set_option maxRecDepth 100000 in
set_option maxHeartbeats 1000000 in
theorem clonePp_any (b n : Nat) (v : Value) (f : Nat → Int) (w : World) (hv : IsList w b v 2 n (pipeV f)) (hn : n ≤ 2000000) :
    Calls Try.prog 95 #[v] w fun e w' => ∃ a cap, e = .returned (.slice a n cap) ∧ IsList w' w.heap.size (.slice a n cap) 2 n (pipeV f) ∧ Below w.heap.size w w' := by
  obtain ⟨i0, hi0, hz0, hz1, hz2⟩ := info_parts A_infoPp
  have HV := Lib.hid hv
  obtain ⟨a, cap, rfl⟩ := hv.shape
  have hnil := fun W : World => Lib.run_eql_slice_nil (P := Try.prog) W 35 98 a n cap 0 0 Try.underlying35
  have own : (w.alloc (.cells #[] 98)).ownsRow w.heap.size 98 2 (.slice (some ⟨w.heap.size, 0, none⟩) 0 0) 0 [] := owns_empty w 98 2
  have hl1 : IsList (w.alloc (.cells #[] 98)) b (.slice a n cap) 2 n (fun j => (pipesV f n).getD j undef) := (hv.below ((Below.refl _ _).alloc (Nat.le_refl _) _) (Nat.le_refl _)).news
  cases a with
  | none =>
    have h0 : n = 0 := by
      rcases hv with ⟨h, _⟩ | ⟨g, cap', cur, h, _⟩
      · exact h
      · cases h
    subst h0
    simp only [Option.isNone_none] at hnil
    clear hv own hl1
    go_enter Try.func95, Try.ntmps95
    go_wp2_with fail
    go_ret
    exact ⟨none, 0, rfl, .inl ⟨rfl, _, _, rfl⟩, Below.refl _ _⟩
  | some a =>
    simp only [Option.isNone_some] at hnil
    have HL := Lib.hid hl1
    have HO := Lib.hid own
    clear hv own hl1
    go_enter Try.func95, Try.ntmps95
    go_wp2_with (at_builtin; refine wpList_append_list rfl _ _ 35 rfl w.heap.size b 98 i0 (.agg #[.int .i8 0, .int .i16 0]) 2 4 Try.underlying35 hi0 hz0 hz1 hz2 rfl (by decide) _ _ _ rfl HO.out _ n (pipesV f n) rfl HL.out (pipesV_len f n) (pipesV_one f n) (by unfold maxLen; omega) (by omega) (by simp) ?_; intro v3 w3 own3 grow3)
    have B3 : Below w.heap.size w w3 := ((Below.refl w.heap.size w).alloc (Nat.le_refl _) _).grown grow3 (by simp) (by intro x hx; cases hx; exact Nat.le_refl _)
    rw [Nat.zero_add, List.nil_append] at own3
    have hl := IsList.of_pipesV own3
    obtain ⟨a3, cap3, rfl⟩ := hl.shape
    clear own3 grow3
    go_wp2_with fail
    go_ret
    exact ⟨a3, cap3, rfl, hl, B3⟩

theorem grown3 {w w3 : World} {z c : Array Value} {t1 t2 t3 : TypeId} (h : (((w.alloc (.cells z t1)).alloc (.cells c t2)).alloc (.cells #[] t3)).grownBy w3 (some (w.heap.size + 1 + 1))) :
    rowAt w3 w.heap.size = some z ∧ rowAt w3 (w.heap.size + 1) = some c ∧ Below w.heap.size w w3 := by
  refine ⟨rowAt_grown h ((rowAt_alloc_past _ _ _ (by simp; omega)).trans ((rowAt_alloc_past _ _ _ (by simp)).trans (rowAt_alloc_at _ _ _ _ rfl))) (by simp; omega), rowAt_grown h ((rowAt_alloc_past _ _ _ (by simp)).trans (rowAt_alloc_at _ _ _ _ (by simp))) (by simp), ?_⟩
  exact ((((Below.refl _ _).alloc (Nat.le_refl _) _).alloc (by simp) _).alloc (by simp; omega) _).grown h (by simp; omega) (by intro x hx; cases hx; omega)
theorem own_at {W : World} {n : Nat} {e : TypeId} {size : Nat} (h : W.heap.size = n) : (W.alloc (.cells #[] e)).ownsRow n e size (.slice (some ⟨n, 0, none⟩) 0 0) 0 [] := by subst h; exact owns_empty W e size
set_option maxRecDepth 100000 in
set_option maxHeartbeats 2000000 in
theorem l06Own_any (k b : Nat) (c : Array Value) (g : Gt) (v : Value) (w : World) (hA : GutAt w k c g v b) (hm : g.m ≤ 2000000) :
    Calls Try.prog 64 #[.pointer (some ⟨k, 0, none⟩)] w fun e w' => ∃ a cap, e = .returned (.agg (setP c (.slice a g.m cap))) ∧ IsList w' w.heap.size (.slice a g.m cap) 2 g.m (pipeV g.p) ∧ Below w.heap.size w w' := by
  obtain ⟨i0, hi0, hz0, hz1, hz2⟩ := info_parts A_infoPp
  have HA := Lib.hid hA
  have hr := hA.row
  have hc := hA.is.size
  have ho := hA.is.ones
  have hlt := hA.lt
  obtain ⟨a, cap, rfl⟩ := hA.pipes.shape
  have z20 : w.cell? ⟨k, 20, none⟩ = some (.slice a g.m cap) := by rw [cell_of_rowAt hr]; exact hA.is.getP
  have hlt1 : k < w.heap.size + 1 := by omega
  have hlt2 : k < w.heap.size + 1 + 1 := by omega
  have hl0 : w.heap.size ≠ k := by omega
  have hl1 : w.heap.size + 1 ≠ k := by omega
  have hl2 : w.heap.size + 1 + 1 ≠ k := by omega
  clear hA
  go_enter Try.func64, Try.ntmps64
  go_wp2_with (at_builtin; refine wpList_append_list rfl _ _ 35 rfl (w.heap.size + 1 + 1) b 98 i0 (.agg #[.int .i8 0, .int .i16 0]) 2 4 Try.underlying35 hi0 hz0 hz1 hz2 rfl (by decide) _ _ _ rfl (own_at (by simp)) _ g.m (pipesV g.p g.m) rfl (HA.out.pipes.below ((((Below.refl _ _).alloc (Nat.le_refl _) _).alloc (by simp) _).alloc (by simp; omega) _) (Nat.le_refl _)).news (pipesV_len g.p g.m) (pipesV_one g.p g.m) (by unfold maxLen; omega) (by omega) (by simp) ?_)
  intro v3 w3 own3 grow3
  obtain ⟨g0, g1, gB⟩ := grown3 grow3
  clear grow3
  try rw [Nat.zero_add] at own3
  try rw [List.nil_append] at own3
  have hl3 := IsList.of_pipesV own3
  clear own3
  obtain ⟨a3, cap3, rfl⟩ := hl3.shape
  have cl1 := cell_of_rowAt g1
  have f1 := frozen_of_rowAt g1
  have x20 : w3.cell? ⟨w.heap.size + 1, 20, none⟩ = some (c[20]'(by omega)) := by rw [cl1, Array.getElem?_eq_getElem]
  clear cl1
  have lt1 := rowAt_lt g1
  have lt0 := rowAt_lt g0
  have hso : Ones (c.setIfInBounds 20 (.slice a3 g.m cap3)) := (HA.out.is.setP' a3 cap3).ones
  have hss : (c.setIfInBounds 20 (.slice a3 g.m cap3)).size = 21 := by simpa using hc
  have ne01 : w.heap.size ≠ w.heap.size + 1 := by omega
  repeat go_step
  refine bodyPost_ret (v := .agg (setP c (.slice a3 g.m cap3))) (results_row1 rfl _ _ w.heap.size _ rfl (rowAt_setRow_at _ _ _ (by rw [rowAt_setCell_ne _ _ _ _ _ ne01, g0]; rfl)) Try.underlying37 rfl (by kernel_rfl) hss) rfl ⟨a3, cap3, rfl, ?_, below_setRow (gB.setCell (p := ⟨_, _, none⟩) (by simp) _) (Nat.le_refl _) _⟩
  rcases hl3 with h | ⟨gb, cc, cur, e, hg, hr, hs, hf⟩
  · exact .inl h
  · refine .inr ⟨gb, cc, cur, e, by omega, ?_, hs, hf⟩
    rw [rowAt_setRow_ne _ _ _ _ (by omega), rowAt_setCell_ne _ _ _ _ _ (by omega)]
    exact hr

theorem bits_u32 (op : BinOp) (x y : Int) : 0 ≤ bits op .u32 x y ∧ bits op .u32 x y ≤ 4294967295 := by
  unfold bits IntKind.wrap
  simp only [IntKind.bits, IntKind.signed, Bool.false_and, Bool.false_eq_true, if_false]
  omega
/-- The gutter without leaves in a cell. -/
def Gt.clrL (g : Gt) (j : Nat) : Int := bits .andNot .u32 g.l (IntKind.u32.wrap (2 ^ j))
def Gt.clr (g : Gt) (j : Nat) : Gt := { g with l := g.clrL j }
theorem Gt.clr_m (g : Gt) (j : Nat) : (g.clr j).m = g.m := rfl
theorem Gt.clr_p (g : Gt) (j : Nat) : (g.clr j).p = g.p := rfl
theorem IsGut.clr {c : Array Value} {g : Gt} {v : Value} (h : IsGut c g v) (j : Nat) : IsGut (c.setIfInBounds 19 (.int .u32 (g.clrL j))) (g.clr j) v := by
  have hs := h.size
  refine IsGut.of_get (by simpa using hs) ?_ ?_ (fun i hi => ?_) ?_ ?_ ⟨h.n0, h.n1⟩ ⟨h.d0, h.d1⟩ (fun i hi => ⟨h.h0 i hi, h.h1 i hi⟩) (show 0 ≤ g.clrL j ∧ g.clrL j ≤ 4294967295 from bits_u32 _ _ _) h.p0 h.vs
  · rw [Array.getElem?_setIfInBounds_ne (by omega)]; exact h.get0
  · rw [Array.getElem?_setIfInBounds_ne (by omega)]; exact h.get1
  · rw [Array.getElem?_setIfInBounds_ne (by omega)]; exact h.getH hi
  · rw [Array.getElem?_setIfInBounds_self_of_lt (by omega)]; rfl
  · rw [Array.getElem?_setIfInBounds_ne (by omega)]; exact h.getP

set_option maxRecDepth 100000 in
set_option maxHeartbeats 2000000 in
theorem cleaned_any (b : Nat) (c : Array Value) (g : Gt) (v : Value) (j : Nat) (w : World) (hG : IsGut c g v) (hv : IsList w b v 2 g.m (pipeV g.p)) (hj : j < 32) (hm : g.m ≤ 2000000) :
    Calls Try.prog 63 #[.agg c, .int .i64 j] w fun e w' => ∃ a cap, e = .returned (.agg (setP (c.setIfInBounds 19 (.int .u32 (g.clrL j))) (.slice a g.m cap))) ∧ IsList w' w.heap.size (.slice a g.m cap) 2 g.m (pipeV g.p) ∧ Below w.heap.size w w' := by
  have HG := Lib.hid hG
  have hc := hG.size
  have ho := hG.ones
  have k19 := hG.leaves
  have l0 := hG.l0
  have l1 := hG.l1
  have j0 : 0 ≤ (j : Int) := by omega
  have jn : (j : Int).toNat = j := by omega
  clear hG
  go_enter Try.func63, Try.ntmps63
  go_wp2_with fail
  refine gen_world fun W hW => ?_
  have q0 : rowAt W w.heap.size = some c := by rw [hW]; exact (rowAt_alloc_past _ _ _ (by simp)).trans (rowAt_alloc_at _ _ _ _ rfl)
  obtain ⟨z, q1, hz⟩ : ∃ z : Array Value, rowAt W (w.heap.size + 1) = some z ∧ z.size = 21 := by rw [hW]; exact ⟨_, rowAt_alloc_at _ _ _ _ (by simp), by simp⟩
  have B0 : Below w.heap.size w W := by rw [hW]; exact ((Below.refl _ _).alloc (Nat.le_refl _) _).alloc (by simp) _
  clear hW
  obtain ⟨a, cap, rfl⟩ := hv.shape
  have z20 : W.cell? ⟨w.heap.size, 20, none⟩ = some (.slice a g.m cap) := by rw [cell_of_rowAt q0]; exact HG.out.getP
  have z19 : W.cell? ⟨w.heap.size, 19, none⟩ = some (.int .u32 g.l) := by rw [cell_of_rowAt q0, Array.getElem?_eq_getElem (by omega), k19]
  have f0 := frozen_of_rowAt q0
  have lt0 := rowAt_lt q0
  go_still_tail 6, (by kernel_rfl)
  change wpList _ _ _ _ _ W.drew
  repeat go_step
  refine gen_callsW fun W1 hW1 => ?_
  have p0 : rowAt W1 w.heap.size = some (c.setIfInBounds 19 (.int .u32 (g.clrL j))) := by
    rw [hW1]
    have := rowAt_setCell_at W w.heap.size 19 (.int .u32 (g.clrL j)) (by rw [q0]; rfl)
    rw [q0, Option.getD_some] at this
    exact this
  have p1 : rowAt W1 (w.heap.size + 1) = some z := by rw [hW1]; exact (rowAt_setCell_ne _ _ _ _ _ (by omega)).trans q1
  have PB : Below w.heap.size w W1 := by rw [hW1]; exact (B0.setCell (p := ⟨w.heap.size, 19, none⟩) (Nat.le_refl _) _).drew
  have HC := Lib.hid (HG.out.clr j)
  have hc1 : (c.setIfInBounds 19 (.int .u32 (g.clrL j))).size = 21 := by simpa using hc
  clear hW1 q0 q1 B0 z19 z20 f0 lt0 k19
  obtain ⟨c1, hX⟩ : ∃ c1, c.setIfInBounds 19 (.int .u32 (g.clrL j)) = c1 := ⟨_, rfl⟩
  rw [hX] at p0 HC hc1
  have HX := Lib.hid hX
  clear hX
  refine (clonePp_any b g.m _ g.p W1 (hv.below PB (Nat.le_refl _)) hm).mono ?_
  rintro e w2 ⟨a2, cap2, rfl, l2, b2⟩
  have s0 := brow b2 p0
  have s1 := brow b2 p1
  have SB := bnext PB b2 PB.size
  have x20 : w2.cell? ⟨w.heap.size, 20, none⟩ = some (c1[20]'(by omega)) := by rw [cell_of_rowAt s0, Array.getElem?_eq_getElem]
  have f1 := frozen_of_rowAt s0
  have lt1 := rowAt_lt s1
  have lt0 := rowAt_lt s0
  have hso : Ones (c1.setIfInBounds 20 (.slice a2 g.m cap2)) := (HC.out.setP' a2 cap2).ones
  have hss : (c1.setIfInBounds 20 (.slice a2 g.m cap2)).size = 21 := by simpa using hc1
  have ne01 : w.heap.size + 1 ≠ w.heap.size := by omega
  have HL := Lib.hid l2
  have lt2 : w.heap.size + 1 < W1.heap.size := rowAt_lt p1
  have HLT := Lib.hid lt2
  clear b2 p0 p1 PB l2 lt2
  go_wp2_with fail
  refine bodyPost_ret (v := .agg (setP c1 (.slice a2 g.m cap2))) (results_row1 rfl _ _ (w.heap.size + 1) _ rfl (rowAt_setRow_at _ _ _ (by rw [rowAt_setCell_ne _ _ _ _ _ ne01, s1]; rfl)) Try.underlying37 rfl (by kernel_rfl) hss) rfl ⟨a2, cap2, by rw [HX.out], ?_, below_setRow (SB.setCell (p := ⟨_, _, none⟩) (Nat.le_refl _) _) (by omega) _⟩
  have hB2 := HLT.out
  rcases HL.out with h | ⟨gb, cc, cur, e, hg, hr, hs, hf⟩
  · exact .inl h
  · refine .inr ⟨gb, cc, cur, e, by omega, ?_, hs, hf⟩
    rw [rowAt_setRow_ne _ _ _ _ (by omega), rowAt_setCell_ne _ _ _ _ _ (by omega)]
    exact hr

/-- The gutter of nothing. -/
def Gt.zero : Gt := ⟨0, 0, fun _ => 0, 0, 0, fun _ => 0⟩
def zeroG : Array Value := #[.int .i8 0, .int .i16 0, .int .i8 0, .int .i8 0, .int .i8 0, .int .i8 0, .int .i8 0, .int .i8 0, .int .i8 0, .int .i8 0, .int .i8 0, .int .i8 0, .int .i8 0, .int .i8 0, .int .i8 0, .int .i8 0, .int .i8 0, .int .i8 0, .int .i8 0, .int .u32 0, .slice none 0 0]
theorem isGut_zero : IsGut zeroG Gt.zero (.slice none 0 0) := by
  refine IsGut.of_get rfl rfl rfl (fun i hi => ?_) rfl rfl ⟨by decide, by decide⟩ ⟨by decide, by decide⟩ (fun i hi => ⟨by show (-128 : Int) ≤ 0; omega, by show (0 : Int) ≤ 127; omega⟩) ⟨by decide, by decide⟩ (fun i hi => absurd hi (Nat.not_lt_zero i)) ⟨_, _, rfl⟩
  match i with
  | 0 => rfl
  | 1 => rfl
  | 2 => rfl
  | 3 => rfl
  | 4 => rfl
  | 5 => rfl
  | 6 => rfl
  | 7 => rfl
  | 8 => rfl
  | 9 => rfl
  | 10 => rfl
  | 11 => rfl
  | 12 => rfl
  | 13 => rfl
  | 14 => rfl
  | 15 => rfl
  | 16 => rfl
  | n + 17 => omega
/-- The answer of CleanLeaf. -/
noncomputable def Gt.clG (g : Gt) (y : Int) : Gt := if g.ask (inB y 0 (g.n - 1)) = 0 ∧ g.leaf y.toNat = true then g.clr y.toNat else Gt.zero
noncomputable def Gt.clC (g : Gt) (y : Int) : Int := if g.ask (inB y 0 (g.n - 1)) = 0 then (if g.leaf y.toNat = true then 0 else 4) else g.ask (inB y 0 (g.n - 1))
theorem Gt.clG_le (g : Gt) (y : Int) (h : g.m ≤ 2000000) : (g.clG y).m ≤ 2000000 := by
  unfold Gt.clG
  split
  · exact h
  · exact Nat.zero_le _
theorem Gt.cl_a {g : Gt} {y : Int} (h : g.ask (inB y 0 (g.n - 1)) ≠ 0) : g.clG y = Gt.zero ∧ g.clC y = g.ask (inB y 0 (g.n - 1)) := ⟨if_neg fun x => h x.1, if_neg h⟩
theorem Gt.cl_b {g : Gt} {y : Int} (h : g.ask (inB y 0 (g.n - 1)) = 0) (k : g.leaf y.toNat = false) : g.clG y = Gt.zero ∧ g.clC y = 4 := ⟨if_neg (fun x => by rw [k] at x; cases x.2), by unfold Gt.clC; rw [if_pos h, k]; rfl⟩
theorem Gt.cl_c {g : Gt} {y : Int} (h : g.ask (inB y 0 (g.n - 1)) = 0) (k : g.leaf y.toNat = true) : g.clG y = g.clr y.toNat ∧ g.clC y = 0 := ⟨if_pos (And.intro h k), by unfold Gt.clC; rw [if_pos h, k]; rfl⟩
end Go.Proofs.Ytfdoehakpeddnaa
