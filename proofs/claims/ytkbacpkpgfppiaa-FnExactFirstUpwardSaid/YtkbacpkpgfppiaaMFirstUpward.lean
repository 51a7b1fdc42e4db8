import Derived.Test.YtkbacpkpgfppiaaSrtI
import Derived.Test.YtkbacpkpgfppiaaRowT
import Derived.Laws.CopyRow
import Derived.Deep.RegionLaw
import Derived.Test.YtkbacpkpgfppiaaGive
import Derived.Shelf.Abstract
import Derived.Test.YtkbacpkpgfppiaaUpC
import Derived.Test.YtkbacpkpgfppiaaOrder
import Derived.Test.YtkbacpkpgfppiaaLifted
import Derived.Test.YtkbacpkpgfppiaaGrow
import Derived.Test.YtkbacpkpgfppiaaHelp
import Derived.Test.YtkbacpkpgfppiaaOverS
import Derived.Test.YtkbacpkpgfppiaaHasP
import Derived.Test.YtkbacpkpgfppiaaLadS
import Derived.Maps.AppendAt
import Derived.Test.YtkbacpkpgfppiaaOpen
import Derived.Test.YtkbacpkpgfppiaaNums
import Derived.Test.YtkbacpkpgfppiaaArgL
import Derived.Test.YtkbacpkpgfppiaaLsP

/- slices.Delete of one element at places: in place. -/
namespace Go.Proofs.Ytkbacpkpgfppiaa
open Go.RowKit

/-- clear of the tail: what lies ahead stays. -/
theorem run_clear_tail {P : Program} (w : World) (t e : TypeId) (z : Value) (ht : P.underlying t = some (.slice e)) (hv : ∀ w, (zeroValue e).run P w = .ok z w) (h1 : ∀ v, v ∈ z.cells → v.oneCell' = true) (g o n c : Nat) (cur : Array Value)
    (hg : rowAt w g = some cur) (hn : 0 < n) (hfit : o + n * z.cells.size ≤ cur.size) :
    ∃ Y : Array Value, (∀ ty, (Builtin.clear_ #[t] ty #[.slice (some ⟨g, o, none⟩) n c]).run P w = .ok (.tuple #[]) (w.setRow g Y)) ∧ Y.size = cur.size ∧ ∀ x, x < o → Y[x]? = cur[x]? := by
  obtain ⟨k, hk⟩ := rowAt_some hg
  have hsz : (Builtin.zeroCells z.cells n).size = n * z.cells.size := by simp [Builtin.zeroCells]
  have hone : ∀ v ∈ (Builtin.zeroCells z.cells n).toList, v.oneCell' = true := by
    intro v hv
    simp only [Builtin.zeroCells, Array.toList_map, List.mem_map] at hv
    obtain ⟨i, hi, rfl⟩ := hv
    by_cases hz : 0 < z.cells.size
    · have hlt := Nat.mod_lt i hz
      rw [getElem!_pos z.cells _ hlt]
      exact h1 _ (Array.getElem_mem hlt)
    · simp only [Array.toList_range, List.mem_range] at hi
      rw [show z.cells.size = 0 by omega] at hi
      omega
  have hst := run_storeCells_at P g o k (Builtin.zeroCells z.cells n).toList 0 cur w hk (by simp only [Array.length_toList, hsz]; simpa using hfit) hone
  refine ⟨(cur.toList.take o ++ (Builtin.zeroCells z.cells n).toList ++ cur.toList.drop (o + n * z.cells.size)).toArray, fun ty => ?_, ?_, fun x hx => ?_⟩
  · obtain ⟨m, rfl⟩ : ∃ m, n = m + 1 := ⟨n - 1, by omega⟩
    simp only [Nat.add_zero, Array.length_toList, hsz] at hst
    simp [Builtin.clear_, run_underlying ht, hv, hst]
  · simp [hsz]; omega
  · rw [List.getElem?_toArray, List.append_assoc, List.getElem?_append_left (by simp; omega), List.getElem?_take, if_pos hx, Array.getElem?_toList]

/-- append where there is room, whatever type the row is of. -/
theorem run_append_roomT {P : Program} (w : World) (t ty e k : TypeId) (i : TypeInfo) (ht : P.underlying t = some (.slice e)) (hi : P.info? e = some i)
    (g sLen sCap : Nat) (cur : Array Value) (hg : w.heap[g]? = some (.cells cur k (0, 0)))
    (a : Addr) (m c : Nat) (news : List Value) (hl : news.length = m * i.size) (hnews : ∀ j u, news[j]? = some u → w.cell? (a.add j) = some u) (h1 : ∀ u ∈ news, u.oneCell' = true)
    (hroom : sLen + m ≤ sCap) (hfit : sLen * i.size + news.length ≤ cur.size) :
    (Builtin.append_ #[t, t] ty #[.slice (some ⟨g, 0, none⟩) sLen sCap, .slice (some a) m c]).run P w =
      .ok (.slice (some ⟨g, 0, none⟩) (sLen + m) sCap) (w.setRow g (cur.toList.take (sLen * i.size) ++ news ++ cur.toList.drop (sLen * i.size + news.length)).toArray) := by
  have hf := run_firstCells_some (P := P) w i.size m a m c news hl hnews
  have hst := run_storeCells_at P g (sLen * i.size) k news 0 cur w hg (by simpa using hfit) h1
  simp only [Nat.add_zero] at hst
  simp [Builtin.append_, run_underlying ht, sizeOf, typeInfo, hi, Builtin.lenOf, hroom, hf, Addr.add_lit, hst]
/-- append in place, the row told whole: a step of a drawn region. -/
theorem step_append_roomR {P : Program} {ops : Array Oper} {o : Oper} {a : Act} {w : World} {K : Act → World → Prop} {Q : Exit → Act → World → Prop} {E : Prop}
    (hg : o.guard = none) (s x : Operand) (t : TypeId) (hop : o.op = Op.call { callee := Callee.builtin Builtin.append, args := #[s, x], argTypes := #[t, t] })
    (e : TypeId) (i : TypeInfo) (size : Nat) (h1 : P.underlying t = some (.slice e)) (h2 : P.info? e = some i) (h4 : i.size = size)
    (b n cap : Nat) (cur : Array Value) (hrow : rowAt w b = some cur) (hs : a.eval s = .slice (some ⟨b, 0, none⟩) n cap)
    (ad : Addr) (m c : Nat) (news : List Value) (hx : a.eval x = .slice (some ad) m c) (hn : news.length = m * size) (hc : ∀ j u, news[j]? = some u → w.cell? (ad.add j) = some u) (h1c : ∀ u ∈ news, u.oneCell' = true)
    (hroom : n + m ≤ cap) (hfit : n * size + news.length ≤ cur.size)
    (hK : K (a.put o.dst (.slice (some ⟨b, 0, none⟩) (n + m) cap)) (w.setRow b (cur.toList.take (n * size) ++ (news ++ cur.toList.drop (n * size + news.length))).toArray)) :
    if Region.wanted o (yielded ops a.tmps) = true then Oper.wp P o a w K Q else E := by
  have hw : Region.wanted o (yielded ops a.tmps) = true := by simp [Region.wanted, hg]
  rw [if_pos hw]
  subst h4
  obtain ⟨k, hk⟩ := rowAt_some hrow
  have hrun := run_append_roomT (P := P) w t o.type e k i h1 h2 b n cap cur hk ad m c news hn hc h1c hroom hfit
  unfold Oper.wp
  simp [execOp, hop, resolve, invoke, builtin, hs, hx, hrun, Result.andThen]
  exact hK
theorem LeS.setR {g : Nat} {w W : World} (h : LeS g w W) (c : Array Value) : LeS g w (W.setRow g c) :=
  ⟨by simpa using h.size, fun B b1 b2 => below_setRow (h.bel B b1 b2) b1 _, fun k h1 h2 => (rowAt_setRow_ne _ _ _ _ h1).trans (h.other k h1 h2)⟩
theorem zero_placeA (w : World) : (zeroValue 58).run Try.prog w = .ok (.agg #[.int .i8 0, .int .i8 0]) w := by
  kernel_rfl

set_option maxRecDepth 100000 in
set_option maxHeartbeats 2000000 in
theorem deleteA_any (g n j q d k cap : Nat) (f : Nat → Int) (cur : Array Value) (w : World) (hrow : rowAt w g = some cur) (hP : IsP cur n f) (hj : j = q + 1) (hnd : n = j + d) (hk : k = q + d) (hn : n ≤ cap) (hn2 : n ≤ 2000000) :
    Calls Try.prog 106 #[.slice (some ⟨g, 0, none⟩) n cap, .int .i64 q, .int .i64 j] w fun e w' => e = .returned (.slice (some ⟨g, 0, none⟩) k cap) ∧ (∃ cur', rowAt w' g = some cur' ∧ IsP cur' k (fun x => if x < q * 2 then f x else f (x + 2))) ∧ LeS g w w' ∧ ∀ x, x ≠ g → w'.heap[x]? = w.heap[x]? := by
  obtain ⟨i0, hi0, hz0, hz1, hz2⟩ := info_parts A_infoPlC
  have hs := hP.size
  have hf := hP.get
  obtain ⟨news, hnews⟩ : ∃ news, news = (cur.toList.drop (j * 2)).take (d * 2) := ⟨_, rfl⟩
  have hlen : news.length = d * 2 := by rw [hnews]; simp; omega
  have hget : ∀ t, t < d * 2 → news[t]? = some (.int .i8 (f (j * 2 + t))) := by
    intro t ht
    rw [hnews, List.getElem?_take, if_pos ht, List.getElem?_drop, Array.getElem?_toList]
    exact hf _ (by omega)
  obtain ⟨A, hA, hsrc⟩ : ∃ A : Addr, (if cap = j then some (⟨g, 0, none⟩ : Addr) else some ⟨g, j * 2, none⟩) = some A ∧ Hid (∀ t u, news[t]? = some u → w.drew.cell? (A.add t) = some u) := by
    by_cases h : cap = j
    · refine ⟨⟨g, 0, none⟩, by simp [h], fun t u hu => ?_⟩
      have h0 : news.length = 0 := by rw [hlen]; omega
      rw [List.length_eq_zero_iff.1 h0] at hu
      simp at hu
    · refine ⟨⟨g, j * 2, none⟩, by simp [h], fun t u hu => ?_⟩
      have ht : t < d * 2 := by
        have := (List.getElem?_eq_some_iff.1 hu).1
        rwa [hlen] at this
      rw [hget t ht] at hu
      rw [Addr.add_lit]
      exact ((cell_of_rowAt hrow _).trans (hf _ (by omega))).trans hu
  have s1 : Hid (news.length = d * 2) := hlen
  have s2 : Hid (∀ u ∈ news, u.oneCell' = true) := by
    intro u hu
    obtain ⟨t, ht, rfl⟩ := List.getElem_of_mem hu
    have := hget t (by omega)
    rw [List.getElem?_eq_getElem ht, Option.some.injEq] at this
    rw [this]; rfl
  have s3 : Hid (q * 2 + news.length ≤ cur.size) := Lib.hid (by omega)
  have s4 : Hid (rowAt w.drew g = some cur) := hrow
  obtain ⟨X, hX⟩ : ∃ X, X = (cur.toList.take (q * 2) ++ (news ++ cur.toList.drop (q * 2 + news.length))).toArray := ⟨_, rfl⟩
  have hXs : X.size = cur.size := by rw [hX]; simp; omega
  have hXf : ∀ x, x < k * 2 → X[x]? = some (.int .i8 (if x < q * 2 then f x else f (x + 2))) := by
    intro x hx
    rw [hX, List.getElem?_toArray]
    by_cases h : x < q * 2
    · rw [List.getElem?_append_left (by simp; omega), List.getElem?_take, if_pos h, Array.getElem?_toList, if_pos h]
      exact hf _ (by omega)
    · have e1 : (cur.toList.take (q * 2)).length = q * 2 := by simp; omega
      rw [List.getElem?_append_right (by omega), e1, List.getElem?_append_left (by omega), hget _ (by omega), if_neg h, show j * 2 + (x - q * 2) = x + 2 by omega]
  obtain ⟨Y, hcl, hYs, hYx⟩ := run_clear_tail (P := Try.prog) (w.setRow g X).drew 33 58 (.agg #[.int .i8 0, .int .i8 0]) Try.underlying33 zero_placeA (by intro v hv; simp [Value.cells] at hv; subst hv; rfl) g (k * 2) (n - k) (cap - k) X (rowAt_setRow_at w g X (by rw [hrow]; rfl)) (by omega) (by simp [Value.cells]; omega)
  have hX' : Hid (X = (cur.toList.take (q * 2) ++ (news ++ cur.toList.drop (q * 2 + news.length))).toArray) := hX
  have HY : Hid (IsP Y k (fun x => if x < q * 2 then f x else f (x + 2))) := Lib.hid ⟨by omega, fun x hx => (hYx x hx).trans (hXf x hx)⟩
  have HR : Hid (rowAt ((w.setRow g X).drew.setRow g Y) g = some Y) := Lib.hid (rowAt_setRow_at _ _ _ (by rw [show rowAt (w.setRow g X).drew g = some X from rowAt_setRow_at w g X (by rw [hrow]; rfl)]; rfl))
  have HL : Hid (LeS g w ((w.setRow g X).drew.setRow g Y)) := Lib.hid (((LeS.refl g w).setR X).drew.setR Y)
  have HO : Hid (∀ x, x ≠ g → ((w.setRow g X).drew.setRow g Y).heap[x]? = w.heap[x]?) := Lib.hid (fun x hx => (setRow_other _ g x Y hx).trans (setRow_other w g x X hx))
  have e0 : ((q : Int) == j) = false := by simp; omega
  have c1 : (q : Int) ≤ cap := by omega
  have c2 : (j : Int) ≤ cap := by omega
  have c3 : (j : Int) ≤ n := by omega
  have c4 : (q : Int) ≤ j := by omega
  have c5 : q ≤ cap := by omega
  have c6 : j ≤ cap := by omega
  have c7 : (n : Int) ≤ cap := by omega
  have c8 : (k : Int) ≤ cap := by omega
  have c9 : (k : Int) ≤ n := by omega
  have n3 : ¬ cap = k := by omega
  have n4 : ¬ n = k := by omega
  have hnj : n - j = d := by omega
  have hqk : q + d = k := hk.symm
  have hdc : q + d ≤ cap := by omega
  clear hX hXs hXf hYs hYx hget hlen hf hrow hnews hs hj hnd hk hP
  go_enter Try.func106, Try.ntmps106
  go_wp2_with fail
  go_region_law (refine step_append_roomR rfl (.tmp 22) (.tmp 25) 33 rfl 58 i0 2 Try.underlying33 hi0 hz1 g q cap cur s4.out (by simp [Act.eval, Act.put]) A d (cap - j) news (by simp [Act.eval, Act.put]) s1.out hsrc.out s2.out hdc s3.out ?_; rw [← hX'.out])
  go_wp2_with fail
  go_ret
  exact ⟨rfl, ⟨Y, HR.out, HY.out⟩, HL.out, HO.out⟩
end Go.Proofs.Ytkbacpkpgfppiaa

/- Sorted places: the program's sortedBy with rank. -/
namespace Go.Proofs.Ytkbacpkpgfppiaa
open Go.RowKit

theorem rank_any (a b : Int) (w : World) (ha : -128 ≤ a ∧ a ≤ 127) (hb : -128 ≤ b ∧ b ≤ 127) :
    Calls Try.prog 50 #[.agg #[.int .i8 a, .int .i8 b]] w fun e w' => e = .returned (.int .i64 (a * 8 + b)) ∧ Below w.heap.size w w' := by
  have h1 : IntKind.i64.wrap (a * 8) = a * 8 := by rw [IntKind.wrap_i64]; omega
  have h2 : IntKind.i64.wrap (a * 8 + b) = a * 8 + b := by rw [IntKind.wrap_i64]; omega
  go_enter Try.func50, Try.ntmps50
  go_wp2_with fail
  go_ret
  exact ⟨rfl, (Below.refl _ _).alloc (Nat.le_refl _) _⟩
theorem isNaN64_any (x : Int) (w : World) : Calls Try.prog 146 #[.int .i64 x] w fun e w' => e = .returned (.bool false) ∧ Below w.heap.size w w' := by
  have h : (x != x) = false := by simp
  go_enter Try.func146, Try.ntmps146
  go_wp2_with fail
  go_ret
  exact ⟨rfl, Below.refl _ _⟩
theorem cmp64_any (x y : Int) (w : World) : Calls Try.prog 101 #[.int .i64 x, .int .i64 y] w fun e w' => ∃ z : Int, e = .returned (.int .i64 z) ∧ (z < 0 ↔ x < y) ∧ Below w.heap.size w w' := by
  rcases Int.lt_trichotomy x y with h | h | h
  · have d1 : decide (x < y) = true := by simpa using h
    have HH := Lib.hid h
    clear h
    go_enter Try.func101, Try.ntmps101
    go_wp2_with fail
    refine (isNaN64_any x _).mono ?_
    rintro e w1 ⟨rfl, b1⟩
    go_wp2_with fail
    refine (isNaN64_any y _).mono ?_
    rintro e w2 ⟨rfl, b2⟩
    have B2 := bnext b1 b2 b1.size
    clear b1 b2
    go_wp2_with fail
    go_ret
    exact ⟨-1, rfl, ⟨fun _ => HH.out, fun _ => by omega⟩, B2⟩
  · subst h
    have d1 : decide (x < x) = false := by simp
    go_enter Try.func101, Try.ntmps101
    go_wp2_with fail
    refine (isNaN64_any x _).mono ?_
    rintro e w1 ⟨rfl, b1⟩
    go_wp2_with fail
    refine (isNaN64_any x _).mono ?_
    rintro e w2 ⟨rfl, b2⟩
    have B2 := bnext b1 b2 b1.size
    clear b1 b2
    go_wp2_with fail
    go_ret
    exact ⟨0, rfl, by omega, B2⟩
  · have d1 : decide (x < y) = false := by simp; omega
    have d2 : decide (y < x) = true := by simpa using h
    have HH := Lib.hid h
    clear h
    go_enter Try.func101, Try.ntmps101
    go_wp2_with fail
    refine (isNaN64_any x _).mono ?_
    rintro e w1 ⟨rfl, b1⟩
    go_wp2_with fail
    refine (isNaN64_any y _).mono ?_
    rintro e w2 ⟨rfl, b2⟩
    have B2 := bnext b1 b2 b1.size
    clear b1 b2
    go_wp2_with fail
    go_ret
    exact ⟨1, rfl, by have := HH.out; omega, B2⟩
/-- Places that can be in a roof. -/
def PlQ (a b : Int) : Prop := (-128 ≤ a ∧ a ≤ 127) ∧ (0 ≤ b ∧ b < 8)
theorem rank_lt {x0 x1 y0 y1 : Int} (hx : PlQ x0 x1) (hy : PlQ y0 y1) : (x0 * 8 + x1 < y0 * 8 + y1 ↔ (x0 < y0 ∨ x0 = y0 ∧ x1 < y1)) := by
  obtain ⟨_, h1⟩ := hx
  obtain ⟨_, h2⟩ := hy
  constructor
  · intro h
    by_cases q : x0 < y0
    · exact .inl q
    · refine .inr ⟨by omega, by omega⟩
  · rintro (h | ⟨h, k⟩) <;> omega
set_option maxRecDepth 100000 in
set_option maxHeartbeats 2000000 in
theorem cmpRank (kb : Nat) : CmpP 100 PlQ kb #[.func (.func 50) #[] #[]] := by
  intro W x0 x1 y0 y1 hk hx hy
  have hlt := rank_lt hx hy
  have CX := fun W' => rank_any x0 x1 W' hx.1 (by have := hx.2; omega)
  have CY := fun W' => rank_any y0 y1 W' hy.1 (by have := hy.2; omega)
  have CC := fun W' => cmp64_any (x0 * 8 + x1) (y0 * 8 + y1) W'
  have HLT := Lib.hid hlt
  have l0 := rowAt_lt hk
  clear hlt hx hy
  go_enter Try.func100, Try.ntmps100
  go_wp2_with fail
  refine gen_world fun V hV => ?_
  have q0 : rowAt V kb = some #[.func (.func 50) #[] #[]] := by rw [hV]; exact (rowAt_alloc_past _ _ _ (by simp; omega)).trans ((rowAt_alloc_past _ _ _ l0).trans hk)
  have q1 : rowAt V W.heap.size = some #[.int .i8 x0, .int .i8 x1] := by rw [hV]; exact (rowAt_alloc_past _ _ _ (by simp)).trans (rowAt_alloc_at _ _ _ _ rfl)
  have q2 : rowAt V (W.heap.size + 1) = some #[.int .i8 y0, .int .i8 y1] := by rw [hV]; exact rowAt_alloc_at _ _ _ _ (by simp)
  have BV : Below W.heap.size W V := by rw [hV]; exact ((Below.refl _ _).alloc (Nat.le_refl _) _).alloc (by simp) _
  clear hV
  refine wp_region_held_drew (S := fun w' => Below V.heap.size V w') (by kernel_rfl) ((Below.refl _ _).drew) (fun hH => ?_)
  refine wpAnyH_take (i := 0) (v := .func (.func 50) #[] #[]) rfl (by kernel_rfl) (by kernel_rfl) (by kernel_rfl) (fun _ _ _ h => h) (Or.inl ⟨by rfl, ?_⟩) hH ?_
  · intro w1 hS; (try dsimp only at hS); have s0 : w1.cell? ⟨kb, 0, none⟩ = some (.func (.func 50) #[] #[]) := (by rw [cell_of_rowAt (brow hS q0)]; rfl); go_simp
  (try simp only [List.getElem_toArray]); (try simp only [List.getElem_cons_succ]); (try simp only [List.getElem_cons_zero]); (try simp only [Act.put]); (try simp only [List.setIfInBounds_toArray]); (try simp only [List.set_cons_succ]); (try simp only [List.set_cons_zero])
  refine wpAnyH_take (i := 1) (v := .agg #[.int .i8 x0, .int .i8 x1]) rfl (by kernel_rfl) (by kernel_rfl) (by kernel_rfl) (fun _ _ _ h => h) (Or.inl ⟨by rfl, ?_⟩) hH ?_
  · intro w1 hS; (try dsimp only at hS); have s0 : w1.cell? ⟨W.heap.size, 0, none⟩ = some (.int .i8 x0) := (by rw [cell_of_rowAt (brow hS q1)]; rfl); have s1 : w1.cell? ⟨W.heap.size, 1, none⟩ = some (.int .i8 x1) := (by rw [cell_of_rowAt (brow hS q1)]; rfl); go_simp
  (try simp only [List.getElem_toArray]); (try simp only [List.getElem_cons_succ]); (try simp only [List.getElem_cons_zero]); (try simp only [Act.put]); (try simp only [List.setIfInBounds_toArray]); (try simp only [List.set_cons_succ]); (try simp only [List.set_cons_zero])
  refine wpAnyH_take (i := 3) (v := .func (.func 50) #[] #[]) rfl (by kernel_rfl) (by kernel_rfl) (by kernel_rfl) (fun _ _ _ h => h) (Or.inl ⟨by rfl, ?_⟩) hH ?_
  · intro w1 hS; (try dsimp only at hS); have s0 : w1.cell? ⟨kb, 0, none⟩ = some (.func (.func 50) #[] #[]) := (by rw [cell_of_rowAt (brow hS q0)]; rfl); go_simp
  (try simp only [List.getElem_toArray]); (try simp only [List.getElem_cons_succ]); (try simp only [List.getElem_cons_zero]); (try simp only [Act.put]); (try simp only [List.setIfInBounds_toArray]); (try simp only [List.set_cons_succ]); (try simp only [List.set_cons_zero])
  refine wpAnyH_take (i := 4) (v := .agg #[.int .i8 y0, .int .i8 y1]) rfl (by kernel_rfl) (by kernel_rfl) (by kernel_rfl) (fun _ _ _ h => h) (Or.inl ⟨by rfl, ?_⟩) hH ?_
  · intro w1 hS; (try dsimp only at hS); have s0 : w1.cell? ⟨W.heap.size + 1, 0, none⟩ = some (.int .i8 y0) := (by rw [cell_of_rowAt (brow hS q2)]; rfl); have s1 : w1.cell? ⟨W.heap.size + 1, 1, none⟩ = some (.int .i8 y1) := (by rw [cell_of_rowAt (brow hS q2)]; rfl); go_simp
  (try simp only [List.getElem_toArray]); (try simp only [List.getElem_cons_succ]); (try simp only [List.getElem_cons_zero]); (try simp only [Act.put]); (try simp only [List.setIfInBounds_toArray]); (try simp only [List.set_cons_succ]); (try simp only [List.set_cons_zero])
  refine wpAnyH_ready (rs := [2]) (by kernel_rfl) (by simp) (AllReadyH.cons rfl (fun K hK => ?_) AllReadyH.nil)
  go_simp
  refine (CX _).mono ?_
  rintro x wx ⟨rfl, bx⟩
  go_simp
  refine hK.out _ _ (bnext hH bx hH.size) (fun hG => ?_)
  clear hK K hH bx
  replace hH := hG
  clear hG
  (try simp only [List.getElem_toArray]); (try simp only [List.getElem_cons_succ]); (try simp only [List.getElem_cons_zero]); (try simp only [Act.put]); (try simp only [List.setIfInBounds_toArray]); (try simp only [List.set_cons_succ]); (try simp only [List.set_cons_zero])
  refine wpAnyH_ready (rs := [5]) (by kernel_rfl) (by simp) (AllReadyH.cons rfl (fun K hK => ?_) AllReadyH.nil)
  go_simp
  refine (CY _).mono ?_
  rintro x wx ⟨rfl, bx⟩
  go_simp
  refine hK.out _ _ (bnext hH bx hH.size) (fun hG => ?_)
  clear hK K hH bx
  replace hH := hG
  clear hG
  (try simp only [List.getElem_toArray]); (try simp only [List.getElem_cons_succ]); (try simp only [List.getElem_cons_zero]); (try simp only [Act.put]); (try simp only [List.setIfInBounds_toArray]); (try simp only [List.set_cons_succ]); (try simp only [List.set_cons_zero])
  refine wpAnyH_ready (rs := [6]) (by kernel_rfl) (by simp) (AllReadyH.cons rfl (fun K hK => ?_) AllReadyH.nil)
  go_simp
  refine (CC _).mono ?_
  rintro x wx ⟨z, rfl, hz, bx⟩
  have HZ := Lib.hid hz
  clear hz
  go_simp
  refine hK.out _ _ (bnext hH bx hH.size) (fun hG => ?_)
  clear hK K hH bx
  replace hH := hG
  clear hG
  (try simp only [List.getElem_toArray]); (try simp only [List.getElem_cons_succ]); (try simp only [List.getElem_cons_zero]); (try simp only [Act.put]); (try simp only [List.setIfInBounds_toArray]); (try simp only [List.set_cons_succ]); (try simp only [List.set_cons_zero])
  refine wpAnyH_take (i := 7) (v := .int .i64 z) rfl (by kernel_rfl) (by kernel_rfl) (by kernel_rfl) (fun _ _ _ h => h) (Or.inl ⟨by rfl, ?_⟩) hH ?_
  · intro w1 hS; (try dsimp only at hS); go_simp
  (try simp only [List.getElem_toArray]); (try simp only [List.getElem_cons_succ]); (try simp only [List.getElem_cons_zero]); (try simp only [Act.put]); (try simp only [List.setIfInBounds_toArray]); (try simp only [List.set_cons_succ]); (try simp only [List.set_cons_zero])
  refine wpAnyH_done (by kernel_rfl) ?_ _
  have B9 := bnext BV hH BV.size
  clear hH q0 q1 q2 BV
  go_wp2_with fail
  go_ret
  exact ⟨z, rfl, HZ.out.trans HLT.out, B9⟩

set_option maxRecDepth 100000 in
set_option maxHeartbeats 2000000 in
theorem stable_any (g n cap kb : Nat) (fid : FuncId) (kc cur : Array Value) (f : Nat → Int) (Q : Int → Int → Prop) (w : World) (eg : ∀ args w, (callFunc fid args).run Try.prog w = .ok (.enter fid args) w) (hC : CmpP fid Q kb kc) (hr : rowAt w g = some cur) (hP : IsP cur n f) (hQ : AllE Q n f) (hk : rowAt w kb = some kc) (hne : kb ≠ g) (h0 : 0 < n) (hn : n ≤ 8) :
    Calls Try.prog 145 #[.slice (some ⟨g, 0, none⟩) n cap, .int .i64 n, .func (.func fid) #[] #[.pointer (some ⟨kb, 0, none⟩)]] w fun e w' => e = .returned (.tuple #[]) ∧ (∃ cur', rowAt w' g = some cur' ∧ IsP cur' n (srt f n)) ∧ LeS g w w' := by
  have CI := insSort_any g n cap kb fid kc cur f Q w eg hC hr hP hQ hk hne h0 (by omega)
  have d1 : decide ((20 : Int) ≤ n) = false := by simp; omega
  have d2 : decide ((20 : Int) < n) = false := by simp; omega
  have n20 : (n : Int) < 20 := by omega
  clear hC hr hP hQ hk
  go_enter Try.func145, Try.ntmps145
  go_wp2_with fail
  go_loopw [7, 8] (fun a b W => a = .int .i64 0 ∧ b = .int .i64 20 ∧ W = w) (fun _ _ _ => 0)
  case atStart => exact ⟨rfl, rfl, rfl⟩
  case round =>
  obtain ⟨rfl, rfl, rfl⟩ := hrel
  go_wp2_with fail
  refine CI.mono ?_
  rintro e w1 ⟨rfl, hc, hL⟩
  have HC := Lib.hid hc
  have HL := Lib.hid hL
  clear CI hc hL
  go_wp2_with fail
  go_loopw [6, 7, 8, 9] (fun s _ _ _ W => s = .int .i64 20 ∧ W = w1) (fun _ _ _ _ _ => 0)
  case atStart => exact ⟨rfl, rfl⟩
  case round =>
  obtain ⟨rfl, rfl⟩ := hrel
  go_wp2_with fail
  go_end0
  exact ⟨rfl, HC.out, HL.out⟩
set_option maxRecDepth 100000 in
set_option maxHeartbeats 2000000 in
theorem stable0_any (a : Option Addr) (cap : Nat) (fv : Value) (w : World) :
    Calls Try.prog 145 #[.slice a 0 cap, .int .i64 0, fv] w fun e w' => e = .returned (.tuple #[]) ∧ w' = w := by
  have CI : ∀ W, Calls Try.prog 163 #[.slice a 0 cap, .int .i64 0, .int .i64 0, fv] W fun e w' => e = .returned (.tuple #[]) ∧ w' = W := by
    intro W
    go_enter Try.func163, Try.ntmps163
    go_wp2_with fail
    go_loopw [8, 9] (fun i _ V => i = .int .i64 1 ∧ V = W) (fun _ _ _ => 0)
    case atStart => exact ⟨rfl, rfl⟩
    case round =>
    obtain ⟨rfl, rfl⟩ := hrel
    go_wp2_with fail
    go_end0
    exact ⟨rfl, rfl⟩
  go_enter Try.func145, Try.ntmps145
  go_wp2_with fail
  go_loopw [7, 8] (fun a b W => a = .int .i64 0 ∧ b = .int .i64 20 ∧ W = w) (fun _ _ _ => 0)
  case atStart => exact ⟨rfl, rfl, rfl⟩
  case round =>
  obtain ⟨rfl, rfl, rfl⟩ := hrel
  go_wp2_with fail
  refine (CI _).mono ?_
  rintro e w1 ⟨rfl, rfl⟩
  go_wp2_with fail
  go_loopw [6, 7, 8, 9] (fun s _ _ _ V => s = .int .i64 20 ∧ V = w1) (fun _ _ _ _ _ => 0)
  case atStart => exact ⟨rfl, rfl⟩
  case round =>
  obtain ⟨rfl, rfl⟩ := hrel
  go_wp2_with fail
  go_end0
  exact ⟨rfl, rfl⟩
set_option maxRecDepth 100000 in
set_option maxHeartbeats 2000000 in
theorem sortFn_any (g n cap kb : Nat) (fid : FuncId) (kc cur : Array Value) (f : Nat → Int) (Q : Int → Int → Prop) (w : World) (eg : ∀ args w, (callFunc fid args).run Try.prog w = .ok (.enter fid args) w) (hC : CmpP fid Q kb kc) (hr : rowAt w g = some cur) (hP : IsP cur n f) (hQ : AllE Q n f) (hk : rowAt w kb = some kc) (hne : kb ≠ g) (h0 : 0 < n) (hn : n ≤ 8) :
    Calls Try.prog 99 #[.slice (some ⟨g, 0, none⟩) n cap, .func (.func fid) #[] #[.pointer (some ⟨kb, 0, none⟩)]] w fun e w' => e = .returned (.tuple #[]) ∧ (∃ cur', rowAt w' g = some cur' ∧ IsP cur' n (srt f n)) ∧ LeS g w w' := by
  have CI := stable_any g n cap kb fid kc cur f Q w eg hC hr hP hQ hk hne h0 hn
  clear hC hr hP hQ hk
  go_enter Try.func99, Try.ntmps99
  go_wp2_with fail
  refine CI.mono ?_
  rintro e w1 ⟨rfl, hc, hL⟩
  have HC := Lib.hid hc
  have HL := Lib.hid hL
  clear CI hc hL
  go_wp2_with fail
  go_end0
  exact ⟨rfl, HC.out, HL.out⟩
set_option maxRecDepth 100000 in
set_option maxHeartbeats 2000000 in
theorem sortFn0_any (a : Option Addr) (cap : Nat) (fid : FuncId) (cb : Array Value) (w : World) :
    Calls Try.prog 99 #[.slice a 0 cap, .func (.func fid) #[] cb] w fun e w' => e = .returned (.tuple #[]) ∧ w' = w := by
  go_enter Try.func99, Try.ntmps99
  go_wp2_with fail
  refine (stable0_any a cap _ _).mono ?_
  rintro e w1 ⟨rfl, rfl⟩
  go_wp2_with fail
  go_end0
  exact ⟨rfl, rfl⟩

set_option maxRecDepth 100000 in
set_option maxHeartbeats 2000000 in
theorem sortedBy_any (b n : Nat) (v : Value) (f : Nat → Int) (w : World) (hv : IsList w b v 2 n (fun i => .int .i8 (f i))) (hn : n ≤ 8) (hQ : AllE PlQ n f) :
    Calls Try.prog 49 #[v, .func (.func 50) #[] #[]] w fun e w' => ∃ a cap, e = .returned (.slice a n cap) ∧ n ≤ cap ∧ IsList w' w.heap.size (.slice a n cap) 2 n (fun i => .int .i8 (srt f n i)) ∧ Below w.heap.size w w' := by
  have eg : ∀ args w, (callFunc 100 args).run Try.prog w = .ok (.enter 100 args) w := enters_of Try.func100 (by kernel_rfl) rfl
  have hmf : ∀ (fn : Fn) (first cap : Array Value) (w : World), (Instr.makeFunc fn first cap).run Try.prog w = .ok (.func fn first cap) w := fun _ _ _ _ => rfl
  have HV := Lib.hid hv
  have CL := fun W h => cloneP_any b n v f W h (by omega)
  obtain ⟨a0, cap0, rfl⟩ := hv.shape
  have HQ := Lib.hid hQ
  clear hv hQ
  go_enter Try.func49, Try.ntmps49
  go_wp2_with fail
  refine gen_callsW fun W hW => ?_
  have q0 : rowAt W w.heap.size = some #[.func (.func 50) #[] #[]] := by rw [hW]; exact rowAt_alloc_at _ _ _ _ rfl
  have BW : Below w.heap.size w W := by rw [hW]; exact (Below.refl _ _).alloc (Nat.le_refl _) _
  clear hW
  refine (CL W (HV.out.below BW (Nat.le_refl _))).mono ?_
  rintro e w1 ⟨a, cap, rfl, hcap, hl, b1⟩
  have q1 := brow b1 q0
  have B1 := bnext BW b1 BW.size
  have lw := BW.size
  have lq := rowAt_lt q0
  clear b1 q0 BW CL
  rcases Nat.eq_zero_or_pos n with h0 | h0
  · subst h0
    go_wp2_with fail
    refine (sortFn0_any a cap _ _ _).mono ?_
    rintro e w2 ⟨rfl, rfl⟩
    go_wp2_with fail
    go_ret
    exact ⟨a, cap, rfl, hcap, .inl ⟨rfl, _, _, rfl⟩, B1⟩
  · obtain ⟨g, cur, rfl, hg, hr, hP⟩ : ∃ g cur, a = some ⟨g, 0, none⟩ ∧ W.heap.size ≤ g ∧ rowAt w1 g = some cur ∧ IsP cur n f := by
      rcases hl with ⟨h, _⟩ | ⟨g, c, cur, e, hg, hr, hs, hf⟩
      · omega
      · cases e
        exact ⟨g, cur, rfl, hg, hr, hs, hf⟩
    have CS := sortFn_any g n cap w.heap.size 100 _ cur f PlQ w1 eg (cmpRank _) hr hP HQ.out q1 (by omega) h0 hn
    have HB1 := Lib.hid B1
    clear hl hr hP B1 q1
    go_wp2_with fail
    refine CS.mono ?_
    rintro e w2 ⟨rfl, ⟨cur2, r2, i2⟩, hL⟩
    have B2 := Lib.hid (HB1.out.trans (hL.bel w.heap.size (by omega) HB1.out.size))
    have R2 := Lib.hid r2
    have I2 := Lib.hid i2
    clear CS r2 i2 hL
    go_wp2_with fail
    go_ret
    exact ⟨_, cap, rfl, hcap, .inr ⟨g, cap, cur2, rfl, by omega, R2.out, I2.out.size, I2.out.get⟩, B2.out⟩
end Go.Proofs.Ytkbacpkpgfppiaa

/- The program's firstUpward. -/
namespace Go.Proofs.Ytkbacpkpgfppiaa
open Go.RowKit

theorem Rf.okP_srtU {r : Rf} {f : Nat → Int} {n : Nat} (h : r.okP f n) : r.okP (srt f n) n := fun k hk => AllE.srt (Q := fun a b => 0 ≤ a ∧ a < r.h ∧ 0 ≤ b ∧ b < r.w) (n := n) h (Nat.le_refl _) k hk
theorem Rf.okP_plq {r : Rf} {f : Nat → Int} {n : Nat} (ho : r.Ok) (h : r.okP f n) : AllE PlQ n f := fun k hk => by
  have h1 := ho.2.1
  have h2 := ho.2.2.2.1
  obtain ⟨a, b, c, d⟩ := h k hk
  exact ⟨by omega, by omega⟩
theorem Rf.okP_onR {r : Rf} {f : Nat → Int} {n : Nat} (ho : r.Ok) (h : r.okP f n) : AllE (OnR r) n f := fun k hk => by
  have h1 := ho.2.1
  have h2 := ho.2.2.2.1
  obtain ⟨a, b, c, d⟩ := h k hk
  exact ⟨(f (k * 2)).toNat, (f (k * 2 + 1)).toNat, by omega, by omega, by omega, by omega, by omega⟩
theorem owns_blocks {w w' : World} {base : Nat} {e : TypeId} {size : Nat} {v : Value} {n : Nat} {xs : List Value} (h : w.ownsRow base e size v n xs) (b : ∀ x, base ≤ x → w'.heap[x]? = w.heap[x]?) : w'.ownsRow base e size v n xs := by
  obtain ⟨hl, h | ⟨g, cap, cur, rfl, hg, hh, hr⟩⟩ := h
  · exact ⟨hl, .inl h⟩
  · exact ⟨hl, .inr ⟨g, cap, cur, rfl, hg, (b g hg).trans hh, hr⟩⟩
theorem LeS.row {g : Nat} {w W : World} (h : LeS g w W) {k : Nat} {c : Array Value} (hk : k ≠ g) (hr : rowAt w k = some c) : rowAt W k = some c := (h.other k hk (rowAt_lt hr)).trans hr

set_option maxRecDepth 100000 in
set_option maxHeartbeats 4000000 in
theorem firstUpward_any (b n : Nat) (c : Array Value) (r : Rf) (v : Value) (f : Nat → Int) (w : World) (hR : IsRoof c r) (ho : r.Ok) (hp : r.okP f n) (hd : dupP f n = false) (hv : IsList w b v 2 n (fun i => .int .i8 (f i))) (hn : n ≤ 8) :
    Calls Try.prog 56 #[.agg c, v] w fun e w' => ∃ x, e = .returned x ∧ IsList w' w.heap.size x 2 n (fun i => .int .i8 (r.upX (srt f n) n n i)) ∧ Below w.heap.size w w' := by
  have hc := hR.size
  obtain ⟨i0, hi0, hz0, hz1, hz2⟩ := info_parts A_infoPlC
  have eg : ∀ args w, (callFunc 104 args).run Try.prog w = .ok (.enter 104 args) w := enters_of Try.func104 (by kernel_rfl) rfl
  have hmf : ∀ (fn : Fn) (first cap : Array Value) (w : World), (Instr.makeFunc fn first cap).run Try.prog w = .ok (.func fn first cap) w := fun _ _ _ _ => rfl
  have HV := Lib.hid hv
  have CS := fun W h => sortedBy_any b n v f W h hn (Rf.okP_plq ho hp)
  have HP := Lib.hid (Rf.okP_srtU hp)
  have HI := Lib.hid ((InjE.of_dup hd).srt (Nat.le_refl n))
  obtain ⟨a0, cap0, rfl⟩ := hv.shape
  generalize srt f n = g at *
  clear hv hp hd
  go_enter Try.func56, Try.ntmps56
  go_wp2_with fail
  refine gen_callsW fun W hW => ?_
  have P0 : Hid (rowAt W w.heap.size = some c) := Lib.hid (by rw [hW]; exact rowAt_alloc_at _ _ _ _ rfl)
  have BW : Hid (Below w.heap.size w W) := Lib.hid (by rw [hW]; exact (Below.refl _ _).alloc (Nat.le_refl _) _)
  clear hW
  refine (CS W (HV.out.below BW.out (Nat.le_refl _))).mono ?_
  rintro e w1 ⟨a, cap, rfl, hcap, hl, b1⟩
  have P1 := Lib.hid (brow b1 P0.out)
  have B1 := Lib.hid (bnext BW.out b1 BW.out.size)
  have L1 := Lib.hid hl
  have lw := BW.out.size
  have lw1 := b1.size
  have lp := rowAt_lt P0.out
  clear b1 CS hl HV
  go_wp2_with fail
  refine gen_world fun W2 hW2 => ?_
  have BX : Hid (rowAt W2 w1.heap.size = some #[.slice a n cap]) := Lib.hid (by rw [hW2]; exact rowAt_alloc_at _ _ _ _ rfl)
  have B12 : Below w1.heap.size w1 W2 := by rw [hW2]; exact (Below.refl _ _).alloc (Nat.le_refl _) _
  have hsz : W2.heap.size = w1.heap.size + 1 := by rw [hW2]; simp
  have P2 := Lib.hid (brow B12 P1.out)
  have B2 := Lib.hid (bnext B1.out B12 B1.out.size)
  clear hW2
  rcases Nat.eq_zero_or_pos n with h0 | h0
  · subst h0
    clear L1 HP HI
    go_loopg [6, 7] 1 (fun gg x _ W => 0 ≤ gg ∧ x = .slice none 0 0 ∧ Hid (rowAt W w1.heap.size = some #[.slice a 0 cap]) ∧ Below w.heap.size w W)
    case atStart => exact ⟨by omega, rfl, BX, B2.out⟩
    case round =>
      obtain ⟨_, rfl, hX, hB⟩ := hrel
      have q0 := cell_of_rowAt hX.out 0
      simp at q0
      go_wp2_with fail
      go_ret
      exact ⟨_, rfl, .inl ⟨rfl, _, _, rfl⟩, hB⟩
  · obtain ⟨g0, cur0, rfl, hg0, hr0, hP0⟩ : ∃ g0 cur0, a = some ⟨g0, 0, none⟩ ∧ W.heap.size ≤ g0 ∧ rowAt w1 g0 = some cur0 ∧ IsP cur0 n g := by
      rcases L1.out with ⟨h, _⟩ | ⟨g0, c0, cur0, e, hg, hr, hs, hf⟩
      · omega
      · cases e
        exact ⟨g0, cur0, rfl, hg, hr, hs, hf⟩
    have lg := rowAt_lt hr0
    have lp1 := rowAt_lt P1.out
    have R0 := Lib.hid (brow B12 hr0)
    have HL0 : Hid (IsP cur0 n (r.lfF g n 0)) := Lib.hid ⟨hP0.size, fun i hi => by rw [Rf.lfF_zero r g n i hi]; exact hP0.get i hi⟩
    have hgp : w.heap.size ≠ g0 := by omega
    clear L1 hr0 hP0 B12
    go_loopg [6, 7] n (fun gg x _ W => ∃ (m l : Nat) (cur : Array Value), n - m ≤ gg ∧ l + m = n ∧ Hid (W.ownsRow W2.heap.size 58 2 x m (cellsTo .i8 (r.upX g n m) (m * 2))) ∧ Hid (rowAt W w1.heap.size = some #[.slice (some ⟨g0, 0, none⟩) l cap]) ∧ Hid (rowAt W g0 = some cur) ∧ Hid (IsP cur l (r.lfF g n m)) ∧ Hid (rowAt W w.heap.size = some c) ∧ Hid (Below w.heap.size w W) ∧ W2.heap.size ≤ W.heap.size)
    case atStart => exact ⟨0, n, cur0, by omega, by omega, Lib.hid (owns_nil _ _ _ 2 .i8 _), BX, R0, HL0, P2, B2, Nat.le_refl _⟩
    case round =>
      clear HL0 R0 BX P2 B2 P1 B1 P0 BW
      obtain ⟨m, l, cur, hg, hlm, HO, HX, HG, HC, HR0, HB, hs2⟩ := hrel
      have q0 := cell_of_rowAt HX.out 0
      simp at q0
      by_cases hlt : 0 < l
      · have hl0 : 0 < (l : Int) := by omega
        have hok := Rf.lfF_ok HP.out HI.out (m := m) (by omega)
        have hfi := Rf.up_find ho HP.out HI.out (m := m) (by omega)
        obtain ⟨hqd, hget⟩ := Rf.upQ_get HP.out HI.out (m := m) (by omega)
        have hse := Rf.lfF_succ HP.out HI.out (m := m) (by omega)
        have e0 := Rf.lfF_even r g n m (r.upQ g n m)
        have e1 := Rf.lfF_odd r g n m (r.upQ g n m)
        rw [hget, ← Rf.upX_even r g n m] at e0
        rw [hget, ← Rf.upX_odd r g n m] at e1
        rw [show n - m = l by omega] at hok hfi hqd
        have HPR := fun W (h1 : rowAt W w.heap.size = some c) (h2 : rowAt W w1.heap.size = some #[.slice (some ⟨g0, 0, none⟩) l cap]) (h3 : ArgL W (.slice (some ⟨g0, 0, none⟩) l cap) l (r.lfF g n m)) => upFree_any w.heap.size w1.heap.size l c r (.slice (some ⟨g0, 0, none⟩) l cap) (r.lfF g n m) W h1 h2 hR ho h3 (by omega)
        have CI := fun W h1 h2 h3 h4 => idxFuncQ_any (OnR r) 104 #[.pointer (some ⟨w.heap.size, 0, none⟩), .pointer (some ⟨w1.heap.size, 0, none⟩)] (fun a b => !r.lapsOver a b (r.lfF g n m) l) eg 0 l (.slice (some ⟨g0, 0, none⟩) l cap) (r.lfF g n m) W (HPR W h1 h2 h3) (Rf.okP_onR ho hok) h4 (by omega)
        rw [hfi] at CI
        have hlist : Hid (IsList wr 0 (.slice (some ⟨g0, 0, none⟩) l cap) 2 l (fun i => .int .i8 (r.lfF g n m i))) := Lib.hid (.inr ⟨g0, cap, cur, rfl, Nat.zero_le _, HG.out, HC.out.size, HC.out.get⟩)
        have hA0 : Hid (∀ i, i < m * 2 → r.upX g n (m + 1) i = r.upX g n m i) := Lib.hid (fun i hi => Rf.upX_old r g n m i hi)
        generalize r.upQ g n m = q at *
        obtain ⟨d, hd⟩ : ∃ d, l = q + 1 + d := ⟨l - (q + 1), by omega⟩
        have CD := fun W h => deleteA_any g0 l (q + 1) q d (q + d) cap (r.lfF g n m) cur W h HC.out rfl hd rfl (by omega) (by omega)
        rw [show ((q + 1 : Nat) : Int) = (q : Int) + 1 from by omega] at CD
        clear hfi hok HPR hget
        have HSE := Lib.hid hse
        have E0 := Lib.hid e0
        have E1 := Lib.hid e1
        have HD := Lib.hid hd
        have hq1 : (q : Int) < l := by omega
        clear hse e0 e1 hd
        go_wp2_with fail
        refine (CI _ HR0.out HX.out hlist.out.argU hlist.out).mono ?_
        rintro e w3 ⟨rfl, b3⟩
        have X3 := Lib.hid (brow b3 HX.out)
        have G3 := Lib.hid (brow b3 HG.out)
        have R3 := Lib.hid (brow b3 HR0.out)
        have B3 := Lib.hid (bnext HB.out b3 HB.out.size)
        have hv3 := owns_below HO.out b3
        have s3 := b3.size
        have q3 := cell_of_rowAt X3.out 0
        simp at q3
        have c0 : w3.cell? ⟨g0, q * 2, none⟩ = some (.int .i8 (r.upX g n (m + 1) (m * 2))) := by rw [cell_of_rowAt G3.out, HC.out.get _ (by omega), E0.out]
        have c1 : w3.cell? ⟨g0, q * 2 + 1, none⟩ = some (.int .i8 (r.upX g n (m + 1) (m * 2 + 1))) := by rw [cell_of_rowAt G3.out, HC.out.get _ (by omega), E1.out]
        have hq0 : 0 ≤ (q : Int) := by omega
        clear q0 b3 CI hlist HO HX HG HR0 HB
        generalize hU0 : r.upX g n (m + 1) (m * 2) = U0 at *
        generalize hU1 : r.upX g n (m + 1) (m * 2 + 1) = U1 at *
        have HU0 := Lib.hid hU0
        have HU1 := Lib.hid hU1
        clear hU0 hU1
        go_wp2_with (at_builtin; refine wpList_append_own _ rfl _ _ 33 rfl W2.heap.size 58 i0 (.agg #[.int .i8 0, .int .i8 0]) 2 2 Try.underlying33 hi0 hz0 hz1 hz2 rfl (by decide) _ _ _ rfl (hv3.alloc _) ⟨w3.heap.size, 0, none⟩ 1 1 [.int .i8 U0, .int .i8 U1] rfl rfl (cell_two_new _ _ _ _) (by simp [Value.oneCell']) (by unfold maxLen; omega) (by omega) (by simp; omega) ?_)
        intro v' w4 own4 grow4 _
        have ob := owns_base' hv3
        have X4 : Hid (rowAt w4 w1.heap.size = some #[.slice (some ⟨g0, 0, none⟩) l cap]) := Lib.hid ((grown_below grow4 (by simp; omega) ob (by omega)).trans ((rowAt_alloc_past _ _ _ (by omega)).trans X3.out))
        have G4 : Hid (rowAt w4 g0 = some cur) := Lib.hid ((grown_below grow4 (by simp; omega) ob (by omega)).trans ((rowAt_alloc_past _ _ _ (by omega)).trans G3.out))
        have R4 : Hid (rowAt w4 w.heap.size = some c) := Lib.hid ((grown_below grow4 (by simp; omega) ob (by omega)).trans ((rowAt_alloc_past _ _ _ (by omega)).trans R3.out))
        have B4 : Hid (Below w.heap.size w w4) := Lib.hid ((B3.out.alloc (by omega) _).grown grow4 (by simp; omega) (fun x hx => by have := ob x hx; omega))
        have s4 : w3.heap.size ≤ w4.heap.size := by have := grow4.size; simp at this; omega
        have q4 := cell_of_rowAt X4.out 0
        simp at q4
        have O4 : Hid (w4.ownsRow W2.heap.size 58 2 v' (m + 1) (cellsTo .i8 (r.upX g n (m + 1)) ((m + 1) * 2))) := Lib.hid (by
          rw [cellsTo_two .i8 (r.upX g n (m + 1)) m HU0.out HU1.out, show cellsTo .i8 (r.upX g n (m + 1)) (m * 2) = cellsTo .i8 (r.upX g n m) (m * 2) from List.map_congr_left fun i hi => by rw [hA0.out i (List.mem_range.1 hi)]]
          rw [hsz]; exact own4)
        clear own4 grow4 hv3 q3 c0 c1 X3 G3 R3 B3 ob
        go_wp2_with fail
        refine (CD _ G4.out).mono ?_
        rintro e w5 ⟨rfl, ⟨cur', r5, i5⟩, l5, o5⟩
        have X5 := Lib.hid (l5.row (by omega) X4.out)
        have G5 := Lib.hid r5
        have R5 := Lib.hid (l5.row hgp R4.out)
        have B5 := Lib.hid (B4.out.trans (l5.bel w.heap.size (by omega) B4.out.size))
        have O5 := Lib.hid (owns_blocks O4.out fun x hx => o5 x (by omega))
        have I5 := Lib.hid i5
        have s5 := l5.size
        have q5 := cell_of_rowAt X5.out 0
        simp at q5
        have fz := frozen_of_rowAt X5.out
        clear r5 i5 l5 o5 CD q4
        go_wp2_with fail
        go_roundg (n - (m + 1))
        case measure => omega
        case rel => exact ⟨m + 1, q + d, cur', by omega, by have := HD.out; omega, Lib.hid (owns_setCell O5.out (by omega) _ _), Lib.hid (by rw [rowAt_setCell_at _ _ _ _ (by rw [X5.out]; rfl), X5.out]; rfl), Lib.hid ((rowAt_setCell_ne _ _ _ _ _ (by omega)).trans G5.out), Lib.hid ⟨I5.out.size, fun i hi => by rw [HSE.out]; exact I5.out.get i hi⟩, Lib.hid ((rowAt_setCell_ne _ _ _ _ _ (by omega)).trans R5.out), Lib.hid (B5.out.setCell (by simp; omega) _), by simp; omega⟩
      · obtain rfl : l = 0 := by omega
        obtain rfl : m = n := by omega
        go_wp2_with fail
        go_ret
        exact ⟨_, rfl, (owns_list HO.out).mono (by omega), HB.out⟩
end Go.Proofs.Ytkbacpkpgfppiaa

/- FirstUpward: the program's side. -/
namespace Go.Proofs.Ytkbacpkpgfppiaa
open Go.RowKit

noncomputable def Rf.upN (r : Rf) (f : Nat → Int) (n : Nat) : Nat := if r.liftC f n = 0 then n else 0
theorem Rf.upN_le {r : Rf} {f : Nat → Int} {n : Nat} (h : n ≤ 2000000) : r.upN f n ≤ 2000000 := by unfold Rf.upN; split <;> omega
def Rf.upF (r : Rf) (f : Nat → Int) (n : Nat) : Nat → Int := r.upX (srt f n) n n

set_option maxRecDepth 100000 in
set_option maxHeartbeats 2000000 in
theorem implFirstUpward_any (c : Array Value) (r : Rf) (B n : Nat) (f : Nat → Int) (u : Option Addr) (w : World) (hR : IsRoof c r)
    (hv : IsList w B (.slice u n n) 2 n (fun i => .int .i8 (f i))) (hn : n ≤ 2000000) (hf : ∀ i, i < n * 2 → -128 ≤ f i ∧ f i ≤ 127) :
    Calls Try.prog 18 #[.agg c, .slice u n n] w (GivesT w 2 .i8 (r.upN f n) (r.upF f n) [.int .i64 (r.liftC f n)]) := by
  have hc := hR.size
  have PB := Lib.hid (show Below w.heap.size w (w.alloc (.cells c 31)) from (Below.refl _ _).alloc (Nat.le_refl _) _)
  have p0 := rowAt_alloc_at w c 31 w.heap.size rfl
  have HV := Lib.hid (hv.below PB.out (Nat.le_refl _))
  have CO := fun W H => checkOrder_any B 0 n 0 c r f (fun _ => 0) (.slice u n n) (.slice none 0 0) W hR H hn hf (IsList.none0 _ _ _ _ _ _) (by omega)
  rw [show r.ocode f n (fineB (fun _ => 0) 0) = r.liftC f n from rfl] at CO
  clear hv
  by_cases hk : r.liftC f n = 0
  · have hb : (r.liftC f n != 0) = false := by simp [hk]
    obtain ⟨ho, _, hp, hn8, hd⟩ := Rf.ocode_zero hk
    have HN : Hid (r.upN f n = n) := Lib.hid (if_pos hk)
    have HK := Lib.hid hk
    have CL := fun W H => firstUpward_any B n c r (.slice u n n) f W hR ho hp hd H hn8
    have HF : Hid (r.upF f n = r.upX (srt f n) n n) := Lib.hid rfl
    have P0 := Lib.hid p0
    clear hk hp hd
    go_enter Try.func18, Try.ntmps18
    go_wp2_with fail
    refine (CO _ HV.out).mono ?_
    rintro e w1 ⟨rfl, b1⟩
    have B1 := Lib.hid (bnext PB.out b1 PB.out.size)
    have q0 := brow b1 P0.out
    have HV1 := Lib.hid (HV.out.below b1 (Nat.le_refl _))
    clear b1 CO p0
    go_wp2_with fail
    refine (CL _ HV1.out).mono ?_
    rintro e w2 ⟨x, rfl, l2, b2⟩
    have B2 := Lib.hid (bnext B1.out b2 B1.out.size)
    have L2 := Lib.hid (l2.mono B1.out.size)
    clear b2 CL q0 l2
    go_wp2_with fail
    go_ret2
    exact ⟨x, by rw [HK.out]; rfl, by rw [HN.out, HF.out]; exact L2.out, B2.out⟩
  · have hb : (r.liftC f n != 0) = true := by simp [hk]
    have HN : Hid (r.upN f n = 0) := Lib.hid (if_neg hk)
    clear hk
    go_enter Try.func18, Try.ntmps18
    go_wp2_with fail
    refine (CO _ HV.out).mono ?_
    rintro e w1 ⟨rfl, b1⟩
    have B1 := Lib.hid (bnext PB.out b1 PB.out.size)
    clear b1 CO p0
    go_wp2_with fail
    go_ret2
    exact ⟨_, rfl, by rw [HN.out]; exact .inl ⟨rfl, _, _, rfl⟩, B1.out⟩
end Go.Proofs.Ytkbacpkpgfppiaa

/- Sorted places: the model's l04Sorted. -/
namespace Go.Proofs.Ytkbacpkpgfppiaa
open Go.RowKit

set_option maxRecDepth 100000 in
set_option maxHeartbeats 4000000 in
theorem less1_any (g o1 o2 c1 c2 : Nat) (x0 x1 y0 y1 : Int) (w : World) (a0 : w.cell? ⟨g, o1, none⟩ = some (.int .i8 x0)) (a1 : w.cell? ⟨g, o1 + 1, none⟩ = some (.int .i8 x1)) (b0 : w.cell? ⟨g, o2, none⟩ = some (.int .i8 y0)) (b1 : w.cell? ⟨g, o2 + 1, none⟩ = some (.int .i8 y1)) :
    Calls Try.prog 87 #[.slice (some ⟨g, o1, none⟩) 1 c1, .slice (some ⟨g, o2, none⟩) 1 c2] w fun e w' => ∃ z, e = .returned (.bool z) ∧ (z = true ↔ (x0 < y0 ∨ x0 = y0 ∧ x1 < y1)) ∧ Below w.heap.size w w' := by
  by_cases h1 : x0 < y0
  · have d0 : decide (x0 < y0) = true := by simpa using h1
    have n0 : (x0 == y0) = false := by simp; omega
    have HH := Lib.hid h1
    clear h1
    go_enter Try.func87, Try.ntmps87
    go_wp2_with fail
    go_loopw [5] (fun i W => (i = .int .i64 0) ∧ Hid (Below w.heap.size w W) ∧ W.cell? ⟨g, o1, none⟩ = some (.int .i8 x0) ∧ W.cell? ⟨g, o1 + 1, none⟩ = some (.int .i8 x1) ∧ W.cell? ⟨g, o2, none⟩ = some (.int .i8 y0) ∧ W.cell? ⟨g, o2 + 1, none⟩ = some (.int .i8 y1)) (fun i _ => 1 - (intOf i).toNat)
    case atStart => exact ⟨rfl, Lib.hid (Below.refl _ _), a0, a1, b0, b1⟩
    case round =>
      clear a0 a1 b0 b1
      obtain ⟨hi, hB, a0, a1, b0, b1⟩ := hrel
      subst hi
      go_wp2_with fail
      go_quiet (fail)
      go_wp2_with fail
      go_quiet (fail)
      go_wp2_with fail
      go_ret
      exact ⟨true, rfl, iff_of_true rfl (by have h9 := HH.out; first | omega | (simp; omega) | simpa using h9), below_drewN (below_drewN hB.out _) _⟩
  · by_cases h2 : x0 = y0
    · subst h2
      by_cases h3 : x1 < y1
      · have d0 : decide (x0 < x0) = false := by simp
        have n0 : (x0 == x0) = true := by simp
        have n1 : (x1 == y1) = false := by simp; omega
        have d1 : decide (x1 < y1) = true := by simpa using h3
        have HH := Lib.hid h3
        clear h3 h1
        go_enter Try.func87, Try.ntmps87
        go_wp2_with fail
        go_loopw [5] (fun i W => (i = .int .i64 0) ∧ Hid (Below w.heap.size w W) ∧ W.cell? ⟨g, o1, none⟩ = some (.int .i8 x0) ∧ W.cell? ⟨g, o1 + 1, none⟩ = some (.int .i8 x1) ∧ W.cell? ⟨g, o2, none⟩ = some (.int .i8 x0) ∧ W.cell? ⟨g, o2 + 1, none⟩ = some (.int .i8 y1)) (fun i _ => 1 - (intOf i).toNat)
        case atStart => exact ⟨rfl, Lib.hid (Below.refl _ _), a0, a1, b0, b1⟩
        case round =>
          clear a0 a1 b0 b1
          obtain ⟨hi, hB, a0, a1, b0, b1⟩ := hrel
          subst hi
          go_wp2_with fail
          go_quiet (fail)
          go_wp2_with fail
          go_quiet (fail)
          go_wp2_with fail
          go_ret
          exact ⟨true, rfl, iff_of_true rfl (by have h9 := HH.out; first | omega | (simp; omega) | simpa using h9), below_drewN (below_drewN hB.out _) _⟩
      · by_cases h4 : x1 = y1
        · subst h4
          have n0 : (x0 == x0) = true := by simp
          have n1 : (x1 == x1) = true := by simp
          clear h3 h1
          go_enter Try.func87, Try.ntmps87
          go_wp2_with fail
          go_loopw [5] (fun i W => (i = .int .i64 0 ∨ i = .int .i64 1) ∧ Hid (Below w.heap.size w W) ∧ W.cell? ⟨g, o1, none⟩ = some (.int .i8 x0) ∧ W.cell? ⟨g, o1 + 1, none⟩ = some (.int .i8 x1) ∧ W.cell? ⟨g, o2, none⟩ = some (.int .i8 x0) ∧ W.cell? ⟨g, o2 + 1, none⟩ = some (.int .i8 x1)) (fun i _ => 1 - (intOf i).toNat)
          case atStart => exact ⟨.inl rfl, Lib.hid (Below.refl _ _), a0, a1, b0, b1⟩
          case round =>
            clear a0 a1 b0 b1
            obtain ⟨hi, hB, a0, a1, b0, b1⟩ := hrel
            rcases hi with rfl | rfl
            · go_wp2_with fail
              go_quiet (fail)
              go_wp2_with fail
              exact ⟨⟨.inr rfl, Lib.hid (below_drewN hB.out _), a0, a1, b0, b1⟩, by simp [intOf]⟩
            · go_wp2_with fail
              go_ret
              exact ⟨false, rfl, by simp, hB.out⟩
        · have d0 : decide (x0 < x0) = false := by simp
          have n0 : (x0 == x0) = true := by simp
          have n1 : (x1 == y1) = false := by simp; omega
          have d1 : decide (x1 < y1) = false := by simpa using h3
          have HH := Lib.hid h3
          have H4 := Lib.hid h4
          clear h3 h1 h4
          go_enter Try.func87, Try.ntmps87
          go_wp2_with fail
          go_loopw [5] (fun i W => (i = .int .i64 0) ∧ Hid (Below w.heap.size w W) ∧ W.cell? ⟨g, o1, none⟩ = some (.int .i8 x0) ∧ W.cell? ⟨g, o1 + 1, none⟩ = some (.int .i8 x1) ∧ W.cell? ⟨g, o2, none⟩ = some (.int .i8 x0) ∧ W.cell? ⟨g, o2 + 1, none⟩ = some (.int .i8 y1)) (fun i _ => 1 - (intOf i).toNat)
          case atStart => exact ⟨rfl, Lib.hid (Below.refl _ _), a0, a1, b0, b1⟩
          case round =>
            clear a0 a1 b0 b1
            obtain ⟨hi, hB, a0, a1, b0, b1⟩ := hrel
            subst hi
            go_wp2_with fail
            go_quiet (fail)
            go_wp2_with fail
            go_quiet (fail)
            go_wp2_with fail
            go_ret
            exact ⟨false, rfl, iff_of_false (by simp) (by have h9 := HH.out; have h8 := H4.out; first | omega | (simp; omega)), below_drewN (below_drewN hB.out _) _⟩
    · have d0 : decide (x0 < y0) = false := by simpa using h1
      have n0 : (x0 == y0) = false := by simp; omega
      have H1 := Lib.hid h1
      have H2 := Lib.hid h2
      clear h1 h2
      go_enter Try.func87, Try.ntmps87
      go_wp2_with fail
      go_loopw [5] (fun i W => (i = .int .i64 0) ∧ Hid (Below w.heap.size w W) ∧ W.cell? ⟨g, o1, none⟩ = some (.int .i8 x0) ∧ W.cell? ⟨g, o1 + 1, none⟩ = some (.int .i8 x1) ∧ W.cell? ⟨g, o2, none⟩ = some (.int .i8 y0) ∧ W.cell? ⟨g, o2 + 1, none⟩ = some (.int .i8 y1)) (fun i _ => 1 - (intOf i).toNat)
      case atStart => exact ⟨rfl, Lib.hid (Below.refl _ _), a0, a1, b0, b1⟩
      case round =>
        clear a0 a1 b0 b1
        obtain ⟨hi, hB, a0, a1, b0, b1⟩ := hrel
        subst hi
        go_wp2_with fail
        go_quiet (fail)
        go_wp2_with fail
        go_quiet (fail)
        go_wp2_with fail
        go_ret
        exact ⟨false, rfl, iff_of_false (by simp) (by have h9 := H1.out; have h8 := H2.out; omega), below_drewN (below_drewN hB.out _) _⟩
end Go.Proofs.Ytkbacpkpgfppiaa

/- Sorted places: the model's l04Sorted, whole. -/
namespace Go.Proofs.Ytkbacpkpgfppiaa
open Go.RowKit

theorem LeS.alloc {g : Nat} {w W : World} (h : LeS g w W) (o : Obj) : LeS g w (W.alloc o) :=
  ⟨by have := h.size; simp; omega, fun B b1 b2 => (h.bel B b1 b2).alloc (Nat.le_trans b2 h.size) _, fun k h1 h2 => (rowAt_alloc_past _ _ _ (Nat.lt_of_lt_of_le h2 h.size)).trans (h.other k h1 h2)⟩
set_option maxRecDepth 100000 in
set_option maxHeartbeats 4000000 in
theorem l04Sorted_any (b n : Nat) (v : Value) (f : Nat → Int) (w : World) (hv : IsList w b v 2 n (fun i => .int .i8 (f i))) (hn : n ≤ 2000000) :
    Calls Try.prog 44 #[v] w fun e w' => ∃ a cap, e = .returned (.slice a n cap) ∧ n ≤ cap ∧ IsList w' w.heap.size (.slice a n cap) 2 n (fun i => .int .i8 (srt f n i)) ∧ Below w.heap.size w w' := by
  obtain ⟨i0, hi0, hz0, hz1, hz2⟩ := info_parts A_infoPlC
  obtain ⟨a, cap, rfl⟩ := hv.shape
  have own : (w.alloc (.cells #[] 58)).ownsRow w.heap.size 58 2 (.slice (some ⟨w.heap.size, 0, none⟩) 0 0) 0 [] := owns_emptyS w 58 2
  have hl1 : IsList (w.alloc (.cells #[] 58)) b (.slice a n cap) 2 n (fun j => (cellsTo .i8 f (n * 2)).getD j undef) := (hv.below ((Below.refl _ _).alloc (Nat.le_refl _) _) (Nat.le_refl _)).newc
  have HL := Lib.hid hl1
  have HO := Lib.hid own
  clear hv own hl1
  go_enter Try.func44, Try.ntmps44
  go_wp2_with (at_builtin; refine wpList_append_list rfl _ _ 33 rfl w.heap.size b 58 i0 (.agg #[.int .i8 0, .int .i8 0]) 2 2 Try.underlying33 hi0 hz0 hz1 hz2 rfl (by decide) _ _ _ rfl HO.out _ n (cellsTo .i8 f (n * 2)) rfl HL.out (cellsTo_len .i8 f (n * 2)) (cellsTo_ones .i8 f (n * 2)) (by unfold maxLen; omega) (by omega) (by simp) ?_; intro v3 w3 own3 grow3)
  have B3 : Below w.heap.size w w3 := ((Below.refl w.heap.size w).alloc (Nat.le_refl _) _).grown grow3 (by simp) (by intro x hx; cases hx; exact Nat.le_refl _)
  rw [Nat.zero_add, List.nil_append] at own3
  have hl := owns_list own3
  obtain ⟨a3, cap3, rfl⟩ := hl.shape
  have hcap : n ≤ cap3 := by
    obtain ⟨_, ⟨h, _⟩ | ⟨g, cap', cur, e, hg, hh, hn', hr⟩⟩ := own3
    · cases h; omega
    · cases e; exact hn'
  clear own3 grow3 HL HO
  go_wp2_with fail
  rcases Nat.eq_zero_or_pos n with h0 | h0
  · subst h0
    go_loopw [4, 5, 6] (fun i _ _ V => i = .int .i64 1 ∧ V = w3) (fun _ _ _ _ => 0)
    case atStart => exact ⟨rfl, rfl⟩
    case round =>
    obtain ⟨rfl, rfl⟩ := hrel
    go_wp2_with fail
    go_ret
    exact ⟨a3, cap3, rfl, hcap, .inl ⟨rfl, _, _, rfl⟩, B3⟩
  · obtain ⟨g, cur, rfl, hg, hr, hP⟩ : ∃ g cur, a3 = some ⟨g, 0, none⟩ ∧ w.heap.size ≤ g ∧ rowAt w3 g = some cur ∧ IsP cur n f := by
      rcases hl with ⟨h, _⟩ | ⟨g, c, cur, e, hg, hr, hs, hf⟩
      · omega
      · cases e
        exact ⟨g, cur, rfl, hg, hr, hs, hf⟩
    have HP := Lib.hid hP
    have HB3 := Lib.hid B3
    clear hl hP B3
    go_loopw [4, 5, 6] (fun i _ _ V => ∃ (k : Nat) (cu : Array Value), 1 ≤ k ∧ k ≤ n ∧ i = .int .i64 k ∧ rowAt V g = some cu ∧ Hid (IsP cu n (srt f k)) ∧ Hid (LeS g w3 V)) (fun i _ _ _ => n - (intOf i).toNat)
    case atStart => exact ⟨1, cur, Nat.le_refl _, h0, rfl, hr, HP, Lib.hid (LeS.refl _ _)⟩
    case round =>
      clear hr HP
      obtain ⟨k, cu, hk1, hkn, rfl, hr, hP, hL⟩ := hrel
      by_cases hlt : k < n
      · have i0' : (k : Int) < n := by omega
        go_wp2_with fail
        go_loopw [5, 6] (fun jv _ V => ∃ (q : Nat) (cv : Array Value) (G : Nat → Int), q ≤ k ∧ jv = .int .i64 q ∧ rowAt V g = some cv ∧ Hid (IsP cv n G) ∧ Hid (inn q G = srt f (k + 1)) ∧ Hid (LeS g w3 V)) (fun jv _ _ => (intOf jv).toNat)
        case atStart => exact ⟨k, cu, srt f k, Nat.le_refl _, rfl, hr, hP, Lib.hid rfl, hL⟩
        case round =>
          clear hr hP hL
          obtain ⟨q, cv, G, hqk, rfl, hr, hP, hI, hL⟩ := hrel
          cases q with
          | zero =>
            have HI := Lib.hid (show G = srt f (k + 1) from hI.out)
            have HP2 := Lib.hid (show IsP cv n (srt f (k + 1)) by rw [← HI.out]; exact hP.out)
            clear hI
            go_wp2_with fail
            refine wp_region_held_drew (S := fun w' => Below wr.heap.size wr w') (by kernel_rfl) ((Below.refl _ _).drew) (fun hH => ?_)
            refine wpAnyH_take (i := 0) (v := .int .i64 0) rfl (by kernel_rfl) (by kernel_rfl) (by kernel_rfl) (fun _ _ _ h => h) (Or.inl ⟨by rfl, ?_⟩) hH ?_
            · intro w1 hS; (try dsimp only at hS); go_simp
            (try simp only [List.getElem_toArray]); (try simp only [List.getElem_cons_succ]); (try simp only [List.getElem_cons_zero]); (try simp only [Act.put]); (try simp only [List.setIfInBounds_toArray]); (try simp only [List.set_cons_succ]); (try simp only [List.set_cons_zero])
            refine wpAnyH_take (i := 1) (v := .bool false) rfl (by kernel_rfl) (by kernel_rfl) (by kernel_rfl) (fun _ _ _ h => h) (Or.inl ⟨by rfl, ?_⟩) hH ?_
            · intro w1 hS; (try dsimp only at hS); go_simp
            (try simp only [List.getElem_toArray]); (try simp only [List.getElem_cons_succ]); (try simp only [List.getElem_cons_zero]); (try simp only [Act.put]); (try simp only [List.setIfInBounds_toArray]); (try simp only [List.set_cons_succ]); (try simp only [List.set_cons_zero])
            refine wpAnyH_take (i := 2) (v := .bool false) rfl (by kernel_rfl) (by kernel_rfl) (by kernel_rfl) (fun _ _ _ h => h) (Or.inl ⟨by rfl, ?_⟩) hH ?_
            · intro w1 hS; (try dsimp only at hS); go_simp
            (try simp only [List.getElem_toArray]); (try simp only [List.getElem_cons_succ]); (try simp only [List.getElem_cons_zero]); (try simp only [Act.put]); (try simp only [List.setIfInBounds_toArray]); (try simp only [List.set_cons_succ]); (try simp only [List.set_cons_zero])
            refine wpAnyH_take (i := 3) (v := undef) rfl (by kernel_rfl) (by kernel_rfl) (by kernel_rfl) (fun _ _ _ h => h) (Or.inr ⟨by rfl, rfl⟩) hH ?_
            (try simp only [List.getElem_toArray]); (try simp only [List.getElem_cons_succ]); (try simp only [List.getElem_cons_zero]); (try simp only [Act.put]); (try simp only [List.setIfInBounds_toArray]); (try simp only [List.set_cons_succ]); (try simp only [List.set_cons_zero])
            refine wpAnyH_take (i := 4) (v := undef) rfl (by kernel_rfl) (by kernel_rfl) (by kernel_rfl) (fun _ _ _ h => h) (Or.inr ⟨by rfl, rfl⟩) hH ?_
            (try simp only [List.getElem_toArray]); (try simp only [List.getElem_cons_succ]); (try simp only [List.getElem_cons_zero]); (try simp only [Act.put]); (try simp only [List.setIfInBounds_toArray]); (try simp only [List.set_cons_succ]); (try simp only [List.set_cons_zero])
            refine wpAnyH_take (i := 5) (v := undef) rfl (by kernel_rfl) (by kernel_rfl) (by kernel_rfl) (fun _ _ _ h => h) (Or.inr ⟨by rfl, rfl⟩) hH ?_
            (try simp only [List.getElem_toArray]); (try simp only [List.getElem_cons_succ]); (try simp only [List.getElem_cons_zero]); (try simp only [Act.put]); (try simp only [List.setIfInBounds_toArray]); (try simp only [List.set_cons_succ]); (try simp only [List.set_cons_zero])
            refine wpAnyH_take (i := 6) (v := undef) rfl (by kernel_rfl) (by kernel_rfl) (by kernel_rfl) (fun _ _ _ h => h) (Or.inr ⟨by rfl, rfl⟩) hH ?_
            (try simp only [List.getElem_toArray]); (try simp only [List.getElem_cons_succ]); (try simp only [List.getElem_cons_zero]); (try simp only [Act.put]); (try simp only [List.setIfInBounds_toArray]); (try simp only [List.set_cons_succ]); (try simp only [List.set_cons_zero])
            refine wpAnyH_take (i := 7) (v := undef) rfl (by kernel_rfl) (by kernel_rfl) (by kernel_rfl) (fun _ _ _ h => h) (Or.inr ⟨by rfl, rfl⟩) hH ?_
            (try simp only [List.getElem_toArray]); (try simp only [List.getElem_cons_succ]); (try simp only [List.getElem_cons_zero]); (try simp only [Act.put]); (try simp only [List.setIfInBounds_toArray]); (try simp only [List.set_cons_succ]); (try simp only [List.set_cons_zero])
            refine wpAnyH_take (i := 8) (v := undef) rfl (by kernel_rfl) (by kernel_rfl) (by kernel_rfl) (fun _ _ _ h => h) (Or.inr ⟨by rfl, rfl⟩) hH ?_
            (try simp only [List.getElem_toArray]); (try simp only [List.getElem_cons_succ]); (try simp only [List.getElem_cons_zero]); (try simp only [Act.put]); (try simp only [List.setIfInBounds_toArray]); (try simp only [List.set_cons_succ]); (try simp only [List.set_cons_zero])
            refine wpAnyH_take (i := 9) (v := undef) rfl (by kernel_rfl) (by kernel_rfl) (by kernel_rfl) (fun _ _ _ h => h) (Or.inr ⟨by rfl, rfl⟩) hH ?_
            (try simp only [List.getElem_toArray]); (try simp only [List.getElem_cons_succ]); (try simp only [List.getElem_cons_zero]); (try simp only [Act.put]); (try simp only [List.setIfInBounds_toArray]); (try simp only [List.set_cons_succ]); (try simp only [List.set_cons_zero])
            refine wpAnyH_take (i := 10) (v := undef) rfl (by kernel_rfl) (by kernel_rfl) (by kernel_rfl) (fun _ _ _ h => h) (Or.inr ⟨by rfl, rfl⟩) hH ?_
            (try simp only [List.getElem_toArray]); (try simp only [List.getElem_cons_succ]); (try simp only [List.getElem_cons_zero]); (try simp only [Act.put]); (try simp only [List.setIfInBounds_toArray]); (try simp only [List.set_cons_succ]); (try simp only [List.set_cons_zero])
            refine wpAnyH_take (i := 11) (v := undef) rfl (by kernel_rfl) (by kernel_rfl) (by kernel_rfl) (fun _ _ _ h => h) (Or.inr ⟨by rfl, rfl⟩) hH ?_
            (try simp only [List.getElem_toArray]); (try simp only [List.getElem_cons_succ]); (try simp only [List.getElem_cons_zero]); (try simp only [Act.put]); (try simp only [List.setIfInBounds_toArray]); (try simp only [List.set_cons_succ]); (try simp only [List.set_cons_zero])
            refine wpAnyH_take (i := 12) (v := undef) rfl (by kernel_rfl) (by kernel_rfl) (by kernel_rfl) (fun _ _ _ h => h) (Or.inr ⟨by rfl, rfl⟩) hH ?_
            (try simp only [List.getElem_toArray]); (try simp only [List.getElem_cons_succ]); (try simp only [List.getElem_cons_zero]); (try simp only [Act.put]); (try simp only [List.setIfInBounds_toArray]); (try simp only [List.set_cons_succ]); (try simp only [List.set_cons_zero])
            refine wpAnyH_take (i := 13) (v := undef) rfl (by kernel_rfl) (by kernel_rfl) (by kernel_rfl) (fun _ _ _ h => h) (Or.inr ⟨by rfl, rfl⟩) hH ?_
            (try simp only [List.getElem_toArray]); (try simp only [List.getElem_cons_succ]); (try simp only [List.getElem_cons_zero]); (try simp only [Act.put]); (try simp only [List.setIfInBounds_toArray]); (try simp only [List.set_cons_succ]); (try simp only [List.set_cons_zero])
            refine wpAnyH_take (i := 14) (v := .bool false) rfl (by kernel_rfl) (by kernel_rfl) (by kernel_rfl) (fun _ _ _ h => h) (Or.inl ⟨by rfl, ?_⟩) hH ?_
            · intro w1 hS; (try dsimp only at hS); go_simp
            (try simp only [List.getElem_toArray]); (try simp only [List.getElem_cons_succ]); (try simp only [List.getElem_cons_zero]); (try simp only [Act.put]); (try simp only [List.setIfInBounds_toArray]); (try simp only [List.set_cons_succ]); (try simp only [List.set_cons_zero])
            refine wpAnyH_done (by kernel_rfl) ?_ _
            have R := Lib.hid (brow hH hr)
            have L9 := Lib.hid (hL.out.below hH)
            clear hH hr hL
            go_wp2_with fail
            refine ⟨⟨k + 1, cv, by omega, by omega, by go_num, R.out, HP2, L9⟩, by simp [intOf]; omega⟩
          | succ p =>
            obtain ⟨J, hJ⟩ : ∃ J : Int, J = ((p + 1 : Nat) : Int) := ⟨_, rfl⟩
            have hJ0 : 0 < J := by omega
            have hJd : decide (0 < J) = true := by simpa using hJ0
            have hJn : J < n := by omega
            have hJ0' : 0 ≤ J := by omega
            have hJt : J.toNat = p + 1 := by omega
            have hw : IntKind.i64.wrap (J - 1) = (p : Int) := by rw [IntKind.wrap_i64]; omega
            have hw1 : IntKind.i64.wrap (J + 1) = J + 1 := by rw [IntKind.wrap_i64]; omega
            have hJ1 : J ≤ J + 1 := by omega
            have hJ2 : J + 1 ≤ cap3 := by omega
            have hJ3 : (J + 1).toNat = p + 1 + 1 := by omega
            have hJ4 : 0 ≤ J + 1 := by omega
            have hJ5 : (p : Int) ≤ J := by omega
            have hJ6 : J ≤ cap3 := by omega
            have hJc : ¬ cap3 = p + 1 := by omega
            have hJd2 : ¬ cap3 = p := by omega
            have p0 : 0 ≤ (p : Int) := by omega
            have pn : (p : Int) < n := by omega
            have pk : (p + 1 + 1 - (p + 1)) = 1 := by omega
            have pk2 : (p + 1 - p) = 1 := by omega
            have c0 := hP.out.get ((p + 1) * 2) (by omega)
            have c1 := hP.out.get ((p + 1) * 2 + 1) (by omega)
            have d0 := hP.out.get (p * 2) (by omega)
            have d1 := hP.out.get (p * 2 + 1) (by omega)
            rw [← hJ]
            have HJ := Lib.hid hJ
            clear hJ
            go_wp2_with fail
            refine wp_region_held_drew (S := fun w' => Below wr.heap.size wr w') (by kernel_rfl) ((Below.refl _ _).drew) (fun hH => ?_)
            refine wpAnyH_take (i := 0) (v := .int .i64 J) rfl (by kernel_rfl) (by kernel_rfl) (by kernel_rfl) (fun _ _ _ h => h) (Or.inl ⟨by rfl, ?_⟩) hH ?_
            · intro w1 hS; (try dsimp only at hS); go_simp
            (try simp only [List.getElem_toArray]); (try simp only [List.getElem_cons_succ]); (try simp only [List.getElem_cons_zero]); (try simp only [Act.put]); (try simp only [List.setIfInBounds_toArray]); (try simp only [List.set_cons_succ]); (try simp only [List.set_cons_zero])
            refine wpAnyH_take (i := 1) (v := .bool true) rfl (by kernel_rfl) (by kernel_rfl) (by kernel_rfl) (fun _ _ _ h => h) (Or.inl ⟨by rfl, ?_⟩) hH ?_
            · intro w1 hS; (try dsimp only at hS); go_simp
            (try simp only [List.getElem_toArray]); (try simp only [List.getElem_cons_succ]); (try simp only [List.getElem_cons_zero]); (try simp only [Act.put]); (try simp only [List.setIfInBounds_toArray]); (try simp only [List.set_cons_succ]); (try simp only [List.set_cons_zero])
            refine wpAnyH_take (i := 2) (v := .bool true) rfl (by kernel_rfl) (by kernel_rfl) (by kernel_rfl) (fun _ _ _ h => h) (Or.inl ⟨by rfl, ?_⟩) hH ?_
            · intro w1 hS; (try dsimp only at hS); go_simp
            (try simp only [List.getElem_toArray]); (try simp only [List.getElem_cons_succ]); (try simp only [List.getElem_cons_zero]); (try simp only [Act.put]); (try simp only [List.setIfInBounds_toArray]); (try simp only [List.set_cons_succ]); (try simp only [List.set_cons_zero])
            refine wpAnyH_take (i := 3) (v := .slice (some ⟨g, 0, none⟩) n cap3) rfl (by kernel_rfl) (by kernel_rfl) (by kernel_rfl) (fun _ _ _ h => h) (Or.inl ⟨by rfl, ?_⟩) hH ?_
            · intro w1 hS; (try dsimp only at hS); go_simp
            (try simp only [List.getElem_toArray]); (try simp only [List.getElem_cons_succ]); (try simp only [List.getElem_cons_zero]); (try simp only [Act.put]); (try simp only [List.setIfInBounds_toArray]); (try simp only [List.set_cons_succ]); (try simp only [List.set_cons_zero])
            refine wpAnyH_take (i := 4) (v := .int .i64 J) rfl (by kernel_rfl) (by kernel_rfl) (by kernel_rfl) (fun _ _ _ h => h) (Or.inl ⟨by rfl, ?_⟩) hH ?_
            · intro w1 hS; (try dsimp only at hS); go_simp
            (try simp only [List.getElem_toArray]); (try simp only [List.getElem_cons_succ]); (try simp only [List.getElem_cons_zero]); (try simp only [Act.put]); (try simp only [List.setIfInBounds_toArray]); (try simp only [List.set_cons_succ]); (try simp only [List.set_cons_zero])
            refine wpAnyH_take (i := 5) (v := .int .i64 J) rfl (by kernel_rfl) (by kernel_rfl) (by kernel_rfl) (fun _ _ _ h => h) (Or.inl ⟨by rfl, ?_⟩) hH ?_
            · intro w1 hS; (try dsimp only at hS); go_simp
            (try simp only [List.getElem_toArray]); (try simp only [List.getElem_cons_succ]); (try simp only [List.getElem_cons_zero]); (try simp only [Act.put]); (try simp only [List.setIfInBounds_toArray]); (try simp only [List.set_cons_succ]); (try simp only [List.set_cons_zero])
            refine wpAnyH_take (i := 6) (v := .int .i64 (J + 1)) rfl (by kernel_rfl) (by kernel_rfl) (by kernel_rfl) (fun _ _ _ h => h) (Or.inl ⟨by rfl, ?_⟩) hH ?_
            · intro w1 hS; (try dsimp only at hS); go_simp
            (try simp only [List.getElem_toArray]); (try simp only [List.getElem_cons_succ]); (try simp only [List.getElem_cons_zero]); (try simp only [Act.put]); (try simp only [List.setIfInBounds_toArray]); (try simp only [List.set_cons_succ]); (try simp only [List.set_cons_zero])
            refine wpAnyH_take (i := 7) (v := .slice (some ⟨g, (p + 1) * 2, none⟩) 1 (cap3 - (p + 1))) rfl (by kernel_rfl) (by kernel_rfl) (by kernel_rfl) (fun _ _ _ h => h) (Or.inl ⟨by rfl, ?_⟩) hH ?_
            · intro w1 hS; (try dsimp only at hS); go_simp
            (try simp only [List.getElem_toArray]); (try simp only [List.getElem_cons_succ]); (try simp only [List.getElem_cons_zero]); (try simp only [Act.put]); (try simp only [List.setIfInBounds_toArray]); (try simp only [List.set_cons_succ]); (try simp only [List.set_cons_zero])
            refine wpAnyH_take (i := 8) (v := .slice (some ⟨g, 0, none⟩) n cap3) rfl (by kernel_rfl) (by kernel_rfl) (by kernel_rfl) (fun _ _ _ h => h) (Or.inl ⟨by rfl, ?_⟩) hH ?_
            · intro w1 hS; (try dsimp only at hS); go_simp
            (try simp only [List.getElem_toArray]); (try simp only [List.getElem_cons_succ]); (try simp only [List.getElem_cons_zero]); (try simp only [Act.put]); (try simp only [List.setIfInBounds_toArray]); (try simp only [List.set_cons_succ]); (try simp only [List.set_cons_zero])
            refine wpAnyH_take (i := 9) (v := .int .i64 J) rfl (by kernel_rfl) (by kernel_rfl) (by kernel_rfl) (fun _ _ _ h => h) (Or.inl ⟨by rfl, ?_⟩) hH ?_
            · intro w1 hS; (try dsimp only at hS); go_simp
            (try simp only [List.getElem_toArray]); (try simp only [List.getElem_cons_succ]); (try simp only [List.getElem_cons_zero]); (try simp only [Act.put]); (try simp only [List.setIfInBounds_toArray]); (try simp only [List.set_cons_succ]); (try simp only [List.set_cons_zero])
            refine wpAnyH_take (i := 10) (v := .int .i64 (p : Int)) rfl (by kernel_rfl) (by kernel_rfl) (by kernel_rfl) (fun _ _ _ h => h) (Or.inl ⟨by rfl, ?_⟩) hH ?_
            · intro w1 hS; (try dsimp only at hS); go_simp
            (try simp only [List.getElem_toArray]); (try simp only [List.getElem_cons_succ]); (try simp only [List.getElem_cons_zero]); (try simp only [Act.put]); (try simp only [List.setIfInBounds_toArray]); (try simp only [List.set_cons_succ]); (try simp only [List.set_cons_zero])
            refine wpAnyH_take (i := 11) (v := .int .i64 J) rfl (by kernel_rfl) (by kernel_rfl) (by kernel_rfl) (fun _ _ _ h => h) (Or.inl ⟨by rfl, ?_⟩) hH ?_
            · intro w1 hS; (try dsimp only at hS); go_simp
            (try simp only [List.getElem_toArray]); (try simp only [List.getElem_cons_succ]); (try simp only [List.getElem_cons_zero]); (try simp only [Act.put]); (try simp only [List.setIfInBounds_toArray]); (try simp only [List.set_cons_succ]); (try simp only [List.set_cons_zero])
            refine wpAnyH_take (i := 12) (v := .slice (some ⟨g, p * 2, none⟩) 1 (cap3 - p)) rfl (by kernel_rfl) (by kernel_rfl) (by kernel_rfl) (fun _ _ _ h => h) (Or.inl ⟨by rfl, ?_⟩) hH ?_
            · intro w1 hS; (try dsimp only at hS); go_simp
            (try simp only [List.getElem_toArray]); (try simp only [List.getElem_cons_succ]); (try simp only [List.getElem_cons_zero]); (try simp only [Act.put]); (try simp only [List.setIfInBounds_toArray]); (try simp only [List.set_cons_succ]); (try simp only [List.set_cons_zero])
            refine wpAnyH_ready (rs := [13]) (by kernel_rfl) (by simp) (AllReadyH.cons rfl (fun K hK => ?_) AllReadyH.nil)
            go_simp
            refine (less1_any g ((p + 1) * 2) (p * 2) _ _ (G ((p + 1) * 2)) (G ((p + 1) * 2 + 1)) (G (p * 2)) (G (p * 2 + 1)) _ (by rw [cell_of_rowAt (brow hH hr)]; exact c0) (by rw [cell_of_rowAt (brow hH hr)]; exact c1) (by rw [cell_of_rowAt (brow hH hr)]; exact d0) (by rw [cell_of_rowAt (brow hH hr)]; exact d1)).mono ?_
            rintro x wx ⟨z, rfl, hz, bx⟩
            have HZ := Lib.hid hz
            clear hz
            go_simp
            refine hK.out _ _ (bnext hH bx hH.size) (fun hG => ?_)
            clear hK K hH bx
            replace hH := hG
            clear hG
            (try simp only [List.getElem_toArray]); (try simp only [List.getElem_cons_succ]); (try simp only [List.getElem_cons_zero]); (try simp only [Act.put]); (try simp only [List.setIfInBounds_toArray]); (try simp only [List.set_cons_succ]); (try simp only [List.set_cons_zero])
            refine wpAnyH_take (i := 14) (v := .bool z) rfl (by kernel_rfl) (by kernel_rfl) (by kernel_rfl) (fun _ _ _ h => h) (Or.inl ⟨by rfl, ?_⟩) hH ?_
            · intro w1 hS; (try dsimp only at hS); go_simp
            (try simp only [List.getElem_toArray]); (try simp only [List.getElem_cons_succ]); (try simp only [List.getElem_cons_zero]); (try simp only [Act.put]); (try simp only [List.setIfInBounds_toArray]); (try simp only [List.set_cons_succ]); (try simp only [List.set_cons_zero])
            refine wpAnyH_done (by kernel_rfl) ?_ _
            have R := brow hH hr
            have L9 := Lib.hid (hL.out.below hH)
            clear hH hr hL
            by_cases hlt2 : lsP G (p + 1)
            · have hzt : z = true := HZ.out.2 (lsP_succ.1 hlt2)
              have HG := Lib.hid ((inn_go hlt2).symm.trans hI.out)
              have HP2 := Lib.hid (hP.out.sw (p := p) (by omega))
              subst hzt
              clear hlt2 hI
              have e0 : wx.cell? ⟨g, (p + 1) * 2, none⟩ = some (.int .i8 (G ((p + 1) * 2))) := by rw [cell_of_rowAt R]; exact c0
              have e1 : wx.cell? ⟨g, (p + 1) * 2 + 1, none⟩ = some (.int .i8 (G ((p + 1) * 2 + 1))) := by rw [cell_of_rowAt R]; exact c1
              have e2 : wx.cell? ⟨g, p * 2, none⟩ = some (.int .i8 (G (p * 2))) := by rw [cell_of_rowAt R]; exact d0
              have e3 : wx.cell? ⟨g, p * 2 + 1, none⟩ = some (.int .i8 (G (p * 2 + 1))) := by rw [cell_of_rowAt R]; exact d1
              have fr := frozen_of_rowAt R
              have lg := rowAt_lt R
              have ng := Nat.ne_of_lt lg
              have RR := Lib.hid R
              clear R c0 c1 d0 d1
              generalize G ((p + 1) * 2) = x0 at *
              generalize G ((p + 1) * 2 + 1) = x1 at *
              generalize G (p * 2) = y0 at *
              generalize G (p * 2 + 1) = y1 at *
              go_wp2_with fail
              have R1 := rowAt_setCell_at wx g ((p + 1) * 2) (.int .i8 y0) (congrArg Option.isSome RR.out)
              rw [RR.out, Option.getD_some] at R1
              have R2 := rowAt_setCell_at _ g ((p + 1) * 2 + 1) (.int .i8 y1) (congrArg Option.isSome R1)
              rw [R1, Option.getD_some] at R2
              have R3 := rowAt_setCell_at _ g (p * 2) (.int .i8 x0) (congrArg Option.isSome R2)
              rw [R2, Option.getD_some] at R3
              have R4 := rowAt_setCell_at _ g (p * 2 + 1) (.int .i8 x1) (congrArg Option.isSome R3)
              rw [R3, Option.getD_some] at R4
              exact ⟨⟨p, _, swE G (p + 1), by omega, by go_num, (rowAt_alloc_past _ _ _ (rowAt_lt R4)).trans R4, HP2, HG, Lib.hid (((((L9.out.setC _ _).setC _ _).setC _ _).setC _ _).alloc _)⟩, by simp [intOf]; omega⟩
            · have hzf : z = false := by
                cases z with
                | false => rfl
                | true => exact absurd (lsP_succ.2 (HZ.out.1 rfl)) hlt2
              have HP2 := Lib.hid (show IsP cv n (srt f (k + 1)) by rw [← hI.out, inn_stop hlt2]; exact hP.out)
              have RR := Lib.hid R
              subst hzf
              clear hlt2 hI R c0 c1 d0 d1
              go_wp2_with fail
              refine ⟨⟨k + 1, cv, by omega, by omega, by go_num, RR.out, HP2, L9⟩, by simp [intOf]; omega⟩
      · obtain rfl : k = n := by omega
        go_wp2_with fail
        go_ret
        exact ⟨_, cap3, rfl, hcap, .inr ⟨g, cap3, cu, rfl, hg, hr, hP.out.size, hP.out.get⟩, HB3.out.trans (hL.out.bel w.heap.size hg HB3.out.size)⟩
end Go.Proofs.Ytkbacpkpgfppiaa

/- Lists that grow beside older ones (XAll has the same, with more imports). -/
namespace Go.Proofs.Ytkbacpkpgfppiaa
open Go.RowKit

theorem grown_blocksU {w w' : World} {row : Option Nat} (h : w.grownBy w' row) {n : Nat} (hn : n < w.heap.size) (hr : ∀ x, row = some x → n ≠ x) : rowAt w' n = rowAt w n := by
  unfold rowAt
  rw [h.block n hn (fun e => hr n e.symm rfl)]
/-- A list v that grows, in a block of its own: the first one or one newer than W1; what lies between stays. -/
structure CollU (w W1 W : World) (v : Value) : Prop where
  blk : ∀ x, v.ownBlock = some x → x = w.heap.size ∨ W1.heap.size ≤ x
  rows : ∀ g, w.heap.size < g → g < W1.heap.size → rowAt W g = rowAt W1 g
  bel : Below w.heap.size w W
  size : W1.heap.size ≤ W.heap.size
theorem CollU.start {w W1 : World} (h : Below w.heap.size w W1) (n cap : Nat) : CollU w W1 W1 (.slice (some ⟨w.heap.size, 0, none⟩) n cap) :=
  ⟨fun x hx => .inl (by simpa [Value.ownBlock] using hx.symm), fun _ _ _ => rfl, h, Nat.le_refl _⟩
theorem CollU.call {w W1 W W' : World} {v : Value} (h : CollU w W1 W v) (b : Below W.heap.size W W') : CollU w W1 W' v :=
  ⟨h.blk, fun g h1 h2 => (rowAt_below b g (Nat.lt_of_lt_of_le h2 h.size)).trans (h.rows g h1 h2), bnext h.bel b h.bel.size, Nat.le_trans h.size b.size⟩
theorem CollU.append {w W1 W W' : World} {v v' : Value} {tmp : Obj} (h : CollU w W1 W v) (hw : w.heap.size < W1.heap.size) (grow : (W.alloc tmp).grownBy W' v.ownBlock) (hat : v'.ownBlock = v.ownBlock ∨ v'.ownBlock = some (W.heap.size + 1)) : CollU w W1 W' v' :=
  have hs := h.size
  have hg := grow.size
  ⟨fun x hx => by
    rcases hat with e | e
    · exact h.blk x (e.symm.trans hx)
    · rw [e] at hx; cases hx; exact .inr (by omega),
   fun g h1 h2 => (grown_blocksU grow (by simp; omega) fun x hx => by
     rcases h.blk x hx with rfl | h3 <;> omega).trans ((rowAt_alloc_past _ _ _ (by omega)).trans (h.rows g h1 h2)),
   (h.bel.alloc h.bel.size _).grown grow (by have := h.bel.size; simp; omega) (fun x hx => by
     rcases h.blk x hx with rfl | h3 <;> omega), by simp at hg; omega⟩
theorem IsList.by_rowsU {W W' : World} {b sz n : Nat} {v : Value} {f : Nat → Value} (h : IsList W b v sz n f) (hb : ∀ g, b ≤ g → g < W.heap.size → rowAt W' g = rowAt W g) : IsList W' b v sz n f := by
  rcases h with h | ⟨g, cap, cur, rfl, hg, hr, hs, hf⟩
  · exact .inl h
  · exact .inr ⟨g, cap, cur, rfl, hg, (hb g hg (rowAt_lt hr)).trans hr, hs, hf⟩
end Go.Proofs.Ytkbacpkpgfppiaa

/- FirstUpward: the model's side. -/
namespace Go.Proofs.Ytkbacpkpgfppiaa
open Go.RowKit

theorem Rf.free_eq (r : Rf) (g : Nat → Int) (n : Nat) (o : Nat → Int) (m i : Nat) : r.freeB g n o m i = (!hasP o m (g (i * 2)) (g (i * 2 + 1)) && !anyI (fun k => !hasP o m (g (k * 2)) (g (k * 2 + 1)) && r.over (g (i * 2)) (g (i * 2 + 1)) (g (k * 2)) (g (k * 2 + 1))) n) := rfl

set_option maxRecDepth 100000 in
set_option maxHeartbeats 40000000 in
theorem specFirstUpward_any (c : Array Value) (r : Rf) (B n : Nat) (f : Nat → Int) (u : Option Addr) (w : World) (hR : IsRoof c r)
    (hv : IsList w B (.slice u n n) 2 n (fun i => .int .i8 (f i))) (hn : n ≤ 2000000) (hf : ∀ i, i < n * 2 → -128 ≤ f i ∧ f i ≤ 127) :
    Calls Try.prog 17 #[.agg c, .slice u n n] w (GivesT w 2 .i8 (r.upN f n) (r.upF f n) [.int .i64 (r.liftC f n)]) := by
  have hc := hR.size
  obtain ⟨i0, hi0, hz0, hz1, hz2⟩ := info_parts A_infoPlC
  obtain ⟨Wb, hWb⟩ : ∃ Wb, Wb = w.alloc (.cells c 31) := ⟨_, rfl⟩
  have sb : Wb.heap.size = w.heap.size + 1 := by rw [hWb]; simp
  have BWb : Below w.heap.size w Wb := by rw [hWb]; exact (Below.refl _ _).alloc (Nat.le_refl _) _
  have P0 : rowAt Wb w.heap.size = some c := by rw [hWb]; exact rowAt_alloc_at _ _ _ _ rfl
  obtain ⟨W1, hW1⟩ : ∃ W1, W1 = Wb.alloc (.cells #[] 58) := ⟨_, rfl⟩
  have own : W1.ownsRow Wb.heap.size 58 2 (.slice (some ⟨Wb.heap.size, 0, none⟩) 0 0) 0 [] := by rw [hW1]; exact owns_emptyS Wb 58 2
  have B1 : Below Wb.heap.size Wb W1 := by rw [hW1]; exact (Below.refl _ _).alloc (Nat.le_refl _) _
  have s1 : W1.heap.size = Wb.heap.size + 1 := by rw [hW1]; simp
  have P1 := Lib.hid (brow B1 P0)
  have PB0 := Lib.hid P0
  have HV := Lib.hid ((hv.below BWb (Nat.le_refl _)).below B1 (Nat.le_refl _))
  have CO := fun W h H => l04Once_any w.heap.size B n c r f u true W h hR H hn hf
  rw [show r.ocode f n true = r.liftC f n from rfl] at CO
  have BWB := Lib.hid BWb
  have BB := Lib.hid B1
  have HOW := Lib.hid own
  have HW1 : Hid ((w.alloc (.cells c 31)).alloc (.cells #[] 58) = W1) := Lib.hid (by rw [hW1, hWb])
  clear hv B1 BWb own hWb hW1 P0
  by_cases hk : r.liftC f n = 0
  · have hb : (r.liftC f n != 0) = false := by simp [hk]
    obtain ⟨ho, _, hp, hn8, hd⟩ := Rf.ocode_zero hk
    have HN : Hid (r.upN f n = n) := Lib.hid (if_pos hk)
    have HK := Lib.hid hk
    have HP := Lib.hid (Rf.okP_srtU hp)
    have HI := Lib.hid ((InjE.of_dup hd).srt (Nat.le_refl n))
    have HF : Hid (r.upF f n = r.upX (srt f n) n n) := Lib.hid rfl
    have CL := fun W h => l04Sorted_any B n (.slice u n n) f W h (by omega)
    generalize srt f n = g at *
    clear hk hp hd
    go_enter Try.func17, Try.ntmps17
    go_wp2_with fail
    rw [HW1.out]
    rw [← sb]
    have hwb : w.heap.size < Wb.heap.size := by omega
    have s1' : Wb.heap.size < W1.heap.size := by omega
    clear HW1 sb s1
    refine (CO _ P1.out HV.out).mono ?_
    rintro e w2 ⟨rfl, b2⟩
    have P2 := Lib.hid (brow b2 P1.out)
    have HV2 := Lib.hid (HV.out.below b2 (Nat.le_refl _))
    have O2 := Lib.hid (owns_below HOW.out b2)
    have B2 := Lib.hid (bnext BB.out b2 BB.out.size)
    have s2 : Wb.heap.size < w2.heap.size := by have := b2.size; omega
    clear b2 CO HOW HV P1 BB s1'
    go_wp2_with fail
    refine (CL _ HV2.out).mono ?_
    rintro e w3 ⟨a3, cap3, rfl, hc3, l3, b3⟩
    have O3 := Lib.hid (owns_below O2.out b3)
    have B3 := bnext B2.out b3 B2.out.size
    have L3 := Lib.hid l3
    have s3 := b3.size
    have hwn : w.heap.size ≠ Wb.heap.size := by omega
    have hlt3 : Wb.heap.size < w3.heap.size := by omega
    have C3 := Lib.hid (CollU.start B3 0 0)
    have PW := PB0
    clear b3 l3 CL O2 HV2 P2 B2 B3
    go_wp2_with fail
    go_loopg [6] n (fun t x W => ∃ m : Nat, n - m ≤ t ∧ m ≤ n ∧ Hid (W.ownsRow Wb.heap.size 58 2 x m (cellsTo .i8 (r.upX g n m) (m * 2))) ∧ Hid (CollU Wb w3 W x))
    case atStart => exact ⟨0, by omega, by omega, O3, C3⟩
    case round =>
      clear O3 C3
      obtain ⟨m, hg, hmn, HO, HC⟩ := hrel
      obtain ⟨wo, rfl⟩ : ∃ wo : World, wo = wr := ⟨_, rfl⟩
      obtain ⟨av, cv, rfl⟩ := owns_shape HO.out
      by_cases hlt : m < n
      · have hl1 : (m : Int) < n := by omega
        obtain ⟨_, hKn, hbef, hat⟩ := Rf.pickm HP.out HI.out hlt
        have HBF := Lib.hid hbef
        have HAT := Lib.hid hat
        have U0 := Lib.hid (Rf.upX_even r g n m)
        have U1 := Lib.hid (Rf.upX_odd r g n m)
        have UO : Hid (∀ x, x < m * 2 → r.upX g n (m + 1) x = r.upX g n m x) := Lib.hid (fun x hx => Rf.upX_old r g n m x hx)
        generalize r.upK g n m = K at *
        clear hbef hat
        go_wp2_with fail
        go_loopg [6, 9] n (fun t x y W => ∃ i : Nat, n - i ≤ t ∧ i ≤ K ∧ y = .int .i64 i ∧ x = .slice av m cv ∧ Hid (W.ownsRow Wb.heap.size 58 2 (.slice av m cv) m (cellsTo .i8 (r.upX g n m) (m * 2))) ∧ Hid (CollU Wb w3 W (.slice av m cv)))
        case atStart => exact ⟨0, by omega, by omega, rfl, rfl, HO, HC⟩
        case round =>
          clear HO HC
          obtain ⟨i, hgi, hiK, rfl, rfl, HO, HC⟩ := hrel
          obtain ⟨wo2, rfl⟩ : ∃ wo2 : World, wo2 = wr := ⟨_, rfl⟩
          have hx0 : 0 ≤ (i : Int) := by omega
          have hx1 : (i : Int) < n := by omega
          obtain ⟨i1, j1, ei0, ei1, i18, j18, _, _, _, _⟩ := Rf.inP_nat ho (HP.out i (by omega))
          obtain ⟨h0, _⟩ | ⟨gg, cap', cur, ea, hgg, hrg, hsg, hfg⟩ := L3.out.by_rowsU (fun x h1 h2 => HC.out.rows x (by omega) h2)
          · omega
          cases ea
          have c0 : wo2.cell? ⟨gg, i * 2, none⟩ = some (.int .i8 i1) := (cell_of_rowAt hrg _).trans ((hfg _ (by omega)).trans (congrArg (fun z => some (Value.int .i8 z)) ei0))
          have c1 : wo2.cell? ⟨gg, i * 2 + 1, none⟩ = some (.int .i8 j1) := (cell_of_rowAt hrg _).trans ((hfg _ (by omega)).trans (congrArg (fun z => some (Value.int .i8 z)) ei1))
          have RG := Lib.hid hrg
          have FG := Lib.hid hfg
          have CHI := fun W h => l01Has_any Wb.heap.size m (.slice av m cv) (r.upX g n m) i1 j1 W h (by omega)
          have HFE : Hid (r.freeB g n (r.upX g n m) m i = (!hasP (r.upX g n m) m i1 j1 && !anyI (fun k => !hasP (r.upX g n m) m (g (k * 2)) (g (k * 2 + 1)) && r.over i1 j1 (g (k * 2)) (g (k * 2 + 1))) n)) := Lib.hid (by rw [Rf.free_eq, ei0, ei1])
          have HE0 := Lib.hid ei0
          have HE1 := Lib.hid ei1
          clear ei0 ei1 hrg hfg hsg
          generalize hasP (r.upX g n m) m i1 j1 = A at *
          go_wp2_with fail
          refine (CHI _ (owns_list HO.out)).mono ?_
          rintro e w4 ⟨rfl, b4⟩
          have HO4 := Lib.hid (owns_below HO.out b4)
          have HC4 := Lib.hid (HC.out.call b4)
          have RG4 := Lib.hid (brow b4 RG.out)
          clear CHI b4 HO HC RG c0 c1
          go_wp2_with fail
          go_loopg [10, 11] n (fun t x y W => ∃ (k : Nat) (z : Bool), n - k ≤ t ∧ k ≤ n ∧ x = .bool z ∧ y = .int .i64 k ∧ Hid (z = (!A && !anyI (fun k => !hasP (r.upX g n m) m (g (k * 2)) (g (k * 2 + 1)) && r.over i1 j1 (g (k * 2)) (g (k * 2 + 1))) k)) ∧ Hid (W.ownsRow Wb.heap.size 58 2 (.slice av m cv) m (cellsTo .i8 (r.upX g n m) (m * 2))) ∧ Hid (CollU Wb w3 W (.slice av m cv)) ∧ Hid (rowAt W gg = some cur))
          case atStart => exact ⟨0, !A, by omega, by omega, rfl, by go_num, Lib.hid (by rw [anyI_zero]; simp), HO4, HC4, RG4⟩
          case round =>
            clear HO4 HC4 RG4
            obtain ⟨k, z, hgk, hkn, rfl, rfl, HZ, HV1, HC1, RG1⟩ := hrel
            have P4 : Hid (rowAt wr w.heap.size = some c) := Lib.hid ((rowAt_below HC1.out.bel _ hwb).trans PW.out)
            have gc0 : cur[i * 2]? = some (.int .i8 i1) := (FG.out (i * 2) (by omega)).trans (congrArg (fun z => some (Value.int .i8 z)) HE0.out)
            have gc1 : cur[i * 2 + 1]? = some (.int .i8 j1) := (FG.out (i * 2 + 1) (by omega)).trans (congrArg (fun z => some (Value.int .i8 z)) HE1.out)
            have c0 : wr.cell? ⟨gg, i * 2, none⟩ = some (.int .i8 i1) := (cell_of_rowAt RG1.out _).trans gc0
            have c1 : wr.cell? ⟨gg, i * 2 + 1, none⟩ = some (.int .i8 j1) := (cell_of_rowAt RG1.out _).trans gc1
            clear gc0 gc1
            by_cases hkl : k < n
            · have hk0 : 0 ≤ (k : Int) := by omega
              have hk1 : (k : Int) < n := by omega
              cases z with
              | true =>
                obtain ⟨i2, j2, ek0, ek1, i28, j28, _, _, _, _⟩ := Rf.inP_nat ho (HP.out k hkl)
                have gk0 : cur[k * 2]? = some (.int .i8 i2) := (FG.out (k * 2) (by omega)).trans (congrArg (fun z => some (Value.int .i8 z)) ek0)
                have gk1 : cur[k * 2 + 1]? = some (.int .i8 j2) := (FG.out (k * 2 + 1) (by omega)).trans (congrArg (fun z => some (Value.int .i8 z)) ek1)
                have k0 : wr.cell? ⟨gg, k * 2, none⟩ = some (.int .i8 i2) := (cell_of_rowAt RG1.out _).trans gk0
                have k1 : wr.cell? ⟨gg, k * 2 + 1, none⟩ = some (.int .i8 j2) := (cell_of_rowAt RG1.out _).trans gk1
                have CH := fun W h => l01Has_any Wb.heap.size m (.slice av m cv) (r.upX g n m) i2 j2 W h (by omega)
                have CO := fun W h => l04Over_any w.heap.size c r i1 j1 i2 j2 W h hR i18 j18 i28 j28
                have HPK : Hid (anyI (fun k => !hasP (r.upX g n m) m (g (k * 2)) (g (k * 2 + 1)) && r.over i1 j1 (g (k * 2)) (g (k * 2 + 1))) (k + 1) = (anyI (fun k => !hasP (r.upX g n m) m (g (k * 2)) (g (k * 2 + 1)) && r.over i1 j1 (g (k * 2)) (g (k * 2 + 1))) k || (!hasP (r.upX g n m) m i2 j2 && r.over i1 j1 i2 j2))) := Lib.hid (by rw [anyI_succ, ek0, ek1])
                clear gk0 gk1 ek0 ek1
                generalize hasP (r.upX g n m) m i2 j2 = x1 at *
                generalize r.over i1 j1 i2 j2 = x2 at *
                cases x1 with
                | true =>
                  go_wp2_with fail
                  refine wp_region_held_drew (S := fun w' => Below wr.heap.size wr w') (by kernel_rfl) ((Below.refl _ _).drew) (fun hH => ?_)
                  refine wpAnyH_take (i := 0) (v := .slice av m cv) rfl (by kernel_rfl) (by kernel_rfl) (by kernel_rfl) (fun _ _ _ h => h) (Or.inl ⟨by rfl, ?_⟩) hH ?_
                  · intro w1 hS; (try dsimp only at hS); go_simp
                  (try simp only [List.getElem_toArray]); (try simp only [List.getElem_cons_succ]); (try simp only [List.getElem_cons_zero]); (try simp only [Act.put]); (try simp only [List.setIfInBounds_toArray]); (try simp only [List.set_cons_succ]); (try simp only [List.set_cons_zero])
                  refine wpAnyH_take (i := 1) (v := .slice (some ⟨gg, 0, none⟩) n cap3) rfl (by kernel_rfl) (by kernel_rfl) (by kernel_rfl) (fun _ _ _ h => h) (Or.inl ⟨by rfl, ?_⟩) hH ?_
                  · intro w1 hS; (try dsimp only at hS); go_simp
                  (try simp only [List.getElem_toArray]); (try simp only [List.getElem_cons_succ]); (try simp only [List.getElem_cons_zero]); (try simp only [Act.put]); (try simp only [List.setIfInBounds_toArray]); (try simp only [List.set_cons_succ]); (try simp only [List.set_cons_zero])
                  refine wpAnyH_take (i := 2) (v := .int .i64 k) rfl (by kernel_rfl) (by kernel_rfl) (by kernel_rfl) (fun _ _ _ h => h) (Or.inl ⟨by rfl, ?_⟩) hH ?_
                  · intro w1 hS; (try dsimp only at hS); go_simp
                  (try simp only [List.getElem_toArray]); (try simp only [List.getElem_cons_succ]); (try simp only [List.getElem_cons_zero]); (try simp only [Act.put]); (try simp only [List.setIfInBounds_toArray]); (try simp only [List.set_cons_succ]); (try simp only [List.set_cons_zero])
                  refine wpAnyH_take (i := 3) (v := .pointer (some ⟨gg, k * 2, none⟩)) rfl (by kernel_rfl) (by kernel_rfl) (by kernel_rfl) (fun _ _ _ h => h) (Or.inl ⟨by rfl, ?_⟩) hH ?_
                  · intro w1 hS; (try dsimp only at hS); go_simp
                  (try simp only [List.getElem_toArray]); (try simp only [List.getElem_cons_succ]); (try simp only [List.getElem_cons_zero]); (try simp only [Act.put]); (try simp only [List.setIfInBounds_toArray]); (try simp only [List.set_cons_succ]); (try simp only [List.set_cons_zero])
                  refine wpAnyH_take (i := 4) (v := .agg #[.int .i8 i2, .int .i8 j2]) rfl (by kernel_rfl) (by kernel_rfl) (by kernel_rfl) (fun _ _ _ h => h) (Or.inl ⟨by rfl, ?_⟩) hH ?_
                  · intro w1 hS; (try dsimp only at hS); have d0 := (hS.cell (p := ⟨gg, k * 2, none⟩) (lt_of_cellA k0)).trans k0; have d1 := (hS.cell (p := ⟨gg, k * 2 + 1, none⟩) (lt_of_cellA k1)).trans k1; go_simp
                  (try simp only [List.getElem_toArray]); (try simp only [List.getElem_cons_succ]); (try simp only [List.getElem_cons_zero]); (try simp only [Act.put]); (try simp only [List.setIfInBounds_toArray]); (try simp only [List.set_cons_succ]); (try simp only [List.set_cons_zero])
                  refine wpAnyH_ready (rs := [5]) (by kernel_rfl) (by simp) (AllReadyH.cons rfl (fun K hK => ?_) AllReadyH.nil)
                  go_simp
                  refine (CH _ (owns_list (owns_below HV1.out hH))).mono ?_
                  rintro x wx ⟨rfl, bx⟩
                  go_simp
                  refine hK.out _ _ (bnext hH bx hH.size) (fun hG => ?_)
                  clear hK K hH bx
                  replace hH := hG
                  clear hG
                  (try simp only [List.getElem_toArray]); (try simp only [List.getElem_cons_succ]); (try simp only [List.getElem_cons_zero]); (try simp only [Act.put]); (try simp only [List.setIfInBounds_toArray]); (try simp only [List.set_cons_succ]); (try simp only [List.set_cons_zero])
                  refine wpAnyH_take (i := 6) (v := .bool true) rfl (by kernel_rfl) (by kernel_rfl) (by kernel_rfl) (fun _ _ _ h => h) (Or.inl ⟨by rfl, ?_⟩) hH ?_
                  · intro w1 hS; (try dsimp only at hS); go_simp
                  (try simp only [List.getElem_toArray]); (try simp only [List.getElem_cons_succ]); (try simp only [List.getElem_cons_zero]); (try simp only [Act.put]); (try simp only [List.setIfInBounds_toArray]); (try simp only [List.set_cons_succ]); (try simp only [List.set_cons_zero])
                  refine wpAnyH_take (i := 7) (v := undef) rfl (by kernel_rfl) (by kernel_rfl) (by kernel_rfl) (fun _ _ _ h => h) (Or.inr ⟨by rfl, rfl⟩) hH ?_
                  (try simp only [List.getElem_toArray]); (try simp only [List.getElem_cons_succ]); (try simp only [List.getElem_cons_zero]); (try simp only [Act.put]); (try simp only [List.setIfInBounds_toArray]); (try simp only [List.set_cons_succ]); (try simp only [List.set_cons_zero])
                  refine wpAnyH_take (i := 8) (v := undef) rfl (by kernel_rfl) (by kernel_rfl) (by kernel_rfl) (fun _ _ _ h => h) (Or.inr ⟨by rfl, rfl⟩) hH ?_
                  (try simp only [List.getElem_toArray]); (try simp only [List.getElem_cons_succ]); (try simp only [List.getElem_cons_zero]); (try simp only [Act.put]); (try simp only [List.setIfInBounds_toArray]); (try simp only [List.set_cons_succ]); (try simp only [List.set_cons_zero])
                  refine wpAnyH_take (i := 9) (v := undef) rfl (by kernel_rfl) (by kernel_rfl) (by kernel_rfl) (fun _ _ _ h => h) (Or.inr ⟨by rfl, rfl⟩) hH ?_
                  (try simp only [List.getElem_toArray]); (try simp only [List.getElem_cons_succ]); (try simp only [List.getElem_cons_zero]); (try simp only [Act.put]); (try simp only [List.setIfInBounds_toArray]); (try simp only [List.set_cons_succ]); (try simp only [List.set_cons_zero])
                  refine wpAnyH_take (i := 10) (v := undef) rfl (by kernel_rfl) (by kernel_rfl) (by kernel_rfl) (fun _ _ _ h => h) (Or.inr ⟨by rfl, rfl⟩) hH ?_
                  (try simp only [List.getElem_toArray]); (try simp only [List.getElem_cons_succ]); (try simp only [List.getElem_cons_zero]); (try simp only [Act.put]); (try simp only [List.setIfInBounds_toArray]); (try simp only [List.set_cons_succ]); (try simp only [List.set_cons_zero])
                  refine wpAnyH_take (i := 11) (v := undef) rfl (by kernel_rfl) (by kernel_rfl) (by kernel_rfl) (fun _ _ _ h => h) (Or.inr ⟨by rfl, rfl⟩) hH ?_
                  (try simp only [List.getElem_toArray]); (try simp only [List.getElem_cons_succ]); (try simp only [List.getElem_cons_zero]); (try simp only [Act.put]); (try simp only [List.setIfInBounds_toArray]); (try simp only [List.set_cons_succ]); (try simp only [List.set_cons_zero])
                  refine wpAnyH_take (i := 12) (v := undef) rfl (by kernel_rfl) (by kernel_rfl) (by kernel_rfl) (fun _ _ _ h => h) (Or.inr ⟨by rfl, rfl⟩) hH ?_
                  (try simp only [List.getElem_toArray]); (try simp only [List.getElem_cons_succ]); (try simp only [List.getElem_cons_zero]); (try simp only [Act.put]); (try simp only [List.setIfInBounds_toArray]); (try simp only [List.set_cons_succ]); (try simp only [List.set_cons_zero])
                  refine wpAnyH_take (i := 13) (v := undef) rfl (by kernel_rfl) (by kernel_rfl) (by kernel_rfl) (fun _ _ _ h => h) (Or.inr ⟨by rfl, rfl⟩) hH ?_
                  (try simp only [List.getElem_toArray]); (try simp only [List.getElem_cons_succ]); (try simp only [List.getElem_cons_zero]); (try simp only [Act.put]); (try simp only [List.setIfInBounds_toArray]); (try simp only [List.set_cons_succ]); (try simp only [List.set_cons_zero])
                  refine wpAnyH_take (i := 14) (v := undef) rfl (by kernel_rfl) (by kernel_rfl) (by kernel_rfl) (fun _ _ _ h => h) (Or.inr ⟨by rfl, rfl⟩) hH ?_
                  (try simp only [List.getElem_toArray]); (try simp only [List.getElem_cons_succ]); (try simp only [List.getElem_cons_zero]); (try simp only [Act.put]); (try simp only [List.setIfInBounds_toArray]); (try simp only [List.set_cons_succ]); (try simp only [List.set_cons_zero])
                  refine wpAnyH_take (i := 15) (v := undef) rfl (by kernel_rfl) (by kernel_rfl) (by kernel_rfl) (fun _ _ _ h => h) (Or.inr ⟨by rfl, rfl⟩) hH ?_
                  (try simp only [List.getElem_toArray]); (try simp only [List.getElem_cons_succ]); (try simp only [List.getElem_cons_zero]); (try simp only [Act.put]); (try simp only [List.setIfInBounds_toArray]); (try simp only [List.set_cons_succ]); (try simp only [List.set_cons_zero])
                  refine wpAnyH_take (i := 16) (v := undef) rfl (by kernel_rfl) (by kernel_rfl) (by kernel_rfl) (fun _ _ _ h => h) (Or.inr ⟨by rfl, rfl⟩) hH ?_
                  (try simp only [List.getElem_toArray]); (try simp only [List.getElem_cons_succ]); (try simp only [List.getElem_cons_zero]); (try simp only [Act.put]); (try simp only [List.setIfInBounds_toArray]); (try simp only [List.set_cons_succ]); (try simp only [List.set_cons_zero])
                  refine wpAnyH_take (i := 17) (v := .bool true) rfl (by kernel_rfl) (by kernel_rfl) (by kernel_rfl) (fun _ _ _ h => h) (Or.inl ⟨by rfl, ?_⟩) hH ?_
                  · intro w1 hS; (try dsimp only at hS); go_simp
                  (try simp only [List.getElem_toArray]); (try simp only [List.getElem_cons_succ]); (try simp only [List.getElem_cons_zero]); (try simp only [Act.put]); (try simp only [List.setIfInBounds_toArray]); (try simp only [List.set_cons_succ]); (try simp only [List.set_cons_zero])
                  refine wpAnyH_take (i := 18) (v := .bool true) rfl (by kernel_rfl) (by kernel_rfl) (by kernel_rfl) (fun _ _ _ h => h) (Or.inl ⟨by rfl, ?_⟩) hH ?_
                  · intro w1 hS; (try dsimp only at hS); go_simp
                  (try simp only [List.getElem_toArray]); (try simp only [List.getElem_cons_succ]); (try simp only [List.getElem_cons_zero]); (try simp only [Act.put]); (try simp only [List.setIfInBounds_toArray]); (try simp only [List.set_cons_succ]); (try simp only [List.set_cons_zero])
                  refine wpAnyH_done (by kernel_rfl) ?_ _
                  have B2 := Lib.hid (HC1.out.call hH)
                  have O2 := Lib.hid (owns_below HV1.out hH)
                  have G2 := Lib.hid (brow hH RG1.out)
                  clear hH c0 c1 k0 k1 CH CO
                  go_wp2_with fail
                  go_roundg (n - (k + 1))
                  case measure => omega
                  case rel => exact ⟨k + 1, true, by omega, by omega, rfl, by go_num, Lib.hid (by rw [HPK.out]; have := HZ.out; revert this; generalize anyI _ k = y; cases A <;> cases y <;> cases x2 <;> simp), O2, B2, G2⟩
                | false =>
                  go_wp2_with fail
                  refine wp_region_held_drew (S := fun w' => Below wr.heap.size wr w') (by kernel_rfl) ((Below.refl _ _).drew) (fun hH => ?_)
                  refine wpAnyH_take (i := 0) (v := .slice av m cv) rfl (by kernel_rfl) (by kernel_rfl) (by kernel_rfl) (fun _ _ _ h => h) (Or.inl ⟨by rfl, ?_⟩) hH ?_
                  · intro w1 hS; (try dsimp only at hS); go_simp
                  (try simp only [List.getElem_toArray]); (try simp only [List.getElem_cons_succ]); (try simp only [List.getElem_cons_zero]); (try simp only [Act.put]); (try simp only [List.setIfInBounds_toArray]); (try simp only [List.set_cons_succ]); (try simp only [List.set_cons_zero])
                  refine wpAnyH_take (i := 1) (v := .slice (some ⟨gg, 0, none⟩) n cap3) rfl (by kernel_rfl) (by kernel_rfl) (by kernel_rfl) (fun _ _ _ h => h) (Or.inl ⟨by rfl, ?_⟩) hH ?_
                  · intro w1 hS; (try dsimp only at hS); go_simp
                  (try simp only [List.getElem_toArray]); (try simp only [List.getElem_cons_succ]); (try simp only [List.getElem_cons_zero]); (try simp only [Act.put]); (try simp only [List.setIfInBounds_toArray]); (try simp only [List.set_cons_succ]); (try simp only [List.set_cons_zero])
                  refine wpAnyH_take (i := 2) (v := .int .i64 k) rfl (by kernel_rfl) (by kernel_rfl) (by kernel_rfl) (fun _ _ _ h => h) (Or.inl ⟨by rfl, ?_⟩) hH ?_
                  · intro w1 hS; (try dsimp only at hS); go_simp
                  (try simp only [List.getElem_toArray]); (try simp only [List.getElem_cons_succ]); (try simp only [List.getElem_cons_zero]); (try simp only [Act.put]); (try simp only [List.setIfInBounds_toArray]); (try simp only [List.set_cons_succ]); (try simp only [List.set_cons_zero])
                  refine wpAnyH_take (i := 3) (v := .pointer (some ⟨gg, k * 2, none⟩)) rfl (by kernel_rfl) (by kernel_rfl) (by kernel_rfl) (fun _ _ _ h => h) (Or.inl ⟨by rfl, ?_⟩) hH ?_
                  · intro w1 hS; (try dsimp only at hS); go_simp
                  (try simp only [List.getElem_toArray]); (try simp only [List.getElem_cons_succ]); (try simp only [List.getElem_cons_zero]); (try simp only [Act.put]); (try simp only [List.setIfInBounds_toArray]); (try simp only [List.set_cons_succ]); (try simp only [List.set_cons_zero])
                  refine wpAnyH_take (i := 4) (v := .agg #[.int .i8 i2, .int .i8 j2]) rfl (by kernel_rfl) (by kernel_rfl) (by kernel_rfl) (fun _ _ _ h => h) (Or.inl ⟨by rfl, ?_⟩) hH ?_
                  · intro w1 hS; (try dsimp only at hS); have d0 := (hS.cell (p := ⟨gg, k * 2, none⟩) (lt_of_cellA k0)).trans k0; have d1 := (hS.cell (p := ⟨gg, k * 2 + 1, none⟩) (lt_of_cellA k1)).trans k1; go_simp
                  (try simp only [List.getElem_toArray]); (try simp only [List.getElem_cons_succ]); (try simp only [List.getElem_cons_zero]); (try simp only [Act.put]); (try simp only [List.setIfInBounds_toArray]); (try simp only [List.set_cons_succ]); (try simp only [List.set_cons_zero])
                  refine wpAnyH_ready (rs := [5]) (by kernel_rfl) (by simp) (AllReadyH.cons rfl (fun K hK => ?_) AllReadyH.nil)
                  go_simp
                  refine (CH _ (owns_list (owns_below HV1.out hH))).mono ?_
                  rintro x wx ⟨rfl, bx⟩
                  go_simp
                  refine hK.out _ _ (bnext hH bx hH.size) (fun hG => ?_)
                  clear hK K hH bx
                  replace hH := hG
                  clear hG
                  (try simp only [List.getElem_toArray]); (try simp only [List.getElem_cons_succ]); (try simp only [List.getElem_cons_zero]); (try simp only [Act.put]); (try simp only [List.setIfInBounds_toArray]); (try simp only [List.set_cons_succ]); (try simp only [List.set_cons_zero])
                  refine wpAnyH_take (i := 6) (v := .bool false) rfl (by kernel_rfl) (by kernel_rfl) (by kernel_rfl) (fun _ _ _ h => h) (Or.inl ⟨by rfl, ?_⟩) hH ?_
                  · intro w1 hS; (try dsimp only at hS); go_simp
                  (try simp only [List.getElem_toArray]); (try simp only [List.getElem_cons_succ]); (try simp only [List.getElem_cons_zero]); (try simp only [Act.put]); (try simp only [List.setIfInBounds_toArray]); (try simp only [List.set_cons_succ]); (try simp only [List.set_cons_zero])
                  refine wpAnyH_take (i := 7) (v := .slice (some ⟨gg, 0, none⟩) n cap3) rfl (by kernel_rfl) (by kernel_rfl) (by kernel_rfl) (fun _ _ _ h => h) (Or.inl ⟨by rfl, ?_⟩) hH ?_
                  · intro w1 hS; (try dsimp only at hS); go_simp
                  (try simp only [List.getElem_toArray]); (try simp only [List.getElem_cons_succ]); (try simp only [List.getElem_cons_zero]); (try simp only [Act.put]); (try simp only [List.setIfInBounds_toArray]); (try simp only [List.set_cons_succ]); (try simp only [List.set_cons_zero])
                  refine wpAnyH_take (i := 8) (v := .int .i64 i) rfl (by kernel_rfl) (by kernel_rfl) (by kernel_rfl) (fun _ _ _ h => h) (Or.inl ⟨by rfl, ?_⟩) hH ?_
                  · intro w1 hS; (try dsimp only at hS); go_simp
                  (try simp only [List.getElem_toArray]); (try simp only [List.getElem_cons_succ]); (try simp only [List.getElem_cons_zero]); (try simp only [Act.put]); (try simp only [List.setIfInBounds_toArray]); (try simp only [List.set_cons_succ]); (try simp only [List.set_cons_zero])
                  refine wpAnyH_take (i := 9) (v := .pointer (some ⟨gg, i * 2, none⟩)) rfl (by kernel_rfl) (by kernel_rfl) (by kernel_rfl) (fun _ _ _ h => h) (Or.inl ⟨by rfl, ?_⟩) hH ?_
                  · intro w1 hS; (try dsimp only at hS); go_simp
                  (try simp only [List.getElem_toArray]); (try simp only [List.getElem_cons_succ]); (try simp only [List.getElem_cons_zero]); (try simp only [Act.put]); (try simp only [List.setIfInBounds_toArray]); (try simp only [List.set_cons_succ]); (try simp only [List.set_cons_zero])
                  refine wpAnyH_take (i := 10) (v := .agg #[.int .i8 i1, .int .i8 j1]) rfl (by kernel_rfl) (by kernel_rfl) (by kernel_rfl) (fun _ _ _ h => h) (Or.inl ⟨by rfl, ?_⟩) hH ?_
                  · intro w1 hS; (try dsimp only at hS); have d0 := (hS.cell (p := ⟨gg, i * 2, none⟩) (lt_of_cellA c0)).trans c0; have d1 := (hS.cell (p := ⟨gg, i * 2 + 1, none⟩) (lt_of_cellA c1)).trans c1; go_simp
                  (try simp only [List.getElem_toArray]); (try simp only [List.getElem_cons_succ]); (try simp only [List.getElem_cons_zero]); (try simp only [Act.put]); (try simp only [List.setIfInBounds_toArray]); (try simp only [List.set_cons_succ]); (try simp only [List.set_cons_zero])
                  refine wpAnyH_take (i := 11) (v := .slice (some ⟨gg, 0, none⟩) n cap3) rfl (by kernel_rfl) (by kernel_rfl) (by kernel_rfl) (fun _ _ _ h => h) (Or.inl ⟨by rfl, ?_⟩) hH ?_
                  · intro w1 hS; (try dsimp only at hS); go_simp
                  (try simp only [List.getElem_toArray]); (try simp only [List.getElem_cons_succ]); (try simp only [List.getElem_cons_zero]); (try simp only [Act.put]); (try simp only [List.setIfInBounds_toArray]); (try simp only [List.set_cons_succ]); (try simp only [List.set_cons_zero])
                  refine wpAnyH_take (i := 12) (v := .int .i64 k) rfl (by kernel_rfl) (by kernel_rfl) (by kernel_rfl) (fun _ _ _ h => h) (Or.inl ⟨by rfl, ?_⟩) hH ?_
                  · intro w1 hS; (try dsimp only at hS); go_simp
                  (try simp only [List.getElem_toArray]); (try simp only [List.getElem_cons_succ]); (try simp only [List.getElem_cons_zero]); (try simp only [Act.put]); (try simp only [List.setIfInBounds_toArray]); (try simp only [List.set_cons_succ]); (try simp only [List.set_cons_zero])
                  refine wpAnyH_take (i := 13) (v := .pointer (some ⟨gg, k * 2, none⟩)) rfl (by kernel_rfl) (by kernel_rfl) (by kernel_rfl) (fun _ _ _ h => h) (Or.inl ⟨by rfl, ?_⟩) hH ?_
                  · intro w1 hS; (try dsimp only at hS); go_simp
                  (try simp only [List.getElem_toArray]); (try simp only [List.getElem_cons_succ]); (try simp only [List.getElem_cons_zero]); (try simp only [Act.put]); (try simp only [List.setIfInBounds_toArray]); (try simp only [List.set_cons_succ]); (try simp only [List.set_cons_zero])
                  refine wpAnyH_take (i := 14) (v := .agg #[.int .i8 i2, .int .i8 j2]) rfl (by kernel_rfl) (by kernel_rfl) (by kernel_rfl) (fun _ _ _ h => h) (Or.inl ⟨by rfl, ?_⟩) hH ?_
                  · intro w1 hS; (try dsimp only at hS); have d0 := (hS.cell (p := ⟨gg, k * 2, none⟩) (lt_of_cellA k0)).trans k0; have d1 := (hS.cell (p := ⟨gg, k * 2 + 1, none⟩) (lt_of_cellA k1)).trans k1; go_simp
                  (try simp only [List.getElem_toArray]); (try simp only [List.getElem_cons_succ]); (try simp only [List.getElem_cons_zero]); (try simp only [Act.put]); (try simp only [List.setIfInBounds_toArray]); (try simp only [List.set_cons_succ]); (try simp only [List.set_cons_zero])
                  refine wpAnyH_ready (rs := [15]) (by kernel_rfl) (by simp) (AllReadyH.cons rfl (fun K hK => ?_) AllReadyH.nil)
                  go_simp
                  refine (CO _ (brow hH P4.out)).mono ?_
                  rintro x wx ⟨rfl, bx⟩
                  go_simp
                  refine hK.out _ _ (bnext hH bx hH.size) (fun hG => ?_)
                  clear hK K hH bx
                  replace hH := hG
                  clear hG
                  (try simp only [List.getElem_toArray]); (try simp only [List.getElem_cons_succ]); (try simp only [List.getElem_cons_zero]); (try simp only [Act.put]); (try simp only [List.setIfInBounds_toArray]); (try simp only [List.set_cons_succ]); (try simp only [List.set_cons_zero])
                  refine wpAnyH_take (i := 16) (v := .bool (!x2)) rfl (by kernel_rfl) (by kernel_rfl) (by kernel_rfl) (fun _ _ _ h => h) (Or.inl ⟨by rfl, ?_⟩) hH ?_
                  · intro w1 hS; (try dsimp only at hS); go_simp
                  (try simp only [List.getElem_toArray]); (try simp only [List.getElem_cons_succ]); (try simp only [List.getElem_cons_zero]); (try simp only [Act.put]); (try simp only [List.setIfInBounds_toArray]); (try simp only [List.set_cons_succ]); (try simp only [List.set_cons_zero])
                  refine wpAnyH_take (i := 17) (v := .bool (!x2)) rfl (by kernel_rfl) (by kernel_rfl) (by kernel_rfl) (fun _ _ _ h => h) (Or.inl ⟨by rfl, ?_⟩) hH ?_
                  · intro w1 hS; (try dsimp only at hS); go_simp
                  (try simp only [List.getElem_toArray]); (try simp only [List.getElem_cons_succ]); (try simp only [List.getElem_cons_zero]); (try simp only [Act.put]); (try simp only [List.setIfInBounds_toArray]); (try simp only [List.set_cons_succ]); (try simp only [List.set_cons_zero])
                  refine wpAnyH_take (i := 18) (v := .bool (!x2)) rfl (by kernel_rfl) (by kernel_rfl) (by kernel_rfl) (fun _ _ _ h => h) (Or.inl ⟨by rfl, ?_⟩) hH ?_
                  · intro w1 hS; (try dsimp only at hS); go_simp
                  (try simp only [List.getElem_toArray]); (try simp only [List.getElem_cons_succ]); (try simp only [List.getElem_cons_zero]); (try simp only [Act.put]); (try simp only [List.setIfInBounds_toArray]); (try simp only [List.set_cons_succ]); (try simp only [List.set_cons_zero])
                  refine wpAnyH_done (by kernel_rfl) ?_ _
                  have B2 := Lib.hid (HC1.out.call hH)
                  have O2 := Lib.hid (owns_below HV1.out hH)
                  have G2 := Lib.hid (brow hH RG1.out)
                  clear hH c0 c1 k0 k1 CH CO
                  go_wp2_with fail
                  go_roundg (n - (k + 1))
                  case measure => omega
                  case rel => exact ⟨k + 1, !x2, by omega, by omega, rfl, by go_num, Lib.hid (by rw [HPK.out]; have := HZ.out; revert this; generalize anyI _ k = y; cases A <;> cases y <;> cases x2 <;> simp), O2, B2, G2⟩
              | false =>
                have HNF : Hid (r.freeB g n (r.upX g n m) m i = false) := Lib.hid (by
                  rw [HFE.out]
                  have h := HZ.out
                  cases A with
                  | true => rfl
                  | false =>
                    have h2 : anyI (fun k => !hasP (r.upX g n m) m (g (k * 2)) (g (k * 2 + 1)) && r.over i1 j1 (g (k * 2)) (g (k * 2 + 1))) k = true := by simpa using h
                    obtain ⟨q, hq, e⟩ := anyI_iff.1 h2
                    rw [anyI_t (Nat.lt_trans hq hkl) e]; rfl)
                have hne : i ≠ K := fun e => by have := HNF.out; rw [e, HAT.out] at this; cases this
                clear c0 c1
                go_wp2_with fail
                go_roundg (n - (i + 1))
                case measure => omega
                case rel => exact ⟨i + 1, by omega, by omega, by go_num, rfl, HV1, HC1⟩
            · obtain rfl : k = n := by omega
              cases z with
              | true =>
                have hiE : i = K := by
                  have h : r.freeB g k (r.upX g k m) m i = true := HFE.out.trans HZ.out.symm
                  rcases Nat.lt_or_ge i K with h2 | h2
                  · rw [HBF.out i h2] at h; cases h
                  · omega
                have V0 : Hid (r.upX g k (m + 1) (m * 2) = i1) := Lib.hid (by rw [U0.out, ← hiE]; exact HE0.out)
                have V1 : Hid (r.upX g k (m + 1) (m * 2 + 1) = j1) := Lib.hid (by rw [U1.out, ← hiE]; exact HE1.out)
                have hsC := HC1.out.bel.size
                have hv2 := HV1.out
                clear hiE
                go_wp2_with (at_builtin; refine Go.wpList_append_own_at _ rfl _ _ 33 rfl Wb.heap.size 58 i0 (.agg #[.int .i8 0, .int .i8 0]) 2 2 Try.underlying33 hi0 hz0 hz1 hz2 rfl (by decide) _ _ _ rfl (hv2.alloc _) ⟨wr.heap.size, 0, none⟩ 1 1 [.int .i8 i1, .int .i8 j1] rfl rfl (cell_two_new _ _ _ _) (by simp [Value.oneCell']) (by unfold maxLen; omega) (by omega) (by simp; omega) ?_)
                intro v' w5 own3 grow3 _ at3
                have s5 := grow3.size
                have C5 := Lib.hid (HC1.out.append hlt3 grow3 (at3.imp (fun h => h) (fun h => h.trans (by simp))))
                have O5 : Hid (w5.ownsRow Wb.heap.size 58 2 v' (m + 1) (cellsTo .i8 (r.upX g k (m + 1)) ((m + 1) * 2))) := Lib.hid (by
                  rw [cellsTo_two .i8 (r.upX g k (m + 1)) m V0.out V1.out, show cellsTo .i8 (r.upX g k (m + 1)) (m * 2) = cellsTo .i8 (r.upX g k m) (m * 2) from List.map_congr_left fun x hx => by rw [UO.out x (List.mem_range.1 hx)]]
                  exact own3)
                clear own3 grow3 at3 hv2 c0 c1 s5
                go_wp2_with fail
                go_roundg (k - (m + 1))
                case measure => omega
                case rel => exact ⟨m + 1, by omega, by omega, O5, C5⟩
              | false =>
                have HNF : Hid (r.freeB g k (r.upX g k m) m i = false) := Lib.hid (HFE.out.trans HZ.out.symm)
                have hne : i ≠ K := fun e => by have := HNF.out; rw [e, HAT.out] at this; cases this
                clear c0 c1
                go_wp2_with fail
                go_roundg (k - (i + 1))
                case measure => omega
                case rel => exact ⟨i + 1, by omega, by omega, by go_num, rfl, HV1, HC1⟩
      · obtain rfl : m = n := by omega
        go_wp2_with fail
        go_ret2
        exact ⟨_, by rw [HK.out]; rfl, by rw [HN.out, HF.out]; exact (owns_list HO.out).mono (by omega), BWB.out.trans (HC.out.bel.mono (by omega))⟩
  · have hb : (r.liftC f n != 0) = true := by simp [hk]
    have HN : Hid (r.upN f n = 0) := Lib.hid (if_neg hk)
    clear hk
    go_enter Try.func17, Try.ntmps17
    go_wp2_with fail
    rw [HW1.out]
    rw [← sb]
    clear HW1
    refine (CO _ P1.out HV.out).mono ?_
    rintro e w2 ⟨rfl, b2⟩
    have B2 := Lib.hid (bnext BB.out b2 BB.out.size)
    clear b2 CO HOW HV P1
    go_wp2_with fail
    go_ret2
    exact ⟨_, rfl, by rw [HN.out]; exact .inl ⟨rfl, _, _, rfl⟩, BWB.out.trans (B2.out.mono (by omega))⟩
end Go.Proofs.Ytkbacpkpgfppiaa

/- laws.FnExactFirstUpward returns true for every roof, list of places, and leaves them as they were. No condition. -/
namespace Go.Proofs.Ytkbacpkpgfppiaa
open Go.RowKit

set_option maxRecDepth 100000 in
set_option maxHeartbeats 4000000 in
theorem law_walk_FnExactFirstUpward {w : World} {c : Array Value} {r : Rf} (hR : IsRoof c r) {v_f : Value} {m_f : Nat} {f : Nat → Int} (hv_f : ArgL w v_f m_f f) (hm_f : m_f ≤ maxLen) (hb_f : ∀ i, i < m_f * 2 → -128 ≤ f i ∧ f i ≤ 127) :
    Calls Try.prog 4 #[.agg c, v_f] w fun e w' => e = .returned (.bool true) ∧ Below w.heap.size w w' := by
  have hc := hR.size
  have q0 := rowAt_alloc_at w c 26 w.heap.size rfl
  have PB0 := Lib.hid (show Below w.heap.size w (w.alloc (.cells c 26)) from (Below.refl _ _).alloc (Nat.le_refl _) _)
  have A_f := Lib.hid (hv_f.below PB0.out (Nat.le_refl _))
  have HB_f := Lib.hid hb_f
  have _hmm_f := hm_f
  obtain ⟨av_f, cv_f, rfl⟩ := hv_f.shape
  clear hv_f hb_f
  by_cases hl_f : m_f ≤ 1048576
  rotate_left
  · have hl1_f : (1048576 : Int) < m_f := by omega
    go_enter Try.func4, Try.ntmps4
    go_wp2_with fail
    refine gen_callsW fun W0 hW => ?_
    rw [← hW] at q0 PB0 A_f
    clear hW
    refine (szPlaceS_f _ m_f f _ A_f.out (by omega) hm_f).mono ?_
    rintro e w1 ⟨rfl, rfl⟩
    go_wp2_with fail
    go_ret
    exact ⟨rfl, PB0.out⟩
  have hl1_f : (m_f : Int) ≤ 1048576 := by omega
  have CS := fun (W : World) (B_f : Nat) (U_f : Option Addr) (H_f : IsList W B_f (.slice U_f m_f m_f) 2 m_f (fun i => .int .i8 (f i))) => specFirstUpward_any c r B_f m_f f U_f W hR H_f (by omega) HB_f.out
  have CI := fun (W : World) (B_f : Nat) (U_f : Option Addr) (H_f : IsList W B_f (.slice U_f m_f m_f) 2 m_f (fun i => .int .i8 (f i))) => implFirstUpward_any c r B_f m_f f U_f W hR H_f (by omega) HB_f.out
  have hne0 : ((r.liftC f m_f) != (r.liftC f m_f)) = false := by simp
  generalize (r.liftC f m_f) = x0 at *
  unfold GivesT at CS CI
  have hnb : (r.upN f m_f) ≤ 2000000 := Rf.upN_le (by omega)
  generalize (r.upN f m_f) = nn at *
  generalize (r.upF f m_f) = ff at *
  obtain ⟨M, hM⟩ : ∃ M : Int, M = ((1 + 2 * nn : Nat) : Int) := ⟨_, rfl⟩
  have hM0 : 0 ≤ M := by omega
  have hmm : (M != M) = false := by simp
  have HM := Lib.hid hM
  clear hM
  obtain ⟨K0, hK0⟩ : ∃ K : Int, K = ((1 + 2 * m_f : Nat) : Int) := ⟨_, rfl⟩
  have HK0 := Lib.hid hK0
  have hK0_0 : 0 ≤ K0 := by omega
  clear hK0
  go_enter Try.func4, Try.ntmps4
  go_wp2_with fail
  refine gen_callsW fun W0 hW => ?_
  rw [← hW] at q0 PB0 A_f
  clear hW
  have H0 := Lib.hid (Below.refl W0.heap.size W0)
  refine (szPlaceS_t _ m_f f _ A_f.out hl_f).mono ?_
  rintro e w1 ⟨rfl, rfl⟩
  go_wp2_with fail
  refine (toRoof_any c r _ hR).mono ?_
  rintro e w1 ⟨rfl, b1⟩
  have H1 := Lib.hid (bnext H0.out b1 H0.out.size)
  clear b1 H0
  have q1 := brow H1.out q0
  go_wp2_with fail
  refine (toPlaceS_c _ m_f f _ (A_f.out.below H1.out (Nat.le_refl _)) (by omega)).mono ?_
  rintro e w2 ⟨u_s_f, rfl, l_s_f, b2⟩
  have H2 := Lib.hid (bnext H1.out b2 H1.out.size)
  obtain ⟨g_s_f, hg_s_f, k_s_f⟩ := l_s_f.ls
  have g0_s_f : W0.heap.size ≤ g_s_f := Nat.le_trans H1.out.size hg_s_f
  have s_f_2 := Lib.hid k_s_f
  clear l_s_f k_s_f hg_s_f
  clear b2 H1
  have q2 := brow H2.out q0
  go_wp2_with fail
  refine (CS _ _ _ s_f_2.out.list).mono ?_
  rintro e w3 ⟨u_W, rfl, l_W, b3⟩
  have H3 := Lib.hid (bnext H2.out b3 H2.out.size)
  have s_f_3 := Lib.hid (s_f_2.out.below b3 (Nat.le_refl _))
  obtain ⟨g_W, hg_W, k_W⟩ := l_W.ls
  have ne_s_f_W := s_f_2.out.ne hg_W
  have g0_W : W0.heap.size ≤ g_W := Nat.le_trans H2.out.size hg_W
  obtain ⟨a_W, c_W, rfl⟩ := l_W.shape
  have W_3 := Lib.hid k_W
  clear l_W k_W hg_W
  clear b3 H2 s_f_2
  have q3 := brow H3.out q0
  go_wp2_with fail
  clear s_f_3
  refine (toPlaceS_c _ m_f f _ (A_f.out.below H3.out (Nat.le_refl _)) (by omega)).mono ?_
  rintro e w4 ⟨u_x_f, rfl, l_x_f, b4⟩
  have H4 := Lib.hid (bnext H3.out b4 H3.out.size)
  have W_4 := Lib.hid (W_3.out.below b4 (Nat.le_refl _))
  obtain ⟨g_x_f, hg_x_f, k_x_f⟩ := l_x_f.ls
  have ne_W_x_f := W_3.out.ne hg_x_f
  have g0_x_f : W0.heap.size ≤ g_x_f := Nat.le_trans H3.out.size hg_x_f
  have x_f_4 := Lib.hid k_x_f
  clear l_x_f k_x_f hg_x_f
  clear b4 H3 W_3
  have q4 := brow H4.out q0
  go_wp2_with fail
  refine (toRoof_any c r _ hR).mono ?_
  rintro e w5 ⟨rfl, b5⟩
  have H5 := Lib.hid (bnext H4.out b5 H4.out.size)
  have W_5 := Lib.hid (W_4.out.below b5 (Nat.le_refl _))
  have x_f_5 := Lib.hid (x_f_4.out.below b5 (Nat.le_refl _))
  clear b5 H4 W_4 x_f_4
  have q5 := brow H5.out q0
  go_wp2_with fail
  refine (CI _ _ _ x_f_5.out.list).mono ?_
  rintro e w6 ⟨u_G, rfl, l_G, b6⟩
  have H6 := Lib.hid (bnext H5.out b6 H5.out.size)
  have W_6 := Lib.hid (W_5.out.below b6 (Nat.le_refl _))
  have x_f_6 := Lib.hid (x_f_5.out.below b6 (Nat.le_refl _))
  obtain ⟨g_G, hg_G, k_G⟩ := l_G.ls
  have ne_W_G := W_5.out.ne hg_G
  have ne_x_f_G := x_f_5.out.ne hg_G
  have g0_G : W0.heap.size ≤ g_G := Nat.le_trans H5.out.size hg_G
  obtain ⟨a_G, c_G, rfl⟩ := l_G.shape
  have G_6 := Lib.hid k_G
  clear l_G k_G hg_G
  clear b6 H5 W_5 x_f_5
  have q6 := brow H6.out q0
  go_wp2_with fail
  refine (eqPlaceS_same nn ff _ _ _ _ _ G_6.out.list W_6.out.list hnb).mono ?_
  rintro e w7 ⟨rfl, b7⟩
  have H7 := Lib.hid (bnext H6.out b7 H6.out.size)
  have W_7 := Lib.hid (W_6.out.below b7 (Nat.le_refl _))
  have x_f_7 := Lib.hid (x_f_6.out.below b7 (Nat.le_refl _))
  have G_7 := Lib.hid (G_6.out.below b7 (Nat.le_refl _))
  clear b7 H6 W_6 x_f_6 G_6
  have q7 := brow H7.out q0
  go_wp2_with fail
  refine (toPlaceS_c _ m_f f _ (A_f.out.below H7.out (Nat.le_refl _)) (by omega)).mono ?_
  rintro e w8 ⟨u_t_f, rfl, l_t_f, b8⟩
  have H8 := Lib.hid (bnext H7.out b8 H7.out.size)
  have W_8 := Lib.hid (W_7.out.below b8 (Nat.le_refl _))
  have x_f_8 := Lib.hid (x_f_7.out.below b8 (Nat.le_refl _))
  have G_8 := Lib.hid (G_7.out.below b8 (Nat.le_refl _))
  obtain ⟨g_t_f, hg_t_f, k_t_f⟩ := l_t_f.ls
  have ne_W_t_f := W_7.out.ne hg_t_f
  have ne_x_f_t_f := x_f_7.out.ne hg_t_f
  have ne_G_t_f := G_7.out.ne hg_t_f
  have g0_t_f : W0.heap.size ≤ g_t_f := Nat.le_trans H7.out.size hg_t_f
  have t_f_8 := Lib.hid k_t_f
  clear l_t_f k_t_f hg_t_f
  clear b8 H7 W_7 x_f_7 G_7
  have q8 := brow H8.out q0
  go_wp2_with fail
  refine (eqPlaceS_same m_f f _ _ _ _ _ x_f_8.out.list t_f_8.out.list (by omega)).mono ?_
  rintro e w9 ⟨rfl, b9⟩
  have H9 := Lib.hid (bnext H8.out b9 H8.out.size)
  have W_9 := Lib.hid (W_8.out.below b9 (Nat.le_refl _))
  have x_f_9 := Lib.hid (x_f_8.out.below b9 (Nat.le_refl _))
  have G_9 := Lib.hid (G_8.out.below b9 (Nat.le_refl _))
  have t_f_9 := Lib.hid (t_f_8.out.below b9 (Nat.le_refl _))
  clear b9 H8 W_8 x_f_8 G_8 t_f_8
  have q9 := brow H9.out q0
  clear t_f_9
  go_wp2_with fail
  refine (markPK m_f _ _ g_x_f (1) 1 K0 rfl HK0.out _ x_f_9.out (by omega) (by omega)).mono ?_
  rintro e w10 ⟨rfl, kk10, o10, z10⟩
  have H10 := Lib.hid (H9.out.trans (o10.below.mono g0_x_f))
  have W_10 := Lib.hid (W_9.out.only o10 ne_W_x_f)
  have x_f_10 := Lib.hid kk10
  have G_10 := Lib.hid (G_9.out.only_later o10 z10 ne_x_f_G)
  clear kk10 o10 z10 H9 W_9 x_f_9 G_9
  have q10 := brow H10.out q0
  go_wp2_with fail
  refine (eqPlaceS_same nn ff _ _ _ _ _ G_10.out.list W_10.out.list hnb).mono ?_
  rintro e w11 ⟨rfl, b11⟩
  have H11 := Lib.hid (bnext H10.out b11 H10.out.size)
  have W_11 := Lib.hid (W_10.out.below b11 (Nat.le_refl _))
  have x_f_11 := Lib.hid (x_f_10.out.below b11 (Nat.le_refl _))
  have G_11 := Lib.hid (G_10.out.below b11 (Nat.le_refl _))
  clear b11 H10 W_10 x_f_10 G_10
  have q11 := brow H11.out q0
  go_wp2_with fail
  clear x_f_11
  refine (markPK nn _ _ g_G (1) 1 M rfl HM.out _ G_11.out (by omega) (by omega)).mono ?_
  rintro e w12 ⟨rfl, kk12, o12, z12⟩
  have H12 := Lib.hid (H11.out.trans (o12.below.mono g0_G))
  have W_12 := Lib.hid (W_11.out.only o12 ne_W_G)
  have G_12 := Lib.hid kk12
  clear kk12 o12 z12 H11 W_11 G_11
  have q12 := brow H12.out q0
  go_wp2_with fail
  refine (heldPK nn _ g_G 1 1 M rfl HM.out _ G_12.out (by omega) (by omega)).mono ?_
  rintro e w12_ ⟨rfl, rfl⟩
  go_wp2_with fail
  refine (toRoof_any c r _ hR).mono ?_
  rintro e w13 ⟨rfl, b13⟩
  have H13 := Lib.hid (bnext H12.out b13 H12.out.size)
  have W_13 := Lib.hid (W_12.out.below b13 (Nat.le_refl _))
  have G_13 := Lib.hid (G_12.out.below b13 (Nat.le_refl _))
  clear b13 H12 W_12 G_12
  have q13 := brow H13.out q0
  go_wp2_with fail
  refine (toPlaceS_c _ m_f f _ (A_f.out.below H13.out (Nat.le_refl _)) (by omega)).mono ?_
  rintro e w14 ⟨u_y_f, rfl, l_y_f, b14⟩
  have H14 := Lib.hid (bnext H13.out b14 H13.out.size)
  have W_14 := Lib.hid (W_13.out.below b14 (Nat.le_refl _))
  have G_14 := Lib.hid (G_13.out.below b14 (Nat.le_refl _))
  obtain ⟨g_y_f, hg_y_f, k_y_f⟩ := l_y_f.ls
  have ne_W_y_f := W_13.out.ne hg_y_f
  have ne_G_y_f := G_13.out.ne hg_y_f
  have g0_y_f : W0.heap.size ≤ g_y_f := Nat.le_trans H13.out.size hg_y_f
  have y_f_14 := Lib.hid k_y_f
  clear l_y_f k_y_f hg_y_f
  clear b14 H13 W_13 G_13
  have q14 := brow H14.out q0
  go_wp2_with fail
  refine (CI _ _ _ y_f_14.out.list).mono ?_
  rintro e w15 ⟨u_H, rfl, l_H, b15⟩
  have H15 := Lib.hid (bnext H14.out b15 H14.out.size)
  have W_15 := Lib.hid (W_14.out.below b15 (Nat.le_refl _))
  have G_15 := Lib.hid (G_14.out.below b15 (Nat.le_refl _))
  have y_f_15 := Lib.hid (y_f_14.out.below b15 (Nat.le_refl _))
  obtain ⟨g_H, hg_H, k_H⟩ := l_H.ls
  have ne_W_H := W_14.out.ne hg_H
  have ne_G_H := G_14.out.ne hg_H
  have ne_y_f_H := y_f_14.out.ne hg_H
  have g0_H : W0.heap.size ≤ g_H := Nat.le_trans H14.out.size hg_H
  obtain ⟨a_H, c_H, rfl⟩ := l_H.shape
  have H_15 := Lib.hid k_H
  clear l_H k_H hg_H
  clear b15 H14 W_14 G_14 y_f_14
  have q15 := brow H15.out q0
  go_wp2_with fail
  clear y_f_15
  refine (eqPlaceS_same nn ff _ _ _ _ _ H_15.out.list W_15.out.list hnb).mono ?_
  rintro e w16 ⟨rfl, b16⟩
  have H16 := Lib.hid (bnext H15.out b16 H15.out.size)
  have W_16 := Lib.hid (W_15.out.below b16 (Nat.le_refl _))
  have G_16 := Lib.hid (G_15.out.below b16 (Nat.le_refl _))
  have H_16 := Lib.hid (H_15.out.below b16 (Nat.le_refl _))
  clear b16 H15 W_15 G_15 H_15
  have q16 := brow H16.out q0
  go_wp2_with fail
  refine (heldPK nn _ g_G 1 1 M rfl HM.out _ G_16.out (by omega) (by omega)).mono ?_
  rintro e w16_ ⟨rfl, rfl⟩
  go_wp2_with fail
  go_ret
  exact ⟨rfl, PB0.out.trans (H16.out.mono PB0.out.size)⟩

namespace LFnExactFirstUpward
open Go.RowKit Go.ChangeShapes Go.WideShapes Go.ChangeAt
theorem own : ownKnob Try.prog.godebug = none := by kernel_rfl
theorem laidOut : laidOutB Try.prog = true := by kernel_rfl
set_option maxRecDepth 100000 in
theorem lifted (os : Os) (started : os.Started) (H : Type) (enc : TypeId × Value → H) :
    ReturnsInHanded {} Try.checked os 4 .any (Rows.fnExactFirstUpwardSpec.pre6 enc Try.prog Try.f4 Rows.fnExactFirstUpwardRow.domain false) (Rows.fnExactFirstUpwardSpec.post enc Try.prog Try.f4 false true false false) := by
  refine returnsInHanded_of_change (C := Try.checked) own started (by kernel_rfl) Try.func4
    (ChangeSpec.witness6 (enc := enc) (C := Try.checked) false ⟨#[], #[.agg Try.zeroCells26, .slice none 0 0], []⟩ 8 (by kernel_rfl) (by kernel_rfl) (by kernel_rfl) (by kernel_rfl)) ?_
  intro W base args ds gs before hval0 hW hcnd _
  have hval : ∀ (j : Nat) t v, Try.f4.params[j]? = some t → args[j]? = some v → Value.okWide Try.prog W .any base t v := hval0
  have hW' := hW
  obtain ⟨p, q, hA0, hV, rfl, hfz, hnd⟩ := hW
  have hA : DataW.TrodAll enc Try.prog W 0 (fun _ => true) true Try.f4.params.toList args.toList ds p := hA0
  rw [Try.params4] at hA hval
  obtain ⟨v0, vs0, d0, ds0, p0, q0, hargs, rfl, rfl, h0, r0⟩ := trodAll_cons hA
  obtain ⟨v1, vs1, d1, ds1, p1, q1, rfl, rfl, rfl, h1, r1⟩ := trodAll_cons r0
  obtain ⟨rfl, rfl, rfl⟩ := trodAll_nil r1
  obtain rfl : args = #[v0, v1] := by cases args; simp_all
  obtain ⟨rfl, rfl⟩ := trodVars_none hV
  have k0 := h0
  have lt0 : ∀ x ∈ p0, x.block < W.heap.size := by obtain ⟨m, hm⟩ := k0; exact DataW.trod_lt m _ _ _ hm
  have k1 := h1
  have lt1 : ∀ x ∈ p1, x.block < W.heap.size := by obtain ⟨m, hm⟩ := k1; exact DataW.trod_lt m _ _ _ hm
  obtain ⟨c0, f0, rfl, wf0⟩ := open_roof (hval 0 26 v0 rfl rfl) h0
  obtain ⟨len1, cells1, hL1, hm1, hb1⟩ := open_pls (hval 1 27 v1 rfl rfl) h1
  clear hA0 hval0
  refine (law_walk_FnExactFirstUpward wf0 hL1 hm1 hb1).mono fun e W' ⟨he, bel⟩ => ?_
  subst he
  exact ⟨_, rfl, _, _, _, [], _, [], hW', trodAll_mk1 (shut_bool Try.underlying4 _), (trodAll_cons_mk (Below.trod laidOut (by kernel_rfl) (of_decide_eq_true (by kernel_rfl)) k0 bel lt0) (trodAll_cons_mk (Below.trod laidOut (by kernel_rfl) (of_decide_eq_true (by kernel_rfl)) k1 bel lt1) trodAll_mk0)), rfl, bel.frame _, fun h => by cases h⟩

theorem over : Rows.fnExactFirstUpwardRow.holds Try.pinned (OpenSpec.ofChange Rows.fnExactFirstUpwardSpec) :=
  OpenClaim.holds_of_wide 4 Try.f4 rfl rfl rfl rfl rfl rfl rfl ⟨rfl, rfl, rfl, rfl, rfl⟩ rfl rfl rfl rfl rfl (by kernel_rfl) Try.func4 (by kernel_rfl)
    (of_decide_eq_true (by kernel_rfl)) (by unfold Func.isWrapper; first | (rw [if_pos (by decide +kernel)]; kernel_rfl) | (rw [if_neg (by decide +kernel)]; exact ⟨rfl, rfl⟩))
    (fun os started H enc _ => lifted os started H enc)

theorem proved : Rows.FnExactFirstUpwardSaid := over
end LFnExactFirstUpward


end Go.Proofs.Ytkbacpkpgfppiaa
