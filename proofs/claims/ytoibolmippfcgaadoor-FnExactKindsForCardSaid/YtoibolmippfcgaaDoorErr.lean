/- The sentinels of chapter 3: what the listed variables hold, errors.Is on them, and the code of each one. -/
import Derived.Test.YtoibolmippfcgaaDoorLaidN
import Derived.Test.YtoibolmippfcgaaDoorRows
import Derived.Test.YtoibolmippfcgaaDoorAgg
import Derived.LaidEql
import Derived.Stop.Asserts
import Derived.RowKitTokens
import Derived.LaidLaws
import Derived.Stop.IfaceNil
namespace Go.Proofs.YtoibolmippfcgaaDoor
open Go.RowKit Go.Extern.Stop Go.Stop Go.Extern

abbrev tE : TypeId := 164
/-- A sentinel. -/
abbrev errV (a : Addr) : Value := .iface 164 (.pointer (some a))

theorem isTypeOf (v : Value) (w : World) : (Extern.ReflectliteType.typeOf #[.iface 164 v]).run Tryd.prog w = .ok (.iface 149 (.agg #[.pointer (some ⟨6, 164, none⟩)])) w := by kernel_rfl
/-- What (reflectlite.rtype).Comparable does. -/
def cmpX : Array Value → Sem Value := Extern.ReflectliteType.method fun t => do Go.Extern.Rtype.noPackHeld "Comparable" t; pure (.bool (← typeInfo t).comparable)
theorem isComparable (w : World) : (cmpX #[.agg #[.pointer (some ⟨6, 164, none⟩)]]).run Tryd.prog w = .ok (.bool true) w := by kernel_rfl
theorem isMethodComparable (v : Value) (w : World) : (Go.method 203 149 v "Comparable").run Tryd.prog w = .ok (128, v) w := by kernel_rfl
theorem isComp : (Tryd.prog.info? 164).map (·.comparable) = some true := by kernel_rfl
theorem isSize : (Tryd.prog.info? 191).map (·.size) = some 1 := by kernel_rfl
theorem noIsE (v : Value) (xT : TypeId) (w : World) : (Instr.typeAssert (.iface 164 v) xT 151 true).run Tryd.prog w = .ok (.tuple #[.nilIface, .bool false]) w := run_typeAssert_lacksB Tryd.underlying151 (by kernel_rfl) (by kernel_rfl) v xT w
theorem noUnwrapE (v : Value) (xT : TypeId) (w : World) : (Instr.typeAssert (.iface 164 v) xT 154 true).run Tryd.prog w = .ok (.tuple #[.nilIface, .bool false]) w := run_typeAssert_lacksB Tryd.underlying154 (by kernel_rfl) (by kernel_rfl) v xT w
theorem noUnwrapsE (v : Value) (xT : TypeId) (w : World) : (Instr.typeAssert (.iface 164 v) xT 155 true).run Tryd.prog w = .ok (.tuple #[.nilIface, .bool false]) w := run_typeAssert_lacksB Tryd.underlying155 (by kernel_rfl) (by kernel_rfl) v xT w

set_option maxHeartbeats 1000000 in
/-- errors.Is(x, x). -/
theorem is_same (a : Addr) (w : World) :
    Calls Tryd.prog 49 #[errV a, errV a] w fun e w' => e = .returned (.bool true) ∧ w = w' := by
  obtain ⟨i, hi, hcmp⟩ := Option.map_eq_some_iff.1 isComp
  obtain ⟨j, hj, hjs⟩ := Option.map_eq_some_iff.1 isSize
  have h8 := @run_callFunc_extern Tryd.prog 74 _ Extern.ReflectliteType.typeOf Tryd.func74 (by kernel_rfl) (by kernel_rfl) (by kernel_rfl) (by kernel_rfl)
  have h32 := @run_callFunc_extern Tryd.prog 128 _ cmpX Tryd.func128 (by kernel_rfl) (by kernel_rfl) (by kernel_rfl) (by kernel_rfl)
  have tT := isTypeOf
  have cT := isComparable
  have mR := isMethodComparable
  have heq := run_eql_iface_ptr_same (P := Tryd.prog) w a Tryd.underlying66 Tryd.underlying164 hi hcmp hj
  go_enter Tryd.func49, Tryd.ntmps49
  go_wp2
  refine wp_loop_rounds 1 ?_
  rw [rounds_succ]
  go_wp2
  go_ret
  exact ⟨rfl, rfl⟩

set_option maxHeartbeats 1000000 in
/-- errors.Is(x, y), two different sentinels. -/
theorem is_other (a b : Addr) (w : World) (hne : a ≠ b) (ha : ∃ c t, w.heap[a.block]? = some (.cells c t (0, 0))) (hb : ∃ c t, w.heap[b.block]? = some (.cells c t (0, 0))) :
    Calls Tryd.prog 49 #[errV a, errV b] w fun e w' => e = .returned (.bool false) ∧ w = w' := by
  obtain ⟨ca, ta, ha⟩ := ha
  obtain ⟨cb, tb, hb⟩ := hb
  obtain ⟨i, hi, hcmp⟩ := Option.map_eq_some_iff.1 isComp
  obtain ⟨j, hj, hjs⟩ := Option.map_eq_some_iff.1 isSize
  have h8 := @run_callFunc_extern Tryd.prog 74 _ Extern.ReflectliteType.typeOf Tryd.func74 (by kernel_rfl) (by kernel_rfl) (by kernel_rfl) (by kernel_rfl)
  have h32 := @run_callFunc_extern Tryd.prog 128 _ cmpX Tryd.func128 (by kernel_rfl) (by kernel_rfl) (by kernel_rfl) (by kernel_rfl)
  have tT := isTypeOf
  have cT := isComparable
  have mR := isMethodComparable
  have nE := noIsE
  have uE := noUnwrapE
  have vE := noUnwrapsE
  have heq := run_eql_iface_ptr_other (P := Tryd.prog) w Tryd.underlying66 Tryd.underlying164 hi hcmp hj (by rw [hjs]; decide) hne ha hb
  go_enter Tryd.func49, Tryd.ntmps49
  go_wp2
  refine wp_loop_rounds 1 ?_
  rw [rounds_succ]
  go_wp2
  go_ret
  exact ⟨rfl, rfl⟩

/-- The six sentinels of the variables: where they lie, each one apart. -/
structure Errs (a : Nat → Addr) (w : World) : Prop where
  v0 : w.cell? ⟨0, 0, none⟩ = some (errV (a 0))
  v1 : w.cell? ⟨1, 0, none⟩ = some (errV (a 1))
  v2 : w.cell? ⟨2, 0, none⟩ = some (errV (a 2))
  v3 : w.cell? ⟨3, 0, none⟩ = some (errV (a 3))
  v4 : w.cell? ⟨4, 0, none⟩ = some (errV (a 4))
  v5 : w.cell? ⟨5, 0, none⟩ = some (errV (a 5))
  row : ∀ i, i < 6 → ∃ c t, w.heap[(a i).block]? = some (.cells c t (0, 0))
  ne : ∀ i j, i < 6 → j < 6 → i ≠ j → a i ≠ a j

theorem lt_of_cellE {w : World} {p : Addr} {v : Value} (h : w.cell? p = some v) : p.block < w.heap.size := by
  rcases Nat.lt_or_ge p.block w.heap.size with h' | h'
  · exact h'
  · simp [World.cell?, Array.getElem?_eq_none h'] at h
theorem Errs.below {a : Nat → Addr} {w w' : World} (h : Errs a w) (b : Below w.heap.size w w') : Errs a w' where
  v0 := (b.cell (p := ⟨_, 0, none⟩) (lt_of_cellE h.v0)).trans h.v0
  v1 := (b.cell (p := ⟨_, 0, none⟩) (lt_of_cellE h.v1)).trans h.v1
  v2 := (b.cell (p := ⟨_, 0, none⟩) (lt_of_cellE h.v2)).trans h.v2
  v3 := (b.cell (p := ⟨_, 0, none⟩) (lt_of_cellE h.v3)).trans h.v3
  v4 := (b.cell (p := ⟨_, 0, none⟩) (lt_of_cellE h.v4)).trans h.v4
  v5 := (b.cell (p := ⟨_, 0, none⟩) (lt_of_cellE h.v5)).trans h.v5
  row i hi := by
    obtain ⟨c, t, hc⟩ := h.row i hi
    exact ⟨c, t, (b.block _ (Array.getElem?_eq_some_iff.1 hc).1).trans hc⟩
  ne := h.ne

/-- The code of a sentinel. -/
def ecode (i : Nat) : Int := if i = 0 then 1 else if i = 1 then 2 else if i = 2 then 3 else 4


/-- What the rows list. -/
abbrev laid6 : List (String × DataW Unit) := [("loop.example/g01376/impl.errNotValid", Rows.laid_loop_example_g01376_impl_errNotValid), ("loop.example/g01376/impl.errNoSuch", Rows.laid_loop_example_g01376_impl_errNoSuch), ("loop.example/g01376/impl.errTooMany", Rows.laid_loop_example_g01376_impl_errTooMany), ("loop.example/g01376/impl.errUnsound", Rows.laid_loop_example_g01376_impl_errUnsound), ("loop.example/g01376/impl.errUnlike", Rows.laid_loop_example_g01376_impl_errUnlike), ("loop.example/g01376/impl.errNotKept", Rows.laid_loop_example_g01376_impl_errNotKept)]
theorem gE0 : Tryd.prog.globalNamed "loop.example/g01376/impl.errNotValid" = some 0 := by kernel_rfl
theorem tE0 : (Tryd.prog.globals[0]?).map (·.type) = some 66 := by kernel_rfl
theorem gE1 : Tryd.prog.globalNamed "loop.example/g01376/impl.errNoSuch" = some 1 := by kernel_rfl
theorem tE1 : (Tryd.prog.globals[1]?).map (·.type) = some 66 := by kernel_rfl
theorem gE2 : Tryd.prog.globalNamed "loop.example/g01376/impl.errTooMany" = some 2 := by kernel_rfl
theorem tE2 : (Tryd.prog.globals[2]?).map (·.type) = some 66 := by kernel_rfl
theorem gE3 : Tryd.prog.globalNamed "loop.example/g01376/impl.errUnsound" = some 3 := by kernel_rfl
theorem tE3 : (Tryd.prog.globals[3]?).map (·.type) = some 66 := by kernel_rfl
theorem gE4 : Tryd.prog.globalNamed "loop.example/g01376/impl.errUnlike" = some 4 := by kernel_rfl
theorem tE4 : (Tryd.prog.globals[4]?).map (·.type) = some 66 := by kernel_rfl
theorem gE5 : Tryd.prog.globalNamed "loop.example/g01376/impl.errNotKept" = some 5 := by kernel_rfl
theorem tE5 : (Tryd.prog.globals[5]?).map (·.type) = some 66 := by kernel_rfl
theorem rowE : ∀ u, Tryd.prog.typeName? 3 u = some "*errors.errorString" → u = 164 := fun u hu => typeName_ptr_named (nm := "errors.errorString") (by kernel_rfl) (by kernel_rfl) (by decide) u hu
theorem cellsE : Tryd.prog.cellsOf 191 = 1 := by kernel_rfl
theorem cellsS : Tryd.prog.cellsOf 9 = 1 := by kernel_rfl

set_option maxRecDepth 100000 in
/-- What the condition gives a walk. -/
theorem errs_of {W : World} (h : laidMetH Tryd.prog laid6 W) : ∃ a, Errs a W := by
  rw [MakeChecks.laidMetH_plain _ _ _ (by kernel_rfl)] at h
  obtain ⟨ps, ⟨g0, t0, cs0, f0, p0, q0, hg0, ht0, hv0, hd0, ⟨g1, t1, cs1, f1, p1, q1, hg1, ht1, hv1, hd1, ⟨g2, t2, cs2, f2, p2, q2, hg2, ht2, hv2, hd2, ⟨g3, t3, cs3, f3, p3, q3, hg3, ht3, hv3, hd3, ⟨g4, t4, cs4, f4, p4, q4, hg4, ht4, hv4, hd4, ⟨g5, t5, cs5, f5, p5, q5, hg5, ht5, hv5, hd5, _, e5⟩, e4⟩, e3⟩, e2⟩, e1⟩, e0⟩, hnd, hrows⟩ := h
  obtain rfl := Option.some.inj (gE0.symm.trans hg0)
  obtain rfl := Option.some.inj (tE0.symm.trans ht0)
  obtain rfl := Option.some.inj (gE1.symm.trans hg1)
  obtain rfl := Option.some.inj (tE1.symm.trans ht1)
  obtain rfl := Option.some.inj (gE2.symm.trans hg2)
  obtain rfl := Option.some.inj (tE2.symm.trans ht2)
  obtain rfl := Option.some.inj (gE3.symm.trans hg3)
  obtain rfl := Option.some.inj (tE3.symm.trans ht3)
  obtain rfl := Option.some.inj (gE4.symm.trans hg4)
  obtain rfl := Option.some.inj (tE4.symm.trans ht4)
  obtain rfl := Option.some.inj (gE5.symm.trans hg5)
  obtain rfl := Option.some.inj (tE5.symm.trans ht5)
  subst e5
  subst e4
  subst e3
  subst e2
  subst e1
  subst e0
  obtain ⟨l0⟩ := cs0
  obtain ⟨l1⟩ := cs1
  obtain ⟨l2⟩ := cs2
  obtain ⟨l3⟩ := cs3
  obtain ⟨l4⟩ := cs4
  obtain ⟨l5⟩ := cs5
  have ok0 : ∀ u v, l0 = [.iface u v] → Value.okWide Tryd.prog W .any 0 u v := fun u v e => by
    subst e
    exact (hrows 0 0 (by simp [MemPlace.row])).2 u v (by simpa using World.var?_cell hg0 hv0 0)
  have ok1 : ∀ u v, l1 = [.iface u v] → Value.okWide Tryd.prog W .any 0 u v := fun u v e => by
    subst e
    exact (hrows 1 0 (by simp [MemPlace.row])).2 u v (by simpa using World.var?_cell hg1 hv1 0)
  have ok2 : ∀ u v, l2 = [.iface u v] → Value.okWide Tryd.prog W .any 0 u v := fun u v e => by
    subst e
    exact (hrows 2 0 (by simp [MemPlace.row])).2 u v (by simpa using World.var?_cell hg2 hv2 0)
  have ok3 : ∀ u v, l3 = [.iface u v] → Value.okWide Tryd.prog W .any 0 u v := fun u v e => by
    subst e
    exact (hrows 3 0 (by simp [MemPlace.row])).2 u v (by simpa using World.var?_cell hg3 hv3 0)
  have ok4 : ∀ u v, l4 = [.iface u v] → Value.okWide Tryd.prog W .any 0 u v := fun u v e => by
    subst e
    exact (hrows 4 0 (by simp [MemPlace.row])).2 u v (by simpa using World.var?_cell hg4 hv4 0)
  have ok5 : ∀ u v, l5 = [.iface u v] → Value.okWide Tryd.prog W .any 0 u v := fun u v e => by
    subst e
    exact (hrows 5 0 (by simp [MemPlace.row])).2 u v (by simpa using World.var?_cell hg5 hv5 0)
  obtain ⟨a0, s0, rfl, hc0, hs0, hz0, rfl⟩ := errorString_of_trod Tryd.underlying66 rowE Tryd.underlying164 Tryd.underlying191 rfl rfl Tryd.underlying9 cellsE cellsS hd0 ok0
  obtain ⟨a1, s1, rfl, hc1, hs1, hz1, rfl⟩ := errorString_of_trod Tryd.underlying66 rowE Tryd.underlying164 Tryd.underlying191 rfl rfl Tryd.underlying9 cellsE cellsS hd1 ok1
  obtain ⟨a2, s2, rfl, hc2, hs2, hz2, rfl⟩ := errorString_of_trod Tryd.underlying66 rowE Tryd.underlying164 Tryd.underlying191 rfl rfl Tryd.underlying9 cellsE cellsS hd2 ok2
  obtain ⟨a3, s3, rfl, hc3, hs3, hz3, rfl⟩ := errorString_of_trod Tryd.underlying66 rowE Tryd.underlying164 Tryd.underlying191 rfl rfl Tryd.underlying9 cellsE cellsS hd3 ok3
  obtain ⟨a4, s4, rfl, hc4, hs4, hz4, rfl⟩ := errorString_of_trod Tryd.underlying66 rowE Tryd.underlying164 Tryd.underlying191 rfl rfl Tryd.underlying9 cellsE cellsS hd4 ok4
  obtain ⟨a5, s5, rfl, hc5, hs5, hz5, rfl⟩ := errorString_of_trod Tryd.underlying66 rowE Tryd.underlying164 Tryd.underlying191 rfl rfl Tryd.underlying9 cellsE cellsS hd5 ok5
  have r0 := (hrows a0.block a0.off (by simp [MemPlace.row])).1
  have r1 := (hrows a1.block a1.off (by simp [MemPlace.row])).1
  have r2 := (hrows a2.block a2.off (by simp [MemPlace.row])).1
  have r3 := (hrows a3.block a3.off (by simp [MemPlace.row])).1
  have r4 := (hrows a4.block a4.off (by simp [MemPlace.row])).1
  have r5 := (hrows a5.block a5.off (by simp [MemPlace.row])).1
  have n01 : a0 ≠ a1 := by rintro rfl; simp [MemPlace.row] at hnd
  have n02 : a0 ≠ a2 := by rintro rfl; simp [MemPlace.row] at hnd
  have n03 : a0 ≠ a3 := by rintro rfl; simp [MemPlace.row] at hnd
  have n04 : a0 ≠ a4 := by rintro rfl; simp [MemPlace.row] at hnd
  have n05 : a0 ≠ a5 := by rintro rfl; simp [MemPlace.row] at hnd
  have n12 : a1 ≠ a2 := by rintro rfl; simp [MemPlace.row] at hnd
  have n13 : a1 ≠ a3 := by rintro rfl; simp [MemPlace.row] at hnd
  have n14 : a1 ≠ a4 := by rintro rfl; simp [MemPlace.row] at hnd
  have n15 : a1 ≠ a5 := by rintro rfl; simp [MemPlace.row] at hnd
  have n23 : a2 ≠ a3 := by rintro rfl; simp [MemPlace.row] at hnd
  have n24 : a2 ≠ a4 := by rintro rfl; simp [MemPlace.row] at hnd
  have n25 : a2 ≠ a5 := by rintro rfl; simp [MemPlace.row] at hnd
  have n34 : a3 ≠ a4 := by rintro rfl; simp [MemPlace.row] at hnd
  have n35 : a3 ≠ a5 := by rintro rfl; simp [MemPlace.row] at hnd
  have n45 : a4 ≠ a5 := by rintro rfl; simp [MemPlace.row] at hnd
  refine ⟨fun i => if i = 0 then a0 else if i = 1 then a1 else if i = 2 then a2 else if i = 3 then a3 else if i = 4 then a4 else a5, ⟨?_, ?_, ?_, ?_, ?_, ?_, ?_, ?_⟩⟩
  · simpa using World.var?_cell hg0 hv0 0
  · simpa using World.var?_cell hg1 hv1 0
  · simpa using World.var?_cell hg2 hv2 0
  · simpa using World.var?_cell hg3 hv3 0
  · simpa using World.var?_cell hg4 hv4 0
  · simpa using World.var?_cell hg5 hv5 0
  · intro i hi
    rcases (show i = 0 ∨ i = 1 ∨ i = 2 ∨ i = 3 ∨ i = 4 ∨ i = 5 by omega) with rfl | rfl | rfl | rfl | rfl | rfl <;> simpa
  · intro i j hi hj hij
    rcases (show i = 0 ∨ i = 1 ∨ i = 2 ∨ i = 3 ∨ i = 4 ∨ i = 5 by omega) with rfl | rfl | rfl | rfl | rfl | rfl <;>
      rcases (show j = 0 ∨ j = 1 ∨ j = 2 ∨ j = 3 ∨ j = 4 ∨ j = 5 by omega) with rfl | rfl | rfl | rfl | rfl | rfl <;> first | exact absurd rfl hij | (simp; assumption) | (simp; exact Ne.symm (by assumption))

set_option maxHeartbeats 1000000 in
theorem leakCode_nil (w : World) : Calls Tryd.prog 30 #[.nilIface] w fun e w' => e = .returned (.int .i64 0) ∧ w = w' := by
  have hn := run_eql_nil_nil_at (P := Tryd.prog) (w := w) 66 (by kernel_rfl)
  go_enter Tryd.func30, Tryd.ntmps30
  go_wp2_with fail
  go_ret
  exact ⟨rfl, rfl⟩
set_option maxHeartbeats 4000000 in
theorem leakCode_any (a : Nat → Addr) (i : Nat) (w : World) (hE : Errs a w) (hi : i < 6) : Calls Tryd.prog 30 #[errV (a i)] w fun e w' => e = .returned (.int .i64 (ecode i)) ∧ w = w' := by
  have k0 := hE.v0
  have k1 := hE.v1
  have k2 := hE.v2
  have k3 := hE.v3
  have k4 := hE.v4
  have k5 := hE.v5
  have S := fun (j : Nat) => is_same (a j) w
  have O := fun (j : Nat) (hj : j < 6) (hij : i ≠ j) => is_other (a i) (a j) w (hE.ne i j hi hj hij) (hE.row i hi) (hE.row j hj)
  have hn : ∀ w, (binOp .eql 66 (errV (a i)) .nilIface).run Tryd.prog w = .ok (.bool false) w := fun w => run_eql_iface_nil (P := Tryd.prog) (w := w) 66 (by kernel_rfl) _ _
  clear hE
  rcases (show i = 0 ∨ i = 1 ∨ i = 2 ∨ i = 3 ∨ i = 4 ∨ i = 5 by omega) with rfl | rfl | rfl | rfl | rfl | rfl
  all_goals
    go_enter Tryd.func30, Tryd.ntmps30
    go_wp2_with (first | (go_at_call 49; (with_reducible refine (S _).mono ?_); rintro e w' ⟨rfl, rfl⟩) | (go_at_call 49; (with_reducible refine (O _ (by omega) (by omega)).mono ?_); rintro e w' ⟨rfl, rfl⟩))
    go_ret
    exact ⟨rfl, rfl⟩
end Go.Proofs.YtoibolmippfcgaaDoor
