/- OldestOf: both sides. -/
import Derived.Test.YtcdobpnejbfbpaaDoorFstB
import Derived.Test.YtcdobpnejbfbpaaDoorBox
namespace Go.Proofs.YtcdobpnejbfbpaaDoor
open Go.RowKit

section
variable {P : Program} {ty : TypeId} {d : TypeDesc} {m : Nat}
theorem results_row3O {fn : Func} {p u v : Tmp} (h : fn.results = #[.cell p ty, .tmp u, .tmp v]) (tmps : Array Value) (w : World) (n : Nat) (c : Array Value) (x y : Value) (hp : tmps.getD p undef = .pointer (some ⟨n, 0, none⟩))
    (hx : tmps.getD u undef = x) (hy : tmps.getD v undef = y) (hr : rowAt w n = some c) (hu : P.underlying ty = some d) (hd : (match d with | .struct _ | .array _ _ => true | _ => false) = true) (hi : (P.info? ty).map (·.size) = some m) (hm : c.size = m) :
    (results fn tmps).run P w = .ok (.tuple #[.agg c, x, y]) w := by
  obtain ⟨t, ht⟩ := rowAt_some hr
  subst hm
  have hp' : tmps[p]?.getD undef = .pointer (some ⟨n, 0, none⟩) := by simpa using hp
  have hx' : tmps[u]?.getD undef = x := by simpa using hx
  have hy' : tmps[v]?.getD undef = y := by simpa using hy
  simp [results, h, hp', hx', hy', asAddr, run_loadVar_row w n t ty c _ d ht hu hd hi]
end
theorem three_boxesO (w : World) (c d e : Array Value) (t s u : TypeId) :
    rowAt (((w.alloc (.cells c t)).alloc (.cells d s)).alloc (.cells e u)) w.heap.size = some c ∧ rowAt (((w.alloc (.cells c t)).alloc (.cells d s)).alloc (.cells e u)) (w.heap.size + 1) = some d ∧ rowAt (((w.alloc (.cells c t)).alloc (.cells d s)).alloc (.cells e u)) (w.heap.size + 1 + 1) = some e ∧ Below w.heap.size w (((w.alloc (.cells c t)).alloc (.cells d s)).alloc (.cells e u)) := by
  have h := boxes3 w c d e t s u
  exact ⟨h.rows (w.heap.size, c) (by simp), h.rows (w.heap.size + 1, d) (by simp), h.rows (w.heap.size + 1 + 1, e) (by simp), h.bel⟩
noncomputable def Rf.ooP (r : Rf) (t : Nat → Int) : Nat × Nat := if r.aok t = true then r.oldAt t else (0, 0)
noncomputable def Rf.ooV (r : Rf) (t : Nat → Int) : Int := if r.aok t = true then r.oldV t else 0
noncomputable def Rf.ooC (r : Rf) (t : Nat → Int) : Int := if r.aok t = true then 0 else 1
theorem fineB_zero (h : Nat → Int) : fineB h 0 = true := rfl

set_option maxRecDepth 100000 in
set_option maxHeartbeats 2000000 in
theorem implOldestOf_any (c d : Array Value) (r : Rf) (t : Nat → Int) (w : World) (hR : IsRoof c r) (hA : IsU8 d 64 t) (hT : ErrT w) :
    Calls Tryd.prog 17 #[.agg c, .agg d] w fun e w' => e = .returned (.tuple #[.agg #[.int .i8 ((r.ooP t).1 : Int), .int .i8 ((r.ooP t).2 : Int)], .int .i64 (r.ooV t), .int .i64 (r.ooC t)]) ∧ Below w.heap.size w w' := by
  have q0 : rowAt (((w.alloc (.cells c 30)).alloc (.cells d 27)).alloc (.cells #[.int .i8 0, .int .i8 0] 36)) w.heap.size = some c := (three_boxesO w c d #[.int .i8 0, .int .i8 0] 30 27 36).1
  have q1 : rowAt (((w.alloc (.cells c 30)).alloc (.cells d 27)).alloc (.cells #[.int .i8 0, .int .i8 0] 36)) (w.heap.size + 1) = some d := (three_boxesO w c d #[.int .i8 0, .int .i8 0] 30 27 36).2.1
  have q2 : RowT (((w.alloc (.cells c 30)).alloc (.cells d 27)).alloc (.cells #[.int .i8 0, .int .i8 0] 36)) (w.heap.size + 1 + 1) 36 #[.int .i8 0, .int .i8 0] := by simpa using RowT.new ((w.alloc (.cells c 30)).alloc (.cells d 27)) 36 #[.int .i8 0, .int .i8 0]
  have pB : Below w.heap.size w (((w.alloc (.cells c 30)).alloc (.cells d 27)).alloc (.cells #[.int .i8 0, .int .i8 0] 36)) := (three_boxesO w c d #[.int .i8 0, .int .i8 0] 30 27 36).2.2.2
  have hc := hR.size
  have hd := hA.size
  have hn0 := fun w => run_neq_nil_nil_at (P := Tryd.prog) (w := w) 70 (by kernel_rfl)
  have hnv := fun w => run_neq_iface_nil (P := Tryd.prog) (w := w) 70 (by kernel_rfl) 97 (.agg #[])
  by_cases ha : r.Aged t
  · have hp : r.ooP t = r.oldAt t := if_pos (Rf.aok_t ha)
    have hv : r.ooV t = r.oldV t := if_pos (Rf.aok_t ha)
    have hcd : r.ooC t = 0 := if_pos (Rf.aok_t ha)
    rw [hp, hv, hcd]
    have CK := fun W => checkAges_ok 0 0 c d r t (.slice none 0 0) (fun _ => 0) W hR hA ha (IsList.no3 _ _) (by omega) rfl
    have CO := fun W => oldest_ok c d r t W hR hA ha.1
    clear hp hv hcd
    generalize r.oldV t = v at *
    generalize (r.oldAt t).1 = p1 at *
    generalize (r.oldAt t).2 = p2 at *
    go_enter Tryd.func17, Tryd.ntmps17
    go_wp2_with fail
    refine (CK _).mono ?_
    rintro e w1 ⟨rfl, b1⟩
    have r0 := brow b1 q0
    have r1 := brow b1 q1
    have r2 := q2.below b1
    have B1 := bnext pB b1 pB.size
    clear b1 q0 q1 q2 pB CK
    go_wp2_with fail
    refine (CO _).mono ?_
    rintro e w2 ⟨rfl, b2⟩
    have s2 := r2.below b2
    have B2 := bnext B1 b2 B1.size
    clear b2 r0 r1 r2 B1 CO
    have e0 := cell_of_rowAt s2.row 0
    have e1 := cell_of_rowAt s2.row 1
    have f0 := frozen_of_rowAt s2.row 0
    have f1 := frozen_of_rowAt s2.row 1
    have ln := s2.lt
    simp at e0 e1
    go_wp2_with fail
    have hrow := (((s2.set (o := 0) (.int .i8 (p1 : Int))).set (o := 1) (.int .i8 (p2 : Int))).alloc (.cells #[.int .i8 (p1 : Int), .int .i8 (p2 : Int)] 36)).row
    exact bodyPost_ret (v := .tuple #[.agg #[.int .i8 (p1 : Int), .int .i8 (p2 : Int)], .int .i64 v, .int .i64 0]) (results_row3O (m := 2) rfl _ _ (w.heap.size + 1 + 1) _ _ _ rfl rfl rfl (by simpa using hrow) Tryd.underlying36 rfl (by kernel_rfl) rfl) rfl ⟨rfl, ((B2.setCell (p := ⟨w.heap.size + 1 + 1, 0, none⟩) (by simp <;> omega) _).setCell (p := ⟨w.heap.size + 1 + 1, 1, none⟩) (by simp <;> omega) _).alloc (by have := B2.size; simp <;> omega) _⟩
  · have hp : r.ooP t = (0, 0) := if_neg (by rw [Rf.aok_f ha]; decide)
    have hv : r.ooV t = 0 := if_neg (by rw [Rf.aok_f ha]; decide)
    have hcd : r.ooC t = 1 := if_neg (by rw [Rf.aok_f ha]; decide)
    rw [hp, hv, hcd]
    have CK := fun W => checkAges_v c d r t (.slice none 0 0) W hR hA ha
    clear hp hv hcd
    go_enter Tryd.func17, Tryd.ntmps17
    go_wp2_with fail
    refine (CK _).mono ?_
    rintro e w1 ⟨rfl, b1⟩
    have r2 := q2.below b1
    have B1 := bnext pB b1 pB.size
    have T1 := hT.below B1
    clear b1 q0 q1 q2 pB CK
    go_wp2_with fail
    refine (yearCode_V _ T1).mono ?_
    rintro e w2 ⟨rfl, b2⟩
    have s2 := r2.below b2
    have B2 := bnext B1 b2 B1.size
    clear b2 r2 B1 T1
    have e0 := cell_of_rowAt s2.row 0
    have e1 := cell_of_rowAt s2.row 1
    have f0 := frozen_of_rowAt s2.row 0
    have f1 := frozen_of_rowAt s2.row 1
    simp at e0 e1
    go_wp2_with fail
    have hrow := ((s2.set (o := 0) (.int .i8 (0 : Int))).set (o := 1) (.int .i8 (0 : Int))).row
    exact bodyPost_ret (v := .tuple #[.agg #[.int .i8 (0 : Int), .int .i8 (0 : Int)], .int .i64 0, .int .i64 1]) (results_row3O (m := 2) rfl _ _ (w.heap.size + 1 + 1) _ _ _ rfl rfl rfl (by simpa using hrow) Tryd.underlying36 rfl (by kernel_rfl) rfl) rfl ⟨rfl, (B2.setCell (p := ⟨w.heap.size + 1 + 1, 0, none⟩) (by simp <;> omega) _).setCell (p := ⟨w.heap.size + 1 + 1, 1, none⟩) (by simp <;> omega) _⟩

set_option maxRecDepth 100000 in
set_option maxHeartbeats 2000000 in
theorem specOldestOf_any (c d : Array Value) (r : Rf) (t : Nat → Int) (w : World) (hR : IsRoof c r) (hA : IsU8 d 64 t) :
    Calls Tryd.prog 16 #[.agg c, .agg d] w fun e w' => e = .returned (.tuple #[.agg #[.int .i8 ((r.ooP t).1 : Int), .int .i8 ((r.ooP t).2 : Int)], .int .i64 (r.ooV t), .int .i64 (r.ooC t)]) ∧ Below w.heap.size w w' := by
  have q0 : rowAt (((w.alloc (.cells c 30)).alloc (.cells d 27)).alloc (.cells #[.int .i8 0, .int .i8 0] 36)) w.heap.size = some c := (three_boxesO w c d #[.int .i8 0, .int .i8 0] 30 27 36).1
  have q1 : rowAt (((w.alloc (.cells c 30)).alloc (.cells d 27)).alloc (.cells #[.int .i8 0, .int .i8 0] 36)) (w.heap.size + 1) = some d := (three_boxesO w c d #[.int .i8 0, .int .i8 0] 30 27 36).2.1
  have q2 : RowT (((w.alloc (.cells c 30)).alloc (.cells d 27)).alloc (.cells #[.int .i8 0, .int .i8 0] 36)) (w.heap.size + 1 + 1) 36 #[.int .i8 0, .int .i8 0] := by simpa using RowT.new ((w.alloc (.cells c 30)).alloc (.cells d 27)) 36 #[.int .i8 0, .int .i8 0]
  have pB : Below w.heap.size w (((w.alloc (.cells c 30)).alloc (.cells d 27)).alloc (.cells #[.int .i8 0, .int .i8 0] 36)) := (three_boxesO w c d #[.int .i8 0, .int .i8 0] 30 27 36).2.2.2
  by_cases ha : r.Aged t
  · have hp : r.ooP t = r.oldAt t := if_pos (Rf.aok_t ha)
    have hv : r.ooV t = r.oldV t := if_pos (Rf.aok_t ha)
    have hcd : r.ooC t = 0 := if_pos (Rf.aok_t ha)
    rw [hp, hv, hcd]
    have CK := fun W h0 h1 => l07Ages_t w.heap.size (w.heap.size + 1) c d r t W h0 hR h1 hA ha
    have CO := fun W h0 h1 => l07Oldest_ok w.heap.size (w.heap.size + 1) c d r t W h0 hR h1 hA ha.1
    clear hp hv hcd
    generalize r.oldV t = v at *
    generalize (r.oldAt t).1 = p1 at *
    generalize (r.oldAt t).2 = p2 at *
    go_enter Tryd.func16, Tryd.ntmps16
    go_wp2_with fail
    refine (CK _ q0 q1).mono ?_
    rintro e w1 ⟨rfl, b1⟩
    have r0 := brow b1 q0
    have r1 := brow b1 q1
    have r2 := q2.below b1
    have B1 := bnext pB b1 pB.size
    clear b1 q0 q1 q2 pB CK
    go_wp2_with fail
    refine (CO _ r0 r1).mono ?_
    rintro e w2 ⟨rfl, b2⟩
    have s2 := r2.below b2
    have B2 := bnext B1 b2 B1.size
    clear b2 r0 r1 r2 B1 CO
    have e0 := cell_of_rowAt s2.row 0
    have e1 := cell_of_rowAt s2.row 1
    have f0 := frozen_of_rowAt s2.row 0
    have f1 := frozen_of_rowAt s2.row 1
    have ln := s2.lt
    simp at e0 e1
    go_wp2_with fail
    have hrow := (((s2.set (o := 0) (.int .i8 (p1 : Int))).set (o := 1) (.int .i8 (p2 : Int))).alloc (.cells #[.int .i8 (p1 : Int), .int .i8 (p2 : Int)] 36)).row
    exact bodyPost_ret (v := .tuple #[.agg #[.int .i8 (p1 : Int), .int .i8 (p2 : Int)], .int .i64 v, .int .i64 0]) (results_row3O (m := 2) rfl _ _ (w.heap.size + 1 + 1) _ _ _ rfl rfl rfl (by simpa using hrow) Tryd.underlying36 rfl (by kernel_rfl) rfl) rfl ⟨rfl, ((B2.setCell (p := ⟨w.heap.size + 1 + 1, 0, none⟩) (by simp <;> omega) _).setCell (p := ⟨w.heap.size + 1 + 1, 1, none⟩) (by simp <;> omega) _).alloc (by have := B2.size; simp <;> omega) _⟩
  · have hp : r.ooP t = (0, 0) := if_neg (by rw [Rf.aok_f ha]; decide)
    have hv : r.ooV t = 0 := if_neg (by rw [Rf.aok_f ha]; decide)
    have hcd : r.ooC t = 1 := if_neg (by rw [Rf.aok_f ha]; decide)
    rw [hp, hv, hcd]
    have CK := fun W h0 h1 => l07Ages_f w.heap.size (w.heap.size + 1) c d r t W h0 hR h1 hA ha
    clear hp hv hcd
    go_enter Tryd.func16, Tryd.ntmps16
    go_wp2_with fail
    refine (CK _ q0 q1).mono ?_
    rintro e w2 ⟨rfl, b2⟩
    have s2 := q2.below b2
    have B2 := bnext pB b2 pB.size
    clear b2 q0 q1 q2 pB CK
    have e0 := cell_of_rowAt s2.row 0
    have e1 := cell_of_rowAt s2.row 1
    have f0 := frozen_of_rowAt s2.row 0
    have f1 := frozen_of_rowAt s2.row 1
    simp at e0 e1
    go_wp2_with fail
    have hrow := ((s2.set (o := 0) (.int .i8 (0 : Int))).set (o := 1) (.int .i8 (0 : Int))).row
    exact bodyPost_ret (v := .tuple #[.agg #[.int .i8 (0 : Int), .int .i8 (0 : Int)], .int .i64 0, .int .i64 1]) (results_row3O (m := 2) rfl _ _ (w.heap.size + 1 + 1) _ _ _ rfl rfl rfl (by simpa using hrow) Tryd.underlying36 rfl (by kernel_rfl) rfl) rfl ⟨rfl, (B2.setCell (p := ⟨w.heap.size + 1 + 1, 0, none⟩) (by simp <;> omega) _).setCell (p := ⟨w.heap.size + 1 + 1, 1, none⟩) (by simp <;> omega) _⟩
end Go.Proofs.YtcdobpnejbfbpaaDoor
