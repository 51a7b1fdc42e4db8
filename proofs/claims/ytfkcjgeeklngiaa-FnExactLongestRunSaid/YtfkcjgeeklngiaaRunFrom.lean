/- r.runFrom(at, kind): how many tiles of a kind stand in a row. -/
import Derived.Test.YtfkcjgeeklngiaaAll
namespace Go.Proofs.Ytfkcjgeeklngiaa
open Go.RowKit

/-- From j on, at most n steps, as long as f says. -/
def runN (f : Nat → Bool) : Nat → Nat → Nat
  | 0, _ => 0
  | n + 1, j => if f j = true then runN f n (j + 1) + 1 else 0
theorem runN_le (f : Nat → Bool) : ∀ (n j : Nat), runN f n j ≤ n
  | 0, _ => Nat.le_refl _
  | n + 1, j => by
    have := runN_le f n (j + 1)
    unfold runN
    split <;> omega
theorem runN_of {f : Nat → Bool} : ∀ {m n j : Nat}, m ≤ n → (∀ t, t < m → f (j + t) = true) → (m < n → f (j + m) = false) → runN f n j = m
  | 0, 0, _, _, _, _ => rfl
  | 0, n + 1, j, _, _, h => by
    have := h (by omega)
    unfold runN
    rw [Nat.add_zero] at this
    rw [this]; simp
  | m + 1, 0, _, h, _, _ => by omega
  | m + 1, n + 1, j, h, h1, h2 => by
    have h0 := h1 0 (by omega)
    rw [Nat.add_zero] at h0
    have ih := runN_of (f := f) (m := m) (n := n) (j := j + 1) (by omega) (fun t ht => by have := h1 (t + 1) (by omega); rwa [show j + 1 + t = j + (t + 1) from by omega]) (fun hm => by have := h2 (by omega); rwa [show j + 1 + m = j + (m + 1) from by omega])
    unfold runN
    rw [h0, if_pos rfl, ih]
def Rf.run (r : Rf) (k : Int) (i j ww : Nat) : Nat := runN (fun b => r.t (i * 8 + b) == k) (ww - j) j
theorem Rf.run_le (r : Rf) (k : Int) (i j ww : Nat) : r.run k i j ww ≤ ww - j := runN_le _ _ _
theorem Rf.run_of {r : Rf} {k : Int} {i j ww m : Nat} (h : j + m ≤ ww) (h1 : ∀ t, t < m → (r.t (i * 8 + (j + t)) == k) = true) (h2 : j + m < ww → (r.t (i * 8 + (j + m)) == k) = false) : r.run k i j ww = m :=
  runN_of (by omega) h1 (fun x => h2 (by omega))

set_option maxRecDepth 100000 in
set_option maxHeartbeats 2000000 in
theorem runFrom_any (c : Array Value) (r : Rf) (k : Int) (i j hh ww : Nat) (hhe : r.h = hh) (hwe : r.w = ww) (h8 : hh ≤ 8) (w8 : ww ≤ 8) (hi : i < hh) (hj : j ≤ ww) (w : World) (hR : IsRoof c r) :
    Calls Try.prog 80 #[.agg c, .agg #[.int .i8 i, .int .i8 j], .int .i64 k] w fun e w' => e = .returned (.int .i64 (r.run k i j ww)) ∧ Below w.heap.size w w' := by
  have hc := hR.size
  have CT := fun p W (hp : p < ww) => has_t c r i p W hR (by omega)
  have CF := fun W => has_f c r i ww W hR (by omega)
  have CK := fun p W (hp : p < 8) => kind_any c r i p W hR (by omega) hp
  have HT := Lib.hid CT
  have HFF := Lib.hid CF
  have HK := Lib.hid CK
  clear CT CF CK hhe hwe hR
  obtain ⟨p0, p1, pB⟩ : rowAt ((w.alloc (.cells c 33)).alloc (.cells #[.int .i8 i, .int .i8 j] 37)) w.heap.size = some c ∧ rowAt ((w.alloc (.cells c 33)).alloc (.cells #[.int .i8 i, .int .i8 j] 37)) (w.heap.size + 1) = some #[.int .i8 i, .int .i8 j] ∧ Below w.heap.size w ((w.alloc (.cells c 33)).alloc (.cells #[.int .i8 i, .int .i8 j] 37)) :=
    ⟨(rowAt_alloc_past _ _ _ (by simp)).trans (rowAt_alloc_at _ _ _ _ rfl), rowAt_alloc_at _ _ _ _ (by simp), ((Below.refl _ _).alloc (Nat.le_refl _) _).alloc (by simp) _⟩
  go_enter Try.func80, Try.ntmps80
  go_wp2_with fail
  go_loopw [7] (fun v W => ∃ m p : Nat, p ≤ ww ∧ Hid (p = j + m) ∧ v = .int .i64 m ∧ rowAt W w.heap.size = some c ∧ rowAt W (w.heap.size + 1) = some #[.int .i8 i, .int .i8 p] ∧ Hid (∀ t, t < m → (r.t (i * 8 + (j + t)) == k) = true) ∧ Below w.heap.size w W) (fun v _ => ww - j - (intOf v).toNat)
  case atStart => exact ⟨0, j, hj, Lib.hid rfl, rfl, p0, p1, Lib.hid (by omega), pB⟩
  case round =>
    clear p0 p1 pB
    obtain ⟨m, p, hp, hpm, rfl, r0, r1, hall, rB⟩ := hrel
    have hmm : m ≤ 8 := by have := hpm.out; omega
    have c0 := cell_of_rowAt r1 0
    have c1 := cell_of_rowAt r1 1
    simp at c0 c1
    have lt0 := rowAt_lt r0
    have lt1 := rowAt_lt r1
    by_cases hlt : p < ww
    · have p8 : p < 8 := by omega
      go_wp2_with fail
      refine (HT.out p _ hlt).mono ?_
      rintro e w1 ⟨rfl, b1⟩
      have q0 := brow b1 r0
      have q1 := brow b1 r1
      have B1 := bnext rB b1 rB.size
      have d0 := cell_of_rowAt q1 0
      have d1 := cell_of_rowAt q1 1
      simp at d0 d1
      clear b1 r0 r1 rB c0 c1
      go_wp2_with fail
      refine (HK.out p _ p8).mono ?_
      rintro e w2 ⟨rfl, b2⟩
      have r0 := brow b2 q0
      have r1 := brow b2 q1
      have rB := bnext B1 b2 B1.size
      have c0 := cell_of_rowAt r1 0
      have c1 := cell_of_rowAt r1 1
      have gfro := frozen_of_rowAt r1
      simp at c0 c1
      clear b2 q0 q1 B1 d0 d1
      have e1 : IntKind.i8.wrap ((p : Int) + 1) = (p : Int) + 1 := IntWalk.i8_in _ (by omega)
      by_cases hx : (r.t (i * 8 + p) == k) = true
      · have HX := Lib.hid hx
        go_wp2_with fail
        have s1 := rowAt_setCell_at w2 (w.heap.size + 1) 1 (.int .i8 ((p : Int) + 1)) (by rw [r1]; rfl)
        rw [r1, Option.getD_some] at s1
        refine ⟨⟨m + 1, p + 1, by omega, Lib.hid (by have := hpm.out; omega), by go_num, (rowAt_setCell_ne _ _ _ _ _ (by omega)).trans r0, s1, Lib.hid (fun t ht => ?_), rB.setCell (p := ⟨w.heap.size + 1, 1, none⟩) (Nat.le_succ _) _⟩, by have := hpm.out; simp [intOf]; omega⟩
        by_cases e : t = m
        · subst e; rw [← hpm.out]; exact HX.out
        · exact hall.out t (by omega)
      · replace hx : (r.t (i * 8 + p) == k) = false := by simpa using hx
        have HX := Lib.hid hx
        have hr : r.run k i j ww = m := Rf.run_of (by rw [← hpm.out]; exact hp) hall.out (fun _ => by rw [← hpm.out]; exact HX.out)
        have HRr := Lib.hid hr
        clear hr
        go_wp2_with fail
        go_ret
        rw [HRr.out]
        exact ⟨rfl, rB⟩
    · obtain rfl : p = ww := by omega
      have hr : r.run k i j p = m := Rf.run_of (by rw [← hpm.out]; exact hp) hall.out (fun h => by rw [← hpm.out] at h; omega)
      have HRr := Lib.hid hr
      clear hr
      go_wp2_with fail
      refine (HFF.out _).mono ?_
      rintro e w1 ⟨rfl, b1⟩
      have B1 := bnext rB b1 rB.size
      clear b1 r0 r1 rB c0 c1
      go_wp2_with fail
      go_ret
      rw [HRr.out]
      exact ⟨rfl, B1⟩
end Go.Proofs.Ytfkcjgeeklngiaa
