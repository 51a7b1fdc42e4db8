/- VisitsFor: both sides. -/
import Derived.Test.YtcdddngdjhjdbaaDoorVis
import Derived.Test.YtcdddngdjhjdbaaDoorCells
namespace Go.Proofs.YtcdddngdjhjdbaaDoor
open Go.RowKit

/-- How many visits are told. -/
noncomputable def Rf.viN (r : Rf) (t : Nat → Int) (y z : Int) : Nat := if r.livC t y z = 0 then visN (r.oldV t) y z else 0
theorem Rf.livC_v {r : Rf} {t : Nat → Int} {y z : Int} (h : ¬ r.Aged t) : r.livC t y z = 1 := by
  unfold Rf.livC; rw [Rf.ageC_v h]; rfl
theorem Rf.livC_r {r : Rf} {t : Nat → Int} {y z : Int} (h : r.Aged t) (hf : (inB y 1 100 && inB z 0 200) = false) : r.livC t y z = 2 := by
  unfold Rf.livC; rw [Rf.ageC_r h hf]; rfl
theorem Rf.livC_t {r : Rf} {t : Nat → Int} {y z : Int} (h : r.Aged t) (hf : (inB y 1 100 && inB z 0 200) = true) (ho : y < r.oldV t) : r.livC t y z = 6 := by
  unfold Rf.livC; rw [Rf.ageC_ok h hf, if_pos rfl, if_pos ho]
theorem Rf.livC_ok {r : Rf} {t : Nat → Int} {y z : Int} (h : r.Aged t) (hf : (inB y 1 100 && inB z 0 200) = true) (ho : ¬ y < r.oldV t) : r.livC t y z = 0 := by
  unfold Rf.livC; rw [Rf.ageC_ok h hf, if_pos rfl, if_neg ho]
theorem Rf.ageC_zeroV {r : Rf} {t : Nat → Int} {b : Bool} (h : r.ageC t b = 0) : r.Aged t ∧ b = true := by
  rcases Classical.em (r.Aged t) with ha | ha
  · cases b with
    | true => exact ⟨ha, rfl⟩
    | false => rw [Rf.ageC_r ha rfl] at h; cases h
  · rw [Rf.ageC_v ha] at h; cases h
theorem inB_and {y z : Int} (hf : (inB y 1 100 && inB z 0 200) = true) : (1 ≤ y ∧ y ≤ 100) ∧ 0 ≤ z ∧ z ≤ 200 := by
  simpa [inB] using hf
theorem Rf.viN_no {r : Rf} {t : Nat → Int} {y z : Int} {k : Int} (h : r.livC t y z = k) (hk : k ≠ 0) : r.viN t y z = 0 := if_neg (by rw [h]; exact hk)

set_option maxRecDepth 100000 in
set_option maxHeartbeats 2000000 in
theorem l07Visits_no (k0 n0 : Nat) (c d : Array Value) (r : Rf) (t : Nat → Int) (y z : Int) (w : World) (hr : rowAt w k0 = some c) (hR : IsRoof c r) (hd : rowAt w n0 = some d) (hA : IsU8 d 64 t) (ha : r.Aged t) (ho : y < r.oldV t) :
    Calls Tryd.prog 43 #[.pointer (some ⟨k0, 0, none⟩), .pointer (some ⟨n0, 0, none⟩), .int .i64 y, .int .i64 z] w fun e w' => e = .returned (.tuple #[.slice (some ⟨w.heap.size, 0, none⟩) 0 0, .bool false]) ∧ Below w.heap.size w w' := by
  have hB0 : Below w.heap.size w (w.alloc (.cells #[] 2)) := (Below.refl _ _).alloc (Nat.le_refl _) _
  have r0 := brow hB0 hr
  have r1 := brow hB0 hd
  have CO := fun W h0 h1 => l07Oldest_ok k0 n0 c d r t W h0 hR h1 hA ha.1
  have hod : decide (y < r.oldV t) = true := by simp [ho]
  generalize r.oldV t = v at *
  generalize (r.oldAt t).1 = a1 at *
  generalize (r.oldAt t).2 = a2 at *
  clear ho
  go_enter Tryd.func43, Tryd.ntmps43
  go_wp2_with fail
  refine (CO _ r0 r1).mono ?_
  rintro e w1 ⟨rfl, b1⟩
  have B1 := bnext hB0 b1 hB0.size
  clear b1 r0 r1 hB0 CO hr hd
  go_wp2_with fail
  go_ret2
  exact ⟨rfl, B1.alloc B1.size _⟩

theorem Rf.viN_le (d : Array Value) (r : Rf) (t : Nat → Int) (y z : Int) (hA : IsU8 d 64 t) : r.viN t y z ≤ 1000000 := by
  unfold Rf.viN
  split
  · rename_i h
    have ha : r.Aged t := by
      rcases Classical.em (r.Aged t) with ha | ha
      · exact ha
      · rw [Rf.livC_v ha] at h; cases h
    have hf : (inB y 1 100 && inB z 0 200) = true := by
      cases hf : (inB y 1 100 && inB z 0 200) with
      | true => rfl
      | false => rw [Rf.livC_r ha hf] at h; cases h
    have ho : ¬ y < r.oldV t := fun ho => by rw [Rf.livC_t ha hf ho] at h; cases h
    obtain ⟨yb, zb⟩ := inB_and hf
    unfold visN
    split
    · rename_i hx
      have hs := Exists.choose_spec hx
      have hb := Rf.oldV_bd ha hA.lo
      rcases Nat.eq_zero_or_pos hx.choose with e | e
      · omega
      · have h1 := hs.1 (hx.choose - 1) (by omega)
        have h2 := visA_ge (v := r.oldV t) (y := y) (by omega) yb.1 (hx.choose - 1)
        omega
    · omega
  · omega
end Go.Proofs.YtcdddngdjhjdbaaDoor
