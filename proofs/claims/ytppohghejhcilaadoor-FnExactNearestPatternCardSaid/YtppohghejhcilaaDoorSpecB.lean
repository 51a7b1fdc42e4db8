/- Contracts of the model's small functions over roofs: codes, kinds, cells. -/
import Derived.Test.YtppohghejhcilaaDoorSpecA
namespace Go.Proofs.YtppohghejhcilaaDoor
open Go.RowKit

/-- The code of a roof and a place. -/
noncomputable def Rf.ask (r : Rf) (a b : Int) (fine : Bool) : Int := if r.ok = true then (if r.isB a b = true ∧ fine = true then 0 else 2) else 1
theorem Rf.ask_no {r : Rf} {a b : Int} {fine : Bool} (h : ¬ r.Ok) : r.ask a b fine = 1 := by simp [Rf.ask, Rf.ok_false h]
theorem Rf.ask_out {r : Rf} {a b : Int} {fine : Bool} (h : r.Ok) (hp : ¬ (r.isB a b = true ∧ fine = true)) : r.ask a b fine = 2 := by
  rw [Rf.ask, if_pos (Rf.ok_true h), if_neg hp]
theorem Rf.ask_in {r : Rf} {a b : Int} {fine : Bool} (h : r.Ok) (hp : r.isB a b = true) (hf : fine = true) : r.ask a b fine = 0 := by
  rw [Rf.ask, if_pos (Rf.ok_true h), if_pos ⟨hp, hf⟩]
theorem Rf.isB_iff {r : Rf} {a b : Int} : r.isB a b = true ↔ 0 ≤ a ∧ a < r.h ∧ 0 ≤ b ∧ b < r.w := by simp [Rf.isB]
theorem Rf.ask_zero {r : Rf} {a b : Int} {fine : Bool} (h : r.ask a b fine = 0) : r.Ok ∧ (0 ≤ a ∧ a < r.h ∧ 0 ≤ b ∧ b < r.w) ∧ fine = true := by
  unfold Rf.ask at h
  split at h
  · rename_i ho
    split at h
    · rename_i hp
      exact ⟨Rf.Ok_of ho, Rf.isB_iff.1 hp.1, hp.2⟩
    · simp at h
  · simp at h

theorem l01Ok_t (n : Nat) (c : Array Value) (r : Rf) (w : World) (hr : rowAt w n = some c) (hR : IsRoof c r) (h : r.Ok) :
    Calls Tryd.prog 83 #[.pointer (some ⟨n, 0, none⟩)] w fun e w' => e = .returned (.bool true) ∧ Below w.heap.size w w' := by
  have := l01Ok_any n c r w hr hR; rwa [Rf.ok_true h] at this
theorem l01Ok_f (n : Nat) (c : Array Value) (r : Rf) (w : World) (hr : rowAt w n = some c) (hR : IsRoof c r) (h : ¬ r.Ok) :
    Calls Tryd.prog 83 #[.pointer (some ⟨n, 0, none⟩)] w fun e w' => e = .returned (.bool false) ∧ Below w.heap.size w w' := by
  have := l01Ok_any n c r w hr hR; rwa [Rf.ok_false h] at this

theorem tile_cell {w : World} {n : Nat} {c : Array Value} {r : Rf} (hr : rowAt w n = some c) (hR : IsRoof c r) (i j : Nat) (hi : i < 8) (hj : j < 8) :
    w.cell? ⟨n, 3 + i * 8 + j, none⟩ = some (.int .u8 (r.t (i * 8 + j))) ∧ 0 ≤ r.t (i * 8 + j) ∧ r.t (i * 8 + j) ≤ 255 := by
  have hc := hR.size
  have h := hR.tile (3 + i * 8 + j) (by omega) (by omega)
  rw [show 3 + i * 8 + j - 3 = i * 8 + j from by omega] at h
  exact ⟨by rw [cell_of_rowAt hr, Array.getElem?_eq_getElem (by omega), h], hR.tiles.lo _ (by omega), hR.tiles.hi _ (by omega)⟩

end Go.Proofs.YtppohghejhcilaaDoor
