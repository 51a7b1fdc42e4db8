/- '==' of two roofs. -/
import Derived.Test.YtgdhfcpmeaeioaaDoorTy
import Derived.Test.YtgdhfcpmeaeioaaDoorRoof
import Derived.Test.YtgdhfcpmeaeioaaDoorEq
namespace Go.Proofs.YtgdhfcpmeaeioaaDoor
open Go.RowKit

open Classical in
noncomputable def Rf.rowEq (r q : Rf) (i : Nat) : Bool := decide (∀ j, j < 8 → r.t (i * 8 + j) = q.t (i * 8 + j))
open Classical in
noncomputable def Rf.tilesEq (r q : Rf) : Bool := decide (∀ i, i < 8 → r.rowEq q i = true)
noncomputable def Rf.eqB (r q : Rf) : Bool := if r.w = q.w then if r.h = q.h then if r.s = q.s then r.tilesEq q else false else false else false

theorem run_eq_rows (x y : Array Value) (r q : Rf) (hx : IsU8 x 64 r.t) (hy : IsU8 y 64 q.t) (d : Nat) (w : World) : (Op.equalIn (d + 3) 24 (.agg x) (.agg y)).run Tryd.prog w = .ok (r.tilesEq q) w := by
  have hxs := hx.size
  have hys := hy.size
  rw [run_equalIn_arr Tryd.underlying24 (sz := 8) (by kernel_rfl) (d + 2) x y w (fun i => r.rowEq q i) ?_]
  · congr 1
    unfold Rf.tilesEq
    rw [Bool.eq_iff_iff]; simp
  · intro i hi
    refine ⟨_, _, run_part_agg Tryd.underlying23 rfl (sz := 8) (by kernel_rfl) x (i * 8) w, run_part_agg Tryd.underlying23 rfl (sz := 8) (by kernel_rfl) y (i * 8) w, ?_⟩
    have h1 := hx.extract (i * 8) 8 (by omega)
    have h2 := hy.extract (i * 8) 8 (by omega)
    rw [run_equalIn_ints Tryd.underlying23 Tryd.underlying5 (by kernel_rfl) _ _ (fun j => r.t (i * 8 + j)) (fun j => q.t (i * 8 + j))
      (fun j hj => by rw [Array.getElem?_eq_getElem (by have := h1.size; omega), h1.cell]) (fun j hj => by rw [Array.getElem?_eq_getElem (by have := h2.size; omega), h2.cell]) d w]
    congr 1
    unfold Rf.rowEq
    rw [Bool.eq_iff_iff]; simp

theorem run_eq_roof (c e : Array Value) (r q : Rf) (hc : IsRoof c r) (he : IsRoof e q) (w : World) : (Op.equalIn 10000 26 (.agg c) (.agg e)).run Tryd.prog w = .ok (r.eqB q) w := by
  have hcs := hc.size
  have hes := he.size
  have hf : Tryd.prog.underlying 26 = some (.struct (Tryd.prog.fieldsOf 26)) := by kernel_rfl
  have hs : Tryd.prog.stoodInHeld 26 = false := by kernel_rfl
  have key := run_eq_rows _ _ r q hc.tiles he.tiles 9996 w
  have p0 := run_part_int (P := Tryd.prog) Tryd.underlying22 c 0 (.int .i8 r.w) (by rw [Array.getElem?_eq_getElem (by omega), hc.wide]) w
  have p1 := run_part_int (P := Tryd.prog) Tryd.underlying22 c 1 (.int .i8 r.h) (by rw [Array.getElem?_eq_getElem (by omega), hc.high]) w
  have p2 := run_part_int (P := Tryd.prog) Tryd.underlying5 c 2 (.int .u8 r.s) (by rw [Array.getElem?_eq_getElem (by omega), hc.shift]) w
  have p3 := run_part_agg (P := Tryd.prog) Tryd.underlying24 rfl (sz := 64) (by kernel_rfl) c 3 w
  have q0 := run_part_int (P := Tryd.prog) Tryd.underlying22 e 0 (.int .i8 q.w) (by rw [Array.getElem?_eq_getElem (by omega), he.wide]) w
  have q1 := run_part_int (P := Tryd.prog) Tryd.underlying22 e 1 (.int .i8 q.h) (by rw [Array.getElem?_eq_getElem (by omega), he.high]) w
  have q2 := run_part_int (P := Tryd.prog) Tryd.underlying5 e 2 (.int .u8 q.s) (by rw [Array.getElem?_eq_getElem (by omega), he.shift]) w
  have q3 := run_part_agg (P := Tryd.prog) Tryd.underlying24 rfl (sz := 64) (by kernel_rfl) e 3 w
  have i0 := run_equalIn_int w 9998 22 .i8 .i8 r.w q.w Tryd.underlying22
  have i1 := run_equalIn_int w 9998 22 .i8 .i8 r.h q.h Tryd.underlying22
  have i2 := run_equalIn_int w 9998 5 .u8 .u8 r.s q.s Tryd.underlying5
  rw [run_equalIn_struct w 9999 _ c e hf hs]
  have hfl := TypeDesc.struct.inj (Option.some.inj (hf.symm.trans Tryd.underlying26))
  rw [hfl]
  simp only [Nat.reduceAdd] at p3 q3 key i0 i1 i2
  simp [Op.eqFields, Sem.run_bind, p0, p1, p2, p3, q0, q1, q2, q3, i0, i1, i2]
  rw [key]
  unfold Rf.eqB
  cases r.tilesEq q <;> by_cases h0 : r.w = q.w <;> by_cases h1 : r.h = q.h <;> by_cases h2 : r.s = q.s <;> simp [h0, h1, h2]
end Go.Proofs.YtgdhfcpmeaeioaaDoor
