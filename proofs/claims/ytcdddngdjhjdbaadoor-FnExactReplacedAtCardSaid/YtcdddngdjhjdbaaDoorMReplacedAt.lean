import Derived.Test.YtcdddngdjhjdbaaDoorCourse
import Derived.Test.YtcdddngdjhjdbaaDoorEnd
import Derived.Test.YtcdddngdjhjdbaaDoorRset
import Derived.Deep.RegionHeld3
import Derived.StillTailTactics
import Derived.Test.YtcdddngdjhjdbaaDoorAll
import Derived.Test.YtcdddngdjhjdbaaDoorTooO
import Derived.Test.YtcdddngdjhjdbaaDoorFstB
import Derived.Test.YtcdddngdjhjdbaaDoorAgeM
import Derived.Test.YtcdddngdjhjdbaaDoorLatM
import Derived.Test.YtcdddngdjhjdbaaDoorAgeW
import Derived.Test.YtcdddngdjhjdbaaDoorStill
import Derived.Test.YtcdddngdjhjdbaaDoorGive
import Derived.Test.YtcdddngdjhjdbaaDoorList
import Derived.Laws.AppendOwn
import Derived.Below
import Derived.Deep.RegionLawGrows
import Derived.Test.YtcdddngdjhjdbaaDoorLs
import Derived.Maps.AppendAt
import Derived.OwnWalk
import Derived.Test.YtcdddngdjhjdbaaDoorRepM
import Derived.Test.YtcdddngdjhjdbaaDoorOldS
import Derived.Test.YtcdddngdjhjdbaaDoorCards
import Derived.Test.YtcdddngdjhjdbaaDoorTie
import Derived.Test.YtcdddngdjhjdbaaDoorLaidN
import Derived.Test.YtcdddngdjhjdbaaDoorLaidA
import Derived.Test.YtcdddngdjhjdbaaDoorAge
import Derived.Test.YtcdddngdjhjdbaaDoorRainV
import Derived.Test.YtcdddngdjhjdbaaDoorRHeld

/- Contracts on replacing a tile. -/
namespace Go.Proofs.YtcdddngdjhjdbaaDoor
open Go.RowKit

theorem l01Kind_q (k : Int) (w : World) :
    Calls Tryd.prog 93 #[.int .i64 k] w fun e w' => e = .returned (.bool (inB k 0 3)) ∧ w = w' := l01Kind_any k w

theorem ask_split {r : Rf} {a b : Int} {fine : Bool} : r.ask a b fine = if r.ask a b true = 0 then r.told fine else r.ask a b true := by
  unfold Rf.ask Rf.told
  by_cases h : r.ok = true
  · by_cases h2 : r.isB a b = true
    · simp [h, h2]
    · simp [h, h2]
  · simp [h]

end Go.Proofs.YtcdddngdjhjdbaaDoor

/- SetTile: both sides by one answer. -/
namespace Go.Proofs.YtcdddngdjhjdbaaDoor
open Go.RowKit

noncomputable def stA (c : Array Value) (r : Rf) (a b k : Int) : Array Value := if r.ask a b (inB k 0 3) = 0 then c.setIfInBounds (3 + (a.toNat * 8 + b.toNat)) (.int .u8 k) else Tryd.zeroCells30
noncomputable def stR (r : Rf) (a b k : Int) : Rf := if r.ask a b (inB k 0 3) = 0 then r.set (a.toNat * 8 + b.toNat) k else ⟨0, 0, 0, fun _ => 0⟩
theorem inB_of {n lo hi : Int} (h : inB n lo hi = true) : lo ≤ n ∧ n ≤ hi := by simpa [inB] using h
theorem stA_is {c : Array Value} {r : Rf} (hR : IsRoof c r) (a b k : Int) : IsRoof (stA c r a b k) (stR r a b k) := by
  unfold stA stR
  split
  · rename_i h
    obtain ⟨ho, hp, hf⟩ := Rf.ask_zero h
    have := inB_of hf
    have h8 := ho.2.2.2.1
    have w8 := ho.2.1
    exact hR.set _ (by omega) k (by omega)
  · exact zroof_is

end Go.Proofs.YtcdddngdjhjdbaaDoor

/- TilesOf, CountKind: both sides. -/
namespace Go.Proofs.YtcdddngdjhjdbaaDoor
open Go.RowKit

/-- All places of a roof. -/
def Rf.all (r : Rf) : List (Pl r.h.toNat r.w.toNat) := plUpto r.h.toNat r.w.toNat (r.h.toNat * r.w.toNat)
noncomputable def Rf.tkL (r : Rf) (k : Int) : List (Pl r.h.toNat r.w.toNat) := if r.told (inB k 0 3) = 0 then r.ofKind k r.all else []
theorem Rf.all_le {r : Rf} (ho : r.Ok) : r.all.length ≤ 64 := by
  have := plUpto_len r.h.toNat r.w.toNat (r.h.toNat * r.w.toNat)
  have h2 : r.h.toNat * r.w.toNat ≤ 8 * 8 := Nat.mul_le_mul (by have := ho.2.2.2.1; omega) (by have := ho.2.1; omega)
  unfold Rf.all
  omega
theorem Rf.tkL_le (r : Rf) (k : Int) : (r.tkL k).length ≤ 64 := by
  unfold Rf.tkL
  split
  · rename_i h
    exact Nat.le_trans (r.ofKind_len _) (Rf.all_le (Rf.told_zero h).1)
  · simp
def GivesPs (w : World) {h ww : Nat} (l : List (Pl h ww)) (code : Int) (e : Ending) (w' : World) : Prop :=
  ∃ v, e = .returned (.tuple #[v, .int .i64 code]) ∧ IsList w' w.heap.size v 2 l.length (fun i => .int .i8 (plAt l i)) ∧ Below w.heap.size w w'

end Go.Proofs.YtcdddngdjhjdbaaDoor

/- TooOld: both sides. -/
namespace Go.Proofs.YtcdddngdjhjdbaaDoor
open Go.RowKit

/-- The places of all tiles of a roof of more than y years. -/
def Rf.oldL (r : Rf) (t : Nat → Int) (y : Int) : List (Pl r.h.toNat r.w.toNat) := fltW (oldB t y) (plUpto r.h.toNat r.w.toNat (r.h.toNat * r.w.toNat))
theorem Rf.oldL_le {r : Rf} {t : Nat → Int} {y : Int} (ho : r.Ok) : (r.oldL t y).length ≤ 64 := by
  have h1 := fltW_len (p := oldB t y) (plUpto r.h.toNat r.w.toNat (r.h.toNat * r.w.toNat))
  have h2 := plUpto_len r.h.toNat r.w.toNat (r.h.toNat * r.w.toNat)
  have h3 : r.h.toNat * r.w.toNat ≤ 8 * 8 := Nat.mul_le_mul (by have := ho.2.2.2.1; omega) (by have := ho.2.1; omega)
  unfold Rf.oldL
  omega
noncomputable def Rf.toL (r : Rf) (t : Nat → Int) (y : Int) : List (Pl r.h.toNat r.w.toNat) := if r.ageC t (inB y 1 100) = 0 then r.oldL t y else []
theorem Rf.ageC_zero {r : Rf} {t : Nat → Int} {b : Bool} (h : r.ageC t b = 0) : r.Aged t ∧ b = true := by
  rcases Classical.em (r.Aged t) with ha | ha
  · cases b with
    | true => exact ⟨ha, rfl⟩
    | false => rw [Rf.ageC_r ha rfl] at h; cases h
  · rw [Rf.ageC_v ha] at h; cases h
theorem Rf.toL_le (r : Rf) (t : Nat → Int) (y : Int) : (r.toL t y).length ≤ 64 := by
  unfold Rf.toL
  split
  · rename_i h; exact Rf.oldL_le (Rf.ageC_zero h).1.1
  · simp
theorem older_ok (c d : Array Value) (r : Rf) (t : Nat → Int) (y : Int) (w : World) (hR : IsRoof c r) (hA : IsU8 d 64 t) (ho : r.Ok) :
    Calls Tryd.prog 86 #[.agg c, .int .i64 y, .func (.func 58) #[.agg d] #[]] w (GivesW w (r.oldL t y)) :=
  olderThan_any 58 #[.agg d] #[] t (enters_of Tryd.func58 (by kernel_rfl) rfl) c r y r.h.toNat r.w.toNat (by have := ho.2.2.1; omega) (by have := ho.1; omega) (by have := ho.2.2.2.1; omega) (by have := ho.2.1; omega) w hR (fun W => ageOf_num d t W hA)
end Go.Proofs.YtcdddngdjhjdbaaDoor

/- BreakRoof: both sides. -/
namespace Go.Proofs.YtcdddngdjhjdbaaDoor
open Go.RowKit

theorem plAt_get2 {H V : Nat} {l : List (Pl H V)} {k : Nat} (hk : k < l.length) : plAt l (k * 2) = ((l[k]).1.1 : Int) ∧ plAt l (k * 2 + 1) = ((l[k]).1.2 : Int) := by
  unfold plAt
  rw [show k * 2 / 2 = k by omega, show (k * 2 + 1) / 2 = k by omega, List.getElem?_eq_getElem hk]
  simp
theorem inB_and2 {x a b y c d : Int} (h : (inB x a b && inB y c d) = true) : inB x a b = true ∧ (c ≤ y ∧ y ≤ d) ∧ (a ≤ x ∧ x ≤ b) ∧ inB y c d = true := by
  simp [inB] at h ⊢; omega
/-- A roof's cells with the tiles of some places missing. -/
def brkA (c : Array Value) {h w : Nat} (l : List (Pl h w)) : Array Value := l.foldl (fun a x => a.setIfInBounds (3 + x.1.1 * 8 + x.1.2) (.int .u8 3)) c
theorem brkA_next {c : Array Value} {h w : Nat} {l : List (Pl h w)} {k : Nat} (hk : k < l.length) : brkA c (l.take (k + 1)) = (brkA c (l.take k)).setIfInBounds (3 + (l[k]).1.1 * 8 + (l[k]).1.2) (.int .u8 3) := by
  unfold brkA; rw [show l.take (k + 1) = l.take k ++ [l[k]] by first | exact (List.take_append_getElem hk).symm | simp [List.take_succ, List.getElem?_eq_getElem hk], List.foldl_append]; rfl
theorem brkA_is {h w : Nat} (h8 : h ≤ 8) (w8 : w ≤ 8) : ∀ (l : List (Pl h w)) {X : Array Value} {q : Rf}, IsRoof X q → ∃ q', IsRoof (brkA X l) q'
  | [], _, q, hX => ⟨q, hX⟩
  | x :: l, X, q, hX => by
    have h1 := x.2.1
    have h2 := x.2.2
    have := hX.set (x.1.1 * 8 + x.1.2) (by omega) 3 (by omega)
    rw [← Nat.add_assoc] at this
    exact brkA_is h8 w8 l this
noncomputable def Rf.brkC (r : Rf) (t : Nat → Int) (y z : Int) : Int := r.ageC t (inB y 1 100 && inB z 0 200)
noncomputable def Rf.brkX (r : Rf) (c : Array Value) (t : Nat → Int) (y z : Int) : Array Value := if r.brkC t y z = 0 then brkA c (r.oldL t (y - z)) else Tryd.zeroCells30
theorem Rf.brkX_is {c X : Array Value} {r : Rf} {t : Nat → Int} {y z : Int} (hR : IsRoof c r) (hX : r.brkX c t y z = X) : ∃ q, IsRoof X q := by
  rw [← hX]
  unfold Rf.brkX
  split
  · rename_i h
    have ho := (Rf.ageC_zero h).1.1
    exact brkA_is (by have := ho.2.2.2.1; omega) (by have := ho.2.1; omega) _ hR
  · exact ⟨_, zroof_is⟩

end Go.Proofs.YtcdddngdjhjdbaaDoor

/- renewed: ages with the tiles of a list new. -/
namespace Go.Proofs.YtcdddngdjhjdbaaDoor
open Go.RowKit

theorem setL_take {v f : Nat → Int} {h w : Nat} {l : List (Pl h w)} {k : Nat} (hk : k < l.length) : setL v f (l.take (k + 1)) = upd (setL v f (l.take k)) ((l[k]).1.1 * 8 + (l[k]).1.2) (v ((l[k]).1.1 * 8 + (l[k]).1.2)) := by
  rw [show l.take (k + 1) = l.take k ++ [l[k]] by first | exact (List.take_append_getElem hk).symm | simp [List.take_succ, List.getElem?_eq_getElem hk], setL_snoc]; rfl

set_option maxRecDepth 100000 in
set_option maxHeartbeats 4000000 in
theorem renewed_any (b : Nat) (d : Array Value) (t : Nat → Int) (v : Value) {hh ww : Nat} (L : List (Pl hh ww)) (h8 : hh ≤ 8) (w8 : ww ≤ 8) (w : World) (hA : IsU8 d 64 t) (la : IsList w b v 2 L.length (fun i => .int .i8 (plAt L i))) (hL64 : L.length ≤ 64) :
    Calls Tryd.prog 87 #[.agg d, v] w fun e w' => e = .returned (.agg (mkU (setL (fun _ => 0) t L))) ∧ Below w.heap.size w w' := by
  have hd := hA.size
  obtain ⟨av, cv, rfl⟩ := la.shape
  have LA := Lib.hid la
  have HDU := Lib.hid hA.eqU
  obtain ⟨X, hX⟩ : ∃ X, mkU (setL (fun _ => 0) t L) = X := ⟨_, rfl⟩
  have hXs : X.size = 64 := by rw [← hX]; exact size_mkU _
  have hXo : Ones X := by rw [← hX]; exact (isK_mkI _ _ _).ones
  have HX := Lib.hid hX
  rw [hX]
  have hz : (#[.int .u8 0, .int .u8 0, .int .u8 0, .int .u8 0, .int .u8 0, .int .u8 0, .int .u8 0, .int .u8 0, .int .u8 0, .int .u8 0, .int .u8 0, .int .u8 0, .int .u8 0, .int .u8 0, .int .u8 0, .int .u8 0, .int .u8 0, .int .u8 0, .int .u8 0, .int .u8 0, .int .u8 0, .int .u8 0, .int .u8 0, .int .u8 0, .int .u8 0, .int .u8 0, .int .u8 0, .int .u8 0, .int .u8 0, .int .u8 0, .int .u8 0, .int .u8 0, .int .u8 0, .int .u8 0, .int .u8 0, .int .u8 0, .int .u8 0, .int .u8 0, .int .u8 0, .int .u8 0, .int .u8 0, .int .u8 0, .int .u8 0, .int .u8 0, .int .u8 0, .int .u8 0, .int .u8 0, .int .u8 0, .int .u8 0, .int .u8 0, .int .u8 0, .int .u8 0, .int .u8 0, .int .u8 0, .int .u8 0, .int .u8 0, .int .u8 0, .int .u8 0, .int .u8 0, .int .u8 0, .int .u8 0, .int .u8 0, .int .u8 0, .int .u8 0] : Array Value) = mkU (fun _ => 0) := by kernel_rfl
  have HZ := Lib.hid hz
  have hzs : (mkU (fun _ => 0)).size = 64 := size_mkU _
  clear la hX hz
  go_enter Tryd.func87, Tryd.ntmps87
  go_wp2_with fail
  refine gen_world fun W hW => ?_
  have r0 : rowAt W w.heap.size = some (mkU (setL (fun _ => 0) t (L.take 0))) := by rw [hW]; refine ((rowAt_alloc_past _ _ _ (by simp)).trans (rowAt_alloc_at _ _ _ _ rfl)).trans ?_; exact congrArg some HDU.out
  have r2 : rowAt W (w.heap.size + 1) = some (mkU (fun _ => 0)) := by rw [hW, ← HZ.out]; exact rowAt_alloc_at _ _ _ _ (by simp)
  have B2 : Below w.heap.size w W := by rw [hW]; exact ((Below.refl _ _).alloc (Nat.le_refl _) _).alloc (by simp) _
  clear hW
  go_loopw [9] (fun i W => ∃ m : Nat, m ≤ L.length ∧ i = .int .i64 m ∧ rowAt W w.heap.size = some (mkU (setL (fun _ => 0) t (L.take m))) ∧ rowAt W (w.heap.size + 1) = some (mkU (fun _ => 0)) ∧ Below w.heap.size w W) (fun i _ => L.length - (intOf i).toNat)
  case atStart => exact ⟨0, by omega, rfl, r0, r2, B2⟩
  case round =>
    clear r0 r2 B2
    obtain ⟨m, hm, rfl, r0, r2, B2⟩ := hrel
    have m0 : 0 ≤ (m : Int) := by omega
    by_cases hlt : m < L.length
    · obtain ⟨h0, _⟩ | ⟨g, cap', cur, e1, hg, hgr', hgs, hgf⟩ := LA.out
      · omega
      cases e1
      have hgr := brow B2 hgr'
      have gw := rowAt_lt hgr'
      obtain ⟨a1, a2⟩ := plAt_get2 (l := L) hlt
      have hx1 := (L[m]).2.1
      have hx2 := (L[m]).2.2
      have c0 : wr.cell? ⟨g, m * 2, none⟩ = some (.int .i8 (((L[m]).1.1 : Nat) : Int)) := (cell_of_rowAt hgr _).trans ((hgf _ (by omega)).trans (congrArg (fun z => some (Value.int .i8 z)) a1))
      have c1 : wr.cell? ⟨g, m * 2 + 1, none⟩ = some (.int .i8 (((L[m]).1.2 : Nat) : Int)) := (cell_of_rowAt hgr _).trans ((hgf _ (by omega)).trans (congrArg (fun z => some (Value.int .i8 z)) a2))
      have hnx := Lib.hid (setL_take (v := fun _ => 0) (f := t) hlt)
      have lgg : g < wr.heap.size := rowAt_lt hgr
      generalize hi : (L[m]).1.1 = i at *
      generalize hj : (L[m]).1.2 = j at *
      clear hi hj a1 a2 hgf hgs hgr'
      have i8 : i < 8 := by omega
      have j8 : j < 8 := by omega
      have i0 : (0 : Int) ≤ i := by omega
      have i1 : (i : Int) < 8 := by omega
      have j0 : (0 : Int) ≤ j := by omega
      have j1 : (j : Int) < 8 := by omega
      have m1 : (m : Int) < L.length := by omega
      have hi64 : i * 8 + j < 64 := by omega
      obtain ⟨f, hf⟩ : ∃ f, setL (fun _ => 0) t (L.take m) = f := ⟨_, rfl⟩
      have HF := Lib.hid hf
      rw [hf] at r0
      have n2 : w.heap.size + 1 ≠ w.heap.size := by omega
      clear hf
      have l0 := rowAt_lt r0
      have l2 := rowAt_lt r2
      go_wp2_with fail
      refine gen_world fun W3 hW => ?_
      have s0 : rowAt W3 w.heap.size = some (mkU f) := by rw [hW]; exact (rowAt_alloc_past _ _ _ l0).trans r0
      have s2 : rowAt W3 (w.heap.size + 1) = some (mkU (fun _ => 0)) := by rw [hW]; exact (rowAt_alloc_past _ _ _ l2).trans r2
      have sv : rowAt W3 wr.heap.size = some #[.int .i8 i, .int .i8 j] := by rw [hW]; exact rowAt_alloc_at _ _ _ _ rfl
      have B3 : Below w.heap.size w W3 := by rw [hW]; exact B2.alloc B2.size _
      have d0 := cell_of_rowAt sv 0
      have d1 := cell_of_rowAt sv 1
      simp at d0 d1
      have fm3 := frozen_of_rowAt s0 (i * 8 + j)
      have cm3 : W3.cell? ⟨w.heap.size, i * 8 + j, none⟩ = some (.int .u8 (f (i * 8 + j))) := (cell_of_rowAt s0 _).trans ((isK_mkI .u8 64 f).get hi64)
      clear hW sv c0 c1 r0 r2 B2 hgr
      go_still_tail 6, (by kernel_rfl)
      change wpList _ _ _ _ _ W3.drew
      repeat go_step
      go_wp2_with fail
      refine ⟨⟨m + 1, by omega, by go_num, ?_, ?_, ?_⟩, by simp [intOf]; omega⟩
      · rw [hnx.out, HF.out]
        have := rowAt_setCell_at W3 w.heap.size (i * 8 + j) (.int .u8 0) (by rw [s0]; rfl)
        rw [s0, Option.getD_some, mkU_set] at this
        exact this
      · exact (rowAt_setCell_ne W3 _ _ _ _ n2).trans s2
      · exact (B3.setCell (p := ⟨w.heap.size, i * 8 + j, none⟩) (by simp) _).drew
    · obtain rfl : m = L.length := by omega
      rw [List.take_length, HX.out] at r0
      go_wp2_with fail
      refine bodyPost_ret (v := .agg X) (results_row1 (m := 64) rfl _ _ (w.heap.size + 1) _ rfl (rowAt_setRow_at _ _ _ (Option.isSome_iff_exists.2 ⟨_, r2⟩)) Tryd.underlying32 rfl (by kernel_rfl) hXs) rfl ⟨rfl, below_setRow B2 (by omega) _⟩
end Go.Proofs.YtcdddngdjhjdbaaDoor

/- later: ages some years later, the program's side. -/
namespace Go.Proofs.YtcdddngdjhjdbaaDoor
open Go.RowKit Go.Shelf
attribute [local go_sem] Oper.semAt_some

set_option maxRecDepth 100000 in
set_option maxHeartbeats 4000000 in
theorem later_any (d c : Array Value) (t : Nat → Int) (r : Rf) (y : Int) (hh ww : Nat) (hhe : r.h = hh) (hwe : r.w = ww) (h8 : hh ≤ 8) (w8 : ww ≤ 8) (w : World) (hA : IsU8 d 64 t) (hR : IsRoof c r) (X : Array Value) (hF : mkU (addL y t (plUpto hh ww (hh * ww))) = X) :
    Calls Tryd.prog 85 #[.agg d, .agg c, .int .i64 y] w fun e w' => e = .returned (.agg X) ∧ Below w.heap.size w w' := by
  have hc := hR.size
  have hd := hA.size
  have hz : (#[.int .u8 0, .int .u8 0, .int .u8 0, .int .u8 0, .int .u8 0, .int .u8 0, .int .u8 0, .int .u8 0, .int .u8 0, .int .u8 0, .int .u8 0, .int .u8 0, .int .u8 0, .int .u8 0, .int .u8 0, .int .u8 0, .int .u8 0, .int .u8 0, .int .u8 0, .int .u8 0, .int .u8 0, .int .u8 0, .int .u8 0, .int .u8 0, .int .u8 0, .int .u8 0, .int .u8 0, .int .u8 0, .int .u8 0, .int .u8 0, .int .u8 0, .int .u8 0, .int .u8 0, .int .u8 0, .int .u8 0, .int .u8 0, .int .u8 0, .int .u8 0, .int .u8 0, .int .u8 0, .int .u8 0, .int .u8 0, .int .u8 0, .int .u8 0, .int .u8 0, .int .u8 0, .int .u8 0, .int .u8 0, .int .u8 0, .int .u8 0, .int .u8 0, .int .u8 0, .int .u8 0, .int .u8 0, .int .u8 0, .int .u8 0, .int .u8 0, .int .u8 0, .int .u8 0, .int .u8 0, .int .u8 0, .int .u8 0, .int .u8 0, .int .u8 0] : Array Value) = mkU (fun _ => 0) := by kernel_rfl
  refine (callsIn_wide (n := 3)).1 ?_
  refine callsIn_of_wp_marks Tryd.func85 rfl trivial ?_ rfl
  simp only [Tryd.ntmps85, List.size_toArray, List.length_cons, List.length_nil, Nat.reduceAdd, Nat.reduceSub, Array.replicate_succ, Array.replicate_zero, List.push_toArray, List.append_toArray, List.nil_append, List.cons_append]
  gi_wp2_with (refine ⟨trivial, ?_⟩; gi_at_call 90; refine (callsIn_wide.2 (places_any c _)).mono ?_; rintro e w' ⟨rfl, rfl⟩)
  try rw [hz]
  obtain ⟨W0, hW0⟩ : ∃ W0, (((((w.alloc (.cells d 32)).alloc (.cells c 30)).alloc (.cells #[.int .i64 y] 2)).alloc (.cells (mkU (fun _ => 0)) 32)).alloc (.cells c 30)) = W0 := ⟨_, rfl⟩
  have hsz : W0.heap.size = w.heap.size + 5 := by rw [← hW0]; simp
  have rF : RowT W0 (w.heap.size) 32 d := by
    have := ((((RowT.new w 32 d).alloc (.cells c 30)).alloc (.cells #[.int .i64 y] 2)).alloc (.cells (mkU (fun _ => 0)) 32)).alloc (.cells c 30)
    rw [hW0] at this; simpa using this
  have rA : RowT W0 (w.heap.size + 1) 30 c := by
    have := (((RowT.new (w.alloc (.cells d 32)) 30 c).alloc (.cells #[.int .i64 y] 2)).alloc (.cells (mkU (fun _ => 0)) 32)).alloc (.cells c 30)
    rw [hW0] at this; simpa using this
  have rY : RowT W0 (w.heap.size + 1 + 1) 2 #[.int .i64 y] := by
    have := ((RowT.new ((w.alloc (.cells d 32)).alloc (.cells c 30)) 2 #[.int .i64 y]).alloc (.cells (mkU (fun _ => 0)) 32)).alloc (.cells c 30)
    rw [hW0] at this; simpa using this
  have rZ : RowT W0 (w.heap.size + 1 + 1 + 1) 32 (mkU (fun _ => 0)) := by
    have := (RowT.new (((w.alloc (.cells d 32)).alloc (.cells c 30)).alloc (.cells #[.int .i64 y] 2)) 32 (mkU (fun _ => 0))).alloc (.cells c 30)
    rw [hW0] at this; simpa using this
  have rD : RowT W0 (w.heap.size + 1 + 1 + 1 + 1) 30 c := by
    have := RowT.new ((((w.alloc (.cells d 32)).alloc (.cells c 30)).alloc (.cells #[.int .i64 y] 2)).alloc (.cells (mkU (fun _ => 0)) 32)) 30 c
    rw [hW0] at this; simpa using this
  have hB0 : Below w.heap.size w W0 := by rw [← hW0]; exact (((((Below.refl _ w).alloc (Nat.le_refl _) _).alloc (by simp) _).alloc (by simp <;> omega) _).alloc (by simp <;> omega) _).alloc (by simp <;> omega) _
  rw [hW0]
  clear hW0 hz
  rw [hA.eqU] at rF
  refine wpIn_rangeFunc_ownH rfl (by omega) (gf := 125) (lb := #[.pointer (some ⟨w.heap.size + 1 + 1 + 1 + 1, 0, none⟩)]) rfl trivial (enters_of Tryd.func125 (by kernel_rfl) rfl)
    (places_stops 2 (by omega) (w.heap.size + 1 + 1 + 1 + 1) w.heap.size c r hh ww hhe hwe h8 w8 hR W0 rD.row) KpR.trans (KpR.put (by omega) (by omega)) (Below.refl _ _) (fun _ => rfl)
    (fun pre W => (RowT W (w.heap.size) 32 (mkU (addL y t pre)) ∧ RowT W (w.heap.size + 1) 30 c ∧ RowT W (w.heap.size + 1 + 1) 2 #[.int .i64 y] ∧ RowT W (w.heap.size + 1 + 1 + 1) 32 (mkU (fun _ => 0)) ∧ RowT W (w.heap.size + 1 + 1 + 1 + 1) 30 c) ∧ Below w.heap.size w W)
    (fun _ _ _ => False)
    (OwnFrom.and (OwnFrom.and (Own.from (RowT.own _ _ (fun pre => mkU (addL y t pre))) _) (OwnFrom.and (Own.from (RowT.own _ _ _) _) (OwnFrom.and (Own.from (RowT.own _ _ _) _) (OwnFrom.and (Own.from (RowT.own _ _ _) _) (Own.from (RowT.own _ _ _) _))))) (ownFrom_below (Nat.le_refl _) (by omega)))
    (fun _ _ _ _ _ hs _ _ => hs)
    ⟨⟨rF, rA, rY, rZ, rD⟩, hB0⟩
    (fun x a' W => ∃ Bx, w.heap.size + 1 + 1 + 1 + 1 < Bx ∧ RowT W Bx 79 #[.int .i8 (x.1.1 : Int), .int .i8 (x.1.2 : Int)] ∧ a' = { tmps := #[.agg d, .agg c, .int .i64 y, .pointer (some ⟨w.heap.size, 0, none⟩), .pointer (some ⟨w.heap.size + 1, 0, none⟩), .pointer (some ⟨w.heap.size + 1 + 1, 0, none⟩), .pointer (some ⟨w.heap.size + 1 + 1 + 1, 0, none⟩), .pointer (some ⟨Bx, 0, none⟩), .agg c, .func (.func 125) #[] #[.pointer (some ⟨w.heap.size + 1 + 1 + 1 + 1, 0, none⟩)], x.enc, undef, undef, undef, undef, undef, undef, undef, undef, undef, undef, undef, undef, undef], defers := [] })
    (fun x a' _ X Y row hs hg hr => by obtain ⟨Bx, h1, h2, h3⟩ := hs; exact ⟨Bx, h1, RowT.own Bx 79 (fun (_ : Unit) => #[Value.int .i8 (x.1.1 : Int), .int .i8 (x.1.2 : Int)]) () X Y row h2 hg (fun r e => (hr r e).2), h3⟩)
    ?assign ?body ?done ?stop
  case assign =>
    rintro l pre x W K ⟨⟨gF, gA, gY, gZ, gD⟩, hB1⟩ hK
    dsimp only [Pl.enc]
    gi_wp2
    refine hK _ _ ((KeepsOthers.alloc _ _).from _) ⟨(Below.refl _ W).alloc hB1.size _, fun c' h => (rowAt_alloc_past _ _ _ (rowAt_lt h)).trans h⟩ ⟨⟨gF.alloc _, gA.alloc _, gY.alloc _, gZ.alloc _, gD.alloc _⟩, hB1.alloc hB1.size _⟩ ⟨W.heap.size, gD.lt, RowT.new W 79 _, rfl⟩
  case body =>
    rintro l pre x a' W hl ⟨rr, hrr⟩ ⟨⟨gF, gA, gY, gZ, gD⟩, hB1⟩ ⟨Bx, hBx, gX, rfl⟩ hlt
    have xh := x.2.1
    have xw := x.2.2
    have x8 : x.1.1 < 8 := by omega
    have y8 : x.1.2 < 8 := by omega
    have kx0 := cell_of_rowAt gX.row 0
    have kx1 := cell_of_rowAt gX.row 1
    have ky := cell_of_rowAt gY.row 0
    simp at kx0 kx1 ky
    obtain ⟨q, hq⟩ : ∃ q, addL y t pre = q := ⟨_, rfl⟩
    rw [hq] at gF
    have hi64 : x.1.1 * 8 + x.1.2 < 64 := by omega
    have cm : W.cell? ⟨w.heap.size, x.1.1 * 8 + x.1.2, none⟩ = some (.int .u8 (q (x.1.1 * 8 + x.1.2))) := (cell_of_rowAt gF.row _).trans ((isK_mkI .u8 64 q).get hi64)
    have fm := frozen_of_rowAt gF.row (x.1.1 * 8 + x.1.2)
    have xi0 : 0 ≤ (x.1.1 : Int) := by omega
    have xi1 : (x.1.1 : Int) < 8 := by omega
    have yi0 : 0 ≤ (x.1.2 : Int) := by omega
    have yi1 : (x.1.2 : Int) < 8 := by omega
    have n1 : w.heap.size + 1 ≠ w.heap.size := by omega
    have n2 : w.heap.size + 1 + 1 ≠ w.heap.size := by omega
    have n3 : w.heap.size + 1 + 1 + 1 ≠ w.heap.size := by omega
    have n4 : w.heap.size + 1 + 1 + 1 + 1 ≠ w.heap.size := by omega
    have hsn : Hid (addL y t (pre ++ [x]) = upd q (x.1.1 * 8 + x.1.2) (IntKind.u8.wrap (q (x.1.1 * 8 + x.1.2) + IntKind.u8.wrap y))) := Lib.hid (by rw [addL_snoc, hq]; rfl)
    clear hq
    obtain ⟨y8', hy8⟩ : ∃ z, IntKind.u8.wrap y = z := ⟨_, rfl⟩
    obtain ⟨s8, hs8⟩ : ∃ z, IntKind.u8.wrap (q (x.1.1 * 8 + x.1.2) + y8') = z := ⟨_, rfl⟩
    rw [hy8, hs8] at hsn
    gi_wp2
    refine wpIn_still_tail 12 (by kernel_rfl) (by kernel_rfl) (by kernel_rfl) ?_
    simp only [List.take_succ_cons, List.take_zero, List.drop_succ_cons, List.drop_zero]
    repeat still_step
    try refine wpStill_nil ?_
    repeat go_step
    dsimp only [OnlyN]
    gi_wp2
    refine ⟨((KeepsOthers.setCell W _ _).trans (KeepsOthers.drew _)).from _, ⟨((Below.refl _ W).setCell (p := ⟨_, _, none⟩) (by simp <;> omega) _).drew, fun c' h' => (rowAt_setCell_ne _ _ _ _ _ n4).trans h'⟩, ⟨?_, (gA.other n1 _).drew, (gY.other n2 _).drew, (gZ.other n3 _).drew, (gD.other n4 _).drew⟩, (hB1.setCell (p := ⟨_, _, none⟩) (by simp <;> omega) _).drew⟩
    rw [hsn.out, ← mkU_set]
    exact (gF.set _).drew
  case done =>
    rintro D ys W hD rfl ⟨⟨gF, gA, gY, gZ, gD⟩, hB1⟩ hK
    rw [hF] at gF
    have gMr := gF.row
    have gMs : X.size = 64 := by rw [← hF]; exact size_mkU _
    have gZr := gZ.row
    have gZs : (mkU (fun _ => 0)).size = 64 := size_mkU _
    have gMo : Ones X := by rw [← hF]; exact (isK_mkI _ _ _).ones
    have hDn : D ≠ w.heap.size + 1 + 1 + 1 := fun h => by
      rw [h] at hK
      have : some (Obj.cells (mkU (fun _ => 0)) 32) = some (Obj.deferred (some [])) := gZ.symm.trans hK
      cases this
    clear hF
    generalize mkU (fun _ => 0) = Y at *
    have hK2 := fun c' => (setRow_other W (w.heap.size + 1 + 1 + 1) D c' hDn).trans hK
    gi_wp2
    refine ⟨by simp, .inl ⟨_, _, rfl, run_takeDeferred (hK2 _), ?_⟩⟩
    refine ⟨.agg X, results_row1 (m := 64) rfl _ _ (w.heap.size + 1 + 1 + 1) _ rfl ?_ Tryd.underlying32 rfl (by kernel_rfl) gMs, rfl, ?_⟩
    · obtain ⟨t, ht⟩ := rowAt_some (rowAt_setRow_at W (w.heap.size + 1 + 1 + 1) X (by rw [gZr]; rfl))
      exact rowAt_of_heap ((World.putObj_heap_other (fun e => hDn e.symm)).trans ht)
    · exact (below_setRow hB1 (by omega) _).trans (belowK_b (w := w) (Nat.le_refl _) _ D _ _ (by omega) (hK2 _) rfl rfl)
  case stop =>
    rintro D c pre W _ _ h _
    exact h.elim
end Go.Proofs.YtcdddngdjhjdbaaDoor

/- Lists that grow by append, their cells told by a function. Laws over any program. -/
namespace Go.Proofs.YtcdddngdjhjdbaaDoor
open Go.RowKit

/-- The first n cells. -/
def cellsTo (k : IntKind) (F : Nat → Int) (n : Nat) : List Value := (List.range n).map fun i => .int k (F i)
theorem cellsTo_len (k : IntKind) (F : Nat → Int) (n : Nat) : (cellsTo k F n).length = n := by simp [cellsTo]
theorem cellsTo_two (k : IntKind) (F : Nat → Int) (n : Nat) {a b : Int} (ha : F (n * 2) = a) (hb : F (n * 2 + 1) = b) : cellsTo k F ((n + 1) * 2) = cellsTo k F (n * 2) ++ [.int k a, .int k b] := by
  rw [show (n + 1) * 2 = n * 2 + 1 + 1 from by omega]
  simp [cellsTo, List.range_succ, ha, hb]
theorem cellsTo_one (k : IntKind) (F : Nat → Int) (n : Nat) {a : Int} (ha : F n = a) : cellsTo k F (n + 1) = cellsTo k F n ++ [.int k a] := by
  simp [cellsTo, List.range_succ, ha]
theorem owns_nil (w : World) (base : Nat) (e : TypeId) (size : Nat) (k : IntKind) (F : Nat → Int) : w.ownsRow base e size (.slice none 0 0) 0 (cellsTo k F 0) := ⟨by simp [cellsTo], .inl ⟨rfl, rfl⟩⟩
theorem owns_list {w : World} {base : Nat} {e : TypeId} {v : Value} {sz n : Nat} {k : IntKind} {F : Nat → Int} (o : w.ownsRow base e sz v n (cellsTo k F (n * sz))) : IsList w base v sz n (fun i => .int k (F i)) := by
  obtain ⟨hl, h | ⟨g, cap, cur, rfl, hg, hh, hn, hm, hs, ht⟩⟩ := o
  · exact .inl ⟨h.2, none, 0, by rw [h.1]⟩
  · refine .inr ⟨g, cap, cur, rfl, hg, rowAt_of_heap hh, ?_, fun i hi => ?_⟩
    · rw [hs]; exact Nat.mul_le_mul_right sz hn
    · have h1 : cur[i]? = (cur.toList.take (n * sz))[i]? := by rw [List.getElem?_take, if_pos hi, Array.getElem?_toList]
      rw [h1, ht]
      simp [cellsTo, hi]
theorem owns_kept {w w' : World} {base B : Nat} {e : TypeId} {size : Nat} {v : Value} {n : Nat} {xs : List Value} (h : w.ownsRow base e size v n xs) (b : Below B w w') (hB : w.heap.size ≤ B) : w'.ownsRow base e size v n xs := by
  obtain ⟨hl, h | ⟨g, cap, cur, rfl, hg, hh, hr⟩⟩ := h
  · exact ⟨hl, .inl h⟩
  · exact ⟨hl, .inr ⟨g, cap, cur, rfl, hg, (b.block g (Nat.lt_of_lt_of_le (Array.getElem?_eq_some_iff.1 hh).1 hB)).trans hh, hr⟩⟩
theorem owns_setCell {w : World} {base : Nat} {e : TypeId} {size : Nat} {v : Value} {n : Nat} {xs : List Value} (h : w.ownsRow base e size v n xs) {m : Nat} (hm : m < base) (o : Nat) (x : Value) : (w.setCell ⟨m, o, none⟩ x).ownsRow base e size v n xs := by
  obtain ⟨hl, h | ⟨g, cap, cur, rfl, hg, hh, hr⟩⟩ := h
  · exact ⟨hl, .inl h⟩
  · exact ⟨hl, .inr ⟨g, cap, cur, rfl, hg, (heap_setCell_other w ⟨m, o, none⟩ g x (by simp; omega)).trans hh, hr⟩⟩
theorem owns_base' {W : World} {base : Nat} {e : TypeId} {size n : Nat} {v : Value} {xs : List Value} (h : W.ownsRow base e size v n xs) : ∀ x, v.ownBlock = some x → base ≤ x := fun x hx => by
  obtain ⟨_, ⟨rfl, _⟩ | ⟨g, cap, cur, rfl, hg, _⟩⟩ := h
  · simp [Value.ownBlock] at hx
  · obtain rfl : g = x := by simpa [Value.ownBlock] using hx
    exact hg
theorem owns_shape {W : World} {base : Nat} {e : TypeId} {size n : Nat} {v : Value} {xs : List Value} (h : W.ownsRow base e size v n xs) : ∃ a cap, v = .slice a n cap := by
  obtain ⟨_, ⟨rfl, rfl⟩ | ⟨g, cap, cur, rfl, hg, _⟩⟩ := h
  · exact ⟨none, 0, rfl⟩
  · exact ⟨_, cap, rfl⟩
/-- A row below the grown list's base stays. -/
theorem grown_below {w w' : World} {row : Option Nat} {base : Nat} (h : w.grownBy w' row) {n : Nat} (hn : n < w.heap.size) (hr : ∀ x, row = some x → base ≤ x) (hb : n < base) : rowAt w' n = rowAt w n := by
  unfold rowAt
  rw [h.block n hn (fun e => by have := hr n e.symm; omega)]
theorem cells_new2 {w : World} {n : Nat} (hn : n = w.heap.size) (a b : Value) (t : TypeId) : ∀ j u, ([a, b] : List Value)[j]? = some u → (w.alloc (.cells #[a, b] t)).cell? ((⟨n, 0, none⟩ : Addr).add j) = some u := by
  subst hn
  exact cell_two_new _ _ _ _
/-- append to a list of the call's own, as one step of a region that draws its order. -/
theorem step_append_own {P : Program} {ops : Array Oper} {o : Oper} {a : Act} {w : World} {K : Act → World → Prop} {Q : Exit → Act → World → Prop} {E : Prop}
    (hg : o.guard = none) (s x : Operand) (t : TypeId) (hop : o.op = Op.call { callee := Callee.builtin Builtin.append, args := #[s, x], argTypes := #[t, t] })
    (base : Nat) (e : TypeId) (i : TypeInfo) (z : Value) (size bytes : Nat) (h1 : P.underlying t = some (.slice e)) (h2 : P.info? e = some i) (h3 : i.zero = some z) (h4 : i.size = size) (h5 : i.bytes = bytes) (h6 : z.cells.size = size) (h7 : 0 < size)
    (v : Value) (n : Nat) (xs : List Value) (hs : a.eval s = v) (hown : w.ownsRow base e size v n xs)
    (ad : Addr) (m c : Nat) (news : List Value) (hx : a.eval x = .slice (some ad) m c) (hn : news.length = m * size) (hc : ∀ j u, news[j]? = some u → w.cell? (ad.add j) = some u) (h1c : ∀ u ∈ news, u.oneCell' = true)
    (b1 : n + m ≤ maxLen) (b2 : (n + m) * bytes ≤ 140737488355328) (hb : base ≤ w.heap.size)
    (hK : ∀ v' w', w'.ownsRow base e size v' (n + m) (xs ++ news) → w.grownBy w' v.ownBlock → K (a.put o.dst v') w') :
    if Region.wanted o (yielded ops a.tmps) = true then Oper.wp P o a w K Q else E := by
  have hw : Region.wanted o (yielded ops a.tmps) = true := by simp [Region.wanted, hg]
  rw [if_pos hw]
  obtain ⟨v', w', hrun, r1, r2, _⟩ := run_append_own (P := P) w base t o.type e i z size bytes h1 h2 h3 h4 h5 h6 h7 v n xs hown ad m c news hn hc h1c b1 b2 hb
  unfold Oper.wp
  simp [execOp, hop, resolve, invoke, builtin, hs, hx, hrun, Result.andThen]
  exact hK v' w' r1 r2
theorem owns_zero (w : World) (e : TypeId) (size : Nat) : (w.alloc (.cells #[] e)).ownsRow w.heap.size e size (.slice (some ⟨w.heap.size, 0, none⟩) 0 0) 0 [] :=
  ⟨by simp, .inr ⟨_, 0, #[], rfl, Nat.le_refl _, heap_alloc_new w _, Nat.le_refl _, Nat.zero_le _, by simp, by simp⟩⟩
end Go.Proofs.YtcdddngdjhjdbaaDoor

/- Lists of numbers that grow, told by a function. -/
namespace Go.Proofs.YtcdddngdjhjdbaaDoor
open Go.RowKit

def intsV (f : Nat → Int) (n : Nat) : List Value := (List.range n).map fun i => .int .i64 (f i)
theorem intsV_succ (f : Nat → Int) (n : Nat) : intsV f n ++ [.int .i64 (f n)] = intsV f (n + 1) := by simp [intsV, List.range_succ]
theorem IsList.of_intsV {w : World} {base n : Nat} {e : TypeId} {v : Value} {f : Nat → Int} (h : w.ownsRow base e 1 v n (intsV f n)) : IsList w base v 1 n fun i => .int .i64 (f i) := by
  obtain ⟨hl, h | ⟨g, cap, cur, rfl, hg, hh, hn, hm, hs, ht⟩⟩ := h
  · exact .inl ⟨h.2, none, 0, by rw [h.1]⟩
  · refine .inr ⟨g, cap, cur, rfl, hg, rowAt_of_heap hh, by omega, fun i hi => ?_⟩
    have h1 : cur[i]? = (cur.toList.take (n * 1))[i]? := by rw [List.getElem?_take, if_pos hi, Array.getElem?_toList]
    rw [h1, ht]
    rw [intsV, List.getElem?_map, List.getElem?_range (by omega)]; rfl
theorem A_infoIw : (Tryd.prog.info? 2).map (fun i => (i.zero, i.size, i.bytes)) = some (some (.int .i64 0), 1, 8) := by kernel_rfl
end Go.Proofs.YtcdddngdjhjdbaaDoor

/- replacedAt: how many tiles are replaced at each visit: the program's side. -/
namespace Go.Proofs.YtcdddngdjhjdbaaDoor
open Go.RowKit

/-- How many tiles are replaced at the visit k. -/
def cntR (h w : Nat) (t vis : Nat → Int) (y : Int) (k : Nat) : Int := ((fltW (dueK t vis y k) (plUpto h w (h * w))).length : Nat)
def OnlyN6R (Q : Exit → Act → World → Prop) : Exit → Act → World → Prop
  | .normal, a, w => Q .normal a w
  | _, _, _ => False
theorem onlyN_out6R {Q : Exit → Act → World → Prop} : ∀ e a w, OnlyN6R Q e a w → Q e a w
  | .normal, _, _, h => h
  | .ret, _, _, h => h.elim
  | .panic _, _, _, h => h.elim
  | .exit _, _, _, h => h.elim
  | .goto _, _, _, h => h.elim
theorem owns_setRow {w : World} {base : Nat} {e : TypeId} {size : Nat} {v : Value} {n : Nat} {xs : List Value} (h : w.ownsRow base e size v n xs) {m : Nat} (hm : m < base) (c : Array Value) : (w.setRow m c).ownsRow base e size v n xs := by
  obtain ⟨hl, h | ⟨g, cap, cur, rfl, hg, hh, hr⟩⟩ := h
  · exact ⟨hl, .inl h⟩
  · exact ⟨hl, .inr ⟨g, cap, cur, rfl, hg, (setRow_other w m g c (by omega)).trans hh, hr⟩⟩
theorem grown_rowR {w w' : World} {row : Option Nat} (h : w.grownBy w' row) {n : Nat} (hn : n < w.heap.size) (hr : ∀ x, row = some x → n ≠ x) : rowAt w' n = rowAt w n := by
  simp [rowAt, h.block n hn (fun e => hr n e.symm rfl)]
theorem ageK_bd {hh ww : Nat} {t vis : Nat → Int} {y : Int} {N : Nat} {d : Array Value} (hA : IsU8 d 64 t) (hy : y ≤ 100) (ht : ∀ i, i / 8 < hh ∧ i % 8 < ww → 0 ≤ t i + vis 0 ∧ t i + vis 0 ≤ y) (hs : ∀ k, k < N → 0 ≤ vis (k + 1) - vis k ∧ vis (k + 1) - vis k ≤ y) : ∀ k, k ≤ N → ∀ i, i < 64 → 0 ≤ ageK hh ww t vis y k i ∧ ageK hh ww t vis y k i ≤ 255 := fun k hk i hi => by
  unfold ageK
  split
  · rename_i h; have := age_bd ht hs k hk i h; omega
  · exact ⟨hA.lo i hi, hA.hi i hi⟩
theorem renK_bd {hh ww : Nat} {f : Nat → Int} (L : List (Pl hh ww)) (hf : ∀ i, i < 64 → 0 ≤ f i ∧ f i ≤ 255) : ∀ i, i < 64 → 0 ≤ setL (fun _ => 0) f L i ∧ setL (fun _ => 0) f L i ≤ 255 := fun i hi => by
  by_cases h : ∃ x ∈ L, ixP x = i
  · rw [setL_in _ _ h]; omega
  · rw [setL_out _ _ h]; exact hf i hi
theorem renK_add {hh ww : Nat} {t vis : Nat → Int} {y : Int} {N k : Nat} (w8 : ww ≤ 8) (hk : k < N) (hy : y ≤ 100) (ht : ∀ i, i / 8 < hh ∧ i % 8 < ww → 0 ≤ t i + vis 0 ∧ t i + vis 0 ≤ y) (hs : ∀ k, k < N → 0 ≤ vis (k + 1) - vis k ∧ vis (k + 1) - vis k ≤ y) (L : List (Pl hh ww)) (x : Pl hh ww) : 0 ≤ setL (fun _ => 0) (ageK hh ww t vis y k) L (ixP x) + (vis (k + 1) - vis k) ∧ setL (fun _ => 0) (ageK hh ww t vis y k) L (ixP x) + (vis (k + 1) - vis k) ≤ 255 := by
  have h1 := hs k hk
  have h2 := x.2.1
  have h3 := x.2.2
  have e := ix_parts w8 x
  by_cases h : ∃ z ∈ L, ixP z = ixP x
  · rw [setL_in _ _ h]; omega
  · rw [setL_out _ _ h]
    have hp : ixP x / 8 < hh ∧ ixP x % 8 < ww := by rw [e.1, e.2]; exact ⟨h2, h3⟩
    have := age_bd ht hs k (by omega) (ixP x) hp
    unfold ageK
    rw [if_pos hp]
    omega
theorem zeroK_add {hh ww : Nat} {t vis : Nat → Int} {y : Int} (w8 : ww ≤ 8) (hy : y ≤ 100) (ht : ∀ i, i / 8 < hh ∧ i % 8 < ww → 0 ≤ t i + vis 0 ∧ t i + vis 0 ≤ y) (x : Pl hh ww) : 0 ≤ t (ixP x) + vis 0 ∧ t (ixP x) + vis 0 ≤ 255 := by
  have h2 := x.2.1
  have h3 := x.2.2
  have e := ix_parts w8 x
  have := ht (ixP x) (by rw [e.1, e.2]; exact ⟨h2, h3⟩)
  omega

set_option maxRecDepth 100000 in
set_option maxHeartbeats 4000000 in
theorem replacedAt_any (N g cap : Nat) (cur c d : Array Value) (r : Rf) (t vis : Nat → Int) (y : Int) (hh ww : Nat) (hhe : r.h = hh) (hwe : r.w = ww) (h8 : hh ≤ 8) (w8 : ww ≤ 8) (w : World) (hR : IsRoof c r) (hA : IsU8 d 64 t) (hr : rowAt w g = some cur) (hcell : ∀ i, i ≤ N → cur[i]? = some (.int .i64 (vis i))) (hcap : N + 1 ≤ cap) (hcm : cap ≤ maxLen) (hN : N ≤ 200) (hy : 1 ≤ y ∧ y ≤ 100)
    (ht : ∀ i, i / 8 < hh ∧ i % 8 < ww → 0 ≤ t i + vis 0 ∧ t i + vis 0 ≤ y) (hs : ∀ k, k < N → 0 ≤ vis (k + 1) - vis k ∧ vis (k + 1) - vis k ≤ y) (hb : ∀ k, k ≤ N → 0 ≤ vis k ∧ vis k ≤ 200) :
    Calls Tryd.prog 50 #[.agg c, .agg d, .int .i64 y, .slice (some ⟨g, 0, none⟩) ((N + 1 : Nat) : Int).toNat cap] w fun e w' => ∃ u, e = .returned u ∧ IsList w' w.heap.size u 1 N (fun i => .int .i64 (cntR hh ww t vis y i)) ∧ Below w.heap.size w w' := by
  have hc := hR.size
  have hd := hA.size
  unfold maxLen at hcm
  obtain ⟨i0, hi0, hz0, hz1, hz2⟩ := info_parts A_infoIw
  have HU := Lib.hid (fun k (hk : k ≤ N) => isU8_mkU (ageK_bd (d := d) hA hy.2 ht hs k hk))
  have HB0 := Lib.hid hb
  have HS := Lib.hid hs
  have HC := Lib.hid hcell
  have c0 : cur[0]? = some (.int .i64 (vis 0)) := hcell 0 (by omega)
  obtain ⟨b00, b01⟩ := hb 0 (by omega)
  have CL0 : ∀ W, Calls Tryd.prog 85 #[.agg d, .agg c, .int .i64 (vis 0)] W fun e w' => e = .returned (.agg (mkU (ageK hh ww t vis y 0))) ∧ Below W.heap.size W w' := fun W =>
    later_any d c t r (vis 0) hh ww hhe hwe h8 w8 W hA hR _ (by rw [addL_upto w8 (by omega) (zeroK_add w8 hy.2 ht) _ (Nat.le_refl _), age_zero w8])
  have HCO := Lib.hid (fun k (hk : k < N) W => (show Calls Tryd.prog 86 #[.agg c, .int .i64 (y - (vis (k + 1) - vis k)), .func (.func 58) #[.agg (mkU (ageK hh ww t vis y k))] #[]] W (GivesW W (fltW (dueK t vis y k) (plUpto hh ww (hh * ww)))) from by
    rw [← due_old w8]
    exact olderThan_any 58 #[.agg (mkU (ageK hh ww t vis y k))] #[] _ (enters_of Tryd.func58 (by kernel_rfl) rfl) c r _ hh ww hhe hwe h8 w8 W hR (fun W => ageOf_num _ _ W (HU.out k (by omega)))))
  have HCR := Lib.hid (fun k (hk : k < N) W v (hv : IsList W 0 v 2 (fltW (dueK t vis y k) (plUpto hh ww (hh * ww))).length (fun i => .int .i8 (plAt (fltW (dueK t vis y k) (plUpto hh ww (hh * ww))) i))) =>
    renewed_any 0 (mkU (ageK hh ww t vis y k)) _ v (fltW (dueK t vis y k) (plUpto hh ww (hh * ww))) h8 w8 W (HU.out k (by omega)) hv (by have h1 := fltW_len (p := dueK t vis y k) (plUpto hh ww (hh * ww)); have h2 := plUpto_len hh ww (hh * ww); have h3 : hh * ww ≤ 8 * 8 := Nat.mul_le_mul h8 w8; omega))
  have HCL := Lib.hid (fun k (hk : k < N) W => later_any (mkU (setL (fun _ => 0) (ageK hh ww t vis y k) (fltW (dueK t vis y k) (plUpto hh ww (hh * ww))))) c _ r (vis (k + 1) - vis k) hh ww hhe hwe h8 w8 W (isU8_mkU (renK_bd _ (ageK_bd (d := d) hA hy.2 ht hs k (by omega)))) hR (mkU (ageK hh ww t vis y (k + 1))) (by rw [addL_upto w8 (by have := hs k hk; omega) (renK_add w8 hk hy.2 ht hs _) _ (Nat.le_refl _), age_next w8 _ rfl]))
  have h64 : hh * ww ≤ 8 * 8 := Nat.mul_le_mul h8 w8
  have HLL := Lib.hid (fun k => (show (fltW (dueK t vis y k) (plUpto hh ww (hh * ww))).length ≤ 64 by have h1 := fltW_len (p := dueK t vis y k) (plUpto hh ww (hh * ww)); have h2 := plUpto_len hh ww (hh * ww); omega))
  have HSZ := Lib.hid (fun k => (show (mkU (ageK hh ww t vis y k)).size = 64 from size_mkU _))
  have HON := Lib.hid (fun k => (show Ones (mkU (ageK hh ww t vis y k)) from (isK_mkI _ _ _).ones))
  have HX0 := HSZ.out 0
  have HO0 := HON.out 0
  obtain ⟨X0, hX0⟩ : ∃ X, mkU (ageK hh ww t vis y 0) = X := ⟨_, rfl⟩
  rw [hX0] at HX0 HO0
  simp only [hX0] at CL0
  have EX0 := Lib.hid hX0
  obtain ⟨v0, hv0⟩ : ∃ v, vis 0 = v := ⟨_, rfl⟩
  rw [hv0] at c0 b00 b01
  simp only [hv0] at CL0
  have lg := rowAt_lt hr
  rw [show ((N + 1 : Nat) : Int).toNat = N + 1 from rfl]
  clear hb hs hcell hX0 hv0 ht h64
  go_enter Tryd.func50, Tryd.ntmps50
  go_wp2_with fail
  refine gen_world fun W hW => ?_
  have q0 : rowAt W w.heap.size = some c := by rw [hW]; exact (rowAt_alloc_past _ _ _ (by simp)).trans (rowAt_alloc_at _ _ _ _ (by simp))
  have q1 : rowAt W (w.heap.size + 1) = some d := by rw [hW]; exact rowAt_alloc_at _ _ _ _ (by simp)
  have BW : Below w.heap.size w W := by rw [hW]; exact ((Below.refl _ _).alloc (Nat.le_refl _) _).alloc (by simp) _
  have hsW : w.heap.size + 1 + 1 ≤ W.heap.size := by rw [hW]; simp
  clear hW
  refine Code.wp_mono onlyN_out6R ?_
  refine wp_region_held_drew (S := fun w' => rowAt w' w.heap.size = some c ∧ Below w.heap.size w w') (by kernel_rfl) (⟨q0, BW.drew⟩) (fun hH => ?_)
  refine wpAnyH_take (i := 1) (v := .agg c) rfl (by kernel_rfl) (by kernel_rfl) (by kernel_rfl) (fun _ _ _ h => h) (Or.inl ⟨by rfl, ?_⟩) hH ?_
  · intro w1 hS; (try dsimp only at hS); obtain ⟨g0, gb⟩ := hS; go_simp
  (try simp only [List.getElem_toArray]); (try simp only [List.getElem_cons_succ]); (try simp only [List.getElem_cons_zero]); (try simp only [Act.put]); (try simp only [List.setIfInBounds_toArray]); (try simp only [List.set_cons_succ]); (try simp only [List.set_cons_zero])
  refine wpAnyH_take (i := 2) (v := .slice (some ⟨g, 0, none⟩) (N + 1) cap) rfl (by kernel_rfl) (by kernel_rfl) (by kernel_rfl) (fun _ _ _ h => h) (Or.inl ⟨by rfl, ?_⟩) hH ?_
  · intro w1 hS; (try dsimp only at hS); obtain ⟨g0, gb⟩ := hS; go_simp
  (try simp only [List.getElem_toArray]); (try simp only [List.getElem_cons_succ]); (try simp only [List.getElem_cons_zero]); (try simp only [Act.put]); (try simp only [List.setIfInBounds_toArray]); (try simp only [List.set_cons_succ]); (try simp only [List.set_cons_zero])
  refine wpAnyH_take (i := 3) (v := .pointer (some ⟨g, 0, none⟩)) rfl (by kernel_rfl) (by kernel_rfl) (by kernel_rfl) (fun _ _ _ h => h) (Or.inl ⟨by rfl, ?_⟩) hH ?_
  · intro w1 hS; (try dsimp only at hS); obtain ⟨g0, gb⟩ := hS; go_simp
  (try simp only [List.getElem_toArray]); (try simp only [List.getElem_cons_succ]); (try simp only [List.getElem_cons_zero]); (try simp only [Act.put]); (try simp only [List.setIfInBounds_toArray]); (try simp only [List.set_cons_succ]); (try simp only [List.set_cons_zero])
  refine wpAnyH_take (i := 4) (v := .int .i64 v0) rfl (by kernel_rfl) (by kernel_rfl) (by kernel_rfl) (fun _ _ _ h => h) (Or.inl ⟨by rfl, ?_⟩) hH ?_
  · intro w1 hS; (try dsimp only at hS); obtain ⟨g0, gb⟩ := hS; have u := (cell_of_rowAt (brow gb hr) 0).trans c0; go_simp
  (try simp only [List.getElem_toArray]); (try simp only [List.getElem_cons_succ]); (try simp only [List.getElem_cons_zero]); (try simp only [Act.put]); (try simp only [List.setIfInBounds_toArray]); (try simp only [List.set_cons_succ]); (try simp only [List.set_cons_zero])
  refine wpAnyH_ready (rs := [0]) (by kernel_rfl) (by simp) (AllReadyH.cons rfl (fun K hK => ?_) AllReadyH.nil)
  obtain ⟨g0, gb⟩ := hH
  have p1 : rowAt W.drew (w.heap.size + 1) = some d := q1
  go_simp
  refine hK.out _ _ (⟨g0, gb⟩) (fun hG => ?_)
  clear hK K
  clear p1
  have hH := hG
  clear hG
  (try simp only [List.getElem_toArray]); (try simp only [List.getElem_cons_succ]); (try simp only [List.getElem_cons_zero]); (try simp only [Act.put]); (try simp only [List.setIfInBounds_toArray]); (try simp only [List.set_cons_succ]); (try simp only [List.set_cons_zero])
  refine wpAnyH_ready (rs := [5]) (by kernel_rfl) (by simp) (AllReadyH.cons rfl (fun K hK => ?_) AllReadyH.nil)
  obtain ⟨g0, gb⟩ := hH
  go_simp
  refine (CL0 _).mono ?_
  rintro x wx ⟨rfl, bx⟩
  have p1 := brow bx (show rowAt W.drew (w.heap.size + 1) = some d from q1)
  go_simp
  refine hK.out _ _ (⟨brow bx g0, bnext gb bx gb.size⟩) (fun hG => ?_)
  clear hK K
  clear bx
  have hH := hG
  clear hG
  (try simp only [List.getElem_toArray]); (try simp only [List.getElem_cons_succ]); (try simp only [List.getElem_cons_zero]); (try simp only [Act.put]); (try simp only [List.setIfInBounds_toArray]); (try simp only [List.set_cons_succ]); (try simp only [List.set_cons_zero])
  refine wpAnyH_ready (rs := [6]) (by kernel_rfl) (by simp) (AllReadyH.cons rfl (fun K hK => ?_) AllReadyH.nil)
  obtain ⟨g0, gb⟩ := hH
  have l1 := rowAt_lt p1
  have n01 : w.heap.size ≠ w.heap.size + 1 := by omega
  go_simp
  refine hK.out _ _ (⟨(rowAt_setRow_ne _ _ _ _ n01).trans g0, below_setRow gb (by omega) _⟩) (fun hG => ?_)
  clear hK K
  have p2 := rowAt_setRow_at wx (w.heap.size + 1) X0 (by rw [p1]; rfl)
  clear p1 l1
  have hH := hG
  clear hG
  (try simp only [List.getElem_toArray]); (try simp only [List.getElem_cons_succ]); (try simp only [List.getElem_cons_zero]); (try simp only [Act.put]); (try simp only [List.setIfInBounds_toArray]); (try simp only [List.set_cons_succ]); (try simp only [List.set_cons_zero])
  refine wpAnyH_done (by kernel_rfl) ?_ _
  dsimp only [OnlyN6R]
  obtain ⟨g0, VB⟩ := hH
  have hsV : w.heap.size + 1 + 1 ≤ (wx.setRow (w.heap.size + 1) X0).heap.size := by have := rowAt_lt p2; omega
  generalize wx.setRow (w.heap.size + 1) X0 = V at *
  rw [← EX0.out] at p2
  clear EX0 HX0 HO0 CL0 q0 q1 BW hsW
  by_cases hc1 : cap = 1
  · obtain rfl : N = 0 := by omega
    subst hc1
    go_wp2_with fail
    go_loopw [9, 10, 11, 12, 13, 23] (fun u _ _ _ _ i V => i = .int .i64 0 ∧ u = .slice none 0 0 ∧ Below w.heap.size w V) (fun _ _ _ _ _ _ _ => 0)
    case atStart => exact ⟨rfl, rfl, VB⟩
    case round =>
      obtain ⟨rfl, rfl, hB⟩ := hrel
      go_wp2_with fail
      go_ret
      exact ⟨_, rfl, .inl ⟨rfl, _, _, rfl⟩, hB⟩
  · have hc1b : ¬ (1 : Nat) = cap := fun h => hc1 h.symm
    go_wp2_with fail
    go_loopw [9, 10, 11, 12, 13, 23] (fun u _ _ _ _ i V => ∃ m : Nat, m ≤ N ∧ i = .int .i64 m ∧ V.ownsRow (w.heap.size + 1 + 1) 2 1 u m (intsV (cntR hh ww t vis y) m) ∧ rowAt V w.heap.size = some c ∧ rowAt V (w.heap.size + 1) = some (mkU (ageK hh ww t vis y m)) ∧ w.heap.size + 1 + 1 ≤ V.heap.size ∧ Below w.heap.size w V) (fun _ _ _ _ _ i _ => N - (intOf i).toNat)
    case atStart => exact ⟨0, by omega, rfl, World.ownsRow_nil _ _ _ _, g0, p2, hsV, VB⟩
    case round =>
      clear g0 p2 VB hsV
      obtain ⟨m, hm, rfl, hu, g0, g1, hsz, hB⟩ := hrel
      by_cases hlt : m < N
      · have kr := brow hB hr
        have d0 : wr.cell? ⟨g, m, none⟩ = some (.int .i64 (vis m)) := (cell_of_rowAt kr _).trans (HC.out m (by omega))
        have d1 : wr.cell? ⟨g, m + 1, none⟩ = some (.int .i64 (vis (m + 1))) := (cell_of_rowAt kr _).trans (HC.out (m + 1) (by omega))
        have d2 : wr.cell? ⟨g, 1 + m, none⟩ = some (.int .i64 (vis (m + 1))) := by rw [Nat.add_comm]; exact d1
        have m0 : 0 ≤ (m : Int) := by omega
        have m1 : (m : Int) < N := by omega
        obtain ⟨e00, e01⟩ := HB0.out m (by omega)
        obtain ⟨e10, e11⟩ := HB0.out (m + 1) (by omega)
        obtain ⟨e20, e21⟩ := HS.out m hlt
        have CO := HCO.out m hlt
        have CR := HCR.out m hlt
        have CLA := HCL.out m hlt
        have hL64 := HLL.out m
        have EC := Lib.hid (show cntR hh ww t vis y m = (((fltW (dueK t vis y m) (plUpto hh ww (hh * ww))).length : Nat) : Int) from rfl)
        have xs := HSZ.out m
        have xo := HON.out m
        have ys := HSZ.out (m + 1)
        have yo := HON.out (m + 1)
        have zs : (mkU (setL (fun _ => 0) (ageK hh ww t vis y m) (fltW (dueK t vis y m) (plUpto hh ww (hh * ww))))).size = 64 := size_mkU _
        have zo : Ones (mkU (setL (fun _ => 0) (ageK hh ww t vis y m) (fltW (dueK t vis y m) (plUpto hh ww (hh * ww))))) := (isK_mkI _ _ _).ones
        generalize mkU (setL (fun _ => 0) (ageK hh ww t vis y m) (fltW (dueK t vis y m) (plUpto hh ww (hh * ww)))) = XR at *
        generalize fltW (dueK t vis y m) (plUpto hh ww (hh * ww)) = L at *
        generalize mkU (ageK hh ww t vis y m) = XA at *
        obtain ⟨XB, hXB⟩ : ∃ X, mkU (ageK hh ww t vis y (m + 1)) = X := ⟨_, rfl⟩
        rw [hXB] at ys yo
        simp only [hXB] at CLA
        have EXB := Lib.hid hXB
        clear hXB
        generalize vis m = p at *
        generalize vis (m + 1) = q at *
        have ey : IntKind.i64.wrap (q - p) = q - p := IntWalk.i64_in _ (by omega)
        have ez : IntKind.i64.wrap (y - (q - p)) = y - (q - p) := IntWalk.i64_in _ (by omega)
        clear ey ez
        go_wp2_with fail
        refine (CO _).mono ?_
        rintro e w1 ⟨v1, rfl, l1, b1, _⟩
        have B1 := bnext hB b1 hB.size
        have hu1 := owns_below hu b1
        have f0 := brow b1 g0
        have f1 := brow b1 g1
        have hs1 : w.heap.size + 1 + 1 ≤ w1.heap.size := Nat.le_trans hsz b1.size
        have hob : ∀ z, u9.ownBlock = some z → z < wr.heap.size := fun z hz => (hu.lt z hz).2
        obtain ⟨al, cl, rfl⟩ := l1.shape
        have LL := Lib.hid l1
        clear l1 b1 g0 g1 hu d0 d1 d2 kr CO
        go_wp2_with (at_builtin; refine Go.wpList_append_own_at _ rfl _ _ 27 rfl (w.heap.size + 1 + 1) 2 i0 (.int .i64 0) 1 8 Tryd.underlying27 hi0 hz0 hz1 hz2 rfl (by decide) _ _ _ rfl (hu1.alloc _) ⟨w1.heap.size, 0, none⟩ 1 1 [.int .i64 ((L.length : Nat) : Int)] rfl rfl (cell_one_new _ _ _) (by simp [Value.oneCell']) (by unfold maxLen; omega) (by omega) (by simp; omega) ?_; intro v3 w3 own3 grow3 _ _)
        have HB := (B1.alloc B1.size _).grown grow3 (by simp; omega) (fun x hx => by have := owns_base hu1 x hx; omega)
        have g0 := (grown_rowR grow3 (by simp; omega) (fun z hz => by have := owns_base hu1 z hz; omega)).trans ((rowAt_alloc_past _ _ _ (by omega)).trans f0)
        have g1 := (grown_rowR grow3 (by simp; omega) (fun z hz => by have := owns_base hu1 z hz; omega)).trans ((rowAt_alloc_past _ _ _ (by omega)).trans f1)
        have ll := (LL.out.by_rows (W' := w3) (fun z h1 h2 => (grown_rowR grow3 (by simp; omega) (fun x hx => by have := hob x hx; omega)).trans (rowAt_alloc_past _ _ _ h2))).mono (Nat.zero_le _)
        rw [← EC.out, intsV_succ] at own3
        have hs3 : w.heap.size + 1 + 1 ≤ w3.heap.size := by have := grow3.size; simp at this; omega
        have ll := Lib.hid ll
        clear grow3 hu1 f0 f1 LL B1 hs1
        go_wp2_with fail
        refine Code.wp_mono onlyN_out6R ?_
        refine wp_region_held_drew (S := fun w' => rowAt w' w.heap.size = some c ∧ Below w.heap.size w w') (by kernel_rfl) (⟨g0, HB.drew⟩) (fun hH => ?_)
        refine wpAnyH_take (i := 1) (v := .slice al L.length cl) rfl (by kernel_rfl) (by kernel_rfl) (by kernel_rfl) (fun _ _ _ h => h) (Or.inl ⟨by rfl, ?_⟩) hH ?_
        · intro w1 hS; (try dsimp only at hS); obtain ⟨f0, gb⟩ := hS; go_simp
        (try simp only [List.getElem_toArray]); (try simp only [List.getElem_cons_succ]); (try simp only [List.getElem_cons_zero]); (try simp only [Act.put]); (try simp only [List.setIfInBounds_toArray]); (try simp only [List.set_cons_succ]); (try simp only [List.set_cons_zero])
        refine wpAnyH_take (i := 3) (v := .agg c) rfl (by kernel_rfl) (by kernel_rfl) (by kernel_rfl) (fun _ _ _ h => h) (Or.inl ⟨by rfl, ?_⟩) hH ?_
        · intro w1 hS; (try dsimp only at hS); obtain ⟨f0, gb⟩ := hS; have u := f0; go_simp
        (try simp only [List.getElem_toArray]); (try simp only [List.getElem_cons_succ]); (try simp only [List.getElem_cons_zero]); (try simp only [Act.put]); (try simp only [List.setIfInBounds_toArray]); (try simp only [List.set_cons_succ]); (try simp only [List.set_cons_zero])
        refine wpAnyH_take (i := 4) (v := .int .i64 (q - p)) rfl (by kernel_rfl) (by kernel_rfl) (by kernel_rfl) (fun _ _ _ h => h) (Or.inl ⟨by rfl, ?_⟩) hH ?_
        · intro w1 hS; (try dsimp only at hS); obtain ⟨f0, gb⟩ := hS; go_simp
        (try simp only [List.getElem_toArray]); (try simp only [List.getElem_cons_succ]); (try simp only [List.getElem_cons_zero]); (try simp only [Act.put]); (try simp only [List.setIfInBounds_toArray]); (try simp only [List.set_cons_succ]); (try simp only [List.set_cons_zero])
        refine wpAnyH_ready (rs := [0]) (by kernel_rfl) (by simp) (AllReadyH.cons rfl (fun K hK => ?_) AllReadyH.nil)
        obtain ⟨f0, gb⟩ := hH
        have p1 : rowAt w3.drew (w.heap.size + 1) = some XA := g1
        go_simp
        refine hK.out _ _ (⟨f0, gb⟩) (fun hG => ?_)
        clear hK K
        clear p1
        have hH := hG
        clear hG
        (try simp only [List.getElem_toArray]); (try simp only [List.getElem_cons_succ]); (try simp only [List.getElem_cons_zero]); (try simp only [Act.put]); (try simp only [List.setIfInBounds_toArray]); (try simp only [List.set_cons_succ]); (try simp only [List.set_cons_zero])
        refine wpAnyH_ready (rs := [2]) (by kernel_rfl) (by simp) (AllReadyH.cons rfl (fun K hK => ?_) AllReadyH.nil)
        obtain ⟨f0, gb⟩ := hH
        go_simp
        refine (CR _ _ ll.out.drew).mono ?_
        rintro x wx ⟨rfl, bx⟩
        have p1 := brow bx (show rowAt w3.drew (w.heap.size + 1) = some XA from g1)
        have OW := owns_below (show w3.drew.ownsRow _ _ _ _ _ _ from own3) bx
        go_simp
        refine hK.out _ _ (⟨brow bx f0, bnext gb bx gb.size⟩) (fun hG => ?_)
        clear hK K
        clear bx
        have hH := hG
        clear hG
        (try simp only [List.getElem_toArray]); (try simp only [List.getElem_cons_succ]); (try simp only [List.getElem_cons_zero]); (try simp only [Act.put]); (try simp only [List.setIfInBounds_toArray]); (try simp only [List.set_cons_succ]); (try simp only [List.set_cons_zero])
        refine wpAnyH_ready (rs := [5]) (by kernel_rfl) (by simp) (AllReadyH.cons rfl (fun K hK => ?_) AllReadyH.nil)
        obtain ⟨f0, gb⟩ := hH
        go_simp
        refine (CLA _).mono ?_
        rintro x wx ⟨rfl, bx⟩
        replace p1 := brow bx p1
        replace OW := owns_below OW bx
        go_simp
        refine hK.out _ _ (⟨brow bx f0, bnext gb bx gb.size⟩) (fun hG => ?_)
        clear hK K
        clear bx
        have hH := hG
        clear hG
        (try simp only [List.getElem_toArray]); (try simp only [List.getElem_cons_succ]); (try simp only [List.getElem_cons_zero]); (try simp only [Act.put]); (try simp only [List.setIfInBounds_toArray]); (try simp only [List.set_cons_succ]); (try simp only [List.set_cons_zero])
        refine wpAnyH_ready (rs := [6]) (by kernel_rfl) (by simp) (AllReadyH.cons rfl (fun K hK => ?_) AllReadyH.nil)
        obtain ⟨f0, gb⟩ := hH
        have l1 := rowAt_lt p1
        have n01 : w.heap.size ≠ w.heap.size + 1 := by omega
        have p2 := rowAt_setRow_at wx (w.heap.size + 1) XB (by rw [p1]; rfl)
        replace OW := owns_setRow OW (show w.heap.size + 1 < w.heap.size + 1 + 1 by omega) XB
        have p1i := congrArg Option.isSome p1
        go_simp
        refine hK.out _ _ (⟨(rowAt_setRow_ne _ _ _ _ n01).trans f0, below_setRow gb (by omega) _⟩) (fun hG => ?_)
        clear hK K
        clear p1 l1 p1i
        have hH := hG
        clear hG
        (try simp only [List.getElem_toArray]); (try simp only [List.getElem_cons_succ]); (try simp only [List.getElem_cons_zero]); (try simp only [Act.put]); (try simp only [List.setIfInBounds_toArray]); (try simp only [List.set_cons_succ]); (try simp only [List.set_cons_zero])
        refine wpAnyH_done (by kernel_rfl) ?_ _
        dsimp only [OnlyN6R]
        obtain ⟨f0, B9⟩ := hH
        go_wp2_with fail
        refine ⟨⟨m + 1, by omega, by go_num, OW, f0, ?_, by have := rowAt_lt p2; omega, B9⟩, by simp [intOf]; omega⟩
        rw [EXB.out]
        exact p2
      · obtain rfl : m = N := by omega
        have hl := (IsList.of_intsV hu).mono (show w.heap.size ≤ w.heap.size + 1 + 1 by omega)
        clear hu
        go_wp2_with fail
        go_ret
        exact ⟨_, rfl, hl, hB⟩
end Go.Proofs.YtcdddngdjhjdbaaDoor

/- The check of lives; the visits: both sides. -/
namespace Go.Proofs.YtcdddngdjhjdbaaDoor
open Go.RowKit

/-- The code of ages, life and years, where no tile may be too old now. -/
noncomputable def Rf.livC (r : Rf) (t : Nat → Int) (y z : Int) : Int := if r.ageC t (inB y 1 100 && inB z 0 200) = 0 then (if y < r.oldV t then 6 else 0) else r.ageC t (inB y 1 100 && inB z 0 200)

set_option maxRecDepth 100000 in
set_option maxHeartbeats 2000000 in
theorem checkLives_v (c d : Array Value) (r : Rf) (t : Nat → Int) (y z : Int) (w : World) (hR : IsRoof c r) (hA : IsU8 d 64 t) (ha : ¬ r.Aged t) :
    Calls Tryd.prog 48 #[.agg c, .agg d, .int .i64 y, .int .i64 z] w fun e w' => e = .returned (.iface 133 (.agg #[])) ∧ Below w.heap.size w w' := by
  obtain ⟨q0, q1, pB⟩ := two_boxes w c d 30 32
  have hc := hR.size
  have hd := hA.size
  have hnv := fun w => run_neq_iface_nil (P := Tryd.prog) (w := w) 83 (by kernel_rfl) 133 (.agg #[])
  have CV := fun W v => checkAges_v c d r t v W hR hA ha
  go_enter Tryd.func48, Tryd.ntmps48
  go_wp2_with fail
  refine gen_world fun W hW => ?_
  rw [← hW] at q0 q1 pB
  clear hW
  refine wp_region_held_drew (S := fun w' => Below W.heap.size W w') (by kernel_rfl) ((Below.refl _ _).drew) (fun hH => ?_)
  refine wpAnyH_take (i := 0) (v := .agg c) rfl (by kernel_rfl) (by kernel_rfl) (by kernel_rfl) (fun _ _ _ h => h) (Or.inl ⟨by rfl, ?_⟩) hH ?_
  · intro w1 hS; (try dsimp only at hS); have s0 := brow hS q0; go_simp
  (try simp only [List.getElem_toArray]); (try simp only [List.getElem_cons_succ]); (try simp only [List.getElem_cons_zero]); (try simp only [Act.put]); (try simp only [List.setIfInBounds_toArray]); (try simp only [List.set_cons_succ]); (try simp only [List.set_cons_zero])
  refine wpAnyH_take (i := 1) (v := .agg d) rfl (by kernel_rfl) (by kernel_rfl) (by kernel_rfl) (fun _ _ _ h => h) (Or.inl ⟨by rfl, ?_⟩) hH ?_
  · intro w1 hS; (try dsimp only at hS); have s1 := brow hS q1; go_simp
  (try simp only [List.getElem_toArray]); (try simp only [List.getElem_cons_succ]); (try simp only [List.getElem_cons_zero]); (try simp only [Act.put]); (try simp only [List.setIfInBounds_toArray]); (try simp only [List.set_cons_succ]); (try simp only [List.set_cons_zero])
  refine wpAnyH_take (i := 2) (v := .int .i64 y) rfl (by kernel_rfl) (by kernel_rfl) (by kernel_rfl) (fun _ _ _ h => h) (Or.inl ⟨by rfl, ?_⟩) hH ?_
  · intro w1 hS; (try dsimp only at hS); go_simp
  (try simp only [List.getElem_toArray]); (try simp only [List.getElem_cons_succ]); (try simp only [List.getElem_cons_zero]); (try simp only [Act.put]); (try simp only [List.setIfInBounds_toArray]); (try simp only [List.set_cons_succ]); (try simp only [List.set_cons_zero])
  refine wpAnyH_take (i := 4) (v := .int .i64 z) rfl (by kernel_rfl) (by kernel_rfl) (by kernel_rfl) (fun _ _ _ h => h) (Or.inl ⟨by rfl, ?_⟩) hH ?_
  · intro w1 hS; (try dsimp only at hS); go_simp
  (try simp only [List.getElem_toArray]); (try simp only [List.getElem_cons_succ]); (try simp only [List.getElem_cons_zero]); (try simp only [Act.put]); (try simp only [List.setIfInBounds_toArray]); (try simp only [List.set_cons_succ]); (try simp only [List.set_cons_zero])
  refine wpAnyH_ready (rs := [3]) (by kernel_rfl) (by simp) (AllReadyH.cons rfl (fun K hK => ?_) AllReadyH.nil)
  go_simp
  refine (lived_any y _).mono ?_
  rintro x wx ⟨rfl, bx⟩
  go_simp
  refine hK.out _ _ (bnext hH bx hH.size) (fun hG => ?_)
  clear hK K hH bx
  replace hH := hG
  clear hG
  (try simp only [List.getElem_toArray]); (try simp only [List.getElem_cons_succ]); (try simp only [List.getElem_cons_zero]); (try simp only [Act.put]); (try simp only [List.setIfInBounds_toArray]); (try simp only [List.set_cons_succ]); (try simp only [List.set_cons_zero])
  refine wpAnyH_ready (rs := [5]) (by kernel_rfl) (by simp) (AllReadyH.cons rfl (fun K hK => ?_) AllReadyH.nil)
  go_simp
  refine (gone_any z _).mono ?_
  rintro x wx ⟨rfl, bx⟩
  go_simp
  refine hK.out _ _ (bnext hH bx hH.size) (fun hG => ?_)
  clear hK K hH bx
  replace hH := hG
  clear hG
  (try simp only [List.getElem_toArray]); (try simp only [List.getElem_cons_succ]); (try simp only [List.getElem_cons_zero]); (try simp only [Act.put]); (try simp only [List.setIfInBounds_toArray]); (try simp only [List.set_cons_succ]); (try simp only [List.set_cons_zero])
  refine wpAnyH_ready (rs := [6]) (by kernel_rfl) (by simp) (AllReadyH.cons rfl (fun K hK => ?_) AllReadyH.nil)
  go_simp
  refine hK.out _ _ (hH.alloc hH.size _) (fun hG => ?_)
  clear hK K hH
  replace hH := hG
  clear hG
  (try simp only [List.getElem_toArray]); (try simp only [List.getElem_cons_succ]); (try simp only [List.getElem_cons_zero]); (try simp only [Act.put]); (try simp only [List.setIfInBounds_toArray]); (try simp only [List.set_cons_succ]); (try simp only [List.set_cons_zero])
  refine wpAnyH_ready (rs := [7]) (by kernel_rfl) (by simp) (AllReadyH.cons rfl (fun K hK => ?_) AllReadyH.nil)
  go_simp
  refine (CV _ _).mono ?_
  rintro x wx ⟨rfl, bx⟩
  go_simp
  refine hK.out _ _ (bnext hH bx hH.size) (fun hG => ?_)
  clear hK K hH bx
  replace hH := hG
  clear hG
  (try simp only [List.getElem_toArray]); (try simp only [List.getElem_cons_succ]); (try simp only [List.getElem_cons_zero]); (try simp only [Act.put]); (try simp only [List.setIfInBounds_toArray]); (try simp only [List.set_cons_succ]); (try simp only [List.set_cons_zero])
  refine wpAnyH_take (i := 8) (v := .iface 133 (.agg #[])) rfl (by kernel_rfl) (by kernel_rfl) (by kernel_rfl) (fun _ _ _ h => h) (Or.inl ⟨by rfl, ?_⟩) hH ?_
  · intro w1 hS; (try dsimp only at hS); go_simp
  (try simp only [List.getElem_toArray]); (try simp only [List.getElem_cons_succ]); (try simp only [List.getElem_cons_zero]); (try simp only [Act.put]); (try simp only [List.setIfInBounds_toArray]); (try simp only [List.set_cons_succ]); (try simp only [List.set_cons_zero])
  refine wpAnyH_done (by kernel_rfl) ?_ _
  have B1 := bnext pB hH pB.size
  clear hH q0 q1 pB CV
  go_wp2_with fail
  go_ret
  exact ⟨rfl, B1⟩
set_option maxRecDepth 100000 in
set_option maxHeartbeats 2000000 in
theorem checkLives_r (c d : Array Value) (r : Rf) (t : Nat → Int) (y z : Int) (w : World) (hR : IsRoof c r) (hA : IsU8 d 64 t) (ha : r.Aged t) (hf : (inB y 1 100 && inB z 0 200) = false) :
    Calls Tryd.prog 48 #[.agg c, .agg d, .int .i64 y, .int .i64 z] w fun e w' => e = .returned (.iface 134 (.agg #[])) ∧ Below w.heap.size w w' := by
  obtain ⟨q0, q1, pB⟩ := two_boxes w c d 30 32
  have hc := hR.size
  have hd := hA.size
  have hnr := fun w => run_neq_iface_nil (P := Tryd.prog) (w := w) 83 (by kernel_rfl) 134 (.agg #[])
  have hfine : fineB (bn6 y 1 100 z 0 200) 2 = false := by rw [fineB_bn6]; exact hf
  have CK := fun W v h0 => checkAges_r 0 2 c d r t v (bn6 y 1 100 z 0 200) W hR hA ha h0 (by omega) hfine
  clear hfine hf
  go_enter Tryd.func48, Tryd.ntmps48
  go_wp2_with fail
  refine gen_world fun W hW => ?_
  rw [← hW] at q0 q1 pB
  clear hW
  refine wp_region_held_drew (S := fun w' => Below W.heap.size W w') (by kernel_rfl) ((Below.refl _ _).drew) (fun hH => ?_)
  refine wpAnyH_take (i := 0) (v := .agg c) rfl (by kernel_rfl) (by kernel_rfl) (by kernel_rfl) (fun _ _ _ h => h) (Or.inl ⟨by rfl, ?_⟩) hH ?_
  · intro w1 hS; (try dsimp only at hS); have s0 := brow hS q0; go_simp
  (try simp only [List.getElem_toArray]); (try simp only [List.getElem_cons_succ]); (try simp only [List.getElem_cons_zero]); (try simp only [Act.put]); (try simp only [List.setIfInBounds_toArray]); (try simp only [List.set_cons_succ]); (try simp only [List.set_cons_zero])
  refine wpAnyH_take (i := 1) (v := .agg d) rfl (by kernel_rfl) (by kernel_rfl) (by kernel_rfl) (fun _ _ _ h => h) (Or.inl ⟨by rfl, ?_⟩) hH ?_
  · intro w1 hS; (try dsimp only at hS); have s1 := brow hS q1; go_simp
  (try simp only [List.getElem_toArray]); (try simp only [List.getElem_cons_succ]); (try simp only [List.getElem_cons_zero]); (try simp only [Act.put]); (try simp only [List.setIfInBounds_toArray]); (try simp only [List.set_cons_succ]); (try simp only [List.set_cons_zero])
  refine wpAnyH_take (i := 2) (v := .int .i64 y) rfl (by kernel_rfl) (by kernel_rfl) (by kernel_rfl) (fun _ _ _ h => h) (Or.inl ⟨by rfl, ?_⟩) hH ?_
  · intro w1 hS; (try dsimp only at hS); go_simp
  (try simp only [List.getElem_toArray]); (try simp only [List.getElem_cons_succ]); (try simp only [List.getElem_cons_zero]); (try simp only [Act.put]); (try simp only [List.setIfInBounds_toArray]); (try simp only [List.set_cons_succ]); (try simp only [List.set_cons_zero])
  refine wpAnyH_take (i := 4) (v := .int .i64 z) rfl (by kernel_rfl) (by kernel_rfl) (by kernel_rfl) (fun _ _ _ h => h) (Or.inl ⟨by rfl, ?_⟩) hH ?_
  · intro w1 hS; (try dsimp only at hS); go_simp
  (try simp only [List.getElem_toArray]); (try simp only [List.getElem_cons_succ]); (try simp only [List.getElem_cons_zero]); (try simp only [Act.put]); (try simp only [List.setIfInBounds_toArray]); (try simp only [List.set_cons_succ]); (try simp only [List.set_cons_zero])
  refine wpAnyH_ready (rs := [3]) (by kernel_rfl) (by simp) (AllReadyH.cons rfl (fun K hK => ?_) AllReadyH.nil)
  go_simp
  refine (lived_any y _).mono ?_
  rintro x wx ⟨rfl, bx⟩
  go_simp
  refine hK.out _ _ (bnext hH bx hH.size) (fun hG => ?_)
  clear hK K hH bx
  replace hH := hG
  clear hG
  (try simp only [List.getElem_toArray]); (try simp only [List.getElem_cons_succ]); (try simp only [List.getElem_cons_zero]); (try simp only [Act.put]); (try simp only [List.setIfInBounds_toArray]); (try simp only [List.set_cons_succ]); (try simp only [List.set_cons_zero])
  refine wpAnyH_ready (rs := [5]) (by kernel_rfl) (by simp) (AllReadyH.cons rfl (fun K hK => ?_) AllReadyH.nil)
  go_simp
  refine (gone_any z _).mono ?_
  rintro x wx ⟨rfl, bx⟩
  go_simp
  refine hK.out _ _ (bnext hH bx hH.size) (fun hG => ?_)
  clear hK K hH bx
  replace hH := hG
  clear hG
  (try simp only [List.getElem_toArray]); (try simp only [List.getElem_cons_succ]); (try simp only [List.getElem_cons_zero]); (try simp only [Act.put]); (try simp only [List.setIfInBounds_toArray]); (try simp only [List.set_cons_succ]); (try simp only [List.set_cons_zero])
  refine wpAnyH_ready (rs := [6]) (by kernel_rfl) (by simp) (AllReadyH.cons rfl (fun K hK => ?_) AllReadyH.nil)
  go_simp
  refine hK.out _ _ (hH.alloc hH.size _) (fun hG => ?_)
  clear hK K hH
  replace hH := hG
  clear hG
  (try simp only [List.getElem_toArray]); (try simp only [List.getElem_cons_succ]); (try simp only [List.getElem_cons_zero]); (try simp only [Act.put]); (try simp only [List.setIfInBounds_toArray]); (try simp only [List.set_cons_succ]); (try simp only [List.set_cons_zero])
  refine wpAnyH_ready (rs := [7]) (by kernel_rfl) (by simp) (AllReadyH.cons rfl (fun K hK => ?_) AllReadyH.nil)
  go_simp
  refine (CK _ _ (IsList.li6 (rowAt_alloc_at _ _ _ _ rfl) (Nat.zero_le _))).mono ?_
  rintro x wx ⟨rfl, bx⟩
  go_simp
  refine hK.out _ _ (bnext hH bx hH.size) (fun hG => ?_)
  clear hK K hH bx
  replace hH := hG
  clear hG
  (try simp only [List.getElem_toArray]); (try simp only [List.getElem_cons_succ]); (try simp only [List.getElem_cons_zero]); (try simp only [Act.put]); (try simp only [List.setIfInBounds_toArray]); (try simp only [List.set_cons_succ]); (try simp only [List.set_cons_zero])
  refine wpAnyH_take (i := 8) (v := .iface 134 (.agg #[])) rfl (by kernel_rfl) (by kernel_rfl) (by kernel_rfl) (fun _ _ _ h => h) (Or.inl ⟨by rfl, ?_⟩) hH ?_
  · intro w1 hS; (try dsimp only at hS); go_simp
  (try simp only [List.getElem_toArray]); (try simp only [List.getElem_cons_succ]); (try simp only [List.getElem_cons_zero]); (try simp only [Act.put]); (try simp only [List.setIfInBounds_toArray]); (try simp only [List.set_cons_succ]); (try simp only [List.set_cons_zero])
  refine wpAnyH_done (by kernel_rfl) ?_ _
  have B1 := bnext pB hH pB.size
  clear hH q0 q1 pB CK
  go_wp2_with fail
  go_ret
  exact ⟨rfl, B1⟩
set_option maxRecDepth 100000 in
set_option maxHeartbeats 2000000 in
theorem checkLives_t (c d : Array Value) (r : Rf) (t : Nat → Int) (y z : Int) (w : World) (hR : IsRoof c r) (hA : IsU8 d 64 t) (ha : r.Aged t) (hf : (inB y 1 100 && inB z 0 200) = true) (ho : y < r.oldV t) :
    Calls Tryd.prog 48 #[.agg c, .agg d, .int .i64 y, .int .i64 z] w fun e w' => e = .returned (.iface 132 (.agg #[])) ∧ Below w.heap.size w w' := by
  obtain ⟨q0, q1, pB⟩ := two_boxes w c d 30 32
  have hc := hR.size
  have hd := hA.size
  have hn0 := fun w => run_neq_nil_nil_at (P := Tryd.prog) (w := w) 83 (by kernel_rfl)
  have hfine : fineB (bn6 y 1 100 z 0 200) 2 = true := by rw [fineB_bn6]; exact hf
  have CK := fun W v h0 => checkAges_ok 0 2 c d r t v (bn6 y 1 100 z 0 200) W hR hA ha h0 (by omega) hfine
  have CO := fun W => oldest_ok c d r t W hR hA ha.1
  have hod : decide (y < r.oldV t) = true := by simp [ho]
  generalize r.oldV t = v at *
  generalize (r.oldAt t).1 = p1 at *
  generalize (r.oldAt t).2 = p2 at *
  clear hfine hf ho
  go_enter Tryd.func48, Tryd.ntmps48
  go_wp2_with fail
  refine gen_world fun W hW => ?_
  rw [← hW] at q0 q1 pB
  clear hW
  refine wp_region_held_drew (S := fun w' => Below W.heap.size W w') (by kernel_rfl) ((Below.refl _ _).drew) (fun hH => ?_)
  refine wpAnyH_take (i := 0) (v := .agg c) rfl (by kernel_rfl) (by kernel_rfl) (by kernel_rfl) (fun _ _ _ h => h) (Or.inl ⟨by rfl, ?_⟩) hH ?_
  · intro w1 hS; (try dsimp only at hS); have s0 := brow hS q0; go_simp
  (try simp only [List.getElem_toArray]); (try simp only [List.getElem_cons_succ]); (try simp only [List.getElem_cons_zero]); (try simp only [Act.put]); (try simp only [List.setIfInBounds_toArray]); (try simp only [List.set_cons_succ]); (try simp only [List.set_cons_zero])
  refine wpAnyH_take (i := 1) (v := .agg d) rfl (by kernel_rfl) (by kernel_rfl) (by kernel_rfl) (fun _ _ _ h => h) (Or.inl ⟨by rfl, ?_⟩) hH ?_
  · intro w1 hS; (try dsimp only at hS); have s1 := brow hS q1; go_simp
  (try simp only [List.getElem_toArray]); (try simp only [List.getElem_cons_succ]); (try simp only [List.getElem_cons_zero]); (try simp only [Act.put]); (try simp only [List.setIfInBounds_toArray]); (try simp only [List.set_cons_succ]); (try simp only [List.set_cons_zero])
  refine wpAnyH_take (i := 2) (v := .int .i64 y) rfl (by kernel_rfl) (by kernel_rfl) (by kernel_rfl) (fun _ _ _ h => h) (Or.inl ⟨by rfl, ?_⟩) hH ?_
  · intro w1 hS; (try dsimp only at hS); go_simp
  (try simp only [List.getElem_toArray]); (try simp only [List.getElem_cons_succ]); (try simp only [List.getElem_cons_zero]); (try simp only [Act.put]); (try simp only [List.setIfInBounds_toArray]); (try simp only [List.set_cons_succ]); (try simp only [List.set_cons_zero])
  refine wpAnyH_take (i := 4) (v := .int .i64 z) rfl (by kernel_rfl) (by kernel_rfl) (by kernel_rfl) (fun _ _ _ h => h) (Or.inl ⟨by rfl, ?_⟩) hH ?_
  · intro w1 hS; (try dsimp only at hS); go_simp
  (try simp only [List.getElem_toArray]); (try simp only [List.getElem_cons_succ]); (try simp only [List.getElem_cons_zero]); (try simp only [Act.put]); (try simp only [List.setIfInBounds_toArray]); (try simp only [List.set_cons_succ]); (try simp only [List.set_cons_zero])
  refine wpAnyH_ready (rs := [3]) (by kernel_rfl) (by simp) (AllReadyH.cons rfl (fun K hK => ?_) AllReadyH.nil)
  go_simp
  refine (lived_any y _).mono ?_
  rintro x wx ⟨rfl, bx⟩
  go_simp
  refine hK.out _ _ (bnext hH bx hH.size) (fun hG => ?_)
  clear hK K hH bx
  replace hH := hG
  clear hG
  (try simp only [List.getElem_toArray]); (try simp only [List.getElem_cons_succ]); (try simp only [List.getElem_cons_zero]); (try simp only [Act.put]); (try simp only [List.setIfInBounds_toArray]); (try simp only [List.set_cons_succ]); (try simp only [List.set_cons_zero])
  refine wpAnyH_ready (rs := [5]) (by kernel_rfl) (by simp) (AllReadyH.cons rfl (fun K hK => ?_) AllReadyH.nil)
  go_simp
  refine (gone_any z _).mono ?_
  rintro x wx ⟨rfl, bx⟩
  go_simp
  refine hK.out _ _ (bnext hH bx hH.size) (fun hG => ?_)
  clear hK K hH bx
  replace hH := hG
  clear hG
  (try simp only [List.getElem_toArray]); (try simp only [List.getElem_cons_succ]); (try simp only [List.getElem_cons_zero]); (try simp only [Act.put]); (try simp only [List.setIfInBounds_toArray]); (try simp only [List.set_cons_succ]); (try simp only [List.set_cons_zero])
  refine wpAnyH_ready (rs := [6]) (by kernel_rfl) (by simp) (AllReadyH.cons rfl (fun K hK => ?_) AllReadyH.nil)
  go_simp
  refine hK.out _ _ (hH.alloc hH.size _) (fun hG => ?_)
  clear hK K hH
  replace hH := hG
  clear hG
  (try simp only [List.getElem_toArray]); (try simp only [List.getElem_cons_succ]); (try simp only [List.getElem_cons_zero]); (try simp only [Act.put]); (try simp only [List.setIfInBounds_toArray]); (try simp only [List.set_cons_succ]); (try simp only [List.set_cons_zero])
  refine wpAnyH_ready (rs := [7]) (by kernel_rfl) (by simp) (AllReadyH.cons rfl (fun K hK => ?_) AllReadyH.nil)
  go_simp
  refine (CK _ _ (IsList.li6 (rowAt_alloc_at _ _ _ _ rfl) (Nat.zero_le _))).mono ?_
  rintro x wx ⟨rfl, bx⟩
  go_simp
  refine hK.out _ _ (bnext hH bx hH.size) (fun hG => ?_)
  clear hK K hH bx
  replace hH := hG
  clear hG
  (try simp only [List.getElem_toArray]); (try simp only [List.getElem_cons_succ]); (try simp only [List.getElem_cons_zero]); (try simp only [Act.put]); (try simp only [List.setIfInBounds_toArray]); (try simp only [List.set_cons_succ]); (try simp only [List.set_cons_zero])
  refine wpAnyH_take (i := 8) (v := .nilIface) rfl (by kernel_rfl) (by kernel_rfl) (by kernel_rfl) (fun _ _ _ h => h) (Or.inl ⟨by rfl, ?_⟩) hH ?_
  · intro w1 hS; (try dsimp only at hS); go_simp
  (try simp only [List.getElem_toArray]); (try simp only [List.getElem_cons_succ]); (try simp only [List.getElem_cons_zero]); (try simp only [Act.put]); (try simp only [List.setIfInBounds_toArray]); (try simp only [List.set_cons_succ]); (try simp only [List.set_cons_zero])
  refine wpAnyH_done (by kernel_rfl) ?_ _
  have B1 := bnext pB hH pB.size
  have p0 := brow hH q0
  have p1 := brow hH q1
  clear hH q0 q1 pB CK
  go_wp2_with fail
  refine (CO _).mono ?_
  rintro e w1 ⟨rfl, b1⟩
  have B2 := bnext B1 b1 B1.size
  clear b1 B1 p0 p1 CO
  go_wp2_with fail
  go_ret
  exact ⟨rfl, B2.alloc B2.size _⟩
set_option maxRecDepth 100000 in
set_option maxHeartbeats 2000000 in
theorem checkLives_ok (c d : Array Value) (r : Rf) (t : Nat → Int) (y z : Int) (w : World) (hR : IsRoof c r) (hA : IsU8 d 64 t) (ha : r.Aged t) (hf : (inB y 1 100 && inB z 0 200) = true) (ho : ¬ y < r.oldV t) :
    Calls Tryd.prog 48 #[.agg c, .agg d, .int .i64 y, .int .i64 z] w fun e w' => e = .returned .nilIface ∧ Below w.heap.size w w' := by
  obtain ⟨q0, q1, pB⟩ := two_boxes w c d 30 32
  have hc := hR.size
  have hd := hA.size
  have hn0 := fun w => run_neq_nil_nil_at (P := Tryd.prog) (w := w) 83 (by kernel_rfl)
  have hfine : fineB (bn6 y 1 100 z 0 200) 2 = true := by rw [fineB_bn6]; exact hf
  have CK := fun W v h0 => checkAges_ok 0 2 c d r t v (bn6 y 1 100 z 0 200) W hR hA ha h0 (by omega) hfine
  have CO := fun W => oldest_ok c d r t W hR hA ha.1
  have hod : decide (y < r.oldV t) = false := by simp; omega
  generalize r.oldV t = v at *
  generalize (r.oldAt t).1 = p1 at *
  generalize (r.oldAt t).2 = p2 at *
  clear hfine hf ho
  go_enter Tryd.func48, Tryd.ntmps48
  go_wp2_with fail
  refine gen_world fun W hW => ?_
  rw [← hW] at q0 q1 pB
  clear hW
  refine wp_region_held_drew (S := fun w' => Below W.heap.size W w') (by kernel_rfl) ((Below.refl _ _).drew) (fun hH => ?_)
  refine wpAnyH_take (i := 0) (v := .agg c) rfl (by kernel_rfl) (by kernel_rfl) (by kernel_rfl) (fun _ _ _ h => h) (Or.inl ⟨by rfl, ?_⟩) hH ?_
  · intro w1 hS; (try dsimp only at hS); have s0 := brow hS q0; go_simp
  (try simp only [List.getElem_toArray]); (try simp only [List.getElem_cons_succ]); (try simp only [List.getElem_cons_zero]); (try simp only [Act.put]); (try simp only [List.setIfInBounds_toArray]); (try simp only [List.set_cons_succ]); (try simp only [List.set_cons_zero])
  refine wpAnyH_take (i := 1) (v := .agg d) rfl (by kernel_rfl) (by kernel_rfl) (by kernel_rfl) (fun _ _ _ h => h) (Or.inl ⟨by rfl, ?_⟩) hH ?_
  · intro w1 hS; (try dsimp only at hS); have s1 := brow hS q1; go_simp
  (try simp only [List.getElem_toArray]); (try simp only [List.getElem_cons_succ]); (try simp only [List.getElem_cons_zero]); (try simp only [Act.put]); (try simp only [List.setIfInBounds_toArray]); (try simp only [List.set_cons_succ]); (try simp only [List.set_cons_zero])
  refine wpAnyH_take (i := 2) (v := .int .i64 y) rfl (by kernel_rfl) (by kernel_rfl) (by kernel_rfl) (fun _ _ _ h => h) (Or.inl ⟨by rfl, ?_⟩) hH ?_
  · intro w1 hS; (try dsimp only at hS); go_simp
  (try simp only [List.getElem_toArray]); (try simp only [List.getElem_cons_succ]); (try simp only [List.getElem_cons_zero]); (try simp only [Act.put]); (try simp only [List.setIfInBounds_toArray]); (try simp only [List.set_cons_succ]); (try simp only [List.set_cons_zero])
  refine wpAnyH_take (i := 4) (v := .int .i64 z) rfl (by kernel_rfl) (by kernel_rfl) (by kernel_rfl) (fun _ _ _ h => h) (Or.inl ⟨by rfl, ?_⟩) hH ?_
  · intro w1 hS; (try dsimp only at hS); go_simp
  (try simp only [List.getElem_toArray]); (try simp only [List.getElem_cons_succ]); (try simp only [List.getElem_cons_zero]); (try simp only [Act.put]); (try simp only [List.setIfInBounds_toArray]); (try simp only [List.set_cons_succ]); (try simp only [List.set_cons_zero])
  refine wpAnyH_ready (rs := [3]) (by kernel_rfl) (by simp) (AllReadyH.cons rfl (fun K hK => ?_) AllReadyH.nil)
  go_simp
  refine (lived_any y _).mono ?_
  rintro x wx ⟨rfl, bx⟩
  go_simp
  refine hK.out _ _ (bnext hH bx hH.size) (fun hG => ?_)
  clear hK K hH bx
  replace hH := hG
  clear hG
  (try simp only [List.getElem_toArray]); (try simp only [List.getElem_cons_succ]); (try simp only [List.getElem_cons_zero]); (try simp only [Act.put]); (try simp only [List.setIfInBounds_toArray]); (try simp only [List.set_cons_succ]); (try simp only [List.set_cons_zero])
  refine wpAnyH_ready (rs := [5]) (by kernel_rfl) (by simp) (AllReadyH.cons rfl (fun K hK => ?_) AllReadyH.nil)
  go_simp
  refine (gone_any z _).mono ?_
  rintro x wx ⟨rfl, bx⟩
  go_simp
  refine hK.out _ _ (bnext hH bx hH.size) (fun hG => ?_)
  clear hK K hH bx
  replace hH := hG
  clear hG
  (try simp only [List.getElem_toArray]); (try simp only [List.getElem_cons_succ]); (try simp only [List.getElem_cons_zero]); (try simp only [Act.put]); (try simp only [List.setIfInBounds_toArray]); (try simp only [List.set_cons_succ]); (try simp only [List.set_cons_zero])
  refine wpAnyH_ready (rs := [6]) (by kernel_rfl) (by simp) (AllReadyH.cons rfl (fun K hK => ?_) AllReadyH.nil)
  go_simp
  refine hK.out _ _ (hH.alloc hH.size _) (fun hG => ?_)
  clear hK K hH
  replace hH := hG
  clear hG
  (try simp only [List.getElem_toArray]); (try simp only [List.getElem_cons_succ]); (try simp only [List.getElem_cons_zero]); (try simp only [Act.put]); (try simp only [List.setIfInBounds_toArray]); (try simp only [List.set_cons_succ]); (try simp only [List.set_cons_zero])
  refine wpAnyH_ready (rs := [7]) (by kernel_rfl) (by simp) (AllReadyH.cons rfl (fun K hK => ?_) AllReadyH.nil)
  go_simp
  refine (CK _ _ (IsList.li6 (rowAt_alloc_at _ _ _ _ rfl) (Nat.zero_le _))).mono ?_
  rintro x wx ⟨rfl, bx⟩
  go_simp
  refine hK.out _ _ (bnext hH bx hH.size) (fun hG => ?_)
  clear hK K hH bx
  replace hH := hG
  clear hG
  (try simp only [List.getElem_toArray]); (try simp only [List.getElem_cons_succ]); (try simp only [List.getElem_cons_zero]); (try simp only [Act.put]); (try simp only [List.setIfInBounds_toArray]); (try simp only [List.set_cons_succ]); (try simp only [List.set_cons_zero])
  refine wpAnyH_take (i := 8) (v := .nilIface) rfl (by kernel_rfl) (by kernel_rfl) (by kernel_rfl) (fun _ _ _ h => h) (Or.inl ⟨by rfl, ?_⟩) hH ?_
  · intro w1 hS; (try dsimp only at hS); go_simp
  (try simp only [List.getElem_toArray]); (try simp only [List.getElem_cons_succ]); (try simp only [List.getElem_cons_zero]); (try simp only [Act.put]); (try simp only [List.setIfInBounds_toArray]); (try simp only [List.set_cons_succ]); (try simp only [List.set_cons_zero])
  refine wpAnyH_done (by kernel_rfl) ?_ _
  have B1 := bnext pB hH pB.size
  have p0 := brow hH q0
  have p1 := brow hH q1
  clear hH q0 q1 pB CK
  go_wp2_with fail
  refine (CO _).mono ?_
  rintro e w1 ⟨rfl, b1⟩
  have B2 := bnext B1 b1 B1.size
  clear b1 B1 p0 p1 CO
  go_wp2_with fail
  go_ret
  exact ⟨rfl, B2.alloc B2.size _⟩

/-- The k-th visit. -/
def visA (v y : Int) (k : Nat) : Int := y - v + (k : Int) * y
theorem visA_zero (v y : Int) : visA v y 0 = y - v := by simp [visA]
theorem visA_succ (v y : Int) (k : Nat) : visA v y (k + 1) = visA v y k + y := by
  unfold visA; rw [Int.natCast_add, Int.add_mul]; simp; omega
theorem visA_ge {v y : Int} (h0 : v ≤ y) (h1 : 1 ≤ y) : ∀ k : Nat, (k : Int) ≤ visA v y k
  | 0 => by rw [visA_zero]; simp; omega
  | k + 1 => by have := visA_ge h0 h1 k; rw [visA_succ]; omega
/-- How many visits there are. -/
def VisN (v y z : Int) (n : Nat) : Prop := (∀ k, k < n → visA v y k < z) ∧ ¬ visA v y n < z
theorem VisN.one {v y z : Int} {n m : Nat} (h : VisN v y z n) (g : VisN v y z m) : n = m := by
  rcases Nat.lt_trichotomy n m with e | e | e
  · exact absurd (g.1 n e) h.2
  · exact e
  · exact absurd (h.1 m e) g.2
open Classical in
noncomputable def visN (v y z : Int) : Nat := if h : ∃ n, VisN v y z n then h.choose else 0
theorem visN_eq {v y z : Int} {n : Nat} (h : VisN v y z n) : visN v y z = n := by
  unfold visN
  rw [dif_pos ⟨n, h⟩]
  exact (Exists.choose_spec (⟨n, h⟩ : ∃ n, VisN v y z n)).one h

set_option maxRecDepth 100000 in
set_option maxHeartbeats 2000000 in
theorem visitsFor_any (c d : Array Value) (r : Rf) (t : Nat → Int) (y z : Int) (w : World) (hR : IsRoof c r) (hA : IsU8 d 64 t) (ha : r.Aged t) (hy : 1 ≤ y ∧ y ≤ 100) (hz : 0 ≤ z ∧ z ≤ 200) (ho : ¬ y < r.oldV t) :
    Calls Tryd.prog 51 #[.agg c, .agg d, .int .i64 y, .int .i64 z] w fun e w' => ∃ v, e = .returned v ∧ (IsList w' w.heap.size v 1 (visN (r.oldV t) y z) (fun i => .int .i64 (visA (r.oldV t) y i)) ∧ visN (r.oldV t) y z ≤ 200) ∧ Below w.heap.size w w' := by
  obtain ⟨p0, p1, pB⟩ := two_boxes w c d 30 32
  have hc := hR.size
  have hd := hA.size
  obtain ⟨i0, hi0, hz0, hz1, hz2⟩ := info_parts A_infoIw
  have CO := fun W => oldest_ok c d r t W hR hA ha.1
  have vb := Rf.oldV_bd ha hA.lo
  obtain ⟨v, hov⟩ : ∃ v, r.oldV t = v := ⟨_, rfl⟩
  rw [hov] at vb ho ⊢
  simp only [hov] at CO
  clear hov
  generalize (r.oldAt t).1 = a1 at *
  generalize (r.oldAt t).2 = a2 at *
  have hge := Lib.hid (visA_ge (v := v) (y := y) (by omega) hy.1)
  have hsu := Lib.hid (visA_succ v y)
  have hze := Lib.hid (visA_zero v y)
  go_enter Tryd.func51, Tryd.ntmps51
  go_wp2_with fail
  refine (CO _).mono ?_
  rintro e w1 ⟨rfl, b1⟩
  have B1 := bnext pB b1 pB.size
  clear b1 p0 p1 pB CO
  go_wp2_with fail
  refine gen_world fun W hW => ?_
  have B2 : Below w.heap.size w W := by rw [hW]; go_simp; exact B1.alloc B1.size _
  clear hW B1
  go_loopw [11, 12] (fun u i W' => ∃ (n : Nat) (b : Int), n ≤ 200 ∧ i = .int .i64 b ∧ Hid (b = visA v y n) ∧ (0 ≤ b ∧ b ≤ 300) ∧ Hid (∀ k, k < n → visA v y k < z) ∧ W'.ownsRow w.heap.size 2 1 u n (intsV (visA v y) n) ∧ Below w.heap.size w W') (fun _ i _ => (z - intOf i).toNat)
  case atStart => exact ⟨0, y - v, by omega, rfl, Lib.hid hze.out.symm, by omega, Lib.hid (by omega), World.ownsRow_nil _ _ _ _, B2⟩
  case round =>
    clear B2
    obtain ⟨n, b, hn, rfl, hb, hb0, hF, hv, hB⟩ := hrel
    by_cases hlt : b < z
    · have hdl : decide (b < z) = true := by simp [hlt]
      have hg : (n : Int) ≤ b := by rw [hb.out]; exact hge.out n
      obtain ⟨wo, hwo⟩ : ∃ wo : World, wo = wr := ⟨_, rfl⟩
      rw [← hwo] at hv hB ⊢
      clear hwo
      go_wp2_with (at_builtin; refine Go.wpList_append_own_at _ rfl _ _ 27 rfl w.heap.size 2 i0 (.int .i64 0) 1 8 Tryd.underlying27 hi0 hz0 hz1 hz2 rfl (by decide) _ _ _ rfl (hv.alloc _) ⟨wo.heap.size, 0, none⟩ 1 1 [.int .i64 b] rfl rfl (cell_one_new _ _ _) (by simp [Value.oneCell']) (by unfold maxLen; omega) (by omega) (by have := hB.size; simp; omega) ?_; intro v3 w3 own3 grow3 _ _)
      have B3 := (hB.alloc hB.size _).grown grow3 (by have := hB.size; simp; omega) (owns_base hv)
      rw [show (.int .i64 b : Value) = .int .i64 (visA v y n) by rw [hb.out], intsV_succ] at own3
      clear grow3 hv hB
      go_wp2_with fail
      refine ⟨⟨n + 1, b + y, by omega, by go_num, Lib.hid (by rw [hsu.out, hb.out]), by omega, Lib.hid (fun k hk => ?_), own3, B3⟩, by simp [intOf]; omega⟩
      by_cases hkn : k < n
      · exact hF.out k hkn
      · obtain rfl : k = n := by omega
        rw [← hb.out]; exact hlt
    · have hdl : decide (b < z) = false := by simp; omega
      have hN := Lib.hid (show visN v y z = n from visN_eq ⟨hF.out, by rw [← hb.out]; exact hlt⟩)
      have hl := IsList.of_intsV hv
      clear hv
      go_wp2_with fail
      go_ret
      rw [hN.out]
      exact ⟨_, rfl, ⟨hl, hn⟩, hB⟩

set_option maxRecDepth 100000 in
set_option maxHeartbeats 2000000 in
theorem l07Visits_ok (k0 n0 : Nat) (c d : Array Value) (r : Rf) (t : Nat → Int) (y z : Int) (w : World) (hr : rowAt w k0 = some c) (hR : IsRoof c r) (hd : rowAt w n0 = some d) (hA : IsU8 d 64 t) (ha : r.Aged t) (hy : 1 ≤ y ∧ y ≤ 100) (hz : 0 ≤ z ∧ z ≤ 200) (ho : ¬ y < r.oldV t) :
    Calls Tryd.prog 43 #[.pointer (some ⟨k0, 0, none⟩), .pointer (some ⟨n0, 0, none⟩), .int .i64 y, .int .i64 z] w fun e w' => ∃ v, e = .returned (.tuple #[v, .bool true]) ∧ IsList w' w.heap.size v 1 (visN (r.oldV t) y z) (fun i => .int .i64 (visA (r.oldV t) y i)) ∧ Below w.heap.size w w' := by
  obtain ⟨i0, hi0, hz0, hz1, hz2⟩ := info_parts A_infoIw
  have hB0 : Below w.heap.size w (w.alloc (.cells #[] 2)) := (Below.refl _ _).alloc (Nat.le_refl _) _
  have r0 := brow hB0 hr
  have r1 := brow hB0 hd
  have ow := owns_empty w 2 1
  have CO := fun W h0 h1 => l07Oldest_ok k0 n0 c d r t W h0 hR h1 hA ha.1
  have vb := Rf.oldV_bd ha hA.lo
  have hod : decide (y < r.oldV t) = false := by simp; omega
  obtain ⟨v, hov⟩ : ∃ v, r.oldV t = v := ⟨_, rfl⟩
  rw [hov] at vb ho hod ⊢
  simp only [hov] at CO
  clear hov
  generalize (r.oldAt t).1 = a1 at *
  generalize (r.oldAt t).2 = a2 at *
  have hge := Lib.hid (visA_ge (v := v) (y := y) (by omega) hy.1)
  have hsu := Lib.hid (visA_succ v y)
  have hze := Lib.hid (visA_zero v y)
  go_enter Tryd.func43, Tryd.ntmps43
  go_wp2_with fail
  refine (CO _ r0 r1).mono ?_
  rintro e w1 ⟨rfl, b1⟩
  have B1 := bnext hB0 b1 hB0.size
  have ow1 := owns_below ow b1
  clear b1 r0 r1 hB0 ow CO hr hd
  go_wp2_with fail
  refine gen_world fun W hW => ?_
  have B2 : Below w.heap.size w W := by rw [hW]; go_simp; exact B1.alloc B1.size _
  have ow2 : W.ownsRow w.heap.size 2 1 (.slice (some ⟨w.heap.size, 0, none⟩) 0 0) 0 [] := by rw [hW]; go_simp; exact ow1.alloc _
  clear hW B1 ow1
  go_loopw [10, 13] (fun u i W' => ∃ (n : Nat) (b : Int), n ≤ 200 ∧ i = .int .i64 b ∧ Hid (b + y = visA v y n) ∧ (-100 ≤ b ∧ b ≤ 300) ∧ Hid (∀ k, k < n → visA v y k < z) ∧ W'.ownsRow w.heap.size 2 1 u n (intsV (visA v y) n) ∧ Below w.heap.size w W') (fun _ i _ => (z - intOf i).toNat)
  case atStart => exact ⟨0, -v, by omega, rfl, Lib.hid (by rw [hze.out]; omega), by omega, Lib.hid (by omega), ow2, B2⟩
  case round =>
    clear B2 ow2
    obtain ⟨n, b, hn, rfl, hb, hb0, hF, hv, hB⟩ := hrel
    by_cases hlt : b + y < z
    · have hdl : decide (y < z - b) = true := by simp; omega
      have hg : (n : Int) ≤ b + y := by rw [hb.out]; exact hge.out n
      obtain ⟨wo, hwo⟩ : ∃ wo : World, wo = wr := ⟨_, rfl⟩
      rw [← hwo] at hv hB ⊢
      clear hwo
      go_wp2_with (at_builtin; refine Go.wpList_append_own_at _ rfl _ _ 27 rfl w.heap.size 2 i0 (.int .i64 0) 1 8 Tryd.underlying27 hi0 hz0 hz1 hz2 rfl (by decide) _ _ _ rfl (hv.alloc _) ⟨wo.heap.size, 0, none⟩ 1 1 [.int .i64 (b + y)] rfl rfl (cell_one_new _ _ _) (by simp [Value.oneCell']) (by unfold maxLen; omega) (by omega) (by have := hB.size; simp; omega) ?_; intro v3 w3 own3 grow3 _ _)
      have B3 := (hB.alloc hB.size _).grown grow3 (by have := hB.size; simp; omega) (owns_base hv)
      rw [show (.int .i64 (b + y) : Value) = .int .i64 (visA v y n) by rw [hb.out], intsV_succ] at own3
      clear grow3 hv hB
      go_wp2_with fail
      refine ⟨⟨n + 1, b + y, by omega, by go_num, Lib.hid (by rw [hsu.out, hb.out]), by omega, Lib.hid (fun k hk => ?_), own3, B3⟩, by simp [intOf]; omega⟩
      by_cases hkn : k < n
      · exact hF.out k hkn
      · obtain rfl : k = n := by omega
        rw [← hb.out]; exact hlt
    · have hdl : decide (y < z - b) = false := by simp; omega
      have hN := Lib.hid (show visN v y z = n from visN_eq ⟨hF.out, by rw [← hb.out]; exact hlt⟩)
      have hl := IsList.of_intsV hv
      clear hv
      go_wp2_with fail
      go_ret2
      rw [hN.out]
      exact ⟨_, rfl, hl, hB⟩
end Go.Proofs.YtcdddngdjhjdbaaDoor

/- Contracts on the cells of a tile. -/
namespace Go.Proofs.YtcdddngdjhjdbaaDoor
open Go.RowKit

/-- What a call that makes a list of numbers ends with. -/
def GivesInts (w : World) (n : Nat) (f : Nat → Int) (code : Int) (e : Ending) (w' : World) : Prop :=
  ∃ v, e = .returned (.tuple #[v, .int .i64 code]) ∧ IsList w' w.heap.size v 1 n (fun i => .int .i64 (f i)) ∧ Below w.heap.size w w'

theorem l01By_q (n : Nat) (c : Array Value) (r : Rf) (k : Int) (w : World) (hr : rowAt w n = some c) (hR : IsRoof c r) (hk : 0 ≤ k ∧ k ≤ 1000) :
    Calls Tryd.prog 173 #[.pointer (some ⟨n, 0, none⟩), .int .i64 k] w fun e w' => e = .returned (.int .i64 (r.by k)) ∧ w' = w :=
  (l01By_any n c r k w hr hR hk).mono fun _ _ h => ⟨h.1, h.2.symm⟩

end Go.Proofs.YtcdddngdjhjdbaaDoor

/- VisitsFor: both sides. -/
namespace Go.Proofs.YtcdddngdjhjdbaaDoor
open Go.RowKit

/-- How many visits are told. -/
noncomputable def Rf.viN (r : Rf) (t : Nat → Int) (y z : Int) : Nat := if r.livC t y z = 0 then visN (r.oldV t) y z else 0
theorem Rf.livC_v {r : Rf} {t : Nat → Int} {y z : Int} (h : ¬ r.Aged t) : r.livC t y z = 1 := by
  unfold Rf.livC; rw [Rf.ageC_v h]; rfl
theorem Rf.livC_r {r : Rf} {t : Nat → Int} {y z : Int} (h : r.Aged t) (hf : (inB y 1 100 && inB z 0 200) = false) : r.livC t y z = 2 := by
  unfold Rf.livC; rw [Rf.ageC_r h hf]; rfl
theorem Rf.livC_t {r : Rf} {t : Nat → Int} {y z : Int} (h : r.Aged t) (hf : (inB y 1 100 && inB z 0 200) = true) (ho : y < r.oldV t) : r.livC t y z = 6 := by
  unfold Rf.livC; rw [Rf.ageC_ok h hf, if_pos rfl, if_pos ho]
theorem Rf.livC_ok {r : Rf} {t : Nat → Int} {y z : Int} (h : r.Aged t) (hf : (inB y 1 100 && inB z 0 200) = true) (ho : ¬ y < r.oldV t) : r.livC t y z = 0 := by
  unfold Rf.livC; rw [Rf.ageC_ok h hf, if_pos rfl, if_neg ho]
theorem Rf.ageC_zeroV {r : Rf} {t : Nat → Int} {b : Bool} (h : r.ageC t b = 0) : r.Aged t ∧ b = true := by
  rcases Classical.em (r.Aged t) with ha | ha
  · cases b with
    | true => exact ⟨ha, rfl⟩
    | false => rw [Rf.ageC_r ha rfl] at h; cases h
  · rw [Rf.ageC_v ha] at h; cases h
theorem inB_and {y z : Int} (hf : (inB y 1 100 && inB z 0 200) = true) : (1 ≤ y ∧ y ≤ 100) ∧ 0 ≤ z ∧ z ≤ 200 := by
  simpa [inB] using hf
theorem Rf.viN_no {r : Rf} {t : Nat → Int} {y z : Int} {k : Int} (h : r.livC t y z = k) (hk : k ≠ 0) : r.viN t y z = 0 := if_neg (by rw [h]; exact hk)

set_option maxRecDepth 100000 in
set_option maxHeartbeats 2000000 in
theorem l07Visits_no (k0 n0 : Nat) (c d : Array Value) (r : Rf) (t : Nat → Int) (y z : Int) (w : World) (hr : rowAt w k0 = some c) (hR : IsRoof c r) (hd : rowAt w n0 = some d) (hA : IsU8 d 64 t) (ha : r.Aged t) (ho : y < r.oldV t) :
    Calls Tryd.prog 43 #[.pointer (some ⟨k0, 0, none⟩), .pointer (some ⟨n0, 0, none⟩), .int .i64 y, .int .i64 z] w fun e w' => e = .returned (.tuple #[.slice (some ⟨w.heap.size, 0, none⟩) 0 0, .bool false]) ∧ Below w.heap.size w w' := by
  have hB0 : Below w.heap.size w (w.alloc (.cells #[] 2)) := (Below.refl _ _).alloc (Nat.le_refl _) _
  have r0 := brow hB0 hr
  have r1 := brow hB0 hd
  have CO := fun W h0 h1 => l07Oldest_ok k0 n0 c d r t W h0 hR h1 hA ha.1
  have hod : decide (y < r.oldV t) = true := by simp [ho]
  generalize r.oldV t = v at *
  generalize (r.oldAt t).1 = a1 at *
  generalize (r.oldAt t).2 = a2 at *
  clear ho
  go_enter Tryd.func43, Tryd.ntmps43
  go_wp2_with fail
  refine (CO _ r0 r1).mono ?_
  rintro e w1 ⟨rfl, b1⟩
  have B1 := bnext hB0 b1 hB0.size
  clear b1 r0 r1 hB0 CO hr hd
  go_wp2_with fail
  go_ret2
  exact ⟨rfl, B1.alloc B1.size _⟩

theorem Rf.viN_le (d : Array Value) (r : Rf) (t : Nat → Int) (y z : Int) (hA : IsU8 d 64 t) : r.viN t y z ≤ 1000000 := by
  unfold Rf.viN
  split
  · rename_i h
    have ha : r.Aged t := by
      rcases Classical.em (r.Aged t) with ha | ha
      · exact ha
      · rw [Rf.livC_v ha] at h; cases h
    have hf : (inB y 1 100 && inB z 0 200) = true := by
      cases hf : (inB y 1 100 && inB z 0 200) with
      | true => rfl
      | false => rw [Rf.livC_r ha hf] at h; cases h
    have ho : ¬ y < r.oldV t := fun ho => by rw [Rf.livC_t ha hf ho] at h; cases h
    obtain ⟨yb, zb⟩ := inB_and hf
    unfold visN
    split
    · rename_i hx
      have hs := Exists.choose_spec hx
      have hb := Rf.oldV_bd ha hA.lo
      rcases Nat.eq_zero_or_pos hx.choose with e | e
      · omega
      · have h1 := hs.1 (hx.choose - 1) (by omega)
        have h2 := visA_ge (v := r.oldV t) (y := y) (by omega) yb.1 (hx.choose - 1)
        omega
    · omega
  · omega
end Go.Proofs.YtcdddngdjhjdbaaDoor

/- ReplacedAt: the model's side. -/
namespace Go.Proofs.YtcdddngdjhjdbaaDoor
open Go.RowKit

/-- The visits, and behind them the last year. -/
noncomputable def Rf.visL (r : Rf) (t : Nat → Int) (y z : Int) (k : Nat) : Int := if k < visN (r.oldV t) y z then visA (r.oldV t) y k else z
noncomputable def Rf.repF (r : Rf) (t : Nat → Int) (y z : Int) : Nat → Int := cntR r.h.toNat r.w.toNat t (r.visL t y z) y
/-- There is a number of visits. -/
theorem visN_is {v y z : Int} (h0 : v ≤ y) (h1 : 1 ≤ y) : VisN v y z (visN v y z) := by
  have key : ∀ m : Nat, (∀ k, k < m → visA v y k < z) ∨ ∃ n, VisN v y z n := fun m => by
    induction m with
    | zero => exact .inl (by omega)
    | succ m ih =>
      rcases ih with h | h
      · by_cases e : visA v y m < z
        · refine .inl fun k hk => ?_
          by_cases ek : k = m
          · rw [ek]; exact e
          · exact h k (by omega)
        · exact .inr ⟨m, h, e⟩
      · exact .inr h
  obtain ⟨n, hn⟩ : ∃ n, VisN v y z n := by
    rcases key (z.toNat + 1) with h | h
    · have a := h z.toNat (by omega)
      have b := visA_ge h0 h1 z.toNat
      omega
    · exact h
  rw [visN_eq hn]; exact hn
theorem visN_le {v y z : Int} (h0 : v ≤ y) (h1 : 1 ≤ y) (hz : z ≤ 200) : visN v y z ≤ 200 := by
  have h := visN_is (z := z) h0 h1
  rcases Nat.eq_zero_or_pos (visN v y z) with e | e
  · omega
  · have a := h.1 (visN v y z - 1) (by omega)
    have b := visA_ge h0 h1 (visN v y z - 1)
    omega
theorem Rf.visL_lt {r : Rf} {t : Nat → Int} {y z : Int} {k : Nat} (h : k < visN (r.oldV t) y z) : r.visL t y z k = visA (r.oldV t) y k := if_pos h
theorem Rf.visL_end {r : Rf} {t : Nat → Int} {y z : Int} : r.visL t y z (visN (r.oldV t) y z) = z := if_neg (by omega)
theorem Rf.visL_step {r : Rf} {t : Nat → Int} {y z : Int} (h0 : r.oldV t ≤ y) (h1 : 1 ≤ y) : ∀ k, k < visN (r.oldV t) y z → 0 ≤ r.visL t y z (k + 1) - r.visL t y z k ∧ r.visL t y z (k + 1) - r.visL t y z k ≤ y := fun k hk => by
  have h := visN_is (z := z) h0 h1
  rw [Rf.visL_lt hk]
  have s := visA_succ (r.oldV t) y k
  by_cases e : k + 1 < visN (r.oldV t) y z
  · rw [Rf.visL_lt e, s]; omega
  · have e2 : k + 1 = visN (r.oldV t) y z := by omega
    rw [show r.visL t y z (k + 1) = z from if_neg e]
    have a := h.1 k hk
    have b := h.2
    rw [← e2, s] at b
    omega
theorem Rf.visL_bd {r : Rf} {t : Nat → Int} {y z : Int} (h0 : r.oldV t ≤ y) (h1 : 1 ≤ y) (hz : 0 ≤ z ∧ z ≤ 200) : ∀ k, k ≤ visN (r.oldV t) y z → 0 ≤ r.visL t y z k ∧ r.visL t y z k ≤ 200 := fun k hk => by
  by_cases e : k < visN (r.oldV t) y z
  · rw [Rf.visL_lt e]
    have a := (visN_is (z := z) h0 h1).1 k e
    have b := visA_ge h0 h1 k
    omega
  · rw [show r.visL t y z k = z from if_neg e]; exact hz
theorem Rf.visL_zero {r : Rf} {t : Nat → Int} {y z : Int} {hh ww : Nat} (hhe : r.h = hh) (hwe : r.w = ww) (w8 : ww ≤ 8) (h0 : r.oldV t ≤ y) (h1 : 1 ≤ y) (hz : 0 ≤ z) (hb : ∀ i, i < 64 → 0 ≤ t i) (h8 : hh ≤ 8) : ∀ i, i / 8 < hh ∧ i % 8 < ww → 0 ≤ t i + r.visL t y z 0 ∧ t i + r.visL t y z 0 ≤ y := fun i hi => by
  obtain ⟨x, hx, e⟩ := (ix_all w8).2 hi
  have hm := oldP_max (t := t) _ x hx
  have hv : t i ≤ r.oldV t := by
    have e2 : r.h.toNat = hh := by omega
    have e3 : r.w.toNat = ww := by omega
    rw [← e]
    have : r.oldV t = t ((oldP t (plUpto hh ww (hh * ww))).1 * 8 + (oldP t (plUpto hh ww (hh * ww))).2) := by
      unfold Rf.oldV Rf.oldAt
      rw [e2, e3]
    rw [this]; exact hm
  have hl := hb i (by omega)
  have h := visN_is (z := z) h0 h1
  by_cases e0 : 0 < visN (r.oldV t) y z
  · rw [Rf.visL_lt e0, visA_zero]; omega
  · have e1 : visN (r.oldV t) y z = 0 := by omega
    rw [show r.visL t y z 0 = z from if_neg e0]
    have b := h.2
    rw [e1, visA_zero] at b
    omega
/-- The cell of the place i. -/
def cellQ (w i : Nat) : Nat := i / w * 8 + i % w
theorem cellQ_lt {h w i : Nat} (h8 : h ≤ 8) (w8 : w ≤ 8) (hi : i < h * w) : cellQ w i < 64 := by
  have := pl_in hi
  unfold cellQ; omega
theorem madeK_bd {t vis : Nat → Int} {y : Int} {N : Nat} (ht : ∀ i, i < 64 → 0 ≤ t i ∧ t i ≤ 255) (hv : ∀ k, k ≤ N → 0 ≤ vis k ∧ vis k ≤ 200) : ∀ k, k ≤ N → ∀ i, i < 64 → -255 ≤ madeK t vis y k i ∧ madeK t vis y k i ≤ 200
  | 0, _, i, hi => by have := ht i hi; simp only [madeK]; omega
  | k + 1, hk, i, hi => by
    have a := madeK_bd (y := y) ht hv k (by omega) i hi
    have b := hv k (by omega)
    simp only [madeK]
    split <;> omega
def iniK (t : Nat → Int) (w m i : Nat) : Int := if i < m then - t (cellQ w i) else 0
theorem iniK_set {t : Nat → Int} (w m : Nat) : upd (iniK t w m) m (- t (cellQ w m)) = iniK t w (m + 1) := by
  funext i
  unfold upd iniK
  by_cases e : i = m
  · subst e; rw [if_pos rfl, if_pos (by omega)]
  · rw [if_neg e]
    by_cases h : i < m
    · rw [if_pos h, if_pos (by omega)]
    · rw [if_neg h, if_neg (by omega)]
theorem iniK_all {t vis : Nat → Int} {y : Int} (w : Nat) {m i : Nat} (hi : i < m) : iniK t w m i = madeK t vis y 0 (cellQ w i) := if_pos hi
def mixK (t vis : Nat → Int) (y : Int) (w k m i : Nat) : Int := if i < m then madeK t vis y (k + 1) (cellQ w i) else madeK t vis y k (cellQ w i)
theorem mixK_zero {t vis : Nat → Int} {y : Int} {w k : Nat} : mixK t vis y w k 0 = fun i => madeK t vis y k (cellQ w i) := by
  funext i; exact if_neg (by omega)
theorem mixK_at {t vis : Nat → Int} {y : Int} {w k m : Nat} : mixK t vis y w k m m = madeK t vis y k (cellQ w m) := if_neg (by omega)
theorem mixK_set {t vis : Nat → Int} {y : Int} (w k m : Nat) : upd (mixK t vis y w k m) m (madeK t vis y (k + 1) (cellQ w m)) = mixK t vis y w k (m + 1) := by
  funext i
  unfold upd
  by_cases e : i = m
  · subst e; rw [if_pos rfl]; exact (if_pos (by omega)).symm
  · rw [if_neg e]
    unfold mixK
    by_cases h : i < m
    · rw [if_pos h, if_pos (by omega)]
    · rw [if_neg h, if_neg (by omega)]
theorem mixK_skip {t vis : Nat → Int} {y : Int} (w k m : Nat) (h : madeK t vis y (k + 1) (cellQ w m) = madeK t vis y k (cellQ w m)) : mixK t vis y w k (m + 1) = mixK t vis y w k m := by
  funext i
  unfold mixK
  by_cases e : i = m
  · subst e; rw [if_pos (by omega), if_neg (by omega), h]
  · by_cases h2 : i < m
    · rw [if_pos h2, if_pos (by omega)]
    · rw [if_neg h2, if_neg (by omega)]
theorem mixK_all {t vis : Nat → Int} {y : Int} (w : Nat) {k m i : Nat} (hi : i < m) : mixK t vis y w k m i = madeK t vis y (k + 1) (cellQ w i) := if_pos hi
theorem made_rowR {w : World} {base g q : Nat} {e : TypeId} (h : w.ownsRow base e 1 (.slice (some ⟨g, 0, none⟩) q q) q (madeCells #[.int .i64 0] q).toList) : rowAt w g = some (mkI .i64 q fun _ => 0) := by
  obtain ⟨hl, ⟨h, _⟩ | ⟨g', cap, cur, he, hg, hh, hn, hm, hs, ht⟩⟩ := h
  · cases h
  · cases he
    rw [rowAt_of_heap hh]
    refine congrArg some (IsK.of_get (by omega) fun i hi => ?_).eq
    have h1 : cur[i]? = (cur.toList.take (q * 1))[i]? := by rw [List.getElem?_take, if_pos (by omega), Array.getElem?_toList]
    rw [h1, ht, toList_madeCells_one, List.getElem?_replicate, if_pos hi]
theorem owns_zeroR (w : World) (e : TypeId) (size : Nat) {b : Nat} (hb : b ≤ w.heap.size) : (w.alloc (.cells #[] e)).ownsRow b e size (.slice (some ⟨w.heap.size, 0, none⟩) 0 0) 0 [] :=
  ⟨by simp, .inr ⟨_, 0, #[], rfl, hb, heap_alloc_new w _, Nat.le_refl _, Nat.zero_le _, by simp, by simp⟩⟩
theorem IsList.congrR {w : World} {b sz n : Nat} {v : Value} {f g : Nat → Value} (h : IsList w b v sz n f) (e : ∀ i, i < n * sz → f i = g i) : IsList w b v sz n g := by
  rcases h with h | ⟨x, cap, cur, rfl, hg, hr, hs, hf⟩
  · exact .inl h
  · exact .inr ⟨x, cap, cur, rfl, hg, hr, hs, fun i hi => by rw [hf i hi, e i hi]⟩

set_option maxRecDepth 100000 in
set_option maxHeartbeats 8000000 in
theorem specReplacedAt_any (c d : Array Value) (r : Rf) (t : Nat → Int) (y z : Int) (w : World) (hR : IsRoof c r) (hA : IsU8 d 64 t) :
    Calls Tryd.prog 10 #[.agg c, .agg d, .int .i64 y, .int .i64 z] w (GivesInts w (r.viN t y z) (r.repF t y z) (r.livC t y z)) := by
  obtain ⟨i0, hi0, hz0, hz1, hz2⟩ := info_parts A_infoIw
  obtain ⟨p0, p1, pB⟩ := two_boxes w c d 30 32
  have CL := fun W => l07Life_any y W
  have CY := fun W => l07Years_any z W
  have CA := fun W h0 h1 => l07Asked_any w.heap.size (w.heap.size + 1) c d r t (inB y 1 100 && inB z 0 200) W h0 hR h1 hA
  by_cases hz : r.ageC t (inB y 1 100 && inB z 0 200) = 0
  · have hzb : (r.ageC t (inB y 1 100 && inB z 0 200) != 0) = false := by simp [hz]
    obtain ⟨ha, hf⟩ := Rf.ageC_zeroV hz
    obtain ⟨yb, zb⟩ := inB_and hf
    have h1 : inB y 1 100 = true := inB_true yb
    have h2 : inB z 0 200 = true := inB_true zb
    rw [hf] at CA hzb
    rw [h1] at CL
    rw [h2] at CY
    by_cases ho : y < r.oldV t
    · have hcd := Rf.livC_t ha hf ho
      rw [Rf.viN_no hcd (by decide), hcd]
      have CV := fun W a b => l07Visits_no w.heap.size (w.heap.size + 1) c d r t y z W a hR b hA ha ho
      generalize r.ageC t true = k at *
      clear hcd hf h1 h2 ho hz
      go_enter Tryd.func10, Tryd.ntmps10
      go_wp2_with fail
      refine (CL _).mono ?_
      rintro e w1 ⟨rfl, rfl⟩
      go_wp2_with fail
      refine (CY _).mono ?_
      rintro e w1 ⟨rfl, rfl⟩
      go_wp2_with fail
      refine (CA _ p0 p1).mono ?_
      rintro e w1 ⟨rfl, b1⟩
      have r0 := brow b1 p0
      have r1 := brow b1 p1
      have B1 := bnext pB b1 pB.size
      clear b1 p0 p1 pB CA CL CY
      go_wp2_with fail
      refine (CV _ r0 r1).mono ?_
      rintro e w2 ⟨rfl, b2⟩
      have B2 := bnext B1 b2 B1.size
      clear b2 B1 r0 r1 CV
      go_wp2_with fail
      go_ret2
      exact ⟨_, rfl, .inl ⟨rfl, _, _, rfl⟩, B2.alloc B2.size _⟩
    · have hcd := Rf.livC_ok ha hf ho
      have hN : r.viN t y z = visN (r.oldV t) y z := if_pos hcd
      rw [hN, hcd]
      have CV := fun W a b => l07Visits_ok w.heap.size (w.heap.size + 1) c d r t y z W a hR b hA ha yb zb ho
      have hh0 := ha.1.1
      have hw0 := ha.1.2.2.1
      obtain ⟨hh, hhe⟩ : ∃ hh : Nat, r.h = hh := Int.eq_ofNat_of_zero_le (by have := ha.1.2.2.1; omega)
      obtain ⟨ww, hwe⟩ : ∃ ww : Nat, r.w = ww := Int.eq_ofNat_of_zero_le (by have := ha.1.1; omega)
      have h8 : hh ≤ 8 := by have := ha.1.2.2.2.1; omega
      have w8 : ww ≤ 8 := by have := ha.1.2.1; omega
      have hov := Rf.oldV_bd ha hA.lo
      have hvN := visN_le (z := z) (show r.oldV t ≤ y by omega) yb.1 zb.2
      have HV0 := Lib.hid (Rf.visL_bd (r := r) (t := t) (show r.oldV t ≤ y by omega) yb.1 zb)
      have HVL := Lib.hid (fun k (h : k < visN (r.oldV t) y z) => Rf.visL_lt (r := r) (t := t) (y := y) (z := z) h)
      have HVE := Lib.hid (Rf.visL_end (r := r) (t := t) (y := y) (z := z))
      have HRF : r.repF t y z = cntR hh ww t (r.visL t y z) y := by unfold Rf.repF; rw [show r.h.toNat = hh by omega, show r.w.toNat = ww by omega]
      rw [HRF]
      clear HRF hh0 hw0
      obtain ⟨vis, hvis⟩ : ∃ f, r.visL t y z = f := ⟨_, rfl⟩
      rw [hvis] at HV0 HVL HVE ⊢
      have HMB := Lib.hid (fun k hk => madeK_bd (y := y) (fun i hi => ⟨hA.lo i hi, hA.hi i hi⟩) HV0.out k hk)
      generalize visN (r.oldV t) y z = N at *
      generalize visA (r.oldV t) y = G at *
      generalize r.ageC t true = k at *
      obtain ⟨M, hM⟩ : ∃ M, hh * ww = M := ⟨_, rfl⟩
      have hM64 : M ≤ 64 := by rw [← hM]; exact Nat.mul_le_mul h8 w8
      have HM := Lib.hid hM
      clear hcd hf h1 h2 ho hz hN hov hvis
      go_enter Tryd.func10, Tryd.ntmps10
      go_wp2_with fail
      refine (CL _).mono ?_
      rintro e w1 ⟨rfl, rfl⟩
      go_wp2_with fail
      refine (CY _).mono ?_
      rintro e w1 ⟨rfl, rfl⟩
      go_wp2_with fail
      refine (CA _ p0 p1).mono ?_
      rintro e w1 ⟨rfl, b1⟩
      have r0 := brow b1 p0
      have r1 := brow b1 p1
      have B1 := bnext pB b1 pB.size
      clear b1 p0 p1 pB CA CL CY
      go_wp2_with fail
      refine (CV _ r0 r1).mono ?_
      rintro e w2 ⟨v, rfl, l2, b2⟩
      have B2 := bnext B1 b2 B1.size
      have s0 := brow b2 r0
      have s1 := brow b2 r1
      replace l2 := l2.mono B1.size
      obtain ⟨av, cv, rfl⟩ := l2.shape
      clear B1
      go_wp2_with fail
      refine (l01All_any w.heap.size c r hh ww hhe hwe h8 w8 _ s0 hR).mono ?_
      rintro e W0 ⟨va, rfl, la, b3⟩
      have t1 := brow b3 s1
      have B3 := bnext B2 b3 B2.size
      have LV := Lib.hid (l2.below b3 (Nat.le_refl _))
      rw [plUpto_size (Nat.le_refl _), hM] at la
      obtain ⟨aa, ca, rfl⟩ := la.shape
      have LA := Lib.hid la
      clear hM
      clear b3 b2 B2 s0 s1 l2 la CV r0 r1
      go_wp2_with (at_make; refine wpList_make_full _ rfl _ _ 27 rfl W0.heap.size 2 i0 (.int .i64 0) 1 Tryd.underlying27 hi0 hz0 hz1 .i64 .i64 M M M rfl rfl rfl rfl (by rw [hz2]; omega) (by unfold maxLen; omega) (Nat.le_refl _) ?_)
      intro w4 own4 grow4
      have rg := made_rowR own4
      have B4 : Below W0.heap.size W0 w4 := (Below.refl W0.heap.size W0).grown grow4 (Nat.le_refl _) (by intro x hx; cases hx)
      clear own4 grow4
      go_wp2_with fail
      go_loopw [15] (fun i V => ∃ m : Nat, m ≤ M ∧ i = .int .i64 m ∧ rowAt V W0.heap.size = some (mkI .i64 M (iniK t ww m)) ∧ Below W0.heap.size W0 V) (fun i _ => M - (intOf i).toNat)
      case atStart => exact ⟨0, by omega, rfl, rg, B4⟩
      case round =>
        clear rg B4
        obtain ⟨m, hm, rfl, rm, hB⟩ := hrel
        by_cases hmt : m < M
        · have m0 : 0 ≤ (m : Int) := by omega
          have m1 : (m : Int) < M := by omega
          have hmq : m < hh * ww := by rw [HM.out]; exact hmt
          have hp := pl_in hmq
          have i8 : m / ww < 8 := by omega
          have j8 : m % ww < 8 := by omega
          obtain ⟨h0, _⟩ | ⟨ga, capa, cura, e1, hga, hra, hsa, hfa⟩ := LA.out.below hB (Nat.le_refl _)
          · omega
          cases e1
          have c0 : wr.cell? ⟨ga, m * 2, none⟩ = some (.int .i8 ((m / ww : Nat) : Int)) := (cell_of_rowAt hra _).trans ((hfa _ (by omega)).trans (congrArg (fun z => some (Value.int .i8 z)) (plAt_even (Nat.le_of_eq HM.out.symm) hmt)))
          have c1 : wr.cell? ⟨ga, m * 2 + 1, none⟩ = some (.int .i8 ((m % ww : Nat) : Int)) := (cell_of_rowAt hra _).trans ((hfa _ (by omega)).trans (congrArg (fun z => some (Value.int .i8 z)) (plAt_odd (Nat.le_of_eq HM.out.symm) hmt)))
          have CA := l07Age_any (w.heap.size + 1) d t (m / ww) (m % ww) wr (brow hB t1) hA i8 j8
          have tb := hA.lo (m / ww * 8 + m % ww) (by omega)
          have tb2 := hA.hi (m / ww * 8 + m % ww) (by omega)
          have HCQ := Lib.hid (show cellQ ww m = m / ww * 8 + m % ww from rfl)
          have HSI := Lib.hid (iniK_set (t := t) ww m)
          rw [HCQ.out] at HSI
          generalize t (m / ww * 8 + m % ww) = tv at *
          clear hfa hsa HCQ
          generalize m / ww = i at *
          generalize m % ww = j at *
          go_wp2_with fail
          refine CA.mono ?_
          rintro e w5 ⟨rfl, b5⟩
          have rm5 := brow b5 rm
          have fm := frozen_of_rowAt rm5 m
          have lm := rowAt_lt rm5
          have B5 := bnext hB b5 (by have := rowAt_lt rm; omega)
          have cm : w5.cell? ⟨W0.heap.size, m, none⟩ = some (.int .i64 (iniK t ww m m)) := (cell_of_rowAt rm5 _).trans ((isK_mkI .i64 M _).get hmt)
          clear b5 hra c0 c1 CA
          go_wp2_with fail
          refine ⟨⟨m + 1, by omega, by go_num, ?_, B5.setCell (p := ⟨W0.heap.size, m, none⟩) (Nat.le_refl _) _⟩, by simp [intOf]; omega⟩
          have R := rowAt_setCell_at w5 W0.heap.size m (.int .i64 (-tv)) (by rw [rm5]; rfl)
          rw [rm5, Option.getD_some] at R
          rw [R, ← HSI.out]
          exact congrArg some ((isK_mkI .i64 M _).set m _).eq
        · obtain rfl : M = m := by omega
          have rm : rowAt wr W0.heap.size = some (mkI .i64 M (fun i => madeK t vis y 0 (cellQ ww i))) := rm.trans (congrArg some (mkI_congr fun i hi => iniK_all ww hi))
          go_wp2_with fail
          refine gen_world fun V hV => ?_
          have r4 : rowAt V W0.heap.size = some (mkI .i64 M (fun i => madeK t vis y 0 (cellQ ww i))) := by rw [hV]; exact (rowAt_alloc_past _ _ _ (rowAt_lt ‹_›)).trans ‹_›
          have B6 : Below W0.heap.size W0 V := by rw [hV]; exact hB.alloc (by have := rowAt_lt ‹rowAt wr W0.heap.size = _›; omega) _
          have ow6 : V.ownsRow (W0.heap.size + 1) 2 1 (.slice (some ⟨wr.heap.size, 0, none⟩) 0 0) 0 [] := by rw [hV]; exact owns_zeroR wr 2 1 (by have := rowAt_lt ‹rowAt wr W0.heap.size = _›; omega)
          clear hV
          go_loopw [16, 17, 18, 19, 20] (fun u i _ _ _ V => ∃ k : Nat, k ≤ N ∧ i = .int .i64 k ∧ V.ownsRow (W0.heap.size + 1) 2 1 u k (intsV (cntR hh ww t vis y) k) ∧ rowAt V W0.heap.size = some (mkI .i64 M (fun i => madeK t vis y k (cellQ ww i))) ∧ Below W0.heap.size W0 V) (fun _ i _ _ _ _ => N - (intOf i).toNat)
          case atStart => exact ⟨0, by omega, rfl, ow6, r4, B6⟩
          case round =>
            clear ow6 r4 B6
            obtain ⟨k, hk, rfl, hu, rm, hB⟩ := hrel
            by_cases hlt : k < N
            · obtain ⟨h0, _⟩ | ⟨gv, capv, curv, e1, hgv, hrv, hsv, hfv⟩ := LV.out
              · omega
              cases e1
              have k0 : 0 ≤ (k : Int) := by omega
              have k1 : (k : Int) < N := by omega
              have k2 : (k : Int) ≤ 200 := by omega
              obtain ⟨p, hp⟩ : ∃ p, vis k = p := ⟨_, rfl⟩
              obtain ⟨q, hq⟩ : ∃ q, vis (k + 1) = q := ⟨_, rfl⟩
              have pb := HV0.out k (by omega)
              have qb := HV0.out (k + 1) (by omega)
              have cp0 : curv[k]? = some (.int .i64 p) := (hfv k (by omega)).trans (by show some (Value.int .i64 (G k)) = _; rw [← HVL.out k hlt, hp])
              rw [hp] at pb
              rw [hq] at qb
              have HP := Lib.hid hp
              have HQ := Lib.hid hq
              by_cases hk1 : k + 1 < N
              · have kb : decide ((k : Int) + 1 < N) = true := by simp; omega
                have kk1 : (k : Int) + 1 < N := by omega
                have cq : wr.cell? ⟨gv, k + 1, none⟩ = some (.int .i64 q) := (cell_of_rowAt (brow hB hrv) _).trans ((hfv (k + 1) (by omega)).trans (by show some (Value.int .i64 (G (k + 1))) = _; rw [← HVL.out (k + 1) hk1, hq]))
                clear hp hq hfv hsv
                go_wp2_with fail
                obtain ⟨wo, hwo⟩ : ∃ wo : World, wo = wr := ⟨_, rfl⟩
                rw [← hwo] at hu rm hB ⊢
                clear hwo
                go_loopw [19, 20] (fun n i V => ∃ m : Nat, m ≤ M ∧ i = .int .i64 m ∧ n = .int .i64 (((fltW (dueK t vis y k) (plUpto hh ww m)).length : Nat) : Int) ∧ V.ownsRow (W0.heap.size + 1) 2 1 u16 k (intsV (cntR hh ww t vis y) k) ∧ rowAt V W0.heap.size = some (mkI .i64 M (mixK t vis y ww k m)) ∧ Below W0.heap.size W0 V) (fun _ i _ => M - (intOf i).toNat)
                case atStart =>
                  refine ⟨0, by omega, rfl, rfl, hu, ?_, hB⟩
                  rw [mixK_zero]; exact rm
                case round =>
                  clear hu rm hB
                  obtain ⟨m, hm, rfl, rfl, hu, rm, hB⟩ := hrel
                  by_cases hmt : m < M
                  · have m0 : 0 ≤ (m : Int) := by omega
                    have m1 : (m : Int) < M := by omega
                    have hcm : wr.cell? ⟨W0.heap.size, m, none⟩ = some (.int .i64 (madeK t vis y k (cellQ ww m))) := (cell_of_rowAt rm _).trans (((isK_mkI .i64 M _).get hmt).trans (by rw [mixK_at]))
                    have fm := frozen_of_rowAt rm m
                    have lm := rowAt_lt rm
                    have cp : wr.cell? ⟨gv, k, none⟩ = some (.int .i64 p) := (cell_of_rowAt (brow hB hrv) _).trans cp0
                    have hlen : (fltW (dueK t vis y k) (plUpto hh ww m)).length ≤ 64 := by
                      have a := fltW_len (p := dueK t vis y k) (plUpto hh ww m)
                      have b := plUpto_len hh ww m
                      omega
                    obtain ⟨k0, k1⟩ := HMB.out k (by omega) (cellQ ww m) (cellQ_lt h8 w8 (by rw [HM.out]; exact hmt))
                    have HNX := Lib.hid (plUpto_next (show m < hh * ww by rw [HM.out]; exact hmt))
                    have HML := Lib.hid (show madeK t vis y (k + 1) (cellQ ww m) = if y < vis (k + 1) - madeK t vis y k (cellQ ww m) then vis k else madeK t vis y k (cellQ ww m) from rfl)
                    have HDU := Lib.hid (show dueK t vis y k (m / ww) (m % ww) = decide (y < vis (k + 1) - madeK t vis y k (cellQ ww m)) from rfl)
                    have HSU := Lib.hid (mixK_set (t := t) (vis := vis) (y := y) ww k m)
                    have HSK := Lib.hid (mixK_skip (t := t) (vis := vis) (y := y) ww k m)
                    generalize madeK t vis y k (cellQ ww m) = x at *
                    by_cases hd : y < q - x
                    · have hdb : decide (y < q - x) = true := by simp [hd]
                      have E1 := Lib.hid (HML.out.trans (by rw [HQ.out, if_pos hd]))
                      have E2 := Lib.hid (show dueK t vis y k (m / ww) (m % ww) = true from HDU.out.trans (by rw [HQ.out]; exact hdb))
                      clear hd
                      go_wp2_with fail
                      refine ⟨⟨m + 1, by omega, by go_num, ?_, owns_setCell hu (by omega) _ _, ?_, hB.setCell (p := ⟨W0.heap.size, m, none⟩) (Nat.le_refl _) _⟩, by simp [intOf]; omega⟩
                      · rw [HNX.out, fltW_hit E2.out]; simp
                      · have R := rowAt_setCell_at wr W0.heap.size m (.int .i64 p) (by rw [rm]; rfl)
                        rw [rm, Option.getD_some] at R
                        rw [R, ← HSU.out]
                        refine congrArg some ?_
                        rw [E1.out, HP.out]
                        exact ((isK_mkI .i64 M _).set m p).eq
                    · have hdb : decide (y < q - x) = false := by simp; omega
                      have E1 := Lib.hid (HML.out.trans (by rw [HQ.out, if_neg hd]))
                      have E2 := Lib.hid (show dueK t vis y k (m / ww) (m % ww) = false from HDU.out.trans (by rw [HQ.out]; exact hdb))
                      clear hd
                      go_wp2_with fail
                      refine ⟨⟨m + 1, by omega, by go_num, ?_, hu, ?_, hB⟩, by simp [intOf]; omega⟩
                      · rw [HNX.out, fltW_miss E2.out]
                      · rw [HSK.out E1.out]; exact rm
                  · obtain rfl : M = m := by omega
                    have hlen : (fltW (dueK t vis y k) (plUpto hh ww M)).length ≤ 64 := by
                      have a := fltW_len (p := dueK t vis y k) (plUpto hh ww M)
                      have b := plUpto_len hh ww M
                      omega
                    have EC := Lib.hid (show cntR hh ww t vis y k = (((fltW (dueK t vis y k) (plUpto hh ww M)).length : Nat) : Int) by rw [← HM.out]; rfl)
                    generalize (fltW (dueK t vis y k) (plUpto hh ww M)).length = C at *
                    have hsz : W0.heap.size + 1 ≤ wr.heap.size := by have := rowAt_lt rm; omega
                    go_wp2_with (at_builtin; refine Go.wpList_append_own_at _ rfl _ _ 27 rfl (W0.heap.size + 1) 2 i0 (.int .i64 0) 1 8 Tryd.underlying27 hi0 hz0 hz1 hz2 rfl (by decide) _ _ _ rfl (hu.alloc _) ⟨wr.heap.size, 0, none⟩ 1 1 [.int .i64 (C : Int)] rfl rfl (cell_one_new _ _ _) (by simp [Value.oneCell']) (by unfold maxLen; omega) (by omega) (by simp; omega) ?_; intro v3 w3 own3 grow3 _ _)
                    have B3 := (hB.alloc (by omega) _).grown grow3 (by simp; omega) (fun x hx => by have := owns_base' hu x hx; omega)
                    have rm3 := (grown_rowR grow3 (by simp; omega) (fun z hz => by have := owns_base' hu z hz; omega)).trans ((rowAt_alloc_past _ _ _ (by omega)).trans rm)
                    rw [← EC.out, intsV_succ] at own3
                    clear grow3 hu rm hB
                    go_wp2_with fail
                    refine ⟨⟨k + 1, by omega, by go_num, own3, ?_, B3⟩, by simp [intOf]; omega⟩
                    rw [rm3]
                    exact congrArg some (mkI_congr fun i hi => mixK_all ww hi)
              · have kb : decide ((k : Int) + 1 < N) = false := by simp; omega
                have kk1 : ¬ (k : Int) + 1 < N := by omega
                have hqz : z = q := by
                  have e : k + 1 = N := by omega
                  rw [← hq, e]; exact HVE.out.symm
                subst hqz
                clear hp hq hfv hsv
                go_wp2_with fail
                obtain ⟨wo, hwo⟩ : ∃ wo : World, wo = wr := ⟨_, rfl⟩
                rw [← hwo] at hu rm hB ⊢
                clear hwo
                go_loopw [19, 20] (fun n i V => ∃ m : Nat, m ≤ M ∧ i = .int .i64 m ∧ n = .int .i64 (((fltW (dueK t vis y k) (plUpto hh ww m)).length : Nat) : Int) ∧ V.ownsRow (W0.heap.size + 1) 2 1 u16 k (intsV (cntR hh ww t vis y) k) ∧ rowAt V W0.heap.size = some (mkI .i64 M (mixK t vis y ww k m)) ∧ Below W0.heap.size W0 V) (fun _ i _ => M - (intOf i).toNat)
                case atStart =>
                  refine ⟨0, by omega, rfl, rfl, hu, ?_, hB⟩
                  rw [mixK_zero]; exact rm
                case round =>
                  clear hu rm hB
                  obtain ⟨m, hm, rfl, rfl, hu, rm, hB⟩ := hrel
                  by_cases hmt : m < M
                  · have m0 : 0 ≤ (m : Int) := by omega
                    have m1 : (m : Int) < M := by omega
                    have hcm : wr.cell? ⟨W0.heap.size, m, none⟩ = some (.int .i64 (madeK t vis y k (cellQ ww m))) := (cell_of_rowAt rm _).trans (((isK_mkI .i64 M _).get hmt).trans (by rw [mixK_at]))
                    have fm := frozen_of_rowAt rm m
                    have lm := rowAt_lt rm
                    have cp : wr.cell? ⟨gv, k, none⟩ = some (.int .i64 p) := (cell_of_rowAt (brow hB hrv) _).trans cp0
                    have hlen : (fltW (dueK t vis y k) (plUpto hh ww m)).length ≤ 64 := by
                      have a := fltW_len (p := dueK t vis y k) (plUpto hh ww m)
                      have b := plUpto_len hh ww m
                      omega
                    obtain ⟨k0, k1⟩ := HMB.out k (by omega) (cellQ ww m) (cellQ_lt h8 w8 (by rw [HM.out]; exact hmt))
                    have HNX := Lib.hid (plUpto_next (show m < hh * ww by rw [HM.out]; exact hmt))
                    have HML := Lib.hid (show madeK t vis y (k + 1) (cellQ ww m) = if y < vis (k + 1) - madeK t vis y k (cellQ ww m) then vis k else madeK t vis y k (cellQ ww m) from rfl)
                    have HDU := Lib.hid (show dueK t vis y k (m / ww) (m % ww) = decide (y < vis (k + 1) - madeK t vis y k (cellQ ww m)) from rfl)
                    have HSU := Lib.hid (mixK_set (t := t) (vis := vis) (y := y) ww k m)
                    have HSK := Lib.hid (mixK_skip (t := t) (vis := vis) (y := y) ww k m)
                    generalize madeK t vis y k (cellQ ww m) = x at *
                    by_cases hd : y < z - x
                    · have hdb : decide (y < z - x) = true := by simp [hd]
                      have E1 := Lib.hid (HML.out.trans (by rw [HQ.out, if_pos hd]))
                      have E2 := Lib.hid (show dueK t vis y k (m / ww) (m % ww) = true from HDU.out.trans (by rw [HQ.out]; exact hdb))
                      clear hd
                      go_wp2_with fail
                      refine ⟨⟨m + 1, by omega, by go_num, ?_, owns_setCell hu (by omega) _ _, ?_, hB.setCell (p := ⟨W0.heap.size, m, none⟩) (Nat.le_refl _) _⟩, by simp [intOf]; omega⟩
                      · rw [HNX.out, fltW_hit E2.out]; simp
                      · have R := rowAt_setCell_at wr W0.heap.size m (.int .i64 p) (by rw [rm]; rfl)
                        rw [rm, Option.getD_some] at R
                        rw [R, ← HSU.out]
                        refine congrArg some ?_
                        rw [E1.out, HP.out]
                        exact ((isK_mkI .i64 M _).set m p).eq
                    · have hdb : decide (y < z - x) = false := by simp; omega
                      have E1 := Lib.hid (HML.out.trans (by rw [HQ.out, if_neg hd]))
                      have E2 := Lib.hid (show dueK t vis y k (m / ww) (m % ww) = false from HDU.out.trans (by rw [HQ.out]; exact hdb))
                      clear hd
                      go_wp2_with fail
                      refine ⟨⟨m + 1, by omega, by go_num, ?_, hu, ?_, hB⟩, by simp [intOf]; omega⟩
                      · rw [HNX.out, fltW_miss E2.out]
                      · rw [HSK.out E1.out]; exact rm
                  · obtain rfl : M = m := by omega
                    have hlen : (fltW (dueK t vis y k) (plUpto hh ww M)).length ≤ 64 := by
                      have a := fltW_len (p := dueK t vis y k) (plUpto hh ww M)
                      have b := plUpto_len hh ww M
                      omega
                    have EC := Lib.hid (show cntR hh ww t vis y k = (((fltW (dueK t vis y k) (plUpto hh ww M)).length : Nat) : Int) by rw [← HM.out]; rfl)
                    generalize (fltW (dueK t vis y k) (plUpto hh ww M)).length = C at *
                    have hsz : W0.heap.size + 1 ≤ wr.heap.size := by have := rowAt_lt rm; omega
                    go_wp2_with (at_builtin; refine Go.wpList_append_own_at _ rfl _ _ 27 rfl (W0.heap.size + 1) 2 i0 (.int .i64 0) 1 8 Tryd.underlying27 hi0 hz0 hz1 hz2 rfl (by decide) _ _ _ rfl (hu.alloc _) ⟨wr.heap.size, 0, none⟩ 1 1 [.int .i64 (C : Int)] rfl rfl (cell_one_new _ _ _) (by simp [Value.oneCell']) (by unfold maxLen; omega) (by omega) (by simp; omega) ?_; intro v3 w3 own3 grow3 _ _)
                    have B3 := (hB.alloc (by omega) _).grown grow3 (by simp; omega) (fun x hx => by have := owns_base' hu x hx; omega)
                    have rm3 := (grown_rowR grow3 (by simp; omega) (fun z hz => by have := owns_base' hu z hz; omega)).trans ((rowAt_alloc_past _ _ _ (by omega)).trans rm)
                    rw [← EC.out, intsV_succ] at own3
                    clear grow3 hu rm hB
                    go_wp2_with fail
                    refine ⟨⟨k + 1, by omega, by go_num, own3, ?_, B3⟩, by simp [intOf]; omega⟩
                    rw [rm3]
                    exact congrArg some (mkI_congr fun i hi => mixK_all ww hi)
            · obtain rfl : k = N := by omega
              have hl := (IsList.of_intsV hu).mono (show w.heap.size ≤ W0.heap.size + 1 by have := B3.size; omega)
              have BF := B3.trans (hB.mono B3.size)
              clear hu
              go_wp2_with fail
              go_ret2
              exact ⟨_, rfl, hl, BF⟩
  · have hcd : r.livC t y z = r.ageC t (inB y 1 100 && inB z 0 200) := if_neg hz
    have hzb : (r.ageC t (inB y 1 100 && inB z 0 200) != 0) = true := by simp [hz]
    rw [Rf.viN_no hcd hz, hcd]
    generalize r.ageC t (inB y 1 100 && inB z 0 200) = k at *
    clear hcd hz
    cases h1 : inB y 1 100 with
    | true =>
      rw [h1] at CL CA
      rw [Bool.true_and] at CA
      clear h1
      generalize inB z 0 200 = fb at *
      go_enter Tryd.func10, Tryd.ntmps10
      go_wp2_with fail
      refine (CL _).mono ?_
      rintro e w1 ⟨rfl, rfl⟩
      go_wp2_with fail
      refine (CY _).mono ?_
      rintro e w1 ⟨rfl, rfl⟩
      go_wp2_with fail
      refine (CA _ p0 p1).mono ?_
      rintro e w1 ⟨rfl, b1⟩
      have B1 := bnext pB b1 pB.size
      clear b1 p0 p1 pB CA CL CY
      go_wp2_with fail
      go_ret2
      exact ⟨_, rfl, .inl ⟨rfl, _, _, rfl⟩, B1.alloc B1.size _⟩
    | false =>
      rw [h1] at CL CA
      rw [Bool.false_and] at CA
      clear h1 CY
      go_enter Tryd.func10, Tryd.ntmps10
      go_wp2_with fail
      refine (CL _).mono ?_
      rintro e w1 ⟨rfl, rfl⟩
      go_wp2_with fail
      refine (CA _ p0 p1).mono ?_
      rintro e w1 ⟨rfl, b1⟩
      have B1 := bnext pB b1 pB.size
      clear b1 p0 p1 pB CA CL
      go_wp2_with fail
      go_ret2
      exact ⟨_, rfl, .inl ⟨rfl, _, _, rfl⟩, B1.alloc B1.size _⟩
end Go.Proofs.YtcdddngdjhjdbaaDoor

/- ReplacedAt: the program's side. -/
namespace Go.Proofs.YtcdddngdjhjdbaaDoor
open Go.RowKit

theorem cells_new1 {w : World} {n : Nat} (hn : n = w.heap.size) (a : Value) (t : TypeId) : ∀ j u, ([a] : List Value)[j]? = some u → (w.alloc (.cells #[a] t)).cell? ((⟨n, 0, none⟩ : Addr).add j) = some u := by
  subst hn
  exact cell_one_new _ _ _
theorem owns_lower {w : World} {b b' : Nat} {e : TypeId} {size : Nat} {v : Value} {n : Nat} {xs : List Value} (h : w.ownsRow b e size v n xs) (hb : b' ≤ b) : w.ownsRow b' e size v n xs := by
  obtain ⟨hl, h | ⟨g, cap, cur, rfl, hg, hh, hr⟩⟩ := h
  · exact ⟨hl, .inl h⟩
  · exact ⟨hl, .inr ⟨g, cap, cur, rfl, Nat.le_trans hb hg, hh, hr⟩⟩
/-- A list of numbers and one more, by its row. -/
theorem own_cells {w : World} {b : Nat} {e : TypeId} {v : Value} {N : Nat} {f : Nat → Int} {z : Int} (h : w.ownsRow b e 1 v (N + 1) (intsV f N ++ [.int .i64 z])) :
    ∃ g cap cur, v = .slice (some ⟨g, 0, none⟩) (N + 1) cap ∧ N + 1 ≤ cap ∧ cap ≤ maxLen ∧ rowAt w g = some cur ∧ ∀ i, i ≤ N → cur[i]? = some (.int .i64 (if i < N then f i else z)) := by
  obtain ⟨hl, h | ⟨g, cap, cur, rfl, hg, hh, hn, hm, hs, ht⟩⟩ := h
  · exact absurd h.2 (by omega)
  · refine ⟨g, cap, cur, rfl, hn, hm, rowAt_of_heap hh, fun i hi => ?_⟩
    have h1 : cur[i]? = (cur.toList.take ((N + 1) * 1))[i]? := by rw [List.getElem?_take, if_pos (by omega), Array.getElem?_toList]
    rw [h1, ht]
    have hlen : (intsV f N).length = N := by simp [intsV]
    by_cases e : i < N
    · rw [List.getElem?_append_left (by rw [hlen]; exact e), if_pos e]
      simp [intsV, List.getElem?_range e]
    · rw [List.getElem?_append_right (by rw [hlen]; omega), if_neg e, hlen, show i - N = 0 by omega]
      rfl

set_option maxRecDepth 100000 in
set_option maxHeartbeats 2000000 in
theorem visitsFor_own (c d : Array Value) (r : Rf) (t : Nat → Int) (y z : Int) (w : World) (hR : IsRoof c r) (hA : IsU8 d 64 t) (ha : r.Aged t) (hy : 1 ≤ y ∧ y ≤ 100) (hz : 0 ≤ z ∧ z ≤ 200) (ho : ¬ y < r.oldV t) :
    Calls Tryd.prog 51 #[.agg c, .agg d, .int .i64 y, .int .i64 z] w fun e w' => ∃ v, e = .returned v ∧ (w'.ownsRow w.heap.size 2 1 v (visN (r.oldV t) y z) (intsV (visA (r.oldV t) y) (visN (r.oldV t) y z)) ∧ visN (r.oldV t) y z ≤ 200) ∧ Below w.heap.size w w' := by
  obtain ⟨p0, p1, pB⟩ := two_boxes w c d 30 32
  have hc := hR.size
  have hd := hA.size
  obtain ⟨i0, hi0, hz0, hz1, hz2⟩ := info_parts A_infoIw
  have CO := fun W => oldest_ok c d r t W hR hA ha.1
  have vb := Rf.oldV_bd ha hA.lo
  obtain ⟨v, hov⟩ : ∃ v, r.oldV t = v := ⟨_, rfl⟩
  rw [hov] at vb ho ⊢
  simp only [hov] at CO
  clear hov
  generalize (r.oldAt t).1 = a1 at *
  generalize (r.oldAt t).2 = a2 at *
  have hge := Lib.hid (visA_ge (v := v) (y := y) (by omega) hy.1)
  have hsu := Lib.hid (visA_succ v y)
  have hze := Lib.hid (visA_zero v y)
  go_enter Tryd.func51, Tryd.ntmps51
  go_wp2_with fail
  refine (CO _).mono ?_
  rintro e w1 ⟨rfl, b1⟩
  have B1 := bnext pB b1 pB.size
  clear b1 p0 p1 pB CO
  go_wp2_with fail
  refine gen_world fun W hW => ?_
  have B2 : Below w.heap.size w W := by rw [hW]; go_simp; exact B1.alloc B1.size _
  clear hW B1
  go_loopw [11, 12] (fun u i W' => ∃ (n : Nat) (b : Int), n ≤ 200 ∧ i = .int .i64 b ∧ Hid (b = visA v y n) ∧ (0 ≤ b ∧ b ≤ 300) ∧ Hid (∀ k, k < n → visA v y k < z) ∧ W'.ownsRow w.heap.size 2 1 u n (intsV (visA v y) n) ∧ Below w.heap.size w W') (fun _ i _ => (z - intOf i).toNat)
  case atStart => exact ⟨0, y - v, by omega, rfl, Lib.hid hze.out.symm, by omega, Lib.hid (by omega), World.ownsRow_nil _ _ _ _, B2⟩
  case round =>
    clear B2
    obtain ⟨n, b, hn, rfl, hb, hb0, hF, hv, hB⟩ := hrel
    by_cases hlt : b < z
    · have hdl : decide (b < z) = true := by simp [hlt]
      have hg : (n : Int) ≤ b := by rw [hb.out]; exact hge.out n
      obtain ⟨wo, hwo⟩ : ∃ wo : World, wo = wr := ⟨_, rfl⟩
      rw [← hwo] at hv hB ⊢
      clear hwo
      go_wp2_with (at_builtin; refine Go.wpList_append_own_at _ rfl _ _ 27 rfl w.heap.size 2 i0 (.int .i64 0) 1 8 Tryd.underlying27 hi0 hz0 hz1 hz2 rfl (by decide) _ _ _ rfl (hv.alloc _) ⟨wo.heap.size, 0, none⟩ 1 1 [.int .i64 b] rfl rfl (cell_one_new _ _ _) (by simp [Value.oneCell']) (by unfold maxLen; omega) (by omega) (by have := hB.size; simp; omega) ?_; intro v3 w3 own3 grow3 _ _)
      have B3 := (hB.alloc hB.size _).grown grow3 (by have := hB.size; simp; omega) (owns_base hv)
      rw [show (.int .i64 b : Value) = .int .i64 (visA v y n) by rw [hb.out], intsV_succ] at own3
      clear grow3 hv hB
      go_wp2_with fail
      refine ⟨⟨n + 1, b + y, by omega, by go_num, Lib.hid (by rw [hsu.out, hb.out]), by omega, Lib.hid (fun k hk => ?_), own3, B3⟩, by simp [intOf]; omega⟩
      by_cases hkn : k < n
      · exact hF.out k hkn
      · obtain rfl : k = n := by omega
        rw [← hb.out]; exact hlt
    · have hdl : decide (b < z) = false := by simp; omega
      have hN := Lib.hid (show visN v y z = n from visN_eq ⟨hF.out, by rw [← hb.out]; exact hlt⟩)
      have hl := Lib.hid hv
      clear hv
      go_wp2_with fail
      go_ret
      rw [hN.out]
      exact ⟨_, rfl, ⟨hl.out, hn⟩, hB⟩

set_option maxRecDepth 100000 in
set_option maxHeartbeats 8000000 in
theorem implReplacedAt_any (c d : Array Value) (r : Rf) (t : Nat → Int) (y z : Int) (w : World) (hR : IsRoof c r) (hA : IsU8 d 64 t) (hT : ErrT w) :
    Calls Tryd.prog 13 #[.agg c, .agg d, .int .i64 y, .int .i64 z] w (GivesInts w (r.viN t y z) (r.repF t y z) (r.livC t y z)) := by
  obtain ⟨p0, p1, pB⟩ := two_boxes w c d 30 32
  have hc := hR.size
  have hd := hA.size
  have hn0 := fun w => run_neq_nil_nil_at (P := Tryd.prog) (w := w) 83 (by kernel_rfl)
  have hnv := fun w => run_neq_iface_nil (P := Tryd.prog) (w := w) 83 (by kernel_rfl) 133 (.agg #[])
  have hnr := fun w => run_neq_iface_nil (P := Tryd.prog) (w := w) 83 (by kernel_rfl) 134 (.agg #[])
  have hnt := fun w => run_neq_iface_nil (P := Tryd.prog) (w := w) 83 (by kernel_rfl) 132 (.agg #[])
  by_cases ha : r.Aged t
  · cases hf : (inB y 1 100 && inB z 0 200) with
    | true =>
      by_cases ho : y < r.oldV t
      · have hcd := Rf.livC_t ha hf ho
        rw [Rf.viN_no hcd (by decide), hcd]
        clear hcd
        go_enter Tryd.func13, Tryd.ntmps13
        go_wp2_with fail
        refine (checkLives_t c d r t y z _ hR hA ha hf ho).mono ?_
        rintro e w1 ⟨rfl, b1⟩
        have B1 := bnext pB b1 pB.size
        have T1 := hT.below B1
        clear b1 p0 p1 pB
        go_wp2_with fail
        refine (yearCode_T _ T1).mono ?_
        rintro e w2 ⟨rfl, b2⟩
        have B2 := bnext B1 b2 B1.size
        clear b2 B1 T1
        go_wp2_with fail
        go_ret2
        exact ⟨_, rfl, .inl ⟨rfl, _, _, rfl⟩, B2⟩
      · have hcd := Rf.livC_ok ha hf ho
        have hN : r.viN t y z = visN (r.oldV t) y z := if_pos hcd
        obtain ⟨yb, zb⟩ := inB_and hf
        rw [hN, hcd]
        clear hcd hN
        obtain ⟨i0, hi0, hz0, hz1, hz2⟩ := info_parts A_infoIw
        have hh0 := ha.1.1
        have hw0 := ha.1.2.2.1
        obtain ⟨hh, hhe⟩ : ∃ hh : Nat, r.h = hh := Int.eq_ofNat_of_zero_le (by omega)
        obtain ⟨ww, hwe⟩ : ∃ ww : Nat, r.w = ww := Int.eq_ofNat_of_zero_le (by omega)
        have h8 : hh ≤ 8 := by have := ha.1.2.2.2.1; omega
        have w8 : ww ≤ 8 := by have := ha.1.2.1; omega
        have hvN := visN_le (z := z) (show r.oldV t ≤ y by omega) yb.1 zb.2
        have CV := fun W => visitsFor_own c d r t y z W hR hA ha yb zb ho
        have CL := fun W => checkLives_ok c d r t y z W hR hA ha hf ho
        have HRF : r.repF t y z = cntR hh ww t (r.visL t y z) y := by unfold Rf.repF; rw [show r.h.toNat = hh by omega, show r.w.toNat = ww by omega]
        have CR := fun W g cap cur h3 h1 h2 (h4 : ∀ i, i ≤ visN (r.oldV t) y z → cur[i]? = some (.int .i64 (if i < visN (r.oldV t) y z then visA (r.oldV t) y i else z))) => replacedAt_any (visN (r.oldV t) y z) g cap cur c d r t (r.visL t y z) y hh ww hhe hwe h8 w8 W hR hA h3 h4 h1 h2 hvN yb (Rf.visL_zero hhe hwe w8 (by omega) yb.1 zb.1 hA.lo h8) (Rf.visL_step (by omega) yb.1) (Rf.visL_bd (by omega) yb.1 zb)
        rw [← HRF] at CR
        generalize r.repF t y z = F at *
        generalize visN (r.oldV t) y z = N at *
        generalize visA (r.oldV t) y = G at *
        clear hf ho HRF hh0 hw0
        go_enter Tryd.func13, Tryd.ntmps13
        go_wp2_with fail
        refine (CL _).mono ?_
        rintro e w1 ⟨rfl, b1⟩
        have r0 := brow b1 p0
        have r1 := brow b1 p1
        have B1 := bnext pB b1 pB.size
        clear b1 p0 p1 pB CL
        go_wp2_with fail
        refine wp_region_held_drew (S := fun w' => Below w1.heap.size w1 w') (by kernel_rfl) ((Below.refl _ _).drew) (fun hH => ?_)
        refine wpAnyH_take (i := 0) (v := .agg c) rfl (by kernel_rfl) (by kernel_rfl) (by kernel_rfl) (fun _ _ _ h => h) (Or.inl ⟨by rfl, ?_⟩) hH ?_
        · intro w9 hS; (try dsimp only at hS); have s0 := brow hS r0; go_simp
        (try simp only [List.getElem_toArray]); (try simp only [List.getElem_cons_succ]); (try simp only [List.getElem_cons_zero]); (try simp only [Act.put]); (try simp only [List.setIfInBounds_toArray]); (try simp only [List.set_cons_succ]); (try simp only [List.set_cons_zero])
        refine wpAnyH_take (i := 1) (v := .agg d) rfl (by kernel_rfl) (by kernel_rfl) (by kernel_rfl) (fun _ _ _ h => h) (Or.inl ⟨by rfl, ?_⟩) hH ?_
        · intro w9 hS; (try dsimp only at hS); have s0 := brow hS r1; go_simp
        (try simp only [List.getElem_toArray]); (try simp only [List.getElem_cons_succ]); (try simp only [List.getElem_cons_zero]); (try simp only [Act.put]); (try simp only [List.setIfInBounds_toArray]); (try simp only [List.set_cons_succ]); (try simp only [List.set_cons_zero])
        refine wpAnyH_take (i := 2) (v := .int .i64 y) rfl (by kernel_rfl) (by kernel_rfl) (by kernel_rfl) (fun _ _ _ h => h) (Or.inl ⟨by rfl, ?_⟩) hH ?_
        · intro w9 hS; (try dsimp only at hS); go_simp
        (try simp only [List.getElem_toArray]); (try simp only [List.getElem_cons_succ]); (try simp only [List.getElem_cons_zero]); (try simp only [Act.put]); (try simp only [List.setIfInBounds_toArray]); (try simp only [List.set_cons_succ]); (try simp only [List.set_cons_zero])
        refine wpAnyH_take (i := 3) (v := .agg c) rfl (by kernel_rfl) (by kernel_rfl) (by kernel_rfl) (fun _ _ _ h => h) (Or.inl ⟨by rfl, ?_⟩) hH ?_
        · intro w9 hS; (try dsimp only at hS); have s0 := brow hS r0; go_simp
        (try simp only [List.getElem_toArray]); (try simp only [List.getElem_cons_succ]); (try simp only [List.getElem_cons_zero]); (try simp only [Act.put]); (try simp only [List.setIfInBounds_toArray]); (try simp only [List.set_cons_succ]); (try simp only [List.set_cons_zero])
        refine wpAnyH_take (i := 4) (v := .agg d) rfl (by kernel_rfl) (by kernel_rfl) (by kernel_rfl) (fun _ _ _ h => h) (Or.inl ⟨by rfl, ?_⟩) hH ?_
        · intro w9 hS; (try dsimp only at hS); have s0 := brow hS r1; go_simp
        (try simp only [List.getElem_toArray]); (try simp only [List.getElem_cons_succ]); (try simp only [List.getElem_cons_zero]); (try simp only [Act.put]); (try simp only [List.setIfInBounds_toArray]); (try simp only [List.set_cons_succ]); (try simp only [List.set_cons_zero])
        refine wpAnyH_take (i := 5) (v := .int .i64 y) rfl (by kernel_rfl) (by kernel_rfl) (by kernel_rfl) (fun _ _ _ h => h) (Or.inl ⟨by rfl, ?_⟩) hH ?_
        · intro w9 hS; (try dsimp only at hS); go_simp
        (try simp only [List.getElem_toArray]); (try simp only [List.getElem_cons_succ]); (try simp only [List.getElem_cons_zero]); (try simp only [Act.put]); (try simp only [List.setIfInBounds_toArray]); (try simp only [List.set_cons_succ]); (try simp only [List.set_cons_zero])
        refine wpAnyH_take (i := 6) (v := .int .i64 z) rfl (by kernel_rfl) (by kernel_rfl) (by kernel_rfl) (fun _ _ _ h => h) (Or.inl ⟨by rfl, ?_⟩) hH ?_
        · intro w9 hS; (try dsimp only at hS); go_simp
        (try simp only [List.getElem_toArray]); (try simp only [List.getElem_cons_succ]); (try simp only [List.getElem_cons_zero]); (try simp only [Act.put]); (try simp only [List.setIfInBounds_toArray]); (try simp only [List.set_cons_succ]); (try simp only [List.set_cons_zero])
        refine wpAnyH_take (i := 8) (v := .int .i64 z) rfl (by kernel_rfl) (by kernel_rfl) (by kernel_rfl) (fun _ _ _ h => h) (Or.inl ⟨by rfl, ?_⟩) hH ?_
        · intro w9 hS; (try dsimp only at hS); go_simp
        (try simp only [List.getElem_toArray]); (try simp only [List.getElem_cons_succ]); (try simp only [List.getElem_cons_zero]); (try simp only [Act.put]); (try simp only [List.setIfInBounds_toArray]); (try simp only [List.set_cons_succ]); (try simp only [List.set_cons_zero])
        refine wpAnyH_ready (rs := [7, 9]) (by kernel_rfl) (by simp) ((AllReadyH.cons rfl (fun K hK => ?_) (AllReadyH.cons rfl (fun K hK => ?_) AllReadyH.nil)))
        · go_simp
          refine (CV _).mono ?_
          rintro x wx ⟨v, rfl, ⟨ov, hn⟩, bx⟩
          obtain ⟨av, cv, rfl⟩ := owns_shape ov
          go_simp
          refine hK.out _ _ (bnext hH bx hH.size) (fun hG => ?_)
          clear bx
          clear hK K hH
          replace hH := hG
          clear hG
          (try simp only [List.getElem_toArray]); (try simp only [List.getElem_cons_succ]); (try simp only [List.getElem_cons_zero]); (try simp only [Act.put]); (try simp only [List.setIfInBounds_toArray]); (try simp only [List.set_cons_succ]); (try simp only [List.set_cons_zero])
          refine wpAnyH_ready (rs := [9]) (by kernel_rfl) (by simp) ((AllReadyH.cons rfl (fun K hK => ?_) AllReadyH.nil))
          go_simp
          refine hK.out _ _ (hH.alloc hH.size _) (fun hG => ?_)
          clear hK K hH
          replace hH := hG
          clear hG
          (try simp only [List.getElem_toArray]); (try simp only [List.getElem_cons_succ]); (try simp only [List.getElem_cons_zero]); (try simp only [Act.put]); (try simp only [List.setIfInBounds_toArray]); (try simp only [List.set_cons_succ]); (try simp only [List.set_cons_zero])
          refine wpAnyH_ready (rs := [10]) (by kernel_rfl) (by simp) ((AllReadyH.cons rfl (fun K hK => ?_) AllReadyH.nil))
          refine step_append_own rfl (.tmp 27) (.tmp 29) 27 rfl w1.heap.size 2 i0 (.int .i64 0) 1 8 Tryd.underlying27 hi0 hz0 hz1 hz2 rfl (by decide) (.slice av N cv) N _ rfl (ov.alloc _) ⟨wx.heap.size, 0, none⟩ 1 1 [.int .i64 z] rfl rfl (cells_new1 rfl _ _) (by simp [Value.oneCell']) (by unfold maxLen; omega) (by omega) (by have := hH.size; simp at this ⊢; omega) ?_
          intro v2 w2 own1 grow1
          obtain ⟨g, cap, cur, rfl, h1, h2, h3, h4⟩ := own_cells own1
          refine hK.out _ _ (hH.grown grow1 (by have := hH.size; simp at this ⊢; omega) (fun x hx => owns_base' ov x hx)) (fun hG => ?_)
          clear grow1 own1
          clear hK K hH
          replace hH := hG
          clear hG
          (try simp only [List.getElem_toArray]); (try simp only [List.getElem_cons_succ]); (try simp only [List.getElem_cons_zero]); (try simp only [Act.put]); (try simp only [List.setIfInBounds_toArray]); (try simp only [List.set_cons_succ]); (try simp only [List.set_cons_zero])
          refine wpAnyH_ready (rs := [11]) (by kernel_rfl) (by simp) ((AllReadyH.cons rfl (fun K hK => ?_) AllReadyH.nil))
          go_simp
          refine (CR _ g cap cur h3 h1 h2 h4).mono ?_
          rintro x wy ⟨u, rfl, l2, bx2⟩
          obtain ⟨au, cu, rfl⟩ := l2.shape
          go_simp
          refine hK.out _ _ (bnext hH bx2 hH.size) (fun hG => ?_)
          have l3 := l2.mono (show w.heap.size ≤ w2.heap.size by have := hH.size; have := B1.size; omega)
          clear bx2 l2
          clear hK K hH
          replace hH := hG
          clear hG
          (try simp only [List.getElem_toArray]); (try simp only [List.getElem_cons_succ]); (try simp only [List.getElem_cons_zero]); (try simp only [Act.put]); (try simp only [List.setIfInBounds_toArray]); (try simp only [List.set_cons_succ]); (try simp only [List.set_cons_zero])
          refine wpAnyH_take (i := 12) (v := .slice au N cu) rfl (by kernel_rfl) (by kernel_rfl) (by kernel_rfl) (fun _ _ _ h => h) (Or.inl ⟨by rfl, ?_⟩) hH ?_
          · intro w9 hS; (try dsimp only at hS); go_simp
          (try simp only [List.getElem_toArray]); (try simp only [List.getElem_cons_succ]); (try simp only [List.getElem_cons_zero]); (try simp only [Act.put]); (try simp only [List.setIfInBounds_toArray]); (try simp only [List.set_cons_succ]); (try simp only [List.set_cons_zero])
          refine wpAnyH_take (i := 13) (v := .int .i64 0) rfl (by kernel_rfl) (by kernel_rfl) (by kernel_rfl) (fun _ _ _ h => h) (Or.inl ⟨by rfl, ?_⟩) hH ?_
          · intro w9 hS; (try dsimp only at hS); go_simp
          (try simp only [List.getElem_toArray]); (try simp only [List.getElem_cons_succ]); (try simp only [List.getElem_cons_zero]); (try simp only [Act.put]); (try simp only [List.setIfInBounds_toArray]); (try simp only [List.set_cons_succ]); (try simp only [List.set_cons_zero])
          refine wpAnyH_done (by kernel_rfl) ?_ _
          have B2 := bnext B1 hH B1.size
          have l3 := Lib.hid l3
          clear hH r0 r1 CV CR
          go_wp2_with fail
          go_ret2
          exact ⟨_, rfl, l3.out, B2⟩
        · go_simp
          refine hK.out _ _ (hH.alloc hH.size _) (fun hG => ?_)
          clear hK K hH
          replace hH := hG
          clear hG
          (try simp only [List.getElem_toArray]); (try simp only [List.getElem_cons_succ]); (try simp only [List.getElem_cons_zero]); (try simp only [Act.put]); (try simp only [List.setIfInBounds_toArray]); (try simp only [List.set_cons_succ]); (try simp only [List.set_cons_zero])
          refine wpAnyH_ready (rs := [7]) (by kernel_rfl) (by simp) ((AllReadyH.cons rfl (fun K hK => ?_) AllReadyH.nil))
          go_simp
          refine (CV _).mono ?_
          rintro x wx ⟨v, rfl, ⟨ov, hn⟩, bx⟩
          obtain ⟨av, cv, rfl⟩ := owns_shape ov
          go_simp
          refine hK.out _ _ (bnext hH bx hH.size) (fun hG => ?_)
          have ce := fun j u (h : ([.int .i64 z] : List Value)[j]? = some u) => (show wx.cell? ((⟨w1.heap.size, 0, none⟩ : Addr).add j) = some u from (bx.cell (p := (⟨w1.heap.size, 0, none⟩ : Addr).add j) (by simp only [Addr.add]; split <;> simp)).trans (cells_new1 (w := w1.drew) (n := w1.heap.size) rfl (.int .i64 z) 2 j u h))
          replace ov := owns_lower ov (show w1.heap.size ≤ _ by simp)
          clear bx
          clear hK K hH
          replace hH := hG
          clear hG
          (try simp only [List.getElem_toArray]); (try simp only [List.getElem_cons_succ]); (try simp only [List.getElem_cons_zero]); (try simp only [Act.put]); (try simp only [List.setIfInBounds_toArray]); (try simp only [List.set_cons_succ]); (try simp only [List.set_cons_zero])
          refine wpAnyH_ready (rs := [10]) (by kernel_rfl) (by simp) ((AllReadyH.cons rfl (fun K hK => ?_) AllReadyH.nil))
          refine step_append_own rfl (.tmp 27) (.tmp 29) 27 rfl w1.heap.size 2 i0 (.int .i64 0) 1 8 Tryd.underlying27 hi0 hz0 hz1 hz2 rfl (by decide) (.slice av N cv) N _ rfl ov ⟨w1.heap.size, 0, none⟩ 1 1 [.int .i64 z] rfl rfl ce (by simp [Value.oneCell']) (by unfold maxLen; omega) (by omega) (by have := hH.size; simp at this ⊢; omega) ?_
          intro v2 w2 own1 grow1
          obtain ⟨g, cap, cur, rfl, h1, h2, h3, h4⟩ := own_cells own1
          refine hK.out _ _ (hH.grown grow1 (by have := hH.size; simp at this ⊢; omega) (fun x hx => owns_base' ov x hx)) (fun hG => ?_)
          clear grow1 own1
          clear hK K hH
          replace hH := hG
          clear hG
          (try simp only [List.getElem_toArray]); (try simp only [List.getElem_cons_succ]); (try simp only [List.getElem_cons_zero]); (try simp only [Act.put]); (try simp only [List.setIfInBounds_toArray]); (try simp only [List.set_cons_succ]); (try simp only [List.set_cons_zero])
          refine wpAnyH_ready (rs := [11]) (by kernel_rfl) (by simp) ((AllReadyH.cons rfl (fun K hK => ?_) AllReadyH.nil))
          go_simp
          refine (CR _ g cap cur h3 h1 h2 h4).mono ?_
          rintro x wy ⟨u, rfl, l2, bx2⟩
          obtain ⟨au, cu, rfl⟩ := l2.shape
          go_simp
          refine hK.out _ _ (bnext hH bx2 hH.size) (fun hG => ?_)
          have l3 := l2.mono (show w.heap.size ≤ w2.heap.size by have := hH.size; have := B1.size; omega)
          clear bx2 l2
          clear hK K hH
          replace hH := hG
          clear hG
          (try simp only [List.getElem_toArray]); (try simp only [List.getElem_cons_succ]); (try simp only [List.getElem_cons_zero]); (try simp only [Act.put]); (try simp only [List.setIfInBounds_toArray]); (try simp only [List.set_cons_succ]); (try simp only [List.set_cons_zero])
          refine wpAnyH_take (i := 12) (v := .slice au N cu) rfl (by kernel_rfl) (by kernel_rfl) (by kernel_rfl) (fun _ _ _ h => h) (Or.inl ⟨by rfl, ?_⟩) hH ?_
          · intro w9 hS; (try dsimp only at hS); go_simp
          (try simp only [List.getElem_toArray]); (try simp only [List.getElem_cons_succ]); (try simp only [List.getElem_cons_zero]); (try simp only [Act.put]); (try simp only [List.setIfInBounds_toArray]); (try simp only [List.set_cons_succ]); (try simp only [List.set_cons_zero])
          refine wpAnyH_take (i := 13) (v := .int .i64 0) rfl (by kernel_rfl) (by kernel_rfl) (by kernel_rfl) (fun _ _ _ h => h) (Or.inl ⟨by rfl, ?_⟩) hH ?_
          · intro w9 hS; (try dsimp only at hS); go_simp
          (try simp only [List.getElem_toArray]); (try simp only [List.getElem_cons_succ]); (try simp only [List.getElem_cons_zero]); (try simp only [Act.put]); (try simp only [List.setIfInBounds_toArray]); (try simp only [List.set_cons_succ]); (try simp only [List.set_cons_zero])
          refine wpAnyH_done (by kernel_rfl) ?_ _
          have B2 := bnext B1 hH B1.size
          have l3 := Lib.hid l3
          clear hH r0 r1 CV CR
          go_wp2_with fail
          go_ret2
          exact ⟨_, rfl, l3.out, B2⟩
    | false =>
      have hcd := Rf.livC_r ha hf
      rw [Rf.viN_no hcd (by decide), hcd]
      clear hcd
      go_enter Tryd.func13, Tryd.ntmps13
      go_wp2_with fail
      refine (checkLives_r c d r t y z _ hR hA ha hf).mono ?_
      rintro e w1 ⟨rfl, b1⟩
      have B1 := bnext pB b1 pB.size
      have T1 := hT.below B1
      clear b1 p0 p1 pB
      go_wp2_with fail
      refine (yearCode_R _ T1).mono ?_
      rintro e w2 ⟨rfl, b2⟩
      have B2 := bnext B1 b2 B1.size
      clear b2 B1 T1
      go_wp2_with fail
      go_ret2
      exact ⟨_, rfl, .inl ⟨rfl, _, _, rfl⟩, B2⟩
  · have hcd := Rf.livC_v (y := y) (z := z) ha
    rw [Rf.viN_no hcd (by decide), hcd]
    clear hcd
    go_enter Tryd.func13, Tryd.ntmps13
    go_wp2_with fail
    refine (checkLives_v c d r t y z _ hR hA ha).mono ?_
    rintro e w1 ⟨rfl, b1⟩
    have B1 := bnext pB b1 pB.size
    have T1 := hT.below B1
    clear b1 p0 p1 pB
    go_wp2_with fail
    refine (yearCode_V _ T1).mono ?_
    rintro e w2 ⟨rfl, b2⟩
    have B2 := bnext B1 b2 B1.size
    clear b2 B1 T1
    go_wp2_with fail
    go_ret2
    exact ⟨_, rfl, .inl ⟨rfl, _, _, rfl⟩, B2⟩
end Go.Proofs.YtcdddngdjhjdbaaDoor

/- laws.FnExactReplacedAt returns true for every roof and ages and numbers, and leaves them as they were. The variable errors.errorType is listed, and tied by the card. -/
namespace Go.Proofs.YtcdddngdjhjdbaaDoor
open Go.RowKit

theorem rbelD {N B n m : Nat} {w W : World} {c : Array Value} {l : List Value} {A : Prop} (h : rowAt W n = some c ∧ rowAt W m = some l.toArray ∧ W.rangeAt m 0 l ∧ Below B w W ∧ B ≤ W.heap.size ∧ N ≤ W.heap.size ∧ A) : Below B w W := h.2.2.2.1
set_option maxRecDepth 100000 in
set_option maxHeartbeats 4000000 in
theorem law_walk_FnExactReplacedAt {c : Array Value} {r : Rf} (hR : IsRoof c r) {d : Array Value} {t : Nat → Int} (hT : IsU8 d 64 t) {y : Int} (_hy : -9223372036854775808 ≤ y ∧ y ≤ 9223372036854775807) {z : Int} (_hz : -9223372036854775808 ≤ z ∧ z ≤ 9223372036854775807) (w : World) (hE : ErrT w) :
    Calls Tryd.prog 3 #[.agg c, .agg d, .int .i64 y, .int .i64 z] w fun e w' => e = .returned (.bool true) ∧ Below w.heap.size w w' := by
  obtain ⟨l⟩ := d
  obtain ⟨p0, p1, pB⟩ := two_boxes w c l.toArray 26 24
  have hc := hR.size
  have hl : l.length = 64 := by have := hT.size; simpa using this
  have hu := Tryd.underlying24
  have hi : (Tryd.prog.info? 24).map (·.size) = some l.length := by rw [hl]; kernel_rfl
  have CS := fun w => specReplacedAt_any c l.toArray r t y z w hR hT
  have CI := fun w he => implReplacedAt_any c l.toArray r t y z w hR hT he
  have HE := Lib.hid hE
  clear hE
  have htk : List.take 64 l = l := List.take_of_length_le (by omega)
  generalize hcode : r.livC t y z = code at CS CI
  have hcc : (code != code) = false := by simp
  have hnb : r.viN t y z ≤ 1000000 := by exact Rf.viN_le l.toArray r t y z hT
  generalize hnn : r.viN t y z = nn at hnb CS CI
  generalize hff : (r.repF t y z) = ff at CS CI
  obtain ⟨M, hM⟩ : ∃ M : Int, M = ((1 + nn : Nat) : Int) := ⟨_, rfl⟩
  have hM0 : 0 ≤ M := by omega
  have hmm : (M != M) = false := by simp
  have hml : decide (M < 0) = false := by simp; omega
  have HM := Lib.hid hM
  clear hM hcode hnn hff
  go_enter Tryd.func3, Tryd.ntmps3
  go_wp2_with fail
  refine gen_world fun W hW => ?_
  rw [← hW] at p0 p1 pB
  clear hW
  go_region_held3 (fun w' => rowAt w' w.heap.size = some c ∧ rowAt w' (w.heap.size + 1) = some l.toArray ∧ w'.rangeAt (w.heap.size + 1) 0 l ∧ Below w.heap.size w w' ∧ w.heap.size ≤ w'.heap.size ∧ w.heap.size ≤ w'.heap.size ∧ True)
    (first | exact rheld0 p0 p1 pB pB.size pB.size trivial | exact rheldX (by assumption) id (by assumption))
    (first | (go_at_call 11; (with_reducible refine (toRoof_any c r _ hR).mono ?_); rintro x wx ⟨rfl, bx⟩) | (go_at_call 12; (with_reducible refine (toAges_any l.toArray t _ hT).mono ?_); rintro x wx ⟨rfl, bx⟩) | (go_at_call 10; (with_reducible refine (CS _).mono ?_); rintro x wx ⟨v0, rfl, l0, bx⟩))
  rename_i g
  clear p0 p1 pB
  obtain ⟨N, hN⟩ : ∃ N, N = wx.heap.size := ⟨_, rfl⟩
  have hNle : N ≤ wx.heap.size := by omega
  have lt0 := l0.lt (Nat.le_of_eq hN.symm)
  have hN0 : wx.heap.size ≤ N := by omega
  have p2 := g.2.1
  have l0' := l0.mono (Nat.zero_le _)
  clear l0 hN
  go_wp2_with fail
  go_region_held3 (fun w' => rowAt w' w.heap.size = some c ∧ rowAt w' (w.heap.size + 1) = some l.toArray ∧ w'.rangeAt (w.heap.size + 1) 0 l ∧ Below w.heap.size w w' ∧ w.heap.size ≤ w'.heap.size ∧ N ≤ w'.heap.size ∧ IsList w' 0 v0 1 nn (fun i => .int .i64 (ff i)))
    (first | exact rheld0 g.1 g.2.1 g.2.2.2.1 g.2.2.2.2.1 hNle l0' | exact rheldL (by assumption) (by assumption))
    (first | (go_at_call 11; (with_reducible refine (toRoof_any c r _ hR).mono ?_); rintro x wx ⟨rfl, bx⟩) | (go_at_call 12; (with_reducible refine (toAges_any l.toArray t _ hT).mono ?_); rintro x wx ⟨rfl, bx⟩) | (go_at_call 13; have hNc := rheldN (by assumption); have hbel := rbelD (by assumption); (with_reducible refine (CI _ (HE.out.below hbel)).mono ?_); rintro x wx ⟨v1, rfl, l1, bx⟩; replace l1 := l1.mono hNc))
  rename_i g2
  clear l0'
  go_wp2_with fail
  refine (eqInt64S_same nn ff v1 v0 _ _ _ l1 g2.2.2.2.2.2.2 hnb).mono ?_
  rintro x wa ⟨rfl, ba⟩
  have l1a := l1.below ba (Nat.le_refl _)
  have g3 := rheldL ba g2
  clear ba l1
  go_wp2_with fail
  refine (mark1 nn _ v1 N M HM.out _ l1a hnb).mono ?_
  rintro x wb ⟨rfl, l1b, bb⟩
  have hnN : w.heap.size + 1 < N := Nat.lt_of_lt_of_le (rowAt_lt p2) hN0
  have g4 := rheldM bb (by omega) hnN (by omega) (fun h => h.kept2 bb lt0) g3
  clear bb l1a g3 g2 g
  go_wp2_with fail
  refine (held1 nn v1 N M HM.out _ l1b hnb).mono ?_
  rintro x wc ⟨rfl, rfl⟩
  go_wp2_with fail
  go_region_held3 (fun w' => rowAt w' w.heap.size = some c ∧ rowAt w' (w.heap.size + 1) = some l.toArray ∧ w'.rangeAt (w.heap.size + 1) 0 l ∧ Below w.heap.size w w' ∧ w.heap.size ≤ w'.heap.size ∧ N ≤ w'.heap.size ∧ IsList w' 0 v0 1 nn (fun i => .int .i64 (ff i)) ∧ IsList w' N v1 1 nn (fun i => .int .i64 ((1 + i : Nat) : Int)))
    (first | exact rheld0 g4.1 g4.2.1 g4.2.2.2.1 g4.2.2.2.2.1 g4.2.2.2.2.2.1 ⟨g4.2.2.2.2.2.2, l1b⟩ | exact rheldLL (by assumption) (by assumption))
    (first | (go_at_call 11; (with_reducible refine (toRoof_any c r _ hR).mono ?_); rintro x wx ⟨rfl, bx⟩) | (go_at_call 12; (with_reducible refine (toAges_any l.toArray t _ hT).mono ?_); rintro x wx ⟨rfl, bx⟩) | (go_at_call 13; have hbel := rbelD (by assumption); (with_reducible refine (CI _ (HE.out.below hbel)).mono ?_); rintro x wx ⟨v2, rfl, l2, bx⟩))
  rename_i g5
  clear g4 l1b
  go_wp2_with fail
  refine (eqInt64S_same nn ff v2 v0 _ _ _ l2 g5.2.2.2.2.2.2.1 hnb).mono ?_
  rintro x wd ⟨rfl, bd⟩
  have g6 := rheldLL bd g5
  clear bd l2 g5
  go_wp2_with fail
  refine (held1 nn v1 N M HM.out _ g6.2.2.2.2.2.2.2 hnb).mono ?_
  rintro x we ⟨rfl, rfl⟩
  go_wp2_with fail
  go_ret
  exact ⟨rfl, g6.2.2.2.1⟩

namespace LFnExactReplacedAt
open Go.RowKit Go.ChangeShapes Go.WideShapes Go.ChangeAt
theorem own : ownKnob Tryd.prog.godebug = none := by kernel_rfl
theorem laidOut : laidOutB Tryd.prog = true := by kernel_rfl
theorem door_met (os : Os) (args : Array Value) : laidMetH Tryd.prog Rows.fnExactReplacedAtRow.laid ((World.doorLaid Tryd.prog 400 os).forCall (fun _ _ => 0) ⟨#[], args, []⟩).memory :=
  laidMetH_of_parts3 (fuel := 8) (laidMet_of_run' 8 (by kernel_rfl) (by kernel_rfl)) (by kernel_rfl) (by kernel_rfl)
set_option maxRecDepth 100000 in
theorem lifted (os : Os) (started : os.Started) (H : Type) (enc : TypeId × Value → H) :
    ReturnsInHanded {} Tryd.checked os 3 .any (fun w args => (Rows.fnExactReplacedAtSpec.pre enc Tryd.prog Tryd.f3 [] false w args ∧ laidMetH Tryd.prog Rows.fnExactReplacedAtRow.laid w) ∧ sizedMet enc Tryd.prog Tryd.f3 (OpenSpec.ofChange Rows.fnExactReplacedAtSpec) false w args)
      (Rows.fnExactReplacedAtSpec.post enc Tryd.prog Tryd.f3 false true false false) := by
  refine returnsInHanded_of_change_and (C := Tryd.checked) (X := fun w _ => laidMetH Tryd.prog Rows.fnExactReplacedAtRow.laid w) (fun _ _ _ hh h => h.of_heap hh) own started (by kernel_rfl) Tryd.func3
    (ChangeSpec.witness_shaped (enc := enc) (C := Tryd.checked) (os := os) (X := fun w _ => laidMetH Tryd.prog Rows.fnExactReplacedAtRow.laid w) false (World.doorLaid Tryd.prog 400 os) #[.agg Tryd.zeroCells26, .agg (Array.replicate 64 (.int .u8 0)), .int .i64 0, .int .i64 0] 8 rfl (World.shaped_of_RefB (by kernel_rfl) (by kernel_rfl)) (by kernel_rfl) (by kernel_rfl) (by kernel_rfl) (door_met os _)) ?_
  intro W base args ds gs before hval0 hW _ _ hL _
  have hval : ∀ (j : Nat) t v, Tryd.f3.params[j]? = some t → args[j]? = some v → Value.okWide Tryd.prog W .any base t v := hval0
  have hW' := hW
  obtain ⟨p, q, hA0, hV, rfl, hfz, hnd⟩ := hW
  have hA : DataW.TrodAll enc Tryd.prog W 0 (fun _ => true) true Tryd.f3.params.toList args.toList ds p := hA0
  rw [Tryd.params3] at hA hval
  obtain ⟨v0, vs0, d0, ds0, p0, q0, hargs, rfl, rfl, h0, r0⟩ := trodAll_cons hA
  obtain ⟨v1, vs1, d1, ds1, p1, q1, rfl, rfl, rfl, h1, r1⟩ := trodAll_cons r0
  obtain ⟨v2, vs2, d2, ds2, p2, q2, rfl, rfl, rfl, h2, r2⟩ := trodAll_cons r1
  obtain ⟨v3, vs3, d3, ds3, p3, q3, rfl, rfl, rfl, h3, r3⟩ := trodAll_cons r2
  obtain ⟨rfl, rfl, rfl⟩ := trodAll_nil r3
  obtain rfl : args = #[v0, v1, v2, v3] := by cases args; simp_all
  obtain ⟨rfl, rfl⟩ := trodVars_none hV
  have k0 := h0
  have lt0 : ∀ x ∈ p0, x.block < W.heap.size := by obtain ⟨m, hm⟩ := k0; exact DataW.trod_lt m _ _ _ hm
  have k1 := h1
  have lt1 : ∀ x ∈ p1, x.block < W.heap.size := by obtain ⟨m, hm⟩ := k1; exact DataW.trod_lt m _ _ _ hm
  obtain ⟨c0, f0, rfl, wf0⟩ := open_roof (hval 0 26 v0 rfl rfl) h0
  obtain ⟨c1, f1, rfl, wf1⟩ := open_ages (hval 1 24 v1 rfl rfl) h1
  obtain ⟨n2, rfl, rfl, rfl, wf2⟩ := open_int Tryd.underlying2 (hval 2 2 v2 rfl rfl) h2
  obtain ⟨n3, rfl, rfl, rfl, wf3⟩ := open_int Tryd.underlying2 (hval 3 2 v3 rfl rfl) h3
  clear hA0 hval0
  refine ((law_walk_FnExactReplacedAt wf0 wf1 (bounds_i64 wf2) (bounds_i64 wf3) W (errT_of hL))).mono fun e W' ⟨he, bel⟩ => ?_
  subst he
  exact ⟨_, rfl, _, _, _, [], _, [], hW', trodAll_mk1 (shut_bool Tryd.underlying4 _), (trodAll_cons_mk (Below.trod laidOut (by kernel_rfl) (of_decide_eq_true (by kernel_rfl)) k0 bel lt0) (trodAll_cons_mk (Below.trod laidOut (by kernel_rfl) (of_decide_eq_true (by kernel_rfl)) k1 bel lt1) (trodAll_cons_mk (shut_int Tryd.underlying2 wf2) (trodAll_cons_mk (shut_int Tryd.underlying2 wf3) trodAll_mk0)))), rfl, bel.frame _, fun h => by cases h⟩

theorem over : Rows.FnExactReplacedAtSaid :=
  OpenClaim.holds_of_wide 3 Tryd.f3 rfl rfl rfl rfl rfl rfl rfl ⟨rfl, rfl, rfl, rfl, rfl⟩ rfl rfl rfl rfl rfl (by kernel_rfl) Tryd.func3 (by kernel_rfl)
    (of_decide_eq_true (by kernel_rfl)) (by unfold Func.isWrapper; first | (rw [if_pos (by decide +kernel)]; kernel_rfl) | (rw [if_neg (by decide +kernel)]; exact ⟨rfl, rfl⟩))
    (fun os started H enc _ => lifted os started H enc)

theorem proved : Rows.FnExactReplacedAtCardSaid :=
  Claim7.holds_tied_plain_at .later [] Rows.fnExactReplacedAtCard.laidKinds true Rows.fnExactReplacedAtCard.stood.harness Rows.fnExactReplacedAtCard.stood.looks
    over (fun _ h => by cases h) (by kernel_rfl) (fun _ h => by cases h) fnExactReplacedAt_row_tie rfl ⟨rfl, rfl⟩ (by kernel_rfl) rfl
    (fun f fn hf hfn => by
      obtain rfl : f = 3 := Option.some.inj ((show Tryd.prog.funcNamed "loop.example/g01376/laws.FnExactReplacedAt" = some 3 by kernel_rfl).symm.trans hf) |>.symm
      obtain rfl : fn = Tryd.f3 := (Option.some.inj (Tryd.func3.symm.trans hfn)).symm
      exact ⟨by kernel_rfl, fun j t ht => by
        rw [Tryd.params3] at ht
        have hm : t ∈ [26, 24, 2, 2] := by simpa using Array.mem_of_getElem? ht
        have hall : ([26, 24, 2, 2].all fun u => !Tryd.prog.wantsStandIn u) = true := by kernel_rfl
        exact (show Tryd.prog.wantsStandIn t = false by simpa using List.all_eq_true.1 hall t hm)⟩)
    (by kernel_rfl)
end LFnExactReplacedAt

end Go.Proofs.YtcdddngdjhjdbaaDoor
