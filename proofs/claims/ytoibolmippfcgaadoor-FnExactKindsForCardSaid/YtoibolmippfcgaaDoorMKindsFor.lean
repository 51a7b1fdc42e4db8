import Derived.Test.YtoibolmippfcgaaDoorLookC
import Derived.Test.YtoibolmippfcgaaDoorMended
import Derived.Test.YtoibolmippfcgaaDoorMendI
import Derived.Laws.Tables
import Derived.Test.YtoibolmippfcgaaDoorEnd
import Derived.RegionTactic
import Derived.RangeFuncNested
import Derived.RangeFuncBound
import Derived.RangeFuncCalls
import Derived.RangeFuncLeaves
import Derived.Shelf.Abstract
import Derived.Shelf.RegionOpen
import Derived.WalkKit
import Derived.OwnWalkIn
import Derived.TacticsInMore
import Derived.LoopNIn
import Derived.LoopIn
import Derived.Maps.AppendAt
import Derived.Test.YtoibolmippfcgaaDoorImplB
import Derived.RangeFuncBox
import Derived.Laws.AppendOwn
import Derived.Test.YtoibolmippfcgaaDoorList
import Derived.Test.YtoibolmippfcgaaDoorCells
import Derived.Deep.RegionHeld3
import Derived.OrdersIn
import Derived.AtR
import Derived.Test.YtoibolmippfcgaaDoorCards
import Derived.Test.YtoibolmippfcgaaDoorTie
import Derived.Test.YtoibolmippfcgaaDoorLaidN
import Derived.Test.YtoibolmippfcgaaDoorErr
import Derived.Test.YtoibolmippfcgaaDoorBox

/- What has been seen of a roof: the cells of the program's sight, and how it is built. -/
namespace Go.Proofs.YtoibolmippfcgaaDoor
open Go.RowKit

@[go_sem ↓] theorem loadAt_sight (v : Value) : Instr.loadAt 81 v = loadWhole 81 v := rfl
@[go_sem ↓] theorem storeAt_sight (a v : Value) : Instr.storeAt 81 a v = storeWhole 81 a v := rfl
@[go_sem] theorem load_sight (w : World) (n o : Nat) : (loadWhole 81 (.pointer (some ⟨n, o, none⟩))).run Tryd.prog w = rowLoad Tryd.prog 81 343 n o w (rowAt w n) := run_load_by Tryd.underlying81 rfl (by kernel_rfl) w n o
@[go_sem] theorem store_sight (vs : Array Value) (w : World) (n o : Nat) : (storeWhole 81 (.pointer (some ⟨n, o, none⟩)) (.agg vs)).run Tryd.prog w = rowStore Tryd.prog 81 343 n o vs w (rowAt w n) := run_store_by (by kernel_rfl) vs w n o

/-- 'Instr.build' under a name that the walk does not open. -/
def buildWhole (ty : TypeId) (ps : Array (Nat × Value)) : Sem Value := Instr.build ty ps
@[go_sem ↓] theorem build_sight (ps : Array (Nat × Value)) : Instr.build 81 ps = buildWhole 81 ps := rfl
theorem fillRow (off : Nat) : ∀ (l : List Value) (k : Nat) (cs : Array Value), off + k + l.length ≤ cs.size → (l.zipIdx k).foldl (fun cs p => cs.setIfInBounds (off + p.2) p.1) cs = splice cs (off + k) l.toArray
  | [], k, cs, _ => by
    apply Array.ext_getElem?; intro i
    simp [splice]
  | a :: l, k, cs, h => by
    simp only [List.length_cons] at h
    rw [List.zipIdx_cons, List.foldl_cons, fillRow off l (k + 1) _ (by simp; omega)]
    apply Array.ext_getElem?; intro i
    rw [get_splice _ _ _ (by simp; omega), get_splice _ _ _ (by simp; omega)]
    simp only [List.size_toArray, List.length_cons]
    by_cases h1 : i < off + k
    · rw [if_pos (by omega), if_pos h1, Array.getElem?_setIfInBounds_ne (by omega)]
    · rw [if_neg h1]
      by_cases h2 : i = off + k
      · subst h2
        rw [if_pos (by omega), if_pos (by omega), Array.getElem?_setIfInBounds_self_of_lt (by omega)]
        simp
      · rw [if_neg (by omega)]
        by_cases h3 : i < off + k + (l.length + 1)
        · rw [if_pos (by omega), if_pos h3]
          rw [show i - (off + k) = (i - (off + (k + 1))) + 1 from by omega]
          simp
        · rw [if_neg (by omega), if_neg h3, Array.getElem?_setIfInBounds_ne (by omega)]
theorem fill_agg {place : Nat → Option (Nat × Nat)} {cells v : Array Value} {i off : Nat} {rest : List (Nat × Value)} (hp : place i = some (off, v.size)) (hs : off + v.size ≤ cells.size) :
    Instr.fill place cells ((i, .agg v) :: rest) = Instr.fill place (splice cells off v) rest := by
  have h1 : (Value.agg v).cells = v := rfl
  have h2 := fillRow off v.toList 0 cells (by simpa using hs)
  have h3 : v.zipIdx.foldl (fun cs (p : Value × Nat) => cs.setIfInBounds (off + p.2) p.1) cells = splice cells off v := by
    rw [← Array.foldl_toList, Array.toList_zipIdx, h2]
    simp
  rw [Instr.fill, hp]
  simp only [h1]
  rw [if_neg (by simp; omega)]
  exact congrArg (fun z => Instr.fill place z rest) h3

/-- The cells of a sight: the frame, what comes, what drips, the drippers. -/
noncomputable def sightC (C Y X K : Array Value) : Array Value := splice (splice (splice (splice Tryd.zeroCells81 0 C) 67 Y) 203 X) 339 K
theorem zsight_size : Tryd.zeroCells81.size = 343 := by kernel_rfl
theorem sight_info : (Tryd.prog.info? 81).bind (·.zero) = some (.agg Tryd.zeroCells81) := by kernel_rfl
theorem sight_places : (match Tryd.prog.underlying 81 with | some (.struct fields) => fields.toList.mapM (fun f => (Tryd.prog.info? f.type).map fun i => (f.offset, i.size)) | _ => none) = some [(0, 67), (67, 136), (203, 136), (339, 4)] := by kernel_rfl
set_option maxRecDepth 100000 in
@[go_sem] theorem run_build_sight0 (w : World) : (buildWhole 81 #[]).run Tryd.prog w = .ok (.agg Tryd.zeroCells81) w := by
  show (Instr.build 81 _).run Tryd.prog w = _
  refine run_build w _ _ _ ?_
  obtain ⟨it, hi, hz⟩ := Option.bind_eq_some_iff.1 sight_info
  unfold Program.built
  have hp := sight_places
  rw [Tryd.underlying81] at hp
  rw [hi, Tryd.underlying81]
  simp only [hz]
  dsimp only at hp
  simp only [hp]
  rfl
section
variable {C Y X K : Array Value} (hC : C.size = 67) (hY : Y.size = 136) (hX : X.size = 136) (hK : K.size = 4)
include hC hY hX hK
theorem sightC_size : (sightC C Y X K).size = 343 := by
  have h0 := zsight_size
  unfold sightC
  rw [size_splice _ _ _ (by rw [size_splice _ _ _ (by rw [size_splice _ _ _ (by rw [size_splice _ _ _ (by omega)]; omega), size_splice _ _ _ (by omega)]; omega), size_splice _ _ _ (by rw [size_splice _ _ _ (by omega)]; omega), size_splice _ _ _ (by omega)]; omega), size_splice _ _ _ (by rw [size_splice _ _ _ (by rw [size_splice _ _ _ (by omega)]; omega), size_splice _ _ _ (by omega)]; omega), size_splice _ _ _ (by rw [size_splice _ _ _ (by omega)]; omega), size_splice _ _ _ (by omega)]
  exact h0
set_option maxRecDepth 100000 in
theorem sightC_get (i : Nat) : (sightC C Y X K)[i]? = if i < 67 then C[i]? else if i < 203 then Y[i - 67]? else if i < 339 then X[i - 203]? else K[i - 339]? := by
  have h0 := zsight_size
  have s1 : (splice Tryd.zeroCells81 0 C).size = 343 := by rw [size_splice _ _ _ (by omega)]; exact h0
  have s2 : (splice (splice Tryd.zeroCells81 0 C) 67 Y).size = 343 := by rw [size_splice _ _ _ (by omega)]; exact s1
  have s3 : (splice (splice (splice Tryd.zeroCells81 0 C) 67 Y) 203 X).size = 343 := by rw [size_splice _ _ _ (by omega)]; exact s2
  unfold sightC
  rw [get_splice _ _ _ (by omega), get_splice _ _ _ (by omega), get_splice _ _ _ (by omega), get_splice _ _ _ (by omega)]
  rw [hC, hY, hX, hK]
  repeat' split
  all_goals first | rfl | omega | (rw [Array.getElem?_eq_none (by omega), Array.getElem?_eq_none (by omega)])
theorem sightC_ones (oC : Ones C) (oY : Ones Y) (oX : Ones X) (oK : Ones K) : Ones (sightC C Y X K) := Ones.of_get fun i hi => by
  have hs := sightC_size hC hY hX hK
  have hg := sightC_get hC hY hX hK i
  rw [Array.getElem?_eq_getElem hi] at hg
  by_cases a : i < 67
  · rw [if_pos a, Array.getElem?_eq_getElem (by omega)] at hg
    rw [Option.some.inj hg]; exact oC _ (Array.getElem_mem _)
  · rw [if_neg a] at hg
    by_cases b : i < 203
    · rw [if_pos b, Array.getElem?_eq_getElem (by omega)] at hg
      rw [Option.some.inj hg]; exact oY _ (Array.getElem_mem _)
    · rw [if_neg b] at hg
      by_cases e : i < 339
      · rw [if_pos e, Array.getElem?_eq_getElem (by omega)] at hg
        rw [Option.some.inj hg]; exact oX _ (Array.getElem_mem _)
      · rw [if_neg e, Array.getElem?_eq_getElem (by omega)] at hg
        rw [Option.some.inj hg]; exact oK _ (Array.getElem_mem _)
theorem sightC_comes : (sightC C Y X K).extract 67 203 = Y := by
  have hs := sightC_size hC hY hX hK
  apply Array.ext_getElem?; intro i
  by_cases h : i < 136
  · rw [get_extract _ _ _ _ (by omega) (by omega), sightC_get hC hY hX hK, if_neg (by omega), if_pos (by omega), show 67 + i - 67 = i from by omega]
  · rw [Array.getElem?_eq_none (by simp; omega), Array.getElem?_eq_none (by omega)]
set_option maxRecDepth 100000 in
theorem run_build_sight (w : World) : (buildWhole 81 #[(0, .agg C), (1, .agg Y), (2, .agg X), (3, .agg K)]).run Tryd.prog w = .ok (.agg (sightC C Y X K)) w := by
  have h0 := zsight_size
  have s1 : (splice Tryd.zeroCells81 0 C).size = 343 := by rw [size_splice _ _ _ (by omega)]; exact h0
  have s2 : (splice (splice Tryd.zeroCells81 0 C) 67 Y).size = 343 := by rw [size_splice _ _ _ (by omega)]; exact s1
  have s3 : (splice (splice (splice Tryd.zeroCells81 0 C) 67 Y) 203 X).size = 343 := by rw [size_splice _ _ _ (by omega)]; exact s2
  show (Instr.build 81 _).run Tryd.prog w = _
  refine run_build w _ _ _ ?_
  obtain ⟨it, hi, hz⟩ := Option.bind_eq_some_iff.1 sight_info
  unfold Program.built
  have hp := sight_places
  rw [Tryd.underlying81] at hp
  rw [hi, Tryd.underlying81]
  simp only [hz]
  dsimp only at hp
  simp only [hp]
  show Instr.fill _ Tryd.zeroCells81 [(0, .agg C), (1, .agg Y), (2, .agg X), (3, .agg K)] = _
  rw [fill_agg (off := 0) (by rw [hC]; rfl) (by omega), fill_agg (off := 67) (by rw [hY]; rfl) (by omega), fill_agg (off := 203) (by rw [hX]; rfl) (by omega), fill_agg (off := 339) (by rw [hK]; rfl) (by omega)]
  rfl
end
end Go.Proofs.YtoibolmippfcgaaDoor

/- DripAfter: contracts of both sides. -/
namespace Go.Proofs.YtoibolmippfcgaaDoor
open Go.RowKit

theorem neqNilE (a : Addr) (w : World) : (binOp .neq 66 (errV a) .nilIface).run Tryd.prog w = .ok (.bool true) w := run_neq_iface_nil (P := Tryd.prog) (w := w) 66 (by kernel_rfl) _ _
theorem neqNil0 (w : World) : (binOp .neq 66 .nilIface .nilIface).run Tryd.prog w = .ok (.bool false) w := run_neq_nil_nil_at (P := Tryd.prog) (w := w) 66 (by kernel_rfl)

/-- What DripAfter answers. -/
noncomputable def Rf.dV (r : Rf) (t f : Nat → Int) (n : Nat) : Int := if r.pcode t f n true = 0 then r.aft t f n else 0
theorem Rf.pcode_zero {r : Rf} {t f : Nat → Int} {n : Nat} {fine : Bool} (h : r.pcode t f n fine = 0) : r.Rains t ∧ r.okP f n ∧ fine = true := by
  unfold Rf.pcode at h
  split at h
  · rename_i h1
    split at h
    · rename_i h2
      rw [Bool.and_eq_true] at h2
      exact ⟨Rf.Rains_of h1, Rf.okB_of h2.2, h2.1⟩
    · omega
  · omega
theorem Rf.pcode_cases (r : Rf) (t f : Nat → Int) (n : Nat) (fine : Bool) : r.pcode t f n fine = 0 ∨ r.pcode t f n fine = 1 ∨ r.pcode t f n fine = 2 := by
  unfold Rf.pcode
  split
  · split <;> simp
  · simp

set_option maxRecDepth 100000 in
set_option maxHeartbeats 1000000 in
theorem specDripAfter_any (b n : Nat) (c d : Array Value) (r : Rf) (t f : Nat → Int) (v : Value) (w : World) (hR : IsRoof c r) (hT : IsRain d t)
    (hv : IsList w b v 2 n (fun i => .int .i8 (f i))) (hn : n ≤ 2000000) (hf : ∀ i, i < n * 2 → -128 ≤ f i ∧ f i ≤ 127) :
    Calls Tryd.prog 9 #[.agg c, .agg d, v] w fun e w' => e = .returned (.tuple #[.int .i64 (r.dV t f n), .int .i64 (r.pcode t f n true)]) ∧ Below w.heap.size w w' := by
  obtain ⟨p0, p1, pB⟩ := two_boxes w c d 33 35
  have HV := Lib.hid (hv.below pB (Nat.le_refl _))
  have HF := Lib.hid hf
  obtain ⟨av, cv, rfl⟩ := hv.shape
  clear hv hf
  by_cases hz : r.pcode t f n true = 0
  · obtain ⟨ho, hP, _⟩ := Rf.pcode_zero hz
    have HP := Lib.hid hP
    have HD : Hid (r.dV t f n = r.aft t f n) := Lib.hid (if_pos hz)
    have HZ := Lib.hid hz
    clear hP hz
    go_enter Tryd.func9, Tryd.ntmps9
    go_wp2_with fail
    refine (l03Places_any w.heap.size (w.heap.size + 1) b n c d r t f _ true _ p0 hR p1 hT HV.out hn HF.out).mono ?_
    rw [HZ.out]
    rintro e w1 ⟨rfl, b1⟩
    have s0 := brow b1 p0
    have s1 := brow b1 p1
    have HV1 := Lib.hid (HV.out.below b1 (Nat.le_refl _))
    have B1 := bnext pB b1 pB.size
    clear b1 p0 p1 pB
    go_wp2_with fail
    refine (l03After_any w.heap.size (w.heap.size + 1) b n c d r t f _ _ s0 hR s1 hT ho HV1.out hn HP.out).mono ?_
    rintro e w2 ⟨rfl, b2⟩
    have B2 := bnext B1 b2 B1.size
    clear b2 s0 s1 B1
    go_wp2_with fail
    go_ret2
    exact ⟨by rw [HD.out, HZ.out]; rfl, B2⟩
  · have HD : Hid (r.dV t f n = 0) := Lib.hid (if_neg hz)
    obtain ⟨q, hq⟩ : ∃ q, q = r.pcode t f n true := ⟨_, rfl⟩
    have hq0 : (q != 0) = true := by rw [hq]; simpa using hz
    have HQ := Lib.hid hq
    clear hz hq
    go_enter Tryd.func9, Tryd.ntmps9
    go_wp2_with fail
    refine (l03Places_any w.heap.size (w.heap.size + 1) b n c d r t f _ true _ p0 hR p1 hT HV.out hn HF.out).mono ?_
    rw [← HQ.out]
    rintro e w1 ⟨rfl, b1⟩
    have B1 := bnext pB b1 pB.size
    clear b1 p0 p1 pB
    go_wp2_with fail
    go_ret2
    exact ⟨by rw [HD.out, ← HQ.out]; rfl, B1⟩

set_option maxRecDepth 100000 in
set_option maxHeartbeats 1000000 in
theorem implDripAfter_any (a : Nat → Addr) (b n : Nat) (c d : Array Value) (r : Rf) (t f : Nat → Int) (v : Value) (w : World) (hE : Errs a w) (hR : IsRoof c r) (hT : IsRain d t)
    (hv : IsList w b v 2 n (fun i => .int .i8 (f i))) (hn : n ≤ 2000000) :
    Calls Tryd.prog 13 #[.agg c, .agg d, v] w fun e w' => e = .returned (.tuple #[.int .i64 (r.dV t f n), .int .i64 (r.pcode t f n true)]) ∧ Below w.heap.size w w' := by
  have hc := hR.size
  have hd := hT.size
  obtain ⟨p0, p1, pB⟩ := two_boxes w c d 33 35
  have HV := Lib.hid (hv.below pB (Nat.le_refl _))
  have HE := Lib.hid (hE.below pB)
  have ne1 := neqNilE
  have ne0 := neqNil0
  obtain ⟨av, cv, rfl⟩ := hv.shape
  clear hv hE
  by_cases ho : r.Rains t
  · by_cases hP : r.okP f n
    · have hz := Rf.pcode_in ho hP
      have HD : Hid (r.dV t f n = r.aft t f n) := Lib.hid (if_pos hz)
      have HZ := Lib.hid hz
      have HP := Lib.hid hP
      clear hz hP
      go_enter Tryd.func13, Tryd.ntmps13
      go_wp2_with fail
      refine (checkPlaces_ok a b n c d r t f _ _ HE.out hR hT ho HV.out hn HP.out).mono ?_
      rintro e w1 ⟨rfl, b1⟩
      have s0 := brow b1 p0
      have s1 := brow b1 p1
      have HV1 := Lib.hid (HV.out.below b1 (Nat.le_refl _))
      have B1 := bnext pB b1 pB.size
      clear b1 p0 p1 pB
      go_wp2_with fail
      refine (dripAfter_any b n c d r t f _ _ hR hT ho HV1.out hn HP.out).mono ?_
      rintro e w2 ⟨rfl, b2⟩
      have B2 := bnext B1 b2 B1.size
      clear b2 s0 s1 B1
      go_wp2_with fail
      go_ret2
      exact ⟨by rw [HD.out, HZ.out]; rfl, B2⟩
    · have hz := Rf.pcode_out (fine := true) ho (by rw [Rf.okB_f hP]; rfl)
      have HD : Hid (r.dV t f n = 0) := Lib.hid (if_neg (by rw [hz]; decide))
      have HZ := Lib.hid hz
      have HP := Lib.hid hP
      clear hz hP
      go_enter Tryd.func13, Tryd.ntmps13
      go_wp2_with fail
      refine (checkPlaces_bad a b n c d r t f _ _ HE.out hR hT ho HV.out hn HP.out).mono ?_
      rintro e w1 ⟨rfl, b1⟩
      have HE1 := Lib.hid (HE.out.below b1)
      have B1 := bnext pB b1 pB.size
      clear b1 p0 p1 pB
      go_wp2_with fail
      refine (leakCode_any a 1 _ HE1.out (by omega)).mono ?_
      rintro e w2 ⟨rfl, rfl⟩
      go_wp2_with fail
      go_ret2
      exact ⟨by rw [HD.out, HZ.out]; rfl, B1⟩
  · have hz := Rf.pcode_no (f := f) (n := n) (fine := true) ho
    have HD : Hid (r.dV t f n = 0) := Lib.hid (if_neg (by rw [hz]; decide))
    have HZ := Lib.hid hz
    clear hz
    go_enter Tryd.func13, Tryd.ntmps13
    go_wp2_with fail
    refine (checkPlaces_no a c d r t _ _ HE.out hR hT ho).mono ?_
    rintro e w1 ⟨rfl, b1⟩
    have HE1 := Lib.hid (HE.out.below b1)
    have B1 := bnext pB b1 pB.size
    clear b1 p0 p1 pB
    go_wp2_with fail
    refine (leakCode_any a 0 _ HE1.out (by omega)).mono ?_
    rintro e w2 ⟨rfl, rfl⟩
    go_wp2_with fail
    go_ret2
    exact ⟨by rw [HD.out, HZ.out]; rfl, B1⟩
end Go.Proofs.YtoibolmippfcgaaDoor

/- What has been seen of a roof: the program's look. -/
namespace Go.Proofs.YtoibolmippfcgaaDoor
open Go.RowKit

theorem onesZ_sight : Ones Tryd.zeroCells81 := by
  have h : (Tryd.zeroCells81).toList.all (fun v => v.oneCell') = true := by kernel_rfl
  intro v hv
  exact List.all_eq_true.1 h v (by simpa using hv)

set_option maxRecDepth 100000 in
set_option maxHeartbeats 2000000 in
theorem look_no (a : Nat → Addr) (b n : Nat) (c d X : Array Value) (r : Rf) (t D f : Nat → Int) (v : Value) (w : World) (hE : Errs a w) (hR : IsRoof c r) (hT : IsRain d t) (hX : IsD X D) (hv : IsList w b v 2 n (fun i => .int .i8 (f i))) (_hn : n ≤ 2000000) (ho : ¬ r.Rains t) :
    Calls Tryd.prog 38 #[.agg c, .agg d, .agg X, v] w fun e w' => e = .returned (.tuple #[.agg Tryd.zeroCells81, errV (a 0)]) ∧ Below w.heap.size w w' := by
  have hxs := hX.size
  have hcs := hR.size
  have hds := hT.size
  have hzs := zsight_size
  have hzo : Ones Tryd.zeroCells81 := onesZ_sight
  have ne1 := neqNilE
  have ne0 := neqNil0
  have HE := Lib.hid hE
  have HV := Lib.hid hv
  obtain ⟨av, cv, rfl⟩ := hv.shape
  clear hE hv
  go_enter Tryd.func38, Tryd.ntmps38
  go_wp2_with fail
  refine gen_callsS fun W1 hW => ?_
  have p0 : rowAt W1 w.heap.size = some c := by rw [hW]; exact (rowAt_alloc_past _ _ _ (by first | omega | (simp; done) | (simp; omega))).trans ((rowAt_alloc_past _ _ _ (by first | omega | (simp; done) | (simp; omega))).trans ((rowAt_alloc_past _ _ _ (by simp)).trans (rowAt_alloc_at _ _ _ _ rfl)))
  have p1 : rowAt W1 (w.heap.size + 1) = some d := by rw [hW]; exact (rowAt_alloc_past _ _ _ (by first | omega | (simp; done) | (simp; omega))).trans ((rowAt_alloc_past _ _ _ (by simp)).trans (rowAt_alloc_at _ _ _ _ (by simp)))
  have p2 : rowAt W1 (w.heap.size + 1 + 1) = some X := by rw [hW]; exact (rowAt_alloc_past _ _ _ (by simp)).trans (rowAt_alloc_at _ _ _ _ (by simp))
  have p3 : rowAt W1 (w.heap.size + 1 + 1 + 1) = some Tryd.zeroCells81 := by rw [hW]; exact rowAt_alloc_at _ _ _ _ (by simp)
  have pB : Below w.heap.size w W1 := by rw [hW]; exact ((((Below.refl _ _).alloc (Nat.le_refl _) _).alloc (by simp) _).alloc (by first | omega | (simp; done) | (simp; omega)) _).alloc (by first | omega | (simp; done) | (simp; omega)) _
  have HV1 := Lib.hid (HV.out.below pB (Nat.le_refl _))
  have HE1 := Lib.hid (HE.out.below pB)
  clear hW
  refine (checkPlaces_no a c d r t _ _ HE1.out hR hT ho).mono ?_
  rintro e w2 ⟨rfl, b2⟩
  have s3 := brow b2 p3
  have sB := bnext pB b2 pB.size
  clear b2 p0 p1 p2 p3 pB
  go_wp2_with fail
  refine bodyPost_ret (v := .tuple #[.agg Tryd.zeroCells81, errV (a 0)]) (results_row2 (m := 343) rfl _ _ (w.heap.size + 1 + 1 + 1) _ _ rfl rfl (rowAt_setRow_at _ _ _ (by rw [s3]; rfl)) Tryd.underlying81 rfl (by kernel_rfl) hzs) rfl ⟨rfl, ?_⟩
  exact below_setRow sB (by omega) _

set_option maxRecDepth 100000 in
set_option maxHeartbeats 2000000 in
theorem look_bad (a : Nat → Addr) (b n : Nat) (c d X : Array Value) (r : Rf) (t D f : Nat → Int) (v : Value) (w : World) (hE : Errs a w) (hR : IsRoof c r) (hT : IsRain d t) (hX : IsD X D) (hv : IsList w b v 2 n (fun i => .int .i8 (f i))) (hn : n ≤ 2000000) (ho : r.Rains t) (hP : ¬ r.okP f n) :
    Calls Tryd.prog 38 #[.agg c, .agg d, .agg X, v] w fun e w' => e = .returned (.tuple #[.agg Tryd.zeroCells81, errV (a 1)]) ∧ Below w.heap.size w w' := by
  have hxs := hX.size
  have hcs := hR.size
  have hds := hT.size
  have hzs := zsight_size
  have hzo : Ones Tryd.zeroCells81 := onesZ_sight
  have ne1 := neqNilE
  have ne0 := neqNil0
  have HE := Lib.hid hE
  have HV := Lib.hid hv
  obtain ⟨av, cv, rfl⟩ := hv.shape
  clear hE hv
  go_enter Tryd.func38, Tryd.ntmps38
  go_wp2_with fail
  refine gen_callsS fun W1 hW => ?_
  have p0 : rowAt W1 w.heap.size = some c := by rw [hW]; exact (rowAt_alloc_past _ _ _ (by first | omega | (simp; done) | (simp; omega))).trans ((rowAt_alloc_past _ _ _ (by first | omega | (simp; done) | (simp; omega))).trans ((rowAt_alloc_past _ _ _ (by simp)).trans (rowAt_alloc_at _ _ _ _ rfl)))
  have p1 : rowAt W1 (w.heap.size + 1) = some d := by rw [hW]; exact (rowAt_alloc_past _ _ _ (by first | omega | (simp; done) | (simp; omega))).trans ((rowAt_alloc_past _ _ _ (by simp)).trans (rowAt_alloc_at _ _ _ _ (by simp)))
  have p2 : rowAt W1 (w.heap.size + 1 + 1) = some X := by rw [hW]; exact (rowAt_alloc_past _ _ _ (by simp)).trans (rowAt_alloc_at _ _ _ _ (by simp))
  have p3 : rowAt W1 (w.heap.size + 1 + 1 + 1) = some Tryd.zeroCells81 := by rw [hW]; exact rowAt_alloc_at _ _ _ _ (by simp)
  have pB : Below w.heap.size w W1 := by rw [hW]; exact ((((Below.refl _ _).alloc (Nat.le_refl _) _).alloc (by simp) _).alloc (by first | omega | (simp; done) | (simp; omega)) _).alloc (by first | omega | (simp; done) | (simp; omega)) _
  have HV1 := Lib.hid (HV.out.below pB (Nat.le_refl _))
  have HE1 := Lib.hid (HE.out.below pB)
  clear hW
  refine (checkPlaces_bad a b n c d r t f _ _ HE1.out hR hT ho HV1.out hn hP).mono ?_
  rintro e w2 ⟨rfl, b2⟩
  have s3 := brow b2 p3
  have sB := bnext pB b2 pB.size
  clear b2 p0 p1 p2 p3 pB
  go_wp2_with fail
  refine bodyPost_ret (v := .tuple #[.agg Tryd.zeroCells81, errV (a 1)]) (results_row2 (m := 343) rfl _ _ (w.heap.size + 1 + 1 + 1) _ _ rfl rfl (rowAt_setRow_at _ _ _ (by rw [s3]; rfl)) Tryd.underlying81 rfl (by kernel_rfl) hzs) rfl ⟨rfl, ?_⟩
  exact below_setRow sB (by omega) _

set_option maxRecDepth 100000 in
set_option maxHeartbeats 2000000 in
theorem look_unsound (a : Nat → Addr) (b n : Nat) (c d X : Array Value) (r : Rf) (t D f : Nat → Int) (v : Value) (w : World) (hE : Errs a w) (hR : IsRoof c r) (hT : IsRain d t) (hX : IsD X D) (hv : IsList w b v 2 n (fun i => .int .i8 (f i))) (hn : n ≤ 2000000) (ho : r.Rains t) (hP : r.okP f n) (hs : ¬ r.Sound t D) :
    Calls Tryd.prog 38 #[.agg c, .agg d, .agg X, v] w fun e w' => e = .returned (.tuple #[.agg Tryd.zeroCells81, errV (a 3)]) ∧ Below w.heap.size w w' := by
  have CS := fun w => areSound_any X c d r t D w hX hR hT ho
  rw [Rf.sB_f hs] at CS
  have hxs := hX.size
  have hcs := hR.size
  have hds := hT.size
  have hzs := zsight_size
  have hzo : Ones Tryd.zeroCells81 := onesZ_sight
  have ne1 := neqNilE
  have ne0 := neqNil0
  have HE := Lib.hid hE
  have HV := Lib.hid hv
  obtain ⟨av, cv, rfl⟩ := hv.shape
  clear hE hv
  go_enter Tryd.func38, Tryd.ntmps38
  go_wp2_with fail
  refine gen_callsS fun W1 hW => ?_
  have p0 : rowAt W1 w.heap.size = some c := by rw [hW]; exact (rowAt_alloc_past _ _ _ (by first | omega | (simp; done) | (simp; omega))).trans ((rowAt_alloc_past _ _ _ (by first | omega | (simp; done) | (simp; omega))).trans ((rowAt_alloc_past _ _ _ (by simp)).trans (rowAt_alloc_at _ _ _ _ rfl)))
  have p1 : rowAt W1 (w.heap.size + 1) = some d := by rw [hW]; exact (rowAt_alloc_past _ _ _ (by first | omega | (simp; done) | (simp; omega))).trans ((rowAt_alloc_past _ _ _ (by simp)).trans (rowAt_alloc_at _ _ _ _ (by simp)))
  have p2 : rowAt W1 (w.heap.size + 1 + 1) = some X := by rw [hW]; exact (rowAt_alloc_past _ _ _ (by simp)).trans (rowAt_alloc_at _ _ _ _ (by simp))
  have p3 : rowAt W1 (w.heap.size + 1 + 1 + 1) = some Tryd.zeroCells81 := by rw [hW]; exact rowAt_alloc_at _ _ _ _ (by simp)
  have pB : Below w.heap.size w W1 := by rw [hW]; exact ((((Below.refl _ _).alloc (Nat.le_refl _) _).alloc (by simp) _).alloc (by first | omega | (simp; done) | (simp; omega)) _).alloc (by first | omega | (simp; done) | (simp; omega)) _
  have HV1 := Lib.hid (HV.out.below pB (Nat.le_refl _))
  have HE1 := Lib.hid (HE.out.below pB)
  clear hW
  refine (checkPlaces_ok a b n c d r t f _ _ HE1.out hR hT ho HV1.out hn hP).mono ?_
  rintro e w2 ⟨rfl, b2⟩
  have s0 := brow b2 p0
  have s1 := brow b2 p1
  have s2 := brow b2 p2
  have s3 := brow b2 p3
  have HE2 := Lib.hid (HE1.out.below b2)
  have sB := bnext pB b2 pB.size
  clear b2 p0 p1 p2 p3 pB
  go_wp2_with fail
  refine (CS _).mono ?_
  rintro e w3 ⟨rfl, b3⟩
  have u3 := brow b3 s3
  have uB := bnext sB b3 sB.size
  have k3 := (HE2.out.below b3).v3
  have lt3 := rowAt_lt u3
  have l5 := lt_of_cellE HE.out.v3
  have n5 : 3 ≠ w.heap.size + 1 + 1 + 1 := by simp at l5; omega
  have n5a : ¬ w.heap.size = 0 := by simp at l5; omega
  have n5b : ¬ 0 = w.heap.size := by simp at l5; omega
  clear b3 s0 s1 s2 s3 sB CS
  go_wp2_with fail
  go_region
  go_wp2_with fail
  refine bodyPost_ret (v := .tuple #[.agg Tryd.zeroCells81, errV (a 3)]) (results_row2 (m := 343) rfl _ _ (w.heap.size + 1 + 1 + 1) _ _ rfl rfl (rowAt_setRow_at _ _ _ (by rw [u3]; rfl)) Tryd.underlying81 rfl (by kernel_rfl) hzs) rfl ⟨rfl, ?_⟩
  exact (below_setRow uB (by omega) _).drew

/-- What look gives where all is well. -/
def LookEnd (w : World) (c X : Array Value) (r : Rf) (t D : Nat → Int) (e : Ending) (w' : World) : Prop :=
  ∃ B2 B3, e = .returned (.tuple #[.agg (sightC (bareC c) (mkI .i32 136 (r.seen t D)) X (dripK B2 B3)), .nilIface]) ∧ rowAt w' B2 = some #[.int .i64 2] ∧ rowAt w' B3 = some #[.int .i64 3] ∧ w.heap.size ≤ B2 ∧ w.heap.size ≤ B3 ∧ Below w.heap.size w w'

set_option maxRecDepth 100000 in
set_option maxHeartbeats 4000000 in
theorem look_ok (a : Nat → Addr) (b n : Nat) (c d X : Array Value) (r : Rf) (t D f : Nat → Int) (v : Value) (w : World) (hE : Errs a w) (hR : IsRoof c r) (hT : IsRain d t) (hX : IsD X D) (hv : IsList w b v 2 n (fun i => .int .i8 (f i))) (hn : n ≤ 2000000) (ho : r.Rains t) (hP : r.okP f n) (hs : r.Sound t D) :
    Calls Tryd.prog 38 #[.agg c, .agg d, .agg X, v] w (LookEnd w c X r t D) := by
  have CS := fun w => areSound_any X c d r t D w hX hR hT ho
  rw [Rf.sB_t hs] at CS
  have CM := fun w => mended_any c r w hR
  have CC := fun w => comesTo_any X c d r t D w hX hR hT ho hs
  have hbs := hR.bare.size
  have hbo := hR.bare.ones
  have hys : (mkI .i32 136 (r.seen t D)).size = 136 := by simp
  have hyo := (isK_mkI .i32 136 (r.seen t D)).ones
  have hxo := hX.ones
  obtain ⟨Y, hY⟩ : ∃ Y, Y = mkI .i32 136 (r.seen t D) := ⟨_, rfl⟩
  obtain ⟨C, hC⟩ : ∃ C, C = bareC c := ⟨_, rfl⟩
  rw [← hY] at CC hys hyo
  rw [← hC] at CM hbs hbo
  have HY := Lib.hid hY
  have HC := Lib.hid hC
  clear hY hC
  have hxs := hX.size
  have hcs := hR.size
  have hds := hT.size
  have hzs := zsight_size
  have hzo : Ones Tryd.zeroCells81 := onesZ_sight
  have ne1 := neqNilE
  have ne0 := neqNil0
  have HE := Lib.hid hE
  have HV := Lib.hid hv
  obtain ⟨av, cv, rfl⟩ := hv.shape
  clear hE hv
  go_enter Tryd.func38, Tryd.ntmps38
  go_wp2_with fail
  refine gen_callsS fun W1 hW => ?_
  have p0 : rowAt W1 w.heap.size = some c := by rw [hW]; exact (rowAt_alloc_past _ _ _ (by first | omega | (simp; done) | (simp; omega))).trans ((rowAt_alloc_past _ _ _ (by first | omega | (simp; done) | (simp; omega))).trans ((rowAt_alloc_past _ _ _ (by simp)).trans (rowAt_alloc_at _ _ _ _ rfl)))
  have p1 : rowAt W1 (w.heap.size + 1) = some d := by rw [hW]; exact (rowAt_alloc_past _ _ _ (by first | omega | (simp; done) | (simp; omega))).trans ((rowAt_alloc_past _ _ _ (by simp)).trans (rowAt_alloc_at _ _ _ _ (by simp)))
  have p2 : rowAt W1 (w.heap.size + 1 + 1) = some X := by rw [hW]; exact (rowAt_alloc_past _ _ _ (by simp)).trans (rowAt_alloc_at _ _ _ _ (by simp))
  have p3 : rowAt W1 (w.heap.size + 1 + 1 + 1) = some Tryd.zeroCells81 := by rw [hW]; exact rowAt_alloc_at _ _ _ _ (by simp)
  have pB : Below w.heap.size w W1 := by rw [hW]; exact ((((Below.refl _ _).alloc (Nat.le_refl _) _).alloc (by simp) _).alloc (by first | omega | (simp; done) | (simp; omega)) _).alloc (by first | omega | (simp; done) | (simp; omega)) _
  have HV1 := Lib.hid (HV.out.below pB (Nat.le_refl _))
  have HE1 := Lib.hid (HE.out.below pB)
  clear hW
  refine (checkPlaces_ok a b n c d r t f _ _ HE1.out hR hT ho HV1.out hn hP).mono ?_
  rintro e w2 ⟨rfl, b2⟩
  have s0 := brow b2 p0
  have s1 := brow b2 p1
  have s2 := brow b2 p2
  have s3 := brow b2 p3
  have sB := bnext pB b2 pB.size
  clear b2 p0 p1 p2 p3 pB
  go_wp2_with fail
  refine (CS _).mono ?_
  rintro e w3 ⟨rfl, b3⟩
  have u0 := brow b3 s0
  have u1 := brow b3 s1
  have u2 := brow b3 s2
  have u3 := brow b3 s3
  have uB := bnext sB b3 sB.size
  have lt3 := rowAt_lt u3
  clear b3 s0 s1 s2 s3 sB CS
  go_wp2_with fail
  refine wp_region_held_drew (S := (fun w' => (rowAt w' w.heap.size = some c ∧ rowAt w' (w.heap.size + 1) = some d ∧ rowAt w' (w.heap.size + 1 + 1) = some X ∧ (∃ Z, rowAt w' (w.heap.size + 1 + 1 + 1) = some Z ∧ Z.size = 343)) ∧ Below w.heap.size w w' ∧ w.heap.size + 1 + 1 + 1 < w'.heap.size)) (by kernel_rfl) (⟨⟨u0, u1, u2, _, u3, hzs⟩, uB.drew, lt3⟩) (fun hH => ?_)
  refine wpAnyH_take (i := 0) (v := .agg c) rfl (by kernel_rfl) (by kernel_rfl) (by kernel_rfl) (fun _ _ _ h => h) (Or.inl ⟨by rfl, ?_⟩) hH ?_
  · intro w1 hS; (try dsimp only at hS); obtain ⟨⟨q0, q1, q2, _⟩, _⟩ := hS; go_simp
  (try simp only [List.getElem_toArray]); (try simp only [List.getElem_cons_succ]); (try simp only [List.getElem_cons_zero]); (try simp only [Act.put]); (try simp only [List.setIfInBounds_toArray]); (try simp only [List.set_cons_succ]); (try simp only [List.set_cons_zero])
  refine wpAnyH_take (i := 2) (v := .agg X) rfl (by kernel_rfl) (by kernel_rfl) (by kernel_rfl) (fun _ _ _ h => h) (Or.inl ⟨by rfl, ?_⟩) hH ?_
  · intro w1 hS; (try dsimp only at hS); obtain ⟨⟨q0, q1, q2, _⟩, _⟩ := hS; go_simp
  (try simp only [List.getElem_toArray]); (try simp only [List.getElem_cons_succ]); (try simp only [List.getElem_cons_zero]); (try simp only [Act.put]); (try simp only [List.setIfInBounds_toArray]); (try simp only [List.set_cons_succ]); (try simp only [List.set_cons_zero])
  refine wpAnyH_take (i := 3) (v := .agg c) rfl (by kernel_rfl) (by kernel_rfl) (by kernel_rfl) (fun _ _ _ h => h) (Or.inl ⟨by rfl, ?_⟩) hH ?_
  · intro w1 hS; (try dsimp only at hS); obtain ⟨⟨q0, q1, q2, _⟩, _⟩ := hS; go_simp
  (try simp only [List.getElem_toArray]); (try simp only [List.getElem_cons_succ]); (try simp only [List.getElem_cons_zero]); (try simp only [Act.put]); (try simp only [List.setIfInBounds_toArray]); (try simp only [List.set_cons_succ]); (try simp only [List.set_cons_zero])
  refine wpAnyH_take (i := 4) (v := .agg d) rfl (by kernel_rfl) (by kernel_rfl) (by kernel_rfl) (fun _ _ _ h => h) (Or.inl ⟨by rfl, ?_⟩) hH ?_
  · intro w1 hS; (try dsimp only at hS); obtain ⟨⟨q0, q1, q2, _⟩, _⟩ := hS; go_simp
  (try simp only [List.getElem_toArray]); (try simp only [List.getElem_cons_succ]); (try simp only [List.getElem_cons_zero]); (try simp only [Act.put]); (try simp only [List.setIfInBounds_toArray]); (try simp only [List.set_cons_succ]); (try simp only [List.set_cons_zero])
  refine wpAnyH_take (i := 6) (v := .agg X) rfl (by kernel_rfl) (by kernel_rfl) (by kernel_rfl) (fun _ _ _ h => h) (Or.inl ⟨by rfl, ?_⟩) hH ?_
  · intro w1 hS; (try dsimp only at hS); obtain ⟨⟨q0, q1, q2, _⟩, _⟩ := hS; go_simp
  (try simp only [List.getElem_toArray]); (try simp only [List.getElem_cons_succ]); (try simp only [List.getElem_cons_zero]); (try simp only [Act.put]); (try simp only [List.setIfInBounds_toArray]); (try simp only [List.set_cons_succ]); (try simp only [List.set_cons_zero])
  refine wpAnyH_ready (rs := [1]) (by kernel_rfl) (by simp) (AllReadyH.cons rfl (fun K hK => ?_) AllReadyH.nil)
  go_simp
  refine (CM _).mono ?_
  rintro x wx ⟨rfl, bx⟩
  go_simp
  refine hK.out _ _ (⟨⟨brow bx hH.1.1, brow bx hH.1.2.1, brow bx hH.1.2.2.1, by obtain ⟨z, hz, hs⟩ := hH.1.2.2.2; exact ⟨z, brow bx hz, hs⟩⟩, bnext hH.2.1 bx hH.2.1.size, Nat.lt_of_lt_of_le hH.2.2 bx.size⟩) (fun hG => ?_)
  clear hK K hH bx
  replace hH := hG
  clear hG
  (try simp only [List.getElem_toArray]); (try simp only [List.getElem_cons_succ]); (try simp only [List.getElem_cons_zero]); (try simp only [Act.put]); (try simp only [List.setIfInBounds_toArray]); (try simp only [List.set_cons_succ]); (try simp only [List.set_cons_zero])
  refine wpAnyH_ready (rs := [5]) (by kernel_rfl) (by simp) (AllReadyH.cons rfl (fun K hK => ?_) AllReadyH.nil)
  go_simp
  refine (CC _).mono ?_
  rintro x wx ⟨rfl, bx⟩
  go_simp
  refine hK.out _ _ (⟨⟨brow bx hH.1.1, brow bx hH.1.2.1, brow bx hH.1.2.2.1, by obtain ⟨z, hz, hs⟩ := hH.1.2.2.2; exact ⟨z, brow bx hz, hs⟩⟩, bnext hH.2.1 bx hH.2.1.size, Nat.lt_of_lt_of_le hH.2.2 bx.size⟩) (fun hG => ?_)
  clear hK K hH bx
  replace hH := hG
  clear hG
  (try simp only [List.getElem_toArray]); (try simp only [List.getElem_cons_succ]); (try simp only [List.getElem_cons_zero]); (try simp only [Act.put]); (try simp only [List.setIfInBounds_toArray]); (try simp only [List.set_cons_succ]); (try simp only [List.set_cons_zero])
  refine wpAnyH_ready (rs := [7]) (by kernel_rfl) (by simp) (AllReadyH.cons rfl (fun K hK => ?_) AllReadyH.nil)
  go_simp
  refine (drippers_any _).mono ?_
  rintro x wx ⟨B2, B3, rfl, e2, e3, g2, g3, bx⟩
  have lx := hH.2.2
  go_simp
  refine hK.out _ _ (⟨⟨brow bx hH.1.1, brow bx hH.1.2.1, brow bx hH.1.2.2.1, by obtain ⟨z, hz, hs⟩ := hH.1.2.2.2; exact ⟨z, brow bx hz, hs⟩⟩, bnext hH.2.1 bx hH.2.1.size, Nat.lt_of_lt_of_le hH.2.2 bx.size⟩) (fun hG => ?_)
  clear hK K hH bx
  replace hH := hG
  clear hG
  (try simp only [List.getElem_toArray]); (try simp only [List.getElem_cons_succ]); (try simp only [List.getElem_cons_zero]); (try simp only [Act.put]); (try simp only [List.setIfInBounds_toArray]); (try simp only [List.set_cons_succ]); (try simp only [List.set_cons_zero])
  have hkl : (dripK B2 B3).size = 4 := rfl
  have hbu := fun w => run_build_sight (w := w) hbs hys hxs hkl
  have hSs := sightC_size hbs hys hxs hkl
  have hSo := sightC_ones hbs hys hxs hkl hbo hyo hxo (ones_dripK B2 B3)
  obtain ⟨S, hS⟩ : ∃ S, S = sightC C Y X (dripK B2 B3) := ⟨_, rfl⟩
  rw [← hS] at hbu hSs hSo
  have HS := Lib.hid hS
  clear hS
  refine wpAnyH_take (i := 8) (v := .agg S) rfl (by kernel_rfl) (by kernel_rfl) (by kernel_rfl) (fun _ _ _ h => h) (Or.inl ⟨by rfl, ?_⟩) hH ?_
  · intro w1 hS; (try dsimp only at hS); go_simp; (first | done | (rw [hbu]; rfl))
  (try simp only [List.getElem_toArray]); (try simp only [List.getElem_cons_succ]); (try simp only [List.getElem_cons_zero]); (try simp only [Act.put]); (try simp only [List.setIfInBounds_toArray]); (try simp only [List.set_cons_succ]); (try simp only [List.set_cons_zero])
  refine wpAnyH_ready (rs := [9]) (by kernel_rfl) (by simp) (AllReadyH.cons rfl (fun K hK => ?_) AllReadyH.nil)
  obtain ⟨Z, hZ, hZs⟩ := hH.1.2.2.2
  go_simp
  refine hK.out _ _ ?_ (fun hG => ?_)
  · exact ⟨⟨(rowAt_setRow_ne _ _ _ _ (by omega)).trans hH.1.1, (rowAt_setRow_ne _ _ _ _ (by omega)).trans hH.1.2.1, (rowAt_setRow_ne _ _ _ _ (by omega)).trans hH.1.2.2.1, ⟨_, rowAt_setRow_at _ _ _ (by rw [hZ]; rfl), hSs⟩⟩, below_setRow hH.2.1 (by omega) _, by simpa using hH.2.2⟩
  clear hK K
  have hH0 := hH
  replace hH := hG
  clear hG
  (try simp only [List.getElem_toArray]); (try simp only [List.getElem_cons_succ]); (try simp only [List.getElem_cons_zero]); (try simp only [Act.put]); (try simp only [List.setIfInBounds_toArray]); (try simp only [List.set_cons_succ]); (try simp only [List.set_cons_zero])
  refine wpAnyH_take (i := 10) (v := .nilIface) rfl (by kernel_rfl) (by kernel_rfl) (by kernel_rfl) (fun _ _ _ h => h) (Or.inl ⟨by rfl, ?_⟩) hH ?_
  · intro w1 hS; (try dsimp only at hS); go_simp
  (try simp only [List.getElem_toArray]); (try simp only [List.getElem_cons_succ]); (try simp only [List.getElem_cons_zero]); (try simp only [Act.put]); (try simp only [List.setIfInBounds_toArray]); (try simp only [List.set_cons_succ]); (try simp only [List.set_cons_zero])
  refine wpAnyH_done (by kernel_rfl) ?_ _
  go_wp2_with fail
  refine bodyPost_ret (v := .tuple #[.agg S, .nilIface]) (results_row2 (m := 343) rfl _ _ (w.heap.size + 1 + 1 + 1) _ _ rfl rfl (rowAt_setRow_at _ _ _ (by rw [hZ]; rfl)) Tryd.underlying81 rfl (by kernel_rfl) hSs) rfl ⟨B2, B3, by rw [HS.out, HY.out, HC.out], (rowAt_setRow_ne _ _ _ _ (by omega)).trans e2, (rowAt_setRow_ne _ _ _ _ (by omega)).trans e3, by omega, by omega, ?_⟩
  exact below_setRow hH0.2.1 (by omega) _
end Go.Proofs.YtoibolmippfcgaaDoor

/- r.places(): the iterator over all places of a roof, course by course. -/
namespace Go.Proofs.YtoibolmippfcgaaDoor
open Go.RowKit Go.Shelf
attribute [local go_sem] Oper.semAt_some

/-- A place of h courses of w tiles. -/
abbrev Pl (h w : Nat) := { p : Nat × Nat // p.1 < h ∧ p.2 < w }
def Pl.enc {h w : Nat} (x : Pl h w) : Value := .agg #[.int .i8 (x.1.1 : Int), .int .i8 (x.1.2 : Int)]
/-- The first k places. -/
def plUpto (h w : Nat) : Nat → List (Pl h w)
  | 0 => []
  | k + 1 => plUpto h w k ++ (if q : k / w < h ∧ k % w < w then [⟨(k / w, k % w), q⟩] else [])
theorem pl_div {c j w : Nat} (hj : j < w) : (c * w + j) / w = c := by
  rw [Nat.mul_comm, Nat.mul_add_div (by omega), Nat.div_eq_of_lt hj, Nat.add_zero]
theorem pl_mod {c j w : Nat} (hj : j < w) : (c * w + j) % w = j := by
  rw [Nat.mul_comm, Nat.mul_add_mod, Nat.mod_eq_of_lt hj]
theorem plUpto_succ {h w c j : Nat} (hc : c < h) (hj : j < w) : plUpto h w (c * w + j + 1) = plUpto h w (c * w + j) ++ [⟨(c, j), hc, hj⟩] := by
  have e1 := pl_div (c := c) hj
  have e2 := pl_mod (c := c) hj
  simp only [plUpto, e1, e2]
  rw [dif_pos ⟨hc, hj⟩]
theorem plUpto_len (h w : Nat) : ∀ k, (plUpto h w k).length ≤ k
  | 0 => Nat.le_refl _
  | k + 1 => by
    have := plUpto_len h w k
    simp only [plUpto, List.length_append]
    split <;> simp <;> omega

/-- What a round that goes on keeps: the blocks below n, and the roof's box. -/
def KpR (n B : Nat) (W W' : World) : Prop := Below n W W' ∧ ∀ c, rowAt W B = some c → rowAt W' B = some c
theorem KpR.refl (n B : Nat) (W : World) : KpR n B W W := ⟨Below.refl _ _, fun _ h => h⟩
theorem KpR.trans {n B : Nat} {A C D : World} (h : KpR n B A C) (k : KpR n B C D) : KpR n B A D := ⟨h.1.trans k.1, fun c x => k.2 c (h.2 c x)⟩
theorem KpR.put {n B : Nat} {w : World} (hn : n ≤ w.heap.size) (hB : B < w.heap.size) : ∀ (W : World) (l : Nat) (o o' : Obj), w.heap.size ≤ l → W.heap[l]? = some o → o.isCells = false → o.isWalk = false → KpR n B W (W.putObj l o') :=
  fun W l o o' hl ho hc hw => ⟨belowK_b (w := w) hn W l o o' hl ho hc hw, fun c h => by
    obtain ⟨t, ht⟩ := rowAt_some h
    exact rowAt_of_heap (t := t) ((World.putObj_heap_other (by omega)).trans ht)⟩

set_option maxRecDepth 100000 in
set_option maxHeartbeats 2000000 in
theorem places1_in (n : Nat) (hn : 1 ≤ n) (l Bn n0 : Nat) (c : Array Value) (r : Rf) (hh ww : Nat) (hhe : r.h = hh) (hwe : r.w = ww) (h8 : hh ≤ 8) (w8 : ww ≤ 8) (hR : IsRoof c r) (J Jx : List (Pl hh ww) → World → Prop)
    (hY : ∀ (pre : List (Pl hh ww)) (x : Pl hh ww) (W : World), J pre W → pre.length < hh * ww → YieldAt Fence.wide (n - 1) Tryd.prog l #[x.enc] W fun e W' =>
      (e = .returned (.bool true) ∧ J (pre ++ [x]) W' ∧ KpR n0 Bn W W') ∨ (e = .returned (.bool false) ∧ Jx (pre ++ [x]) W'))
    (W : World) (hr : rowAt W Bn = some c) (h0 : J [] W) :
    CallsIn Fence.wide n Tryd.prog 105 #[.func (.yield l) #[] #[], .pointer (some ⟨Bn, 0, none⟩)] W fun e W' => (∃ v, e = .returned v) ∧
      ((∃ ys, ys = plUpto hh ww (hh * ww) ∧ J ys W') ∨ (∃ pre, True ∧ Jx pre W')) := by
  have hc := hR.size
  have k0 : ∀ W, rowAt W Bn = some c → W.cell? ⟨Bn, 0, none⟩ = some (.int .i8 ww) := fun W h => by
    rw [cell_of_rowAt h, Array.getElem?_eq_getElem (by omega), hR.wide (by omega), hwe]
  have k1 : ∀ W, rowAt W Bn = some c → W.cell? ⟨Bn, 1, none⟩ = some (.int .i8 hh) := fun W h => by
    rw [cell_of_rowAt h, Array.getElem?_eq_getElem (by omega), hR.high (by omega), hhe]
  have K0 := Lib.hid k0
  have K1 := Lib.hid k1
  have HY := Lib.hid hY
  clear k0 k1 hY hhe hwe
  have c1 := K1.out W hr
  refine callsIn_of_wp Tryd.func105 rfl trivial ?_ rfl
  simp only [Tryd.ntmps105, List.size_toArray, List.length_cons, List.length_nil, Nat.reduceAdd, Nat.reduceSub, Array.replicate_succ, Array.replicate_zero, List.push_toArray, List.append_toArray, List.nil_append, List.cons_append]
  gi_wp2
  gi_loopw [7] (fun i wr => ∃ k : Nat, k ≤ hh ∧ i = .int .i8 k ∧ J (plUpto hh ww (k * ww)) wr ∧ rowAt wr Bn = some c) (fun i _ => hh - (intOf i).toNat)
  case atStart => exact ⟨0, by omega, rfl, by rw [Nat.zero_mul]; exact h0, hr⟩
  case round =>
    clear c1 h0 hr
    obtain ⟨k, hk, rfl, hJ, hrow⟩ := hrel
    obtain ⟨wo, rfl⟩ : ∃ wo : World, wo = wr := ⟨_, rfl⟩
    by_cases hlt : k < hh
    · have c0 := K0.out _ hrow
      gi_wp2
      gi_loopw [12] (fun i wr => ∃ m : Nat, m ≤ ww ∧ i = .int .i8 m ∧ J (plUpto hh ww (k * ww + m)) wr ∧ rowAt wr Bn = some c) (fun i _ => ww - (intOf i).toNat)
      case atStart => exact ⟨0, by omega, rfl, hJ, hrow⟩
      case round =>
        clear c0 hJ hrow
        obtain ⟨m, hm, rfl, hJ, hrow⟩ := hrel
        by_cases hml : m < ww
        · obtain ⟨fn, tmps, assign, body, hy, hR⟩ := HY.out _ ⟨(k, m), hlt, hml⟩ _ hJ (by
            have h1 := plUpto_len hh ww (k * ww + m)
            have h2 : (k + 1) * ww ≤ hh * ww := Nat.mul_le_mul_right ww hlt
            rw [Nat.succ_mul] at h2
            omega)
          dsimp only [Pl.enc] at hy
          gi_wp2
          refine hR.mono ?_
          rintro e W3 (⟨rfl, hJ3, hk3⟩ | ⟨rfl, hJx3⟩)
          · rw [← plUpto_succ hlt hml] at hJ3
            have hr3 := hk3.2 c hrow
            clear hy hR hJ hrow hk3
            gi_wp2
            go_roundw
            case rel => exact ⟨m + 1, by omega, by go_num, hJ3, hr3⟩
            case measure => simp [intOf]; omega
          · clear hy hR hJ hrow
            gi_wp2
            refine bodyPost_ret (results_none rfl _ _ _) rfl ?_
            exact ⟨⟨_, rfl⟩, .inr ⟨_, trivial, hJx3⟩⟩
        · obtain rfl : m = ww := by omega
          rw [← Nat.succ_mul] at hJ
          gi_wp2
          go_roundw
          case rel => exact ⟨k + 1, by omega, by go_num, hJ, hrow⟩
          case measure => simp [intOf]; omega
    · obtain rfl : k = hh := by omega
      gi_wp2
      go_end0
      exact ⟨⟨_, rfl⟩, .inl ⟨_, rfl, hJ⟩⟩

/-- **r.places() hands back a value that gives all places, in their order.** -/
theorem places_stops (n : Nat) (hn : 1 ≤ n) (Bn n0 : Nat) (c : Array Value) (r : Rf) (hh ww : Nat) (hhe : r.h = hh) (hwe : r.w = ww) (h8 : hh ≤ 8) (w8 : ww ≤ 8) (hR : IsRoof c r) (w : World) (hr : rowAt w Bn = some c) :
    SeqStopsK Fence.wide n Tryd.prog 105 #[.pointer (some ⟨Bn, 0, none⟩)] (fun x : Pl hh ww => #[x.enc]) (KpR n0 Bn) (fun ys => ys = plUpto hh ww (hh * ww)) (fun _ => True) (hh * ww) w :=
  fun l J Jx W hW _ _ hY h0 => places1_in n hn l Bn n0 c r hh ww hhe hwe h8 w8 hR J Jx hY W (brow hW hr) h0

set_option maxHeartbeats 1000000 in
/-- **r.places()**: the receiver is boxed; the function value captures the box. -/
theorem places_any (c : Array Value) (w : World) :
    Calls Tryd.prog 103 #[.agg c] w fun e w' => e = .returned (.func (.func 105) #[] #[.pointer (some ⟨w.heap.size, 0, none⟩)]) ∧ w' = w.alloc (.cells c 33) := by
  go_enter Tryd.func103, Tryd.ntmps103
  go_wp2
  go_ret
  exact ⟨rfl, rfl⟩
end Go.Proofs.YtoibolmippfcgaaDoor

/- Rows with their types: what a loop over an iterator keeps; lists of places. Laws over any program. -/
namespace Go.Proofs.YtoibolmippfcgaaDoor
open Go.RowKit

def RowT (W : World) (B : Nat) (t : TypeId) (c : Array Value) : Prop := W.heap[B]? = some (.cells c t (0, 0))
section
variable {W W' : World} {B B' : Nat} {t e : TypeId} {c : Array Value} {u : Value}
theorem RowT.row (h : RowT W B t c) : rowAt W B = some c := rowAt_of_heap h
theorem RowT.lt (h : RowT W B t c) : B < W.heap.size := (Array.getElem?_eq_some_iff.1 h).1
theorem RowT.below (h : RowT W B t c) (b : Below W.heap.size W W') : RowT W' B t c := (b.block B h.lt).trans h
theorem RowT.drew (h : RowT W B t c) : RowT W.drew B t c := h
theorem RowT.alloc (h : RowT W B t c) (x : Obj) : RowT (W.alloc x) B t c := (Below.heap_alloc W x B h.lt).trans h
theorem RowT.new (W : World) (t : TypeId) (c : Array Value) : RowT (W.alloc (.cells c t)) W.heap.size t c := World.alloc_heap_new W _
theorem RowT.kept {row : Option Nat} (h : RowT W B t c) (hg : W.grownBy W' row) (hne : some B ≠ row) : RowT W' B t c := (hg.block B h.lt hne).trans h
theorem RowT.not_row (h : RowT W B t c) (hte : t ≠ e) {base size k : Nat} {v : Value} {xs : List Value} (hr : W.ownsRow base e size v k xs) : some B ≠ v.ownBlock := by
  rcases hr.2 with ⟨rfl, _⟩ | ⟨g, cap, cur, rfl, _, hgb, _⟩
  · simp [Value.ownBlock]
  · intro e'
    obtain rfl : B = g := by simpa [Value.ownBlock] using e'
    have := (show W.heap[B]? = _ from h).symm.trans hgb
    simp at this
    exact hte this.2
theorem RowT.other {o : Nat} (h : RowT W B t c) (hne : B ≠ B') (u : Value) : RowT (W.setCell ⟨B', o, none⟩ u) B t c := (heap_setCell_other W ⟨B', o, none⟩ B u hne).trans h
theorem RowT.set {o : Nat} (h : RowT W B t c) (u : Value) : RowT (W.setCell ⟨B, o, none⟩ u) B t (c.setIfInBounds o u) := heap_setCell_same W B o c t u h
theorem RowT.own {β : Type} (B : Nat) (t : TypeId) (f : β → Array Value) : Own (fun (s : β) W => RowT W B t (f s)) := fun s X Y row hs hg hrow =>
  RowT.kept hs hg (fun e' => by obtain ⟨_, ho, hc⟩ := hrow B e'.symm; rw [show X.heap[B]? = _ from hs] at ho; cases ho; cases hc)
theorem RowT.put (h : RowT W B t c) {l : Nat} {x : Obj} (x' : Obj) (hl : W.heap[l]? = some x) (hx : x.isCells = false) : RowT (W.putObj l x') B t c :=
  RowT.kept h (grownBy_putObj' W l x') (fun e' => by cases e'; rw [show W.heap[B]? = _ from h] at hl; cases hl; cases hx)
/-- 'out = append(out, ..)' behind a region: another row stays. -/
theorem RowT.appended {W w1 : World} {tmp : Obj} {base size k : Nat} {v : Value} {xs : List Value} (h : RowT W B t c) (hte : t ≠ e) (hr : W.ownsRow base e size v k xs) (hgrow : (W.alloc tmp).grownBy w1 v.ownBlock) : RowT w1 B t c :=
  RowT.kept (h.alloc tmp) hgrow (h.not_row hte hr)
end
theorem owns_below {w w' : World} {base : Nat} {e : TypeId} {size : Nat} {v : Value} {n : Nat} {xs : List Value} (h : w.ownsRow base e size v n xs) (b : Below w.heap.size w w') : w'.ownsRow base e size v n xs := by
  obtain ⟨hl, h | ⟨g, cap, cur, rfl, hg, hh, hr⟩⟩ := h
  · exact ⟨hl, .inl h⟩
  · exact ⟨hl, .inr ⟨g, cap, cur, rfl, hg, (b.block g (Array.getElem?_eq_some_iff.1 hh).1).trans hh, hr⟩⟩
theorem keeps_of_below {W W' : World} (b : Below W.heap.size W W') : KeepsOthers W W' := ⟨b.size, fun k _ hk _ => (b.block k (Array.getElem?_eq_some_iff.1 hk).1).trans hk⟩

/-- The cells of a list of places, and the list's cells as a function. -/
def plCells {h w : Nat} (l : List (Pl h w)) : List Value := l.flatMap fun x => [.int .i8 (x.1.1 : Int), .int .i8 (x.1.2 : Int)]
def plAt {h w : Nat} (l : List (Pl h w)) (i : Nat) : Int := match l[i / 2]? with | some x => if i % 2 = 0 then (x.1.1 : Int) else (x.1.2 : Int) | none => 0
theorem plCells_len {h w : Nat} (l : List (Pl h w)) : (plCells l).length = l.length * 2 := by
  induction l with
  | nil => rfl
  | cons x l ih => simp only [plCells, List.flatMap_cons, List.length_append, List.length_cons, List.length_nil] at *; omega
theorem plCells_at {h w : Nat} : ∀ (l : List (Pl h w)) (i : Nat), i < l.length * 2 → (plCells l)[i]? = some (.int .i8 (plAt l i))
  | [], i, hi => by simp at hi
  | x :: l, 0, _ => by simp [plCells, plAt]
  | x :: l, 1, _ => by simp [plCells, plAt]
  | x :: l, i + 2, hi => by
    have := plCells_at l i (by simp at hi; omega)
    have e1 : (i + 2) / 2 = i / 2 + 1 := by omega
    have e2 : (i + 2) % 2 = i % 2 := by omega
    simp only [plCells, List.flatMap_cons, plAt, e1, e2, List.getElem?_cons_succ] at *
    simpa using this
theorem plCells_snoc {h w : Nat} (l : List (Pl h w)) (x : Pl h w) : plCells (l ++ [x]) = plCells l ++ [.int .i8 (x.1.1 : Int), .int .i8 (x.1.2 : Int)] := by simp [plCells]
/-- A list of places that a call made. -/
theorem IsList.of_pls {w : World} {base : Nat} {e : TypeId} {v : Value} {h w' : Nat} {l : List (Pl h w')} (o : w.ownsRow base e 2 v l.length (plCells l)) : IsList w base v 2 l.length (fun i => .int .i8 (plAt l i)) := by
  obtain ⟨hl, h | ⟨g, cap, cur, rfl, hg, hh, hn, hm, hs, ht⟩⟩ := o
  · exact .inl ⟨h.2, none, 0, h.1⟩
  · refine .inr ⟨g, cap, cur, rfl, hg, rowAt_of_heap hh, ?_, fun i hi => ?_⟩
    · rw [hs]; exact Nat.mul_le_mul_right 2 hn
    · have h1 : cur[i]? = (cur.toList.take (l.length * 2))[i]? := by rw [List.getElem?_take, if_pos hi, Array.getElem?_toList]
      rw [h1, ht]
      exact plCells_at l i hi
def GivesP (w : World) {h ww : Nat} (l : List (Pl h ww)) (e : Ending) (w' : World) : Prop :=
  ∃ v, e = .returned v ∧ IsList w' w.heap.size v 2 l.length (fun i => .int .i8 (plAt l i)) ∧ Below w.heap.size w w'
end Go.Proofs.YtoibolmippfcgaaDoor

/- Sets of kinds: the program's has, with, all; what a kind lets drip. -/
namespace Go.Proofs.YtoibolmippfcgaaDoor
open Go.RowKit Go.Shelf

theorem has_num : ∀ (s : Fin 16) (k : Fin 4), (bits BinOp.and IntKind.u8 (((s.val : Nat) : Int) / 2 ^ k.val) 1 == 1) = s.val.testBit k.val := by decide
theorem with_num : ∀ (s : Fin 16) (k : Fin 4), bits BinOp.or IntKind.u8 ((s.val : Nat) : Int) (2 ^ k.val % 256) = ((s.val ||| 2 ^ k.val : Nat) : Int) := by decide

set_option maxHeartbeats 1000000 in
theorem has_any (s k : Nat) (w : World) (hs : s < 16) (hk : k < 4) :
    Calls Tryd.prog 102 #[.int .u8 s, .int .i64 k] w fun e w' => e = .returned (.bool (s.testBit k)) ∧ w = w' := by
  have h := has_num ⟨s, hs⟩ ⟨k, hk⟩
  dsimp only at h
  go_enter Tryd.func102, Tryd.ntmps102
  go_wp2_with fail
  go_ret
  exact ⟨rfl, rfl⟩

set_option maxHeartbeats 1000000 in
theorem with_any (s k : Nat) (w : World) (hs : s < 16) (hk : k < 4) :
    Calls Tryd.prog 94 #[.int .u8 s, .int .i64 k] w fun e w' => e = .returned (.int .u8 ((s ||| 2 ^ k : Nat) : Int)) ∧ w = w' := by
  have h := with_num ⟨s, hs⟩ ⟨k, hk⟩
  dsimp only at h
  go_enter Tryd.func94, Tryd.ntmps94
  go_wp2_with fail
  go_ret
  exact ⟨rfl, rfl⟩

/-- The kinds of a set that are less than k, ascending. -/
def kUpto (s : Nat) : Nat → List (Fin 4)
  | 0 => []
  | k + 1 => kUpto s k ++ (if h : k < 4 then (if s.testBit k = true then [⟨k, h⟩] else []) else [])
theorem kUpto_hit {s k : Nat} (hk : k < 4) (h : s.testBit k = true) : kUpto s (k + 1) = kUpto s k ++ [⟨k, hk⟩] := by simp only [kUpto]; rw [dif_pos hk, if_pos h]
theorem kUpto_miss {s k : Nat} (h : s.testBit k = false) : kUpto s (k + 1) = kUpto s k := by
  simp only [kUpto]
  split
  · rw [if_neg (by rw [h]; decide), List.append_nil]
  · rw [List.append_nil]
theorem kUpto_len (s : Nat) : ∀ k, (kUpto s k).length ≤ k
  | 0 => Nat.le_refl _
  | k + 1 => by
    have := kUpto_len s k
    simp only [kUpto, List.length_append]
    split
    · split <;> simp <;> omega
    · simp; omega

set_option maxHeartbeats 1000000 in
theorem all_any (s : Nat) (w : World) :
    Calls Tryd.prog 92 #[.int .u8 s] w fun e w' => e = .returned (.func (.func 101) #[] #[.pointer (some ⟨w.heap.size, 0, none⟩)]) ∧ w' = w.alloc (.cells #[.int .u8 s] 93) := by
  go_enter Tryd.func92, Tryd.ntmps92
  go_wp2
  go_ret
  exact ⟨rfl, rfl⟩

set_option maxRecDepth 100000 in
set_option maxHeartbeats 2000000 in
theorem all1_in (n : Nat) (hn : 1 ≤ n) (l Bn n0 s : Nat) (hs : s < 16) (J Jx : List (Fin 4) → World → Prop)
    (hY : ∀ (pre : List (Fin 4)) (x : Fin 4) (W : World), J pre W → pre.length < 4 → YieldAt Fence.wide (n - 1) Tryd.prog l #[.int .i64 (x.val : Int)] W fun e W' =>
      (e = .returned (.bool true) ∧ J (pre ++ [x]) W' ∧ KpR n0 Bn W W') ∨ (e = .returned (.bool false) ∧ Jx (pre ++ [x]) W'))
    (W : World) (hr : rowAt W Bn = some #[.int .u8 s]) (h0 : J [] W) :
    CallsIn Fence.wide n Tryd.prog 101 #[.func (.yield l) #[] #[], .pointer (some ⟨Bn, 0, none⟩)] W fun e W' => (∃ v, e = .returned v) ∧
      ((∃ ys, ys = kUpto s 4 ∧ J ys W') ∨ (∃ pre, True ∧ Jx pre W')) := by
  have HY := Lib.hid hY
  clear hY
  refine callsIn_of_wp Tryd.func101 rfl trivial ?_ rfl
  simp only [Tryd.ntmps101, List.size_toArray, List.length_cons, List.length_nil, Nat.reduceAdd, Nat.reduceSub, Array.replicate_succ, Array.replicate_zero, List.push_toArray, List.append_toArray, List.nil_append, List.cons_append]
  gi_wp2
  gi_loopw [3] (fun i wr => ∃ k : Nat, k ≤ 4 ∧ i = .int .i64 k ∧ J (kUpto s k) wr ∧ rowAt wr Bn = some #[.int .u8 s]) (fun i _ => 4 - (intOf i).toNat)
  case atStart => exact ⟨0, by omega, rfl, h0, hr⟩
  case round =>
    clear h0 hr
    obtain ⟨k, hk, rfl, hJ, hrow⟩ := hrel
    obtain ⟨wo, rfl⟩ : ∃ wo : World, wo = wr := ⟨_, rfl⟩
    by_cases hlt : k < 4
    · have c0 := cell_of_rowAt hrow 0
      simp at c0
      have hk3 : (k : Int) ≤ 3 := by omega
      cases hb : s.testBit k with
      | true =>
        obtain ⟨fn, tmps, assign, body, hy, hR⟩ := HY.out _ ⟨k, hlt⟩ _ hJ (by have := kUpto_len s k; omega)
        dsimp only at hy
        gi_wp2
        refine ⟨trivial, (callsIn_wide.2 (has_any s k _ hs hlt)).mono ?_⟩
        rw [hb]
        rintro e w2 ⟨rfl, rfl⟩
        gi_wp2
        refine hR.mono ?_
        rintro e W3 (⟨rfl, hJ3, hk3'⟩ | ⟨rfl, hJx3⟩)
        · rw [← kUpto_hit hlt hb] at hJ3
          have hr3 := hk3'.2 _ hrow
          clear hy hR hJ hrow hk3' c0
          gi_wp2
          go_roundw
          case rel => exact ⟨k + 1, by omega, by go_num, hJ3, hr3⟩
          case measure => simp [intOf]; omega
        · clear hy hR hJ hrow
          gi_wp2
          refine bodyPost_ret (results_none rfl _ _ _) rfl ?_
          exact ⟨⟨_, rfl⟩, .inr ⟨_, trivial, hJx3⟩⟩
      | false =>
        gi_wp2
        refine ⟨trivial, (callsIn_wide.2 (has_any s k _ hs hlt)).mono ?_⟩
        rw [hb]
        rintro e w2 ⟨rfl, rfl⟩
        rw [← kUpto_miss hb] at hJ
        gi_wp2
        refine ⟨fun f h => absurd h (by simp), ?_⟩
        gi_wp2
        go_roundw
        case rel => exact ⟨k + 1, by omega, by go_num, hJ, hrow⟩
        case measure => simp [intOf]; omega
    · obtain rfl : k = 4 := by omega
      gi_wp2
      go_end0
      exact ⟨⟨_, rfl⟩, .inl ⟨_, rfl, hJ⟩⟩

/-- **kinds.all() hands back a value that gives the kinds of the set, ascending.** -/
theorem all_stops (n : Nat) (hn : 1 ≤ n) (Bn n0 s : Nat) (hs : s < 16) (w : World) (hr : rowAt w Bn = some #[.int .u8 s]) :
    SeqStopsK Fence.wide n Tryd.prog 101 #[.pointer (some ⟨Bn, 0, none⟩)] (fun x : Fin 4 => #[.int .i64 (x.val : Int)]) (KpR n0 Bn) (fun ys => ys = kUpto s 4) (fun _ => True) 4 w :=
  fun l J Jx W hW _ _ hY h0 => all1_in n hn l Bn n0 s hs J Jx hY W (brow hW hr) h0


theorem sightC_k (C Y X : Array Value) (B2 B3 : Nat) (hC : C.size = 67) (hY : Y.size = 136) (hX : X.size = 136) (k : Nat) (hk : k < 4) : (sightC C Y X (dripK B2 B3))[339 + k]? = (dripK B2 B3)[k]? := by
  rw [sightC_get hC hY hX rfl, if_neg (by omega), if_neg (by omega), if_neg (by omega), show 339 + k - 339 = k from by omega]

set_option maxRecDepth 100000 in
set_option maxHeartbeats 4000000 in
/-- Whether a tile of a kind, below one of another kind, drips in a cell as has been seen. -/
theorem goes_any (Bn B2 B3 i j : Nat) (C Y X : Array Value) (y x : Nat → Int) (k o : Nat) (w : World) (hC : C.size = 67) (hY : IsK .i32 Y 136 y) (hX : IsK .i32 X 136 x)
    (hr : rowAt w Bn = some (sightC C Y X (dripK B2 B3))) (h2 : rowAt w B2 = some #[.int .i64 2]) (h3 : rowAt w B3 = some #[.int .i64 3]) (hi : i < 8) (hj : j < 17) (hk : k < 4) (hy : 0 ≤ y (i * 17 + j) ∧ y (i * 17 + j) ≤ 1000) (hx : 0 ≤ x (i * 17 + j) ∧ x (i * 17 + j) ≤ 1000) :
    Calls Tryd.prog 93 #[.pointer (some ⟨Bn, 0, none⟩), .int .i64 k, .int .i64 o, .int .i64 i, .int .i64 j] w fun e w' => e = .returned (.bool (decide (drip1 k o (y (i * 17 + j)) = x (i * 17 + j)))) ∧ Below w.heap.size w w' := by
  have hYs := hY.size
  have hXs := hX.size
  have hlt : i * 17 + j < 136 := by omega
  have c0 : w.cell? ⟨Bn, 67 + i * 17 + j, none⟩ = some (.int .i32 (y (i * 17 + j))) := by
    rw [cell_of_rowAt hr, sightC_get hC hYs hXs rfl, if_neg (by omega), if_pos (by omega), show 67 + i * 17 + j - 67 = i * 17 + j from by omega]
    exact hY.get hlt
  have c1 : w.cell? ⟨Bn, 203 + i * 17 + j, none⟩ = some (.int .i32 (x (i * 17 + j))) := by
    rw [cell_of_rowAt hr, sightC_get hC hYs hXs rfl, if_neg (by omega), if_neg (by omega), if_pos (by omega), show 203 + i * 17 + j - 203 = i * 17 + j from by omega]
    exact hX.get hlt
  have ck : w.cell? ⟨Bn, 339 + k, none⟩ = (dripK B2 B3)[k]? := (cell_of_rowAt hr _).trans (sightC_k C Y X B2 B3 hC hYs hXs k hk)
  have hB : Below w.heap.size w w := Below.refl _ _
  generalize y (i * 17 + j) = yv at *
  generalize x (i * 17 + j) = xv at *
  clear hr hY hX
  go_enter Tryd.func93, Tryd.ntmps93
  go_wp2_with fail
  refine wp_region_held_drew (S := (fun w' => w'.cell? ⟨Bn, 67 + i * 17 + j, none⟩ = some (.int .i32 yv) ∧ w'.cell? ⟨Bn, 203 + i * 17 + j, none⟩ = some (.int .i32 xv) ∧ w'.cell? ⟨Bn, 339 + k, none⟩ = (dripK B2 B3)[k]? ∧ rowAt w' B2 = some #[.int .i64 2] ∧ rowAt w' B3 = some #[.int .i64 3] ∧ Below w.heap.size w w')) (by kernel_rfl) (⟨c0, c1, ck, h2, h3, hB.drew⟩) (fun hH => ?_)
  refine wpAnyH_take (i := 0) (v := .pointer (some ⟨Bn, 0, none⟩)) rfl (by kernel_rfl) (by kernel_rfl) (by kernel_rfl) (fun _ _ _ h => h) (Or.inl ⟨by rfl, ?_⟩) hH ?_
  · intro w1 hS; (try dsimp only at hS); obtain ⟨s0, s1, _⟩ := hS; go_simp; (try (intro hb; omega))
  (try simp only [List.getElem_toArray]); (try simp only [List.getElem_cons_succ]); (try simp only [List.getElem_cons_zero]); (try simp only [Act.put]); (try simp only [List.setIfInBounds_toArray]); (try simp only [List.set_cons_succ]); (try simp only [List.set_cons_zero])
  refine wpAnyH_take (i := 1) (v := .int .i64 i) rfl (by kernel_rfl) (by kernel_rfl) (by kernel_rfl) (fun _ _ _ h => h) (Or.inl ⟨by rfl, ?_⟩) hH ?_
  · intro w1 hS; (try dsimp only at hS); obtain ⟨s0, s1, _⟩ := hS; go_simp; (try (intro hb; omega))
  (try simp only [List.getElem_toArray]); (try simp only [List.getElem_cons_succ]); (try simp only [List.getElem_cons_zero]); (try simp only [Act.put]); (try simp only [List.setIfInBounds_toArray]); (try simp only [List.set_cons_succ]); (try simp only [List.set_cons_zero])
  refine wpAnyH_take (i := 2) (v := .int .i64 j) rfl (by kernel_rfl) (by kernel_rfl) (by kernel_rfl) (fun _ _ _ h => h) (Or.inl ⟨by rfl, ?_⟩) hH ?_
  · intro w1 hS; (try dsimp only at hS); obtain ⟨s0, s1, _⟩ := hS; go_simp; (try (intro hb; omega))
  (try simp only [List.getElem_toArray]); (try simp only [List.getElem_cons_succ]); (try simp only [List.getElem_cons_zero]); (try simp only [Act.put]); (try simp only [List.setIfInBounds_toArray]); (try simp only [List.set_cons_succ]); (try simp only [List.set_cons_zero])
  refine wpAnyH_take (i := 3) (v := .pointer (some ⟨Bn, 0, none⟩)) rfl (by kernel_rfl) (by kernel_rfl) (by kernel_rfl) (fun _ _ _ h => h) (Or.inl ⟨by rfl, ?_⟩) hH ?_
  · intro w1 hS; (try dsimp only at hS); obtain ⟨s0, s1, _⟩ := hS; go_simp; (try (intro hb; omega))
  (try simp only [List.getElem_toArray]); (try simp only [List.getElem_cons_succ]); (try simp only [List.getElem_cons_zero]); (try simp only [Act.put]); (try simp only [List.setIfInBounds_toArray]); (try simp only [List.set_cons_succ]); (try simp only [List.set_cons_zero])
  refine wpAnyH_take (i := 4) (v := .pointer (some ⟨Bn, 67, none⟩)) rfl (by kernel_rfl) (by kernel_rfl) (by kernel_rfl) (fun _ _ _ h => h) (Or.inl ⟨by rfl, ?_⟩) hH ?_
  · intro w1 hS; (try dsimp only at hS); obtain ⟨s0, s1, _⟩ := hS; go_simp; (try (intro hb; omega))
  (try simp only [List.getElem_toArray]); (try simp only [List.getElem_cons_succ]); (try simp only [List.getElem_cons_zero]); (try simp only [Act.put]); (try simp only [List.setIfInBounds_toArray]); (try simp only [List.set_cons_succ]); (try simp only [List.set_cons_zero])
  refine wpAnyH_take (i := 5) (v := .pointer (some ⟨Bn, 67 + i * 17, none⟩)) rfl (by kernel_rfl) (by kernel_rfl) (by kernel_rfl) (fun _ _ _ h => h) (Or.inl ⟨by rfl, ?_⟩) hH ?_
  · intro w1 hS; (try dsimp only at hS); obtain ⟨s0, s1, _⟩ := hS; go_simp; (try (intro hb; omega))
  (try simp only [List.getElem_toArray]); (try simp only [List.getElem_cons_succ]); (try simp only [List.getElem_cons_zero]); (try simp only [Act.put]); (try simp only [List.setIfInBounds_toArray]); (try simp only [List.set_cons_succ]); (try simp only [List.set_cons_zero])
  refine wpAnyH_take (i := 6) (v := .pointer (some ⟨Bn, 67 + i * 17 + j, none⟩)) rfl (by kernel_rfl) (by kernel_rfl) (by kernel_rfl) (fun _ _ _ h => h) (Or.inl ⟨by rfl, ?_⟩) hH ?_
  · intro w1 hS; (try dsimp only at hS); obtain ⟨s0, s1, _⟩ := hS; go_simp; (try (intro hb; omega))
  (try simp only [List.getElem_toArray]); (try simp only [List.getElem_cons_succ]); (try simp only [List.getElem_cons_zero]); (try simp only [Act.put]); (try simp only [List.setIfInBounds_toArray]); (try simp only [List.set_cons_succ]); (try simp only [List.set_cons_zero])
  refine wpAnyH_take (i := 7) (v := .int .i32 yv) rfl (by kernel_rfl) (by kernel_rfl) (by kernel_rfl) (fun _ _ _ h => h) (Or.inl ⟨by rfl, ?_⟩) hH ?_
  · intro w1 hS; (try dsimp only at hS); obtain ⟨s0, s1, _⟩ := hS; go_simp; (try (intro hb; omega))
  (try simp only [List.getElem_toArray]); (try simp only [List.getElem_cons_succ]); (try simp only [List.getElem_cons_zero]); (try simp only [Act.put]); (try simp only [List.setIfInBounds_toArray]); (try simp only [List.set_cons_succ]); (try simp only [List.set_cons_zero])
  refine wpAnyH_take (i := 8) (v := .pointer (some ⟨Bn, 0, none⟩)) rfl (by kernel_rfl) (by kernel_rfl) (by kernel_rfl) (fun _ _ _ h => h) (Or.inl ⟨by rfl, ?_⟩) hH ?_
  · intro w1 hS; (try dsimp only at hS); obtain ⟨s0, s1, _⟩ := hS; go_simp; (try (intro hb; omega))
  (try simp only [List.getElem_toArray]); (try simp only [List.getElem_cons_succ]); (try simp only [List.getElem_cons_zero]); (try simp only [Act.put]); (try simp only [List.setIfInBounds_toArray]); (try simp only [List.set_cons_succ]); (try simp only [List.set_cons_zero])
  refine wpAnyH_take (i := 9) (v := .int .i64 i) rfl (by kernel_rfl) (by kernel_rfl) (by kernel_rfl) (fun _ _ _ h => h) (Or.inl ⟨by rfl, ?_⟩) hH ?_
  · intro w1 hS; (try dsimp only at hS); obtain ⟨s0, s1, _⟩ := hS; go_simp; (try (intro hb; omega))
  (try simp only [List.getElem_toArray]); (try simp only [List.getElem_cons_succ]); (try simp only [List.getElem_cons_zero]); (try simp only [Act.put]); (try simp only [List.setIfInBounds_toArray]); (try simp only [List.set_cons_succ]); (try simp only [List.set_cons_zero])
  refine wpAnyH_take (i := 10) (v := .int .i64 j) rfl (by kernel_rfl) (by kernel_rfl) (by kernel_rfl) (fun _ _ _ h => h) (Or.inl ⟨by rfl, ?_⟩) hH ?_
  · intro w1 hS; (try dsimp only at hS); obtain ⟨s0, s1, _⟩ := hS; go_simp; (try (intro hb; omega))
  (try simp only [List.getElem_toArray]); (try simp only [List.getElem_cons_succ]); (try simp only [List.getElem_cons_zero]); (try simp only [Act.put]); (try simp only [List.setIfInBounds_toArray]); (try simp only [List.set_cons_succ]); (try simp only [List.set_cons_zero])
  refine wpAnyH_take (i := 11) (v := .pointer (some ⟨Bn, 0, none⟩)) rfl (by kernel_rfl) (by kernel_rfl) (by kernel_rfl) (fun _ _ _ h => h) (Or.inl ⟨by rfl, ?_⟩) hH ?_
  · intro w1 hS; (try dsimp only at hS); obtain ⟨s0, s1, _⟩ := hS; go_simp; (try (intro hb; omega))
  (try simp only [List.getElem_toArray]); (try simp only [List.getElem_cons_succ]); (try simp only [List.getElem_cons_zero]); (try simp only [Act.put]); (try simp only [List.setIfInBounds_toArray]); (try simp only [List.set_cons_succ]); (try simp only [List.set_cons_zero])
  refine wpAnyH_take (i := 12) (v := .pointer (some ⟨Bn, 203, none⟩)) rfl (by kernel_rfl) (by kernel_rfl) (by kernel_rfl) (fun _ _ _ h => h) (Or.inl ⟨by rfl, ?_⟩) hH ?_
  · intro w1 hS; (try dsimp only at hS); obtain ⟨s0, s1, _⟩ := hS; go_simp; (try (intro hb; omega))
  (try simp only [List.getElem_toArray]); (try simp only [List.getElem_cons_succ]); (try simp only [List.getElem_cons_zero]); (try simp only [Act.put]); (try simp only [List.setIfInBounds_toArray]); (try simp only [List.set_cons_succ]); (try simp only [List.set_cons_zero])
  refine wpAnyH_take (i := 13) (v := .pointer (some ⟨Bn, 203 + i * 17, none⟩)) rfl (by kernel_rfl) (by kernel_rfl) (by kernel_rfl) (fun _ _ _ h => h) (Or.inl ⟨by rfl, ?_⟩) hH ?_
  · intro w1 hS; (try dsimp only at hS); obtain ⟨s0, s1, _⟩ := hS; go_simp; (try (intro hb; omega))
  (try simp only [List.getElem_toArray]); (try simp only [List.getElem_cons_succ]); (try simp only [List.getElem_cons_zero]); (try simp only [Act.put]); (try simp only [List.setIfInBounds_toArray]); (try simp only [List.set_cons_succ]); (try simp only [List.set_cons_zero])
  refine wpAnyH_take (i := 14) (v := .pointer (some ⟨Bn, 203 + i * 17 + j, none⟩)) rfl (by kernel_rfl) (by kernel_rfl) (by kernel_rfl) (fun _ _ _ h => h) (Or.inl ⟨by rfl, ?_⟩) hH ?_
  · intro w1 hS; (try dsimp only at hS); obtain ⟨s0, s1, _⟩ := hS; go_simp; (try (intro hb; omega))
  (try simp only [List.getElem_toArray]); (try simp only [List.getElem_cons_succ]); (try simp only [List.getElem_cons_zero]); (try simp only [Act.put]); (try simp only [List.setIfInBounds_toArray]); (try simp only [List.set_cons_succ]); (try simp only [List.set_cons_zero])
  refine wpAnyH_take (i := 15) (v := .int .i32 xv) rfl (by kernel_rfl) (by kernel_rfl) (by kernel_rfl) (fun _ _ _ h => h) (Or.inl ⟨by rfl, ?_⟩) hH ?_
  · intro w1 hS; (try dsimp only at hS); obtain ⟨s0, s1, _⟩ := hS; go_simp; (try (intro hb; omega))
  (try simp only [List.getElem_toArray]); (try simp only [List.getElem_cons_succ]); (try simp only [List.getElem_cons_zero]); (try simp only [Act.put]); (try simp only [List.setIfInBounds_toArray]); (try simp only [List.set_cons_succ]); (try simp only [List.set_cons_zero])
  refine wpAnyH_take (i := 16) (v := .int .i32 yv) rfl (by kernel_rfl) (by kernel_rfl) (by kernel_rfl) (fun _ _ _ h => h) (Or.inl ⟨by rfl, ?_⟩) hH ?_
  · intro w1 hS; (try dsimp only at hS); obtain ⟨s0, s1, _⟩ := hS; go_simp; (try (intro hb; omega))
  (try simp only [List.getElem_toArray]); (try simp only [List.getElem_cons_succ]); (try simp only [List.getElem_cons_zero]); (try simp only [Act.put]); (try simp only [List.setIfInBounds_toArray]); (try simp only [List.set_cons_succ]); (try simp only [List.set_cons_zero])
  refine wpAnyH_take (i := 17) (v := .int .i32 xv) rfl (by kernel_rfl) (by kernel_rfl) (by kernel_rfl) (fun _ _ _ h => h) (Or.inl ⟨by rfl, ?_⟩) hH ?_
  · intro w1 hS; (try dsimp only at hS); obtain ⟨s0, s1, _⟩ := hS; go_simp; (try (intro hb; omega))
  (try simp only [List.getElem_toArray]); (try simp only [List.getElem_cons_succ]); (try simp only [List.getElem_cons_zero]); (try simp only [Act.put]); (try simp only [List.setIfInBounds_toArray]); (try simp only [List.set_cons_succ]); (try simp only [List.set_cons_zero])
  refine wpAnyH_done (by kernel_rfl) ?_ _
  obtain ⟨g0, g1, g2, g3, g4, gB⟩ := hH
  clear c0 c1 ck h2 h3 hB
  obtain rfl | rfl | rfl | rfl : k = 0 ∨ k = 1 ∨ k = 2 ∨ k = 3 := by omega
  · have gk : w.drew.cell? ⟨Bn, 339, none⟩ = some (.func (.func 83) #[] #[]) := g2.trans rfl
    clear g2
    go_wp2_with fail
    refine (drip0_any yv o _).mono ?_
    rintro e w2 ⟨rfl, rfl⟩
    go_wp2_with fail
    go_ret
    exact ⟨by rfl, gB⟩
  · have gk : w.drew.cell? ⟨Bn, 340, none⟩ = some (.func (.func 85) #[] #[.pointer (some ⟨B2, 0, none⟩)]) := g2.trans rfl
    clear g2
    go_wp2_with fail
    refine (dripP_any yv o 2 B2 _ g3 hy.1 hy.2 (by omega) (by omega)).mono ?_
    rintro e w2 ⟨rfl, rfl⟩
    go_wp2_with fail
    go_ret
    exact ⟨by rw [show drip1 ((1 : Nat) : Int) o yv = (yv + 2 - 1) / 2 from by show (yv + 1) / 2 = _; congr 1; omega]; rfl, gB⟩
  · have gk : w.drew.cell? ⟨Bn, 341, none⟩ = some (.func (.func 85) #[] #[.pointer (some ⟨B3, 0, none⟩)]) := g2.trans rfl
    clear g2
    go_wp2_with fail
    refine (dripP_any yv o 3 B3 _ g4 hy.1 hy.2 (by omega) (by omega)).mono ?_
    rintro e w2 ⟨rfl, rfl⟩
    go_wp2_with fail
    go_ret
    exact ⟨by rw [show drip1 ((2 : Nat) : Int) o yv = (yv + 3 - 1) / 3 from by show (yv + 2) / 3 = _; congr 1; omega]; rfl, gB⟩
  · have gk : w.drew.cell? ⟨Bn, 342, none⟩ = some (.func (.func 87) #[] #[]) := g2.trans rfl
    clear g2
    have CG := dripG_any yv o
    obtain ⟨q, hq⟩ : ∃ q, q = if (o : Int) = 2 then 0 else yv := ⟨_, rfl⟩
    rw [← hq] at CG
    have HQ : Hid (drip1 ((3 : Nat) : Int) o yv = q) := Lib.hid hq.symm
    clear hq
    go_wp2_with fail
    refine (CG _).mono ?_
    rintro e w2 ⟨rfl, rfl⟩
    go_wp2_with fail
    go_ret
    exact ⟨by rw [HQ.out]; rfl, gB⟩
end Go.Proofs.YtoibolmippfcgaaDoor

/- The kinds that a tile can have: the model's side. -/
namespace Go.Proofs.YtoibolmippfcgaaDoor
open Go.RowKit

set_option maxHeartbeats 1000000 in
theorem l03Drop_any (k : Nat) (x : Int) (w : World) (hk : k < 4) (h0 : 0 ≤ x) (h1 : x ≤ 1000) :
    Calls Tryd.prog 68 #[.int .i64 k, .int .i64 x] w fun e w' => e = .returned (.int .i64 (drip1 k 0 x)) ∧ w = w' := by
  obtain rfl | rfl | rfl | rfl : k = 0 ∨ k = 1 ∨ k = 2 ∨ k = 3 := by omega
  all_goals
    go_enter Tryd.func68, Tryd.ntmps68
    go_wp2_with fail
    go_ret
    exact ⟨by rfl, rfl⟩

/-- Whether a tile of a kind can have dripped so, whatever is above it. -/
noncomputable def fitE (y x : Int) (k : Nat) : Bool := decide (x = drip1 k 0 y) || (decide (k = 3) && decide (x = 0))
/-- The set of the kinds below k that a function tells. -/
def kSet (g : Nat → Bool) : Nat → Nat
  | 0 => 0
  | k + 1 => if g k = true then kSet g k ||| 2 ^ k else kSet g k
theorem kSet_lt (g : Nat → Bool) {k : Nat} (hk : k ≤ 4) : kSet g k < 16 := by
  have h : ∀ k, kSet g k < 2 ^ k := by
    intro k
    induction k with
    | zero => exact Nat.lt_of_lt_of_le (Nat.zero_lt_one) (Nat.le_refl _)
    | succ k ih =>
      simp only [kSet]
      split
      · exact Nat.or_lt_two_pow (Nat.lt_trans ih (Nat.pow_lt_pow_right (by omega) (by omega))) (Nat.pow_lt_pow_right (by omega) (by omega))
      · exact Nat.lt_trans ih (Nat.pow_lt_pow_right (by omega) (by omega))
  exact Nat.lt_of_lt_of_le (h k) (Nat.le_trans (Nat.pow_le_pow_right (by omega) hk) (by decide))
theorem kSet_t {g : Nat → Bool} {k : Nat} (h : g k = true) : kSet g (k + 1) = kSet g k ||| 2 ^ k := by simp only [kSet]; rw [if_pos h]
theorem kSet_f {g : Nat → Bool} {k : Nat} (h : g k = false) : kSet g (k + 1) = kSet g k := by simp only [kSet]; rw [if_neg (by rw [h]; decide)]
/-- The first e of two cells. -/
def two (f : Nat → Bool) : Nat → Bool
  | 0 => true
  | e + 1 => two f e && f e
/-- The kinds that the tile can have whose first cell is p. -/
noncomputable def fitK (y x : Nat → Int) (m : Nat) (k : Nat) : Bool := two (fun e => fitE (y (m + e)) (x (m + e)) k) 2

set_option maxRecDepth 100000 in
set_option maxHeartbeats 8000000 in
theorem l03Kinds_any (n nc nd i j p : Nat) (c Y X : Array Value) (r : Rf) (y x : Nat → Int) (w : World) (hr : rowAt w n = some c) (hR : IsRoof c r) (hc : rowAt w nc = some Y) (hY : IsK .i32 Y 136 y) (hd : rowAt w nd = some X) (hX : IsK .i32 X 136 x)
    (hi : i < 8) (hj : j < 8) (hp : (p : Int) = 2 * j + r.by i) (hy : ∀ m, m < 136 → 0 ≤ y m ∧ y m ≤ 1000) (hx : ∀ m, m < 136 → 0 ≤ x m ∧ x m ≤ 1000) :
    Calls Tryd.prog 43 #[.pointer (some ⟨n, 0, none⟩), .pointer (some ⟨nc, 0, none⟩), .pointer (some ⟨nd, 0, none⟩), .agg #[.int .i8 i, .int .i8 j]] w fun e w' =>
      e = .returned (.int .u8 ((kSet (fitK y x (i * 17 + p)) 4 : Nat) : Int)) ∧ Below w.heap.size w w' := by
  have hYs := hY.size
  have hXs := hX.size
  have hb := r.by_bd i
  have hp15 : p ≤ 15 := by omega
  have i0 : 0 ≤ (i : Int) := by omega
  have i1 : (i : Int) < 8 := by omega
  obtain ⟨p0, pB⟩ : rowAt (w.alloc (.cells #[.int .i8 i, .int .i8 j] 57)) w.heap.size = some #[.int .i8 (i : Int), .int .i8 (j : Int)] ∧ Below w.heap.size w (w.alloc (.cells #[.int .i8 i, .int .i8 j] 57)) := ⟨rowAt_alloc_at _ _ _ _ rfl, (Below.refl _ _).alloc (Nat.le_refl _) _⟩
  have pr := brow pB hr
  have pc := brow pB hc
  have pd := brow pB hd
  have CF := fun W h => l01First_any n c r i j W h hR hi hj
  rw [← hp] at CF
  have HP := Lib.hid hp
  clear hr hc hd hp hb
  go_enter Tryd.func43, Tryd.ntmps43
  go_wp2_with fail
  refine (CF _ pr).mono ?_
  rintro e w1 ⟨rfl, b1⟩
  have q0 := Lib.hid (brow b1 p0)
  have qc := Lib.hid (brow b1 pc)
  have qd := Lib.hid (brow b1 pd)
  have qB := Lib.hid (bnext pB b1 pB.size)
  have hsz : w.heap.size + 1 ≤ w1.heap.size := by have := b1.size; simpa using this
  clear b1 p0 pc pd pr pB CF
  go_wp2_with fail
  go_loopw [9, 11] (fun u v W => ∃ k : Nat, k ≤ 4 ∧ u = .int .u8 ((kSet (fitK y x (i * 17 + p)) k : Nat) : Int) ∧ v = .int .i64 k ∧ Below w1.heap.size w1 W) (fun _ v _ => 4 - (intOf v).toNat)
  case atStart => exact ⟨0, by omega, rfl, rfl, Below.refl _ _⟩
  case round =>
    obtain ⟨k, hk, rfl, rfl, hB⟩ := hrel
    have hlt16 := kSet_lt (fitK y x (i * 17 + p)) hk
    obtain ⟨s, hs⟩ : ∃ s, s = kSet (fitK y x (i * 17 + p)) k := ⟨_, rfl⟩
    rw [← hs] at hlt16 ⊢
    have HS := Lib.hid hs
    clear hs
    by_cases hlt : k < 4
    · have k0 : (k : Int) ≤ 3 := by omega
      go_wp2_with fail
      go_loopw [12, 13] (fun u v W => ∃ e : Nat, e ≤ 2 ∧ u = .bool (two (fun e => fitE (y (i * 17 + p + e)) (x (i * 17 + p + e)) k) e) ∧ v = .int .i64 (p + e : Int) ∧ Below w1.heap.size w1 W) (fun _ v _ => p + 2 - (intOf v).toNat)
      case atStart => exact ⟨0, by omega, rfl, by simp, hB⟩
      case round =>
        clear hB
        obtain ⟨e, he, rfl, rfl, hB⟩ := hrel
        by_cases hel : e < 2
        · have e0 : (p : Int) + e ≤ p + 1 := by omega
          have e1 : 0 ≤ (p : Int) + e := by omega
          have e2 : (p : Int) + e < 17 := by omega
          have hm : i * 17 + (p + e) < 136 := by omega
          obtain ⟨y0, y1⟩ := hy _ hm
          obtain ⟨x0, x1⟩ := hx _ hm
          have gy : Y[i * 17 + (p + e)]? = some (.int .i32 (y (i * 17 + (p + e)))) := hY.get hm
          have gx : X[i * 17 + (p + e)]? = some (.int .i32 (x (i * 17 + (p + e)))) := hX.get hm
          have CD := fun W => l03Drop_any k (y (i * 17 + (p + e))) W hlt y0 y1
          have HF : Hid (two (fun e => fitE (y (i * 17 + p + e)) (x (i * 17 + p + e)) k) (e + 1) = (two (fun e => fitE (y (i * 17 + p + e)) (x (i * 17 + p + e)) k) e && fitE (y (i * 17 + (p + e))) (x (i * 17 + (p + e))) k)) := Lib.hid (by simp only [two]; rw [Nat.add_assoc])
          have r0 := brow hB q0.out
          have rc := brow hB qc.out
          have rd := brow hB qd.out
          obtain ⟨fb, hfb⟩ : ∃ fb, fb = two (fun e => fitE (y (i * 17 + p + e)) (x (i * 17 + p + e)) k) e := ⟨_, rfl⟩
          rw [← hfb] at HF ⊢
          clear hfb
          obtain ⟨fb', hfb'⟩ : ∃ fb', fb' = two (fun e => fitE (y (i * 17 + p + e)) (x (i * 17 + p + e)) k) (e + 1) := ⟨_, rfl⟩
          rw [← hfb'] at HF
          have HF' := Lib.hid hfb'
          clear hfb'
          generalize y (i * 17 + (p + e)) = yv at *
          generalize x (i * 17 + (p + e)) = xv at *
          have wy : IntKind.i64.wrap yv = yv := IntWalk.i64_in _ (by omega)
          have wx : IntKind.i64.wrap xv = xv := IntWalk.i64_in _ (by omega)
          go_wp2_with fail
          refine wp_region_held_drew (S := (fun w' => rowAt w' w.heap.size = some #[.int .i8 i, .int .i8 j] ∧ rowAt w' nc = some Y ∧ rowAt w' nd = some X ∧ Below w1.heap.size w1 w')) (by kernel_rfl) (⟨r0, rc, rd, hB.drew⟩) (fun hH => ?_)
          refine wpAnyH_take (i := 0) (v := .pointer (some ⟨nc, 0, none⟩)) rfl (by kernel_rfl) (by kernel_rfl) (by kernel_rfl) (fun _ _ _ h => h) (Or.inl ⟨by rfl, ?_⟩) hH ?_
          · intro w1 hS; (try dsimp only at hS); obtain ⟨s0, s1, s2, _⟩ := hS; have z0 := cell_of_rowAt s0 0; have z1 := (cell_of_rowAt s1 (i * 17 + (p + e))).trans gy; simp at z0; go_simp; (try (intro hb; omega))
          (try simp only [List.getElem_toArray]); (try simp only [List.getElem_cons_succ]); (try simp only [List.getElem_cons_zero]); (try simp only [Act.put]); (try simp only [List.setIfInBounds_toArray]); (try simp only [List.set_cons_succ]); (try simp only [List.set_cons_zero])
          refine wpAnyH_take (i := 1) (v := .pointer (some ⟨w.heap.size, 0, none⟩)) rfl (by kernel_rfl) (by kernel_rfl) (by kernel_rfl) (fun _ _ _ h => h) (Or.inl ⟨by rfl, ?_⟩) hH ?_
          · intro w1 hS; (try dsimp only at hS); obtain ⟨s0, s1, s2, _⟩ := hS; have z0 := cell_of_rowAt s0 0; have z1 := (cell_of_rowAt s1 (i * 17 + (p + e))).trans gy; simp at z0; go_simp; (try (intro hb; omega))
          (try simp only [List.getElem_toArray]); (try simp only [List.getElem_cons_succ]); (try simp only [List.getElem_cons_zero]); (try simp only [Act.put]); (try simp only [List.setIfInBounds_toArray]); (try simp only [List.set_cons_succ]); (try simp only [List.set_cons_zero])
          refine wpAnyH_take (i := 2) (v := .int .i8 i) rfl (by kernel_rfl) (by kernel_rfl) (by kernel_rfl) (fun _ _ _ h => h) (Or.inl ⟨by rfl, ?_⟩) hH ?_
          · intro w1 hS; (try dsimp only at hS); obtain ⟨s0, s1, s2, _⟩ := hS; have z0 := cell_of_rowAt s0 0; have z1 := (cell_of_rowAt s1 (i * 17 + (p + e))).trans gy; simp at z0; go_simp; (try (intro hb; omega))
          (try simp only [List.getElem_toArray]); (try simp only [List.getElem_cons_succ]); (try simp only [List.getElem_cons_zero]); (try simp only [Act.put]); (try simp only [List.setIfInBounds_toArray]); (try simp only [List.set_cons_succ]); (try simp only [List.set_cons_zero])
          refine wpAnyH_take (i := 3) (v := .int .i64 (p + e : Int)) rfl (by kernel_rfl) (by kernel_rfl) (by kernel_rfl) (fun _ _ _ h => h) (Or.inl ⟨by rfl, ?_⟩) hH ?_
          · intro w1 hS; (try dsimp only at hS); obtain ⟨s0, s1, s2, _⟩ := hS; have z0 := cell_of_rowAt s0 0; have z1 := (cell_of_rowAt s1 (i * 17 + (p + e))).trans gy; simp at z0; go_simp; (try (intro hb; omega))
          (try simp only [List.getElem_toArray]); (try simp only [List.getElem_cons_succ]); (try simp only [List.getElem_cons_zero]); (try simp only [Act.put]); (try simp only [List.setIfInBounds_toArray]); (try simp only [List.set_cons_succ]); (try simp only [List.set_cons_zero])
          refine wpAnyH_take (i := 4) (v := .pointer (some ⟨nc, 0, none⟩)) rfl (by kernel_rfl) (by kernel_rfl) (by kernel_rfl) (fun _ _ _ h => h) (Or.inl ⟨by rfl, ?_⟩) hH ?_
          · intro w1 hS; (try dsimp only at hS); obtain ⟨s0, s1, s2, _⟩ := hS; have z0 := cell_of_rowAt s0 0; have z1 := (cell_of_rowAt s1 (i * 17 + (p + e))).trans gy; simp at z0; go_simp; (try (intro hb; omega))
          (try simp only [List.getElem_toArray]); (try simp only [List.getElem_cons_succ]); (try simp only [List.getElem_cons_zero]); (try simp only [Act.put]); (try simp only [List.setIfInBounds_toArray]); (try simp only [List.set_cons_succ]); (try simp only [List.set_cons_zero])
          refine wpAnyH_take (i := 5) (v := .pointer (some ⟨nc, i * 17, none⟩)) rfl (by kernel_rfl) (by kernel_rfl) (by kernel_rfl) (fun _ _ _ h => h) (Or.inl ⟨by rfl, ?_⟩) hH ?_
          · intro w1 hS; (try dsimp only at hS); obtain ⟨s0, s1, s2, _⟩ := hS; have z0 := cell_of_rowAt s0 0; have z1 := (cell_of_rowAt s1 (i * 17 + (p + e))).trans gy; simp at z0; go_simp; (try (intro hb; omega))
          (try simp only [List.getElem_toArray]); (try simp only [List.getElem_cons_succ]); (try simp only [List.getElem_cons_zero]); (try simp only [Act.put]); (try simp only [List.setIfInBounds_toArray]); (try simp only [List.set_cons_succ]); (try simp only [List.set_cons_zero])
          refine wpAnyH_take (i := 6) (v := .pointer (some ⟨nc, i * 17 + (p + e), none⟩)) rfl (by kernel_rfl) (by kernel_rfl) (by kernel_rfl) (fun _ _ _ h => h) (Or.inl ⟨by rfl, ?_⟩) hH ?_
          · intro w1 hS; (try dsimp only at hS); obtain ⟨s0, s1, s2, _⟩ := hS; have z0 := cell_of_rowAt s0 0; have z1 := (cell_of_rowAt s1 (i * 17 + (p + e))).trans gy; simp at z0; go_simp; (try (intro hb; omega))
          (try simp only [List.getElem_toArray]); (try simp only [List.getElem_cons_succ]); (try simp only [List.getElem_cons_zero]); (try simp only [Act.put]); (try simp only [List.setIfInBounds_toArray]); (try simp only [List.set_cons_succ]); (try simp only [List.set_cons_zero])
          refine wpAnyH_take (i := 7) (v := .int .i32 yv) rfl (by kernel_rfl) (by kernel_rfl) (by kernel_rfl) (fun _ _ _ h => h) (Or.inl ⟨by rfl, ?_⟩) hH ?_
          · intro w1 hS; (try dsimp only at hS); obtain ⟨s0, s1, s2, _⟩ := hS; have z0 := cell_of_rowAt s0 0; have z1 := (cell_of_rowAt s1 (i * 17 + (p + e))).trans gy; simp at z0; go_simp; (try (intro hb; omega))
          (try simp only [List.getElem_toArray]); (try simp only [List.getElem_cons_succ]); (try simp only [List.getElem_cons_zero]); (try simp only [Act.put]); (try simp only [List.setIfInBounds_toArray]); (try simp only [List.set_cons_succ]); (try simp only [List.set_cons_zero])
          refine wpAnyH_take (i := 8) (v := .int .i64 yv) rfl (by kernel_rfl) (by kernel_rfl) (by kernel_rfl) (fun _ _ _ h => h) (Or.inl ⟨by rfl, ?_⟩) hH ?_
          · intro w1 hS; (try dsimp only at hS); obtain ⟨s0, s1, s2, _⟩ := hS; have z0 := cell_of_rowAt s0 0; have z1 := (cell_of_rowAt s1 (i * 17 + (p + e))).trans gy; simp at z0; go_simp; (try (intro hb; omega))
          (try simp only [List.getElem_toArray]); (try simp only [List.getElem_cons_succ]); (try simp only [List.getElem_cons_zero]); (try simp only [Act.put]); (try simp only [List.setIfInBounds_toArray]); (try simp only [List.set_cons_succ]); (try simp only [List.set_cons_zero])
          refine wpAnyH_take (i := 9) (v := .int .i64 yv) rfl (by kernel_rfl) (by kernel_rfl) (by kernel_rfl) (fun _ _ _ h => h) (Or.inl ⟨by rfl, ?_⟩) hH ?_
          · intro w1 hS; (try dsimp only at hS); obtain ⟨s0, s1, s2, _⟩ := hS; have z0 := cell_of_rowAt s0 0; have z1 := (cell_of_rowAt s1 (i * 17 + (p + e))).trans gy; simp at z0; go_simp; (try (intro hb; omega))
          (try simp only [List.getElem_toArray]); (try simp only [List.getElem_cons_succ]); (try simp only [List.getElem_cons_zero]); (try simp only [Act.put]); (try simp only [List.setIfInBounds_toArray]); (try simp only [List.set_cons_succ]); (try simp only [List.set_cons_zero])
          refine wpAnyH_done (by kernel_rfl) ?_ _
          go_wp2_with fail
          refine wp_region_held_drew (S := (fun w' => rowAt w' w.heap.size = some #[.int .i8 i, .int .i8 j] ∧ rowAt w' nc = some Y ∧ rowAt w' nd = some X ∧ Below w1.heap.size w1 w')) (by kernel_rfl) (⟨hH.1, hH.2.1, hH.2.2.1, hH.2.2.2.drew⟩) (fun hH => ?_)
          refine wpAnyH_take (i := 0) (v := .pointer (some ⟨nd, 0, none⟩)) rfl (by kernel_rfl) (by kernel_rfl) (by kernel_rfl) (fun _ _ _ h => h) (Or.inl ⟨by rfl, ?_⟩) hH ?_
          · intro w1 hS; (try dsimp only at hS); obtain ⟨s0, s1, s2, _⟩ := hS; have z0 := cell_of_rowAt s0 0; have z1 := (cell_of_rowAt s2 (i * 17 + (p + e))).trans gx; simp at z0; go_simp; (try (intro hb; omega))
          (try simp only [List.getElem_toArray]); (try simp only [List.getElem_cons_succ]); (try simp only [List.getElem_cons_zero]); (try simp only [Act.put]); (try simp only [List.setIfInBounds_toArray]); (try simp only [List.set_cons_succ]); (try simp only [List.set_cons_zero])
          refine wpAnyH_take (i := 1) (v := .pointer (some ⟨w.heap.size, 0, none⟩)) rfl (by kernel_rfl) (by kernel_rfl) (by kernel_rfl) (fun _ _ _ h => h) (Or.inl ⟨by rfl, ?_⟩) hH ?_
          · intro w1 hS; (try dsimp only at hS); obtain ⟨s0, s1, s2, _⟩ := hS; have z0 := cell_of_rowAt s0 0; have z1 := (cell_of_rowAt s2 (i * 17 + (p + e))).trans gx; simp at z0; go_simp; (try (intro hb; omega))
          (try simp only [List.getElem_toArray]); (try simp only [List.getElem_cons_succ]); (try simp only [List.getElem_cons_zero]); (try simp only [Act.put]); (try simp only [List.setIfInBounds_toArray]); (try simp only [List.set_cons_succ]); (try simp only [List.set_cons_zero])
          refine wpAnyH_take (i := 2) (v := .int .i8 i) rfl (by kernel_rfl) (by kernel_rfl) (by kernel_rfl) (fun _ _ _ h => h) (Or.inl ⟨by rfl, ?_⟩) hH ?_
          · intro w1 hS; (try dsimp only at hS); obtain ⟨s0, s1, s2, _⟩ := hS; have z0 := cell_of_rowAt s0 0; have z1 := (cell_of_rowAt s2 (i * 17 + (p + e))).trans gx; simp at z0; go_simp; (try (intro hb; omega))
          (try simp only [List.getElem_toArray]); (try simp only [List.getElem_cons_succ]); (try simp only [List.getElem_cons_zero]); (try simp only [Act.put]); (try simp only [List.setIfInBounds_toArray]); (try simp only [List.set_cons_succ]); (try simp only [List.set_cons_zero])
          refine wpAnyH_take (i := 3) (v := .int .i64 (p + e : Int)) rfl (by kernel_rfl) (by kernel_rfl) (by kernel_rfl) (fun _ _ _ h => h) (Or.inl ⟨by rfl, ?_⟩) hH ?_
          · intro w1 hS; (try dsimp only at hS); obtain ⟨s0, s1, s2, _⟩ := hS; have z0 := cell_of_rowAt s0 0; have z1 := (cell_of_rowAt s2 (i * 17 + (p + e))).trans gx; simp at z0; go_simp; (try (intro hb; omega))
          (try simp only [List.getElem_toArray]); (try simp only [List.getElem_cons_succ]); (try simp only [List.getElem_cons_zero]); (try simp only [Act.put]); (try simp only [List.setIfInBounds_toArray]); (try simp only [List.set_cons_succ]); (try simp only [List.set_cons_zero])
          refine wpAnyH_take (i := 4) (v := .pointer (some ⟨nd, 0, none⟩)) rfl (by kernel_rfl) (by kernel_rfl) (by kernel_rfl) (fun _ _ _ h => h) (Or.inl ⟨by rfl, ?_⟩) hH ?_
          · intro w1 hS; (try dsimp only at hS); obtain ⟨s0, s1, s2, _⟩ := hS; have z0 := cell_of_rowAt s0 0; have z1 := (cell_of_rowAt s2 (i * 17 + (p + e))).trans gx; simp at z0; go_simp; (try (intro hb; omega))
          (try simp only [List.getElem_toArray]); (try simp only [List.getElem_cons_succ]); (try simp only [List.getElem_cons_zero]); (try simp only [Act.put]); (try simp only [List.setIfInBounds_toArray]); (try simp only [List.set_cons_succ]); (try simp only [List.set_cons_zero])
          refine wpAnyH_take (i := 5) (v := .pointer (some ⟨nd, i * 17, none⟩)) rfl (by kernel_rfl) (by kernel_rfl) (by kernel_rfl) (fun _ _ _ h => h) (Or.inl ⟨by rfl, ?_⟩) hH ?_
          · intro w1 hS; (try dsimp only at hS); obtain ⟨s0, s1, s2, _⟩ := hS; have z0 := cell_of_rowAt s0 0; have z1 := (cell_of_rowAt s2 (i * 17 + (p + e))).trans gx; simp at z0; go_simp; (try (intro hb; omega))
          (try simp only [List.getElem_toArray]); (try simp only [List.getElem_cons_succ]); (try simp only [List.getElem_cons_zero]); (try simp only [Act.put]); (try simp only [List.setIfInBounds_toArray]); (try simp only [List.set_cons_succ]); (try simp only [List.set_cons_zero])
          refine wpAnyH_take (i := 6) (v := .pointer (some ⟨nd, i * 17 + (p + e), none⟩)) rfl (by kernel_rfl) (by kernel_rfl) (by kernel_rfl) (fun _ _ _ h => h) (Or.inl ⟨by rfl, ?_⟩) hH ?_
          · intro w1 hS; (try dsimp only at hS); obtain ⟨s0, s1, s2, _⟩ := hS; have z0 := cell_of_rowAt s0 0; have z1 := (cell_of_rowAt s2 (i * 17 + (p + e))).trans gx; simp at z0; go_simp; (try (intro hb; omega))
          (try simp only [List.getElem_toArray]); (try simp only [List.getElem_cons_succ]); (try simp only [List.getElem_cons_zero]); (try simp only [Act.put]); (try simp only [List.setIfInBounds_toArray]); (try simp only [List.set_cons_succ]); (try simp only [List.set_cons_zero])
          refine wpAnyH_take (i := 7) (v := .int .i32 xv) rfl (by kernel_rfl) (by kernel_rfl) (by kernel_rfl) (fun _ _ _ h => h) (Or.inl ⟨by rfl, ?_⟩) hH ?_
          · intro w1 hS; (try dsimp only at hS); obtain ⟨s0, s1, s2, _⟩ := hS; have z0 := cell_of_rowAt s0 0; have z1 := (cell_of_rowAt s2 (i * 17 + (p + e))).trans gx; simp at z0; go_simp; (try (intro hb; omega))
          (try simp only [List.getElem_toArray]); (try simp only [List.getElem_cons_succ]); (try simp only [List.getElem_cons_zero]); (try simp only [Act.put]); (try simp only [List.setIfInBounds_toArray]); (try simp only [List.set_cons_succ]); (try simp only [List.set_cons_zero])
          refine wpAnyH_take (i := 8) (v := .int .i64 xv) rfl (by kernel_rfl) (by kernel_rfl) (by kernel_rfl) (fun _ _ _ h => h) (Or.inl ⟨by rfl, ?_⟩) hH ?_
          · intro w1 hS; (try dsimp only at hS); obtain ⟨s0, s1, s2, _⟩ := hS; have z0 := cell_of_rowAt s0 0; have z1 := (cell_of_rowAt s2 (i * 17 + (p + e))).trans gx; simp at z0; go_simp; (try (intro hb; omega))
          (try simp only [List.getElem_toArray]); (try simp only [List.getElem_cons_succ]); (try simp only [List.getElem_cons_zero]); (try simp only [Act.put]); (try simp only [List.setIfInBounds_toArray]); (try simp only [List.set_cons_succ]); (try simp only [List.set_cons_zero])
          refine wpAnyH_take (i := 9) (v := .int .i64 xv) rfl (by kernel_rfl) (by kernel_rfl) (by kernel_rfl) (fun _ _ _ h => h) (Or.inl ⟨by rfl, ?_⟩) hH ?_
          · intro w1 hS; (try dsimp only at hS); obtain ⟨s0, s1, s2, _⟩ := hS; have z0 := cell_of_rowAt s0 0; have z1 := (cell_of_rowAt s2 (i * 17 + (p + e))).trans gx; simp at z0; go_simp; (try (intro hb; omega))
          (try simp only [List.getElem_toArray]); (try simp only [List.getElem_cons_succ]); (try simp only [List.getElem_cons_zero]); (try simp only [Act.put]); (try simp only [List.setIfInBounds_toArray]); (try simp only [List.set_cons_succ]); (try simp only [List.set_cons_zero])
          refine wpAnyH_done (by kernel_rfl) ?_ _
          have hBe := hH.2.2.2
          clear hH r0 rc rd hB gy gx
          cases fb with
          | false =>
            have HT : Hid (fb' = false) := Lib.hid (by rw [HF.out, Bool.false_and])
            clear HF CD
            go_wp2_with fail
            refine ⟨⟨e + 1, by omega, by rw [← HF'.out, HT.out], by congr 1, hBe⟩, by simp [intOf]; omega⟩
          | true =>
            have HG : Hid (fb' = fitE yv xv k) := Lib.hid (by rw [HF.out, Bool.true_and])
            clear HF
            obtain ⟨q, hq⟩ : ∃ q, q = drip1 k 0 yv := ⟨_, rfl⟩
            rw [← hq] at CD
            have HQ := Lib.hid hq
            clear hq
            by_cases hxq : xv = q
            · have HT : Hid (fb' = true) := Lib.hid (by rw [HG.out]; unfold fitE; rw [← HQ.out, decide_eq_true hxq, Bool.true_or])
              have hxb : (xv == q) = true := by simpa using hxq
              clear HG hxq wx wy
              go_wp2_with fail
              refine (CD _).mono ?_
              rintro _ w3 ⟨rfl, rfl⟩
              go_wp2_with fail
              refine ⟨⟨e + 1, by omega, by rw [← HF'.out, HT.out], by congr 1, hBe⟩, by simp [intOf]; omega⟩
            · have hxb : (xv == q) = false := by simpa using hxq
              by_cases hk3 : k = 3
              · have hkb : ((k : Int) == 3) = true := by simp; omega
                have HT : Hid (fb' = decide (xv = 0)) := Lib.hid (by rw [HG.out]; unfold fitE; rw [← HQ.out, decide_eq_false hxq, Bool.false_or, decide_eq_true hk3, Bool.true_and])
                clear HG hxq wx wy hk3
                go_wp2_with fail
                refine (CD _).mono ?_
                rintro _ w3 ⟨rfl, rfl⟩
                go_wp2_with fail
                refine ⟨⟨e + 1, by omega, by rw [← HF'.out, HT.out]; rfl, by congr 1, hBe⟩, by simp [intOf]; omega⟩
              · have hkb : ((k : Int) == 3) = false := by simp; omega
                have HT : Hid (fb' = false) := Lib.hid (by rw [HG.out]; unfold fitE; rw [← HQ.out, decide_eq_false hxq, Bool.false_or, decide_eq_false hk3, Bool.false_and])
                clear HG hxq wx wy hk3
                go_wp2_with fail
                refine (CD _).mono ?_
                rintro _ w3 ⟨rfl, rfl⟩
                go_wp2_with fail
                refine ⟨⟨e + 1, by omega, by rw [← HF'.out, HT.out], by congr 1, hBe⟩, by simp [intOf]; omega⟩
        · obtain rfl : e = 2 := by omega
          have HK : Hid (two (fun e => fitE (y (i * 17 + p + e)) (x (i * 17 + p + e)) k) 2 = fitK y x (i * 17 + p) k) := Lib.hid rfl
          generalize two (fun e => fitE (y (i * 17 + p + e)) (x (i * 17 + p + e)) k) 2 = fb at HK ⊢
          have hbits := with_num ⟨s, hlt16⟩ ⟨k, hlt⟩
          dsimp only at hbits
          cases fb with
          | true =>
            go_wp2_with fail
            refine ⟨⟨k + 1, by omega, by rw [kSet_t HK.out.symm, ← HS.out], by simp, hB⟩, by simp [intOf]; omega⟩
          | false =>
            go_wp2_with fail
            refine ⟨⟨k + 1, by omega, by rw [kSet_f HK.out.symm, ← HS.out], by simp, hB⟩, by simp [intOf]; omega⟩
    · obtain rfl : k = 4 := by omega
      go_wp2_with fail
      go_ret
      exact ⟨by rw [HS.out]; rfl, qB.out.trans (hB.mono (by omega))⟩
end Go.Proofs.YtoibolmippfcgaaDoor

/- What goes together: sets of kinds. Plain mathematics. -/
namespace Go.Proofs.YtoibolmippfcgaaDoor
open Go.RowKit

/-- One kind of the tile below, beside one of the tile above. -/
def hitK (g : Nat → Nat → Bool) (o : Nat) (p : Nat × Nat) (k : Fin 4) : Nat × Nat := if g k.val o = true then (p.1 ||| 2 ^ o, p.2 ||| 2 ^ k.val) else p
def hitL (g : Nat → Nat → Bool) (o : Nat) (p : Nat × Nat) (ks : List (Fin 4)) : Nat × Nat := ks.foldl (hitK g o) p
/-- The kinds of the tile above, and of the one below, that go with one of the other tile. -/
def togL (g : Nat → Nat → Bool) (B : Nat) (os : List (Fin 4)) : Nat × Nat := os.foldl (fun p o => hitL g o.val p (kUpto B 4)) (0, 0)
theorem hitL_snoc (g : Nat → Nat → Bool) (o : Nat) (p : Nat × Nat) (ks : List (Fin 4)) (k : Fin 4) : hitL g o p (ks ++ [k]) = hitK g o (hitL g o p ks) k := by simp [hitL]
theorem togL_snoc (g : Nat → Nat → Bool) (B : Nat) (os : List (Fin 4)) (o : Fin 4) : togL g B (os ++ [o]) = hitL g o.val (togL g B os) (kUpto B 4) := by simp [togL]
theorem or_lt16 {a k : Nat} (h : a < 16) (hk : k < 4) : a ||| 2 ^ k < 16 := Nat.or_lt_two_pow (n := 4) h (Nat.pow_lt_pow_right (by omega) hk)
theorem hitK_lt {g : Nat → Nat → Bool} {o : Nat} (ho : o < 4) {p : Nat × Nat} (h : p.1 < 16 ∧ p.2 < 16) (k : Fin 4) : (hitK g o p k).1 < 16 ∧ (hitK g o p k).2 < 16 := by
  unfold hitK
  split
  · exact ⟨or_lt16 h.1 ho, or_lt16 h.2 k.2⟩
  · exact h
theorem hitL_lt {g : Nat → Nat → Bool} {o : Nat} (ho : o < 4) : ∀ (ks : List (Fin 4)) (p : Nat × Nat), p.1 < 16 ∧ p.2 < 16 → (hitL g o p ks).1 < 16 ∧ (hitL g o p ks).2 < 16
  | [], _, h => h
  | k :: ks, p, h => hitL_lt ho ks (hitK g o p k) (hitK_lt ho h k)
theorem togF_lt {g : Nat → Nat → Bool} {B : Nat} : ∀ (os : List (Fin 4)) (p : Nat × Nat), p.1 < 16 ∧ p.2 < 16 → (os.foldl (fun p o => hitL g o.val p (kUpto B 4)) p).1 < 16 ∧ (os.foldl (fun p o => hitL g o.val p (kUpto B 4)) p).2 < 16
  | [], _, h => h
  | o :: os, p, h => togF_lt os _ (hitL_lt o.2 (kUpto B 4) p h)
theorem togL_lt (g : Nat → Nat → Bool) (B : Nat) (os : List (Fin 4)) : (togL g B os).1 < 16 ∧ (togL g B os).2 < 16 := togF_lt os (0, 0) ⟨by decide, by decide⟩
theorem bit_or {a k j : Nat} : (a ||| 2 ^ k).testBit j = (a.testBit j || decide (k = j)) := by rw [Nat.testBit_or, Nat.testBit_two_pow]
theorem hitL_bit {g : Nat → Nat → Bool} {o j : Nat} : ∀ (ks : List (Fin 4)) (p : Nat × Nat), (hitL g o p ks).2.testBit j = (p.2.testBit j || ks.any (fun k => decide (k.val = j) && g j o))
  | [], p => by simp [hitL]
  | k :: ks, p => by
    have h := hitL_bit (g := g) (o := o) (j := j) ks (hitK g o p k)
    rw [show hitL g o p (k :: ks) = hitL g o (hitK g o p k) ks from rfl, h, List.any_cons, ← Bool.or_assoc]
    congr 1
    unfold hitK
    split
    · rename_i hg
      rw [bit_or]
      by_cases hk : k.val = j
      · rw [← hk, hg]; simp
      · simp [hk]
    · rename_i hg
      by_cases hk : k.val = j
      · rw [← hk]; simp [hg]
      · simp [hk]
theorem kUpto_any {B j : Nat} (hj : j < 4) (b : Bool) : (kUpto B 4).any (fun k => decide (k.val = j) && b) = (B.testBit j && b) := by
  obtain rfl | rfl | rfl | rfl : j = 0 ∨ j = 1 ∨ j = 2 ∨ j = 3 := by omega
  all_goals
    cases b
    · simp
    · simp only [kUpto, List.any_append, List.any_nil, Bool.and_true, Bool.false_or]
      cases B.testBit 0 <;> cases B.testBit 1 <;> cases B.testBit 2 <;> cases B.testBit 3 <;> rfl
theorem togF_bit {g : Nat → Nat → Bool} {B j : Nat} (hj : j < 4) : ∀ (os : List (Fin 4)) (p : Nat × Nat), (os.foldl (fun p o => hitL g o.val p (kUpto B 4)) p).2.testBit j = (p.2.testBit j || (B.testBit j && os.any (fun o => g j o.val)))
  | [], p => by simp
  | o :: os, p => by
    rw [List.foldl_cons, togF_bit hj os, hitL_bit, kUpto_any hj, List.any_cons]
    cases p.2.testBit j <;> cases B.testBit j <;> cases g j o.val <;> simp
theorem kUpto15 : kUpto 15 4 = [0, 1, 2, 3] := by decide
/-- The kinds of the tile below that go with some kind above. -/
def togB (g : Nat → Nat → Bool) (B : Nat) : Nat := (togL g B (kUpto 15 4)).2
theorem togB_lt (g : Nat → Nat → Bool) (B : Nat) : togB g B < 16 := (togL_lt g B _).2
theorem togB_bit {g : Nat → Nat → Bool} {B j : Nat} (hj : j < 4) : (togB g B).testBit j = (B.testBit j && (g j 0 || (g j 1 || (g j 2 || g j 3)))) := by
  unfold togB togL
  rw [togF_bit hj, kUpto15]
  simp
  rfl
theorem kSet_bit {f : Nat → Bool} {j : Nat} : ∀ k, (kSet f k).testBit j = (decide (j < k) && f j)
  | 0 => by simp [kSet]
  | k + 1 => by
    have h := kSet_bit (f := f) (j := j) k
    simp only [kSet]
    split
    · rename_i hf
      rw [bit_or, h]
      by_cases hk : k = j
      · subst hk; simp [hf]
      · have : decide (j < k + 1) = decide (j < k) := by congr 1; apply propext; omega
        rw [this]; simp [hk]
    · rename_i hf
      rw [h]
      by_cases hk : k = j
      · subst hk; simp [hf]
      · have : decide (j < k + 1) = decide (j < k) := by congr 1; apply propext; omega
        rw [this]
theorem bits16 {a b : Nat} (ha : a < 16) (hb : b < 16) (h : ∀ j, j < 4 → a.testBit j = b.testBit j) : a = b := Nat.eq_of_testBit_eq fun j => by
  by_cases hj : j < 4
  · exact h j hj
  · have h16 : 16 ≤ 2 ^ j := Nat.le_trans (show 16 ≤ 2 ^ 4 by decide) (Nat.pow_le_pow_right (by decide) (by omega))
    rw [Nat.testBit_lt_two_pow (Nat.lt_of_lt_of_le ha h16), Nat.testBit_lt_two_pow (Nat.lt_of_lt_of_le hb h16)]
/-- Whether a tile of kind k below one of kind o has dripped so. -/
def goesB (y x : Int) (k o : Nat) : Bool := decide (drip1 k o y = x)
theorem goes_fit {y x : Int} {j : Nat} (hj : j < 4) : (goesB y x j 0 || (goesB y x j 1 || (goesB y x j 2 || goesB y x j 3))) = fitE y x j := by
  unfold goesB fitE
  obtain rfl | rfl | rfl | rfl : j = 0 ∨ j = 1 ∨ j = 2 ∨ j = 3 := by omega
  all_goals
    rw [Bool.eq_iff_iff]
    simp [drip1]
    try omega
/-- Both cells: what the program finds is what the model asks. -/
theorem tog_fit (y x : Nat → Int) (m : Nat) : togB (goesB (y (m + 1)) (x (m + 1))) (togB (goesB (y m) (x m)) 15) = kSet (fitK y x m) 4 := by
  refine bits16 (togB_lt _ _) (kSet_lt _ (Nat.le_refl 4)) fun j hj => ?_
  rw [togB_bit hj, togB_bit hj, kSet_bit, goes_fit hj, goes_fit hj]
  have h15 : Nat.testBit 15 j = true := by
    obtain rfl | rfl | rfl | rfl : j = 0 ∨ j = 1 ∨ j = 2 ∨ j = 3 := by omega
    all_goals decide
  rw [h15, decide_eq_true hj, Bool.true_and, Bool.true_and]
  unfold fitK
  simp only [two, Bool.true_and, Nat.add_zero]
end Go.Proofs.YtoibolmippfcgaaDoor

/- A region that draws its order, within a round of a range over a function: by the walk of 'OrdersHeld'. Laws over any program. -/
namespace Go.Proofs.YtoibolmippfcgaaDoor
open Go.RowKit

/-- Q at the region's end alone. -/
def OnlyN (Q : Exit → Act → World → Prop) : Exit → Act → World → Prop
  | .normal, a, w => Q .normal a w
  | _, _, _ => False

/-- No operation of the region is a defer statement. -/
def calmB (ops : Array Oper) : Bool := ops.toList.all fun o => match o.op with | .defer _ => false | _ => true
theorem calm_of {ops : Array Oper} (h : calmB ops = true) {i : Nat} {o : Oper} (ho : ops[i]? = some o) : ∀ c, o.op ≠ .defer c := fun c hc => by
  have hm : o ∈ ops.toList := by
    have := (Array.getElem?_eq_some_iff.1 ho)
    obtain ⟨hi, rfl⟩ := this
    exact Array.getElem_mem_toList hi
  have := List.all_eq_true.1 h o hm
  rw [hc] at this
  exact absurd this (by simp)

theorem rows_in {n l : Nat} {P : Program} {row : String} {args : Array Value} {w : World} {R : Value → World → Prop} (h : Rows P row args w R) : RowsIn (Fence.wide.inRound l) n P row args w R :=
  fun c cs _ => let ⟨v, w', r, s⟩ := h c cs; ⟨v, w', r, stepsIn_wide.2 s⟩

theorem wpOp_in {l n : Nat} {P : Program} {ops : Array Oper} {Q : Exit → Act → World → Prop} {i : Nat} {K K' : Act → World → Prop} {a : Act} {w : World} (hd : calmB ops = true) (hK : ∀ a w, K a w → K' a w)
    (h : wpOp P ops (OnlyN Q) i K a w) : wpOpIn (Fence.wide.inRound l) n P ops Q i K' a w := by
  unfold wpOp at h
  unfold wpOpIn
  cases ho : ops[i]? with
  | none => simp only [ho] at h; exact hK _ _ h
  | some o =>
    simp only [ho] at h ⊢
    by_cases hw : Region.wanted o (yielded ops a.tmps) = true
    · rw [if_pos hw] at h ⊢
      rcases h with h | ⟨_, _, _, h⟩
      · refine ⟨fun _ _ => trivial, ?_⟩
        rw [Oper.semAt_eq _ _ _ (calm_of hd ho)]
        unfold Oper.wp at h
        generalize (execOp a.eval o).run P w = r at *
        cases r with
        | ok x w' =>
          cases x <;> simp only [Oper.upon, Oper.uponIn] at h ⊢
          case value v => exact hK _ _ h
          case skip => exact hK _ _ h
          case defer d => exact hK _ _ h
          case enter f args =>
            refine ⟨fun h => by simp [Fence.wide] at h, ?_⟩
            refine CallsIn.inRound l (callsIn_wide.2 (Calls.mono h fun e w'' he => ?_))
            cases e with
            | returned v => exact hK _ _ he
            | panicked c => exact (he : False).elim
            | outgrown => obtain ⟨_, _, h⟩ := he; exact (h : False).elim
          case row row args => exact ⟨fun h => by simp [Fence.wide] at h, rows_in (Rows.mono h fun _ _ he => hK _ _ he)⟩
          all_goals exact (h : False).elim
        | halt x w' => cases x <;> simp only [Oper.upon] at h <;> exact (h : False).elim
      · exact (h : False).elim
    · rw [if_neg hw] at h ⊢
      exact ⟨fun _ _ => trivial, hK _ _ h⟩

theorem wpAny_in {l n : Nat} {P : Program} {ops : Array Oper} {Q : Exit → Act → World → Prop} {md : Region.Mode} (hd : calmB ops = true) :
    ∀ (fuel : Nat) (listed : Array Bool) (a : Act) (w : World), wpAny P md ops (OnlyN Q) fuel listed a w → wpAnyIn (Fence.wide.inRound l) n P md ops Q fuel listed a w
  | 0, _, _, _, h => h
  | fuel + 1, _, _, _, h => ⟨h.1, fun i hi => wpOp_in hd (fun a' w' h' => wpAny_in hd fuel _ a' w' h') (h.2 i hi)⟩

/-- The beginning of the walk, within a round. -/
theorem wpIn_region_held {l n : Nat} {P : Program} {id : Nat} {ops : Array Oper} {Q : Exit → Act → World → Prop} {S : World → Prop} {a : Act} {w : World} (hm : P.follows .mixedOrders = true) (hd : calmB ops = true) (hS : S w.drew)
    (h : S w.drew → wpAnyH P .any ops (OnlyN Q) S ops.size (Array.replicate ops.size false) a w.drew) : (Code.region id ops true).wpIn (Fence.wide.inRound l) n P Q a w :=
  wpIn_region_any hm (wpAny_in hd _ _ _ _ (wpAny_of_held _ _ _ _ (h hS)))
end Go.Proofs.YtoibolmippfcgaaDoor

/- What goes together, in the program: a loop over kinds within a loop over kinds. -/
namespace Go.Proofs.YtoibolmippfcgaaDoor
open Go.RowKit Go.Shelf
attribute [local go_sem] Oper.semAt_some

/-- A region whose operations only read, but for those behind the first n, within a round. -/
theorem wpIn_still_tailT {m k id : Nat} {P : Program} {Q : Exit → Act → World → Prop} {a : Act} {w : World} {ls : List Oper} (n : Nat) (hm : P.follows .mixedOrders = true) (hd : calmB ls.toArray = true) (hB : Region.lexTailB .any ls.toArray n = true)
    (h : wpStill P ls.toArray w.drew (fun a' => wpList P ls.toArray (OnlyN Q) (ls.drop n) a' w.drew) (ls.take n) a) : (Code.region id ls.toArray true).wpIn (Fence.wide.inRound m) k P Q a w := by
  obtain ⟨⟨⟨⟨b1, b2⟩, b3⟩, b4⟩, b5⟩ : (((Region.noSelect ls.toArray = true ∧ n < ls.toArray.size) ∧ Region.sinkB .any ls.toArray n = true) ∧ Region.chainB .any ls.toArray n = true) ∧ Region.lexHead .any ls.toArray (ls.toArray.size - n) n 0 (Array.replicate ls.toArray.size false) = true := by
    simpa only [Region.lexTailB, Bool.and_eq_true, decide_eq_true_eq] using hB
  have hn : n < ls.length := by simpa using b2
  have l1 : (ls.take n).length = n := by simp; omega
  have l2 : (ls.drop n).length = ls.toArray.size - n := by simp
  have inv : HeadInv .any ls.toArray n (Array.replicate ls.toArray.size false) :=
    ⟨by simp, fun j oj _ hl => (by rw [getD_replicate_false] at hl; cases hl), fun t _ ht => getD_in (by simpa using ht) (getD_replicate_false _ _)⟩
  have head := wpAnyL_lex (md := .any) (g := ls.toArray.size - n) b1 b3 b4 b2 (ls.take n) 0 _ a
    (fun j hj => by rw [l1] at hj; simp [hj]) (by simpa using l1) inv (by rw [l1]; exact b5) h
  have all := wpAny_of_head (Q' := OnlyN Q) (g := ls.toArray.size - n) (fun listed a' hL => by
    have := wpAny_of_seq (md := .any) (Q' := OnlyN Q) (ls.drop n) n listed a' w.drew (fun j => by simp [List.getElem?_drop]) (by rw [l2]; exact hL.1) hL.2
    rwa [l2] at this) _ _ _ head
  rw [l1, show n + (ls.toArray.size - n) = ls.toArray.size by omega] at all
  exact wpIn_region_any hm (wpAny_in hd _ _ _ _ all)

theorem onlyN_outT {Q : Exit → Act → World → Prop} : ∀ e a w, OnlyN Q e a w → Q e a w
  | .normal, _, _, h => h
  | .ret, _, _, h => h.elim
  | .exit _, _, _, h => h.elim
  | .goto _, _, _, h => h.elim
  | .panic _, _, _, h => h.elim
  | .outgrown, _, _, h => h.elim

set_option maxRecDepth 100000 in
set_option maxHeartbeats 8000000 in
theorem together_any (Sn : Nat) (g : Nat → Nat → Bool) (a b : Nat) (i j : Int) (w : World) (ha : a < 16) (hb : b < 16)
    (HG : ∀ (k o : Nat) (W : World), Below w.heap.size w W → k < 4 → o < 4 → Calls Tryd.prog 93 #[.pointer (some ⟨Sn, 0, none⟩), .int .i64 k, .int .i64 o, .int .i64 i, .int .i64 j] W fun e w' => e = .returned (.bool (g k o)) ∧ Below W.heap.size W w') :
    Calls Tryd.prog 70 #[.pointer (some ⟨Sn, 0, none⟩), .int .u8 a, .int .u8 b, .int .i64 i, .int .i64 j] w fun e w' => e = .returned (.tuple #[.int .u8 ((togL g b (kUpto a 4)).1 : Nat), .int .u8 ((togL g b (kUpto a 4)).2 : Nat)]) ∧ Below w.heap.size w w' := by
  have HG' := Lib.hid HG
  clear HG
  refine (callsIn_wide (n := 7)).1 ?_
  refine callsIn_of_wp_marks Tryd.func70 rfl trivial ?_ rfl
  simp only [Tryd.ntmps70, List.size_toArray, List.length_cons, List.length_nil, Nat.reduceAdd, Nat.reduceSub, Array.replicate_succ, Array.replicate_zero, List.push_toArray, List.append_toArray, List.nil_append, List.cons_append]
  gi_wp2_with (refine ⟨trivial, ?_⟩; gi_at_call 92; refine (callsIn_wide.2 (all_any a _)).mono ?_; rintro e w' ⟨rfl, rfl⟩)
  obtain ⟨W0, hW0⟩ : ∃ W0, (((((((w).alloc (.cells #[.pointer (some ⟨Sn, 0, none⟩)] 119)).alloc (.cells #[.int .u8 b] 93)).alloc (.cells #[.int .i64 i] 2)).alloc (.cells #[.int .i64 j] 2)).alloc (.cells #[.int .u8 0] 93)).alloc (.cells #[.int .u8 0] 93)).alloc (.cells #[.int .u8 a] 93) = W0 := ⟨_, rfl⟩
  have hsz : W0.heap.size = w.heap.size + 7 := by rw [← hW0]; simp
  have rS : RowT W0 (w.heap.size) 119 #[.pointer (some ⟨Sn, 0, none⟩)] := by
    have := ((((((RowT.new (w) 119 #[.pointer (some ⟨Sn, 0, none⟩)]).alloc (.cells #[.int .u8 b] 93)).alloc (.cells #[.int .i64 i] 2)).alloc (.cells #[.int .i64 j] 2)).alloc (.cells #[.int .u8 0] 93)).alloc (.cells #[.int .u8 0] 93)).alloc (.cells #[.int .u8 a] 93)
    rw [hW0] at this; simpa using this
  have rb : RowT W0 (w.heap.size + 1) 93 #[.int .u8 b] := by
    have := (((((RowT.new ((w).alloc (.cells #[.pointer (some ⟨Sn, 0, none⟩)] 119)) 93 #[.int .u8 b]).alloc (.cells #[.int .i64 i] 2)).alloc (.cells #[.int .i64 j] 2)).alloc (.cells #[.int .u8 0] 93)).alloc (.cells #[.int .u8 0] 93)).alloc (.cells #[.int .u8 a] 93)
    rw [hW0] at this; simpa using this
  have ri : RowT W0 (w.heap.size + 1 + 1) 2 #[.int .i64 i] := by
    have := ((((RowT.new (((w).alloc (.cells #[.pointer (some ⟨Sn, 0, none⟩)] 119)).alloc (.cells #[.int .u8 b] 93)) 2 #[.int .i64 i]).alloc (.cells #[.int .i64 j] 2)).alloc (.cells #[.int .u8 0] 93)).alloc (.cells #[.int .u8 0] 93)).alloc (.cells #[.int .u8 a] 93)
    rw [hW0] at this; simpa using this
  have rj : RowT W0 (w.heap.size + 1 + 1 + 1) 2 #[.int .i64 j] := by
    have := (((RowT.new ((((w).alloc (.cells #[.pointer (some ⟨Sn, 0, none⟩)] 119)).alloc (.cells #[.int .u8 b] 93)).alloc (.cells #[.int .i64 i] 2)) 2 #[.int .i64 j]).alloc (.cells #[.int .u8 0] 93)).alloc (.cells #[.int .u8 0] 93)).alloc (.cells #[.int .u8 a] 93)
    rw [hW0] at this; simpa using this
  have rG : RowT W0 (w.heap.size + 1 + 1 + 1 + 1) 93 #[.int .u8 0] := by
    have := ((RowT.new (((((w).alloc (.cells #[.pointer (some ⟨Sn, 0, none⟩)] 119)).alloc (.cells #[.int .u8 b] 93)).alloc (.cells #[.int .i64 i] 2)).alloc (.cells #[.int .i64 j] 2)) 93 #[.int .u8 0]).alloc (.cells #[.int .u8 0] 93)).alloc (.cells #[.int .u8 a] 93)
    rw [hW0] at this; simpa using this
  have rH : RowT W0 (w.heap.size + 1 + 1 + 1 + 1 + 1) 93 #[.int .u8 0] := by
    have := (RowT.new ((((((w).alloc (.cells #[.pointer (some ⟨Sn, 0, none⟩)] 119)).alloc (.cells #[.int .u8 b] 93)).alloc (.cells #[.int .i64 i] 2)).alloc (.cells #[.int .i64 j] 2)).alloc (.cells #[.int .u8 0] 93)) 93 #[.int .u8 0]).alloc (.cells #[.int .u8 a] 93)
    rw [hW0] at this; simpa using this
  have rD : RowT W0 (w.heap.size + 1 + 1 + 1 + 1 + 1 + 1) 93 #[.int .u8 a] := by
    have := RowT.new (((((((w).alloc (.cells #[.pointer (some ⟨Sn, 0, none⟩)] 119)).alloc (.cells #[.int .u8 b] 93)).alloc (.cells #[.int .i64 i] 2)).alloc (.cells #[.int .i64 j] 2)).alloc (.cells #[.int .u8 0] 93)).alloc (.cells #[.int .u8 0] 93)) 93 #[.int .u8 a]
    rw [hW0] at this; simpa using this
  have hB0 : Below w.heap.size w W0 := by rw [← hW0]; exact (((((((Below.refl _ w).alloc (Nat.le_refl _) _).alloc (by simp) _).alloc (by simp; omega) _).alloc (by simp; omega) _).alloc (by simp; omega) _).alloc (by simp; omega) _).alloc (by simp; omega) _
  rw [hW0]
  clear hW0
  refine wpIn_rangeFunc_ownH rfl (by omega) (gf := 101) (lb := #[.pointer (some ⟨w.heap.size + 1 + 1 + 1 + 1 + 1 + 1, 0, none⟩)]) rfl trivial (enters_of Tryd.func101 (by kernel_rfl) rfl)
    (all_stops 6 (by omega) (w.heap.size + 1 + 1 + 1 + 1 + 1 + 1) w.heap.size a ha W0 rD.row) KpR.trans (KpR.put (by omega) (by omega)) (Below.refl _ _) (fun _ => rfl)
    (fun pre W => (RowT W (w.heap.size) 119 #[.pointer (some ⟨Sn, 0, none⟩)] ∧ RowT W (w.heap.size + 1) 93 #[.int .u8 b] ∧ RowT W (w.heap.size + 1 + 1) 2 #[.int .i64 i] ∧ RowT W (w.heap.size + 1 + 1 + 1) 2 #[.int .i64 j] ∧ RowT W (w.heap.size + 1 + 1 + 1 + 1) 93 #[.int .u8 ((togL g b pre).1 : Nat)] ∧ RowT W (w.heap.size + 1 + 1 + 1 + 1 + 1) 93 #[.int .u8 ((togL g b pre).2 : Nat)] ∧ RowT W (w.heap.size + 1 + 1 + 1 + 1 + 1 + 1) 93 #[.int .u8 a]) ∧ Below w.heap.size w W)
    (fun _ _ _ => False)
    (OwnFrom.and (OwnFrom.and (Own.from (RowT.own _ _ _) _) (OwnFrom.and (Own.from (RowT.own _ _ _) _) (OwnFrom.and (Own.from (RowT.own _ _ _) _) (OwnFrom.and (Own.from (RowT.own _ _ _) _) (OwnFrom.and (Own.from (RowT.own _ _ _) _) (OwnFrom.and (Own.from (RowT.own _ _ _) _) (Own.from (RowT.own _ _ _) _))))))) (ownFrom_below (Nat.le_refl _) (by omega)))
    (fun _ _ _ _ _ hs _ _ => hs)
    ⟨⟨rS, rb, ri, rj, rG, rH, rD⟩, hB0⟩
    (fun x a' W => ∃ Bx, w.heap.size + 1 + 1 + 1 + 1 + 1 + 1 < Bx ∧ RowT W Bx 2 #[.int .i64 (x.val : Int)] ∧ a' = { tmps := #[.pointer (some ⟨Sn, 0, none⟩), .int .u8 a, .int .u8 b, .int .i64 i, .int .i64 j, .pointer (some ⟨w.heap.size, 0, none⟩), undef, .pointer (some ⟨w.heap.size + 1, 0, none⟩), .pointer (some ⟨w.heap.size + 1 + 1, 0, none⟩), .pointer (some ⟨w.heap.size + 1 + 1 + 1, 0, none⟩), .int .u8 0, .int .u8 0, .pointer (some ⟨w.heap.size + 1 + 1 + 1 + 1, 0, none⟩), .pointer (some ⟨w.heap.size + 1 + 1 + 1 + 1 + 1, 0, none⟩), .pointer (some ⟨Bx, 0, none⟩), undef, .int .u8 a, .func (.func 101) #[] #[.pointer (some ⟨w.heap.size + 1 + 1 + 1 + 1 + 1 + 1, 0, none⟩)], .int .i64 (x.val : Int), undef, undef, undef, undef, undef, undef, undef, undef, undef, undef, undef, undef, undef, undef, undef, undef, undef], defers := [] })
    (fun x a' _ X Y row hs hg hr => by obtain ⟨Bx, h1, h2, h3⟩ := hs; exact ⟨Bx, h1, RowT.own Bx 2 (fun (_ : Unit) => #[Value.int .i64 (x.val : Int)]) () X Y row h2 hg (fun r e => (hr r e).2), h3⟩)
    ?assign ?body ?done ?stop
  case assign =>
    rintro l pre x W K ⟨⟨gS, gb, gi, gj, gG, gH, gD⟩, hB1⟩ hK
    gi_wp2
    refine hK _ _ ((KeepsOthers.alloc _ _).from _) ⟨(Below.refl _ W).alloc hB1.size _, fun c' h => (rowAt_alloc_past _ _ _ (rowAt_lt h)).trans h⟩ ⟨⟨gS.alloc _, gb.alloc _, gi.alloc _, gj.alloc _, gG.alloc _, gH.alloc _, gD.alloc _⟩, hB1.alloc hB1.size _⟩ ⟨W.heap.size, gD.lt, RowT.new W 2 _, rfl⟩
  case body =>
    rintro l pre x a' W hl ⟨rr, hrr⟩ ⟨⟨gS, gb, gi, gj, gG, gH, gD⟩, hB1⟩ ⟨Bx, hBx, gX, rfl⟩ hlt
    have cb := cell_of_rowAt gb.row 0
    simp at cb
    gi_wp2_with (refine ⟨trivial, ?_⟩; gi_at_call 92; refine (CallsIn.inRound l (callsIn_wide.2 (all_any b _))).mono ?_; rintro e w' ⟨rfl, rfl⟩)
    have hsW := hB1.size
    have gE := RowT.new W 93 #[.int .u8 b]
    have hr' : (W.alloc (.cells #[.int .u8 b] 93)).heap[l]? = some (.loop rr) := (Below.heap_alloc W _ l (Array.getElem?_eq_some_iff.1 hrr).1).trans hrr
    refine wpIn_rangeFunc_ownN (l₀ := l) (r₀ := rr) rfl hr' (by omega) (gf := 101) (lb := #[.pointer (some ⟨W.heap.size, 0, none⟩)]) rfl trivial (enters_of Tryd.func101 (by kernel_rfl) rfl)
      ((all_stops 4 (by omega) W.heap.size w.heap.size b hb _ gE.row).inRound l) KpR.trans (KpR.put (by simp; omega) (by simp)) (Below.refl _ _) (fun _ => rfl)
      (fun pre' W' => ((RowT W' (w.heap.size) 119 #[.pointer (some ⟨Sn, 0, none⟩)] ∧ RowT W' (w.heap.size + 1) 93 #[.int .u8 b] ∧ RowT W' (w.heap.size + 1 + 1) 2 #[.int .i64 i] ∧ RowT W' (w.heap.size + 1 + 1 + 1) 2 #[.int .i64 j] ∧ RowT W' (w.heap.size + 1 + 1 + 1 + 1) 93 #[.int .u8 ((hitL g x.val (togL g b pre) pre').1 : Nat)] ∧ RowT W' (w.heap.size + 1 + 1 + 1 + 1 + 1) 93 #[.int .u8 ((hitL g x.val (togL g b pre) pre').2 : Nat)] ∧ RowT W' (w.heap.size + 1 + 1 + 1 + 1 + 1 + 1) 93 #[.int .u8 a]) ∧ RowT W' Bx 2 #[.int .i64 (x.val : Int)]) ∧ (Below w.heap.size W W' ∧ KeepsFrom W0.heap.size W W'))
      (fun _ _ _ => False)
      (OwnFrom.and (OwnFrom.and (OwnFrom.and (Own.from (RowT.own _ _ _) _) (OwnFrom.and (Own.from (RowT.own _ _ _) _) (OwnFrom.and (Own.from (RowT.own _ _ _) _) (OwnFrom.and (Own.from (RowT.own _ _ _) _) (OwnFrom.and (Own.from (RowT.own _ _ _) _) (OwnFrom.and (Own.from (RowT.own _ _ _) _) (Own.from (RowT.own _ _ _) _))))))) (Own.from (RowT.own _ _ _) _)) (OwnFrom.and (ownFrom_below hsW (by simp; omega)) (ownFrom_keepsFrom (by simp))))
      (fun _ _ _ _ _ hs _ _ => hs)
      ⟨⟨⟨gS.alloc _, gb.alloc _, gi.alloc _, gj.alloc _, gG.alloc _, gH.alloc _, gD.alloc _⟩, gX.alloc _⟩, (Below.refl _ W).alloc hsW _, (KeepsOthers.alloc _ _).from _⟩
      (fun y a'' _ => a'' = { tmps := #[.pointer (some ⟨Sn, 0, none⟩), .int .u8 a, .int .u8 b, .int .i64 i, .int .i64 j, .pointer (some ⟨w.heap.size, 0, none⟩), undef, .pointer (some ⟨w.heap.size + 1, 0, none⟩), .pointer (some ⟨w.heap.size + 1 + 1, 0, none⟩), .pointer (some ⟨w.heap.size + 1 + 1 + 1, 0, none⟩), .int .u8 0, .int .u8 0, .pointer (some ⟨w.heap.size + 1 + 1 + 1 + 1, 0, none⟩), .pointer (some ⟨w.heap.size + 1 + 1 + 1 + 1 + 1, 0, none⟩), .pointer (some ⟨Bx, 0, none⟩), .int .i64 (y.val : Int), .int .u8 a, .func (.func 101) #[] #[.pointer (some ⟨w.heap.size + 1 + 1 + 1 + 1 + 1 + 1, 0, none⟩)], .int .i64 (x.val : Int), .int .u8 b, .func (.func 101) #[] #[.pointer (some ⟨W.heap.size, 0, none⟩)], .int .i64 (y.val : Int), undef, undef, undef, undef, undef, undef, undef, undef, undef, undef, undef, undef, undef, undef], defers := [] })
      (fun _ _ _ _ _ _ hs _ _ => hs)
      ?assign2 ?body2 ?done2 ?stop2
    case assign2 =>
      rintro l2 pre' y W' K hi hK
      gi_wp2
      exact hK _ _ (KeepsFrom.refl _ _) (KpR.refl _ _ _) hi rfl
    case body2 =>
      rintro l2 pre' y a'' W' _ _ ⟨⟨⟨hS, hb1, hi1, hj1, hG, hH, hD⟩, hX⟩, hBW, hKF⟩ rfl _
      have cS := cell_of_rowAt hS.row 0
      have ci := cell_of_rowAt hi1.row 0
      have cj := cell_of_rowAt hj1.row 0
      have cX := cell_of_rowAt hX.row 0
      simp at cS ci cj cX
      have CG := HG'.out y.val x.val W' (hB1.trans hBW) y.2 x.2
      obtain ⟨hp1, hp2⟩ := togL_lt g b pre
      obtain ⟨hq1, hq2⟩ := hitL_lt (g := g) x.2 pre' (togL g b pre) ⟨hp1, hp2⟩
      have HK := hitL_snoc g x.val (togL g b pre) pre' y
      obtain ⟨p, hp⟩ : ∃ p, p = hitL g x.val (togL g b pre) pre' := ⟨_, rfl⟩
      obtain ⟨q, hq⟩ : ∃ q, q = hitL g x.val (togL g b pre) (pre' ++ [y]) := ⟨_, rfl⟩
      rw [← hp, ← hq] at HK
      rw [← hp] at hG hH hq1 hq2
      have HQ := Lib.hid hq
      have HK' := Lib.hid HK
      obtain ⟨p1, p2⟩ := p
      dsimp only at hq1 hq2 hG hH
      clear hp hq HK hp1 hp2
      have hnX : Bx ≠ w.heap.size + 1 + 1 + 1 + 1 := by omega
      have hnX5 : Bx ≠ w.heap.size + 1 + 1 + 1 + 1 + 1 := by omega
      have hW4 : W0.heap.size ≤ W.heap.size := by have := (Array.getElem?_eq_some_iff.1 hrr).1; omega
      have hW0 := (hB1.trans hBW).size
      gi_wp2
      refine ⟨trivial, (CallsIn.inRound l2 (CallsIn.inRound l (callsIn_wide.2 CG))).mono ?_⟩
      rintro e w2 ⟨rfl, b2⟩
      have kS := hS.below b2
      have kb := hb1.below b2
      have ki := hi1.below b2
      have kj := hj1.below b2
      have kG := hG.below b2
      have kH := hH.below b2
      have kD := hD.below b2
      have kX := hX.below b2
      have hBW2 := hBW.trans (b2.mono hW0)
      have hKF2 := hKF.trans ((keeps_of_below b2).from W0.heap.size)
      have B2 := Lib.hid b2
      clear CG cS ci cj cX b2
      cases hg : g y.val x.val with
      | true =>
        have HE : Hid (q = (p1 ||| 2 ^ x.val, p2 ||| 2 ^ y.val)) := Lib.hid (by rw [HK'.out]; unfold hitK; rw [if_pos hg])
        have cX := cell_of_rowAt kX.row 0
        have cG := cell_of_rowAt kG.row 0
        have cH := cell_of_rowAt kH.row 0
        simp at cX cG cH
        have CW1 := (with_any p1 x.val w2.drew hq1 x.2).mono fun e w'' h => (⟨h.1, h.2.symm⟩ : _ ∧ _)
        have CW2 := (with_any p2 y.val w2.drew hq2 y.2).mono fun e w'' h => (⟨h.1, h.2.symm⟩ : _ ∧ _)
        have fG := frozen_of_rowAt kG.row
        have fH := frozen_of_rowAt kH.row
        clear hg HK'
        gi_wp2
        refine wpIn_still_tailT (m := l2) 6 (by kernel_rfl) (by kernel_rfl) (by kernel_rfl) ?_
        simp only [List.take_succ_cons, List.take_zero, List.drop_succ_cons, List.drop_zero]
        still_step
        still_step
        still_call CW1
        still_step
        still_step
        still_call CW2
        refine wpStill_nil ?_
        repeat go_step
        dsimp only [OnlyN]
        gi_wp2
        have mE : w.heap.size + 1 ≠ w.heap.size + 1 + 1 + 1 + 1 ∧ w.heap.size ≠ w.heap.size + 1 + 1 + 1 + 1 ∧ w.heap.size + 1 + 1 ≠ w.heap.size + 1 + 1 + 1 + 1 ∧ w.heap.size + 1 + 1 + 1 ≠ w.heap.size + 1 + 1 + 1 + 1 ∧ w.heap.size + 1 + 1 + 1 + 1 + 1 ≠ w.heap.size + 1 + 1 + 1 + 1 ∧ w.heap.size + 1 + 1 + 1 + 1 + 1 + 1 ≠ w.heap.size + 1 + 1 + 1 + 1 := by omega
        have mF : w.heap.size + 1 ≠ w.heap.size + 1 + 1 + 1 + 1 + 1 ∧ w.heap.size ≠ w.heap.size + 1 + 1 + 1 + 1 + 1 ∧ w.heap.size + 1 + 1 ≠ w.heap.size + 1 + 1 + 1 + 1 + 1 ∧ w.heap.size + 1 + 1 + 1 ≠ w.heap.size + 1 + 1 + 1 + 1 + 1 ∧ w.heap.size + 1 + 1 + 1 + 1 ≠ w.heap.size + 1 + 1 + 1 + 1 + 1 ∧ w.heap.size + 1 + 1 + 1 + 1 + 1 + 1 ≠ w.heap.size + 1 + 1 + 1 + 1 + 1 := by omega
        have mW : W.heap.size ≠ w.heap.size + 1 + 1 + 1 + 1 ∧ W.heap.size ≠ w.heap.size + 1 + 1 + 1 + 1 + 1 := by omega
        obtain ⟨V1, hV1⟩ : ∃ V1, V1 = w2.setCell ⟨w.heap.size + 1 + 1 + 1 + 1, 0, none⟩ (.int .u8 ((p1 ||| 2 ^ x.val : Nat) : Int)) := ⟨_, rfl⟩
        rw [← hV1]
        obtain ⟨V2, hV2⟩ : ∃ V2, V2 = V1.setCell ⟨w.heap.size + 1 + 1 + 1 + 1 + 1, 0, none⟩ (.int .u8 ((p2 ||| 2 ^ y.val : Nat) : Int)) := ⟨_, rfl⟩
        rw [← hV2]
        have KO : KeepsOthers w2 V2.drew := by rw [hV2, hV1]; exact ((KeepsOthers.setCell w2 _ _).trans (KeepsOthers.setCell _ _ _)).trans (KeepsOthers.drew _)
        have BL : Below w.heap.size w2 V2.drew := by rw [hV2, hV1]; exact (((Below.refl _ w2).setCell (p := ⟨_, _, none⟩) (by show _ ≤ w.heap.size + 1 + 1 + 1 + 1; omega) _).setCell (p := ⟨_, _, none⟩) (by show _ ≤ w.heap.size + 1 + 1 + 1 + 1 + 1; omega) _).drew
        have oth : ∀ B t c', RowT w2 B t c' → B ≠ w.heap.size + 1 + 1 + 1 + 1 → B ≠ w.heap.size + 1 + 1 + 1 + 1 + 1 → RowT V2.drew B t c' := fun B t c' h h4 h5 => by rw [hV2, hV1]; exact ((h.other h4 _).other h5 _).drew
        have vG : RowT V2.drew (w.heap.size + 1 + 1 + 1 + 1) 93 #[.int .u8 ((p1 ||| 2 ^ x.val : Nat) : Int)] := by
          rw [hV2, hV1]; exact ((kG.set (o := 0) _).other mF.2.2.2.2.1 _).drew
        have vH : RowT V2.drew (w.heap.size + 1 + 1 + 1 + 1 + 1) 93 #[.int .u8 ((p2 ||| 2 ^ y.val : Nat) : Int)] := by
          rw [hV2, hV1]; exact ((kH.other mE.2.2.2.2.1 _).set (o := 0) _).drew
        refine ⟨((keeps_of_below B2.out).trans KO).from _, ⟨(B2.out.mono hW0).trans BL, fun c' h' => ?_⟩, ⟨⟨oth _ _ _ kS mE.2.1 mF.2.1, oth _ _ _ kb mE.1 mF.1, oth _ _ _ ki mE.2.2.1 mF.2.2.1, oth _ _ _ kj mE.2.2.2.1 mF.2.2.2.1, ?_, ?_, oth _ _ _ kD mE.2.2.2.2.2 mF.2.2.2.2.2⟩, oth _ _ _ kX hnX hnX5⟩, hBW2.trans BL, hKF2.trans (KO.from _)⟩
        · obtain ⟨t', ht'⟩ := rowAt_some (brow B2.out h')
          exact (oth _ _ _ ht' mW.1 mW.2).row
        · rw [← HQ.out, HE.out]; exact vG
        · rw [← HQ.out, HE.out]; exact vH
      | false =>
        have HE : Hid (q = (p1, p2)) := Lib.hid (by rw [HK'.out]; unfold hitK; rw [if_neg (by rw [hg]; decide)])
        clear hg HK'
        gi_wp2
        refine ⟨(keeps_of_below B2.out).from _, ⟨B2.out.mono hW0, fun c' h' => brow B2.out h'⟩, ⟨⟨kS, kb, ki, kj, ?_, ?_, kD⟩, kX⟩, hBW2, hKF2⟩
        · rw [← HQ.out, HE.out]; exact kG
        · rw [← HQ.out, HE.out]; exact kH
    case done2 =>
      rintro ys' W' rfl ⟨⟨⟨hS, hb1, hi1, hj1, hG, hH, hD⟩, hX⟩, hBW, hKF⟩
      gi_wp2
      exact ⟨hKF, ⟨hBW, fun c' h' => by rw [hD.row, ← gD.row]; exact h'⟩, ⟨⟨hS, hb1, hi1, hj1, by rw [togL_snoc]; exact hG, by rw [togL_snoc]; exact hH, hD⟩, hB1.trans hBW⟩⟩
    case stop2 =>
      rintro c pre' W' _ h
      exact h.elim
  case done =>
    rintro D ys W hD rfl ⟨⟨gS, gb, gi, gj, gG, gH, gD⟩, hB1⟩ hK
    have cG := cell_of_rowAt gG.row 0
    have cH := cell_of_rowAt gH.row 0
    simp at cG cH
    obtain ⟨v1, hv1⟩ : ∃ v1, v1 = ((togL g b (kUpto a 4)).1 : Int) := ⟨_, rfl⟩
    obtain ⟨v2, hv2⟩ : ∃ v2, v2 = ((togL g b (kUpto a 4)).2 : Int) := ⟨_, rfl⟩
    rw [← hv1] at cG
    rw [← hv2] at cH
    have HV1 := Lib.hid hv1
    have HV2 := Lib.hid hv2
    clear hv1 hv2
    gi_wp2
    refine wpIn_wide.2 (Code.wp_mono onlyN_outT ?_)
    refine wp_region_held_drew (S := (fun w' => w'.cell? ⟨w.heap.size + 1 + 1 + 1 + 1, 0, none⟩ = some (.int .u8 v1) ∧ w'.cell? ⟨w.heap.size + 1 + 1 + 1 + 1 + 1, 0, none⟩ = some (.int .u8 v2) ∧ (w'.heap[D]? = some (Obj.deferred (some [])) ∧ Below w.heap.size w w'))) (by kernel_rfl) (⟨cG, cH, hK, hB1.drew⟩) (fun hH => ?_)
    refine wpAnyH_take (i := 0) (v := .int .u8 v1) rfl (by kernel_rfl) (by kernel_rfl) (by kernel_rfl) (fun _ _ _ h => h) (Or.inl ⟨by rfl, ?_⟩) hH ?_
    · intro w1 hS; (try dsimp only at hS); obtain ⟨s0, s1, _⟩ := hS; go_simp
    (try simp only [List.getElem_toArray]); (try simp only [List.getElem_cons_succ]); (try simp only [List.getElem_cons_zero]); (try simp only [Act.put]); (try simp only [List.setIfInBounds_toArray]); (try simp only [List.set_cons_succ]); (try simp only [List.set_cons_zero])
    refine wpAnyH_take (i := 1) (v := .int .u8 v2) rfl (by kernel_rfl) (by kernel_rfl) (by kernel_rfl) (fun _ _ _ h => h) (Or.inl ⟨by rfl, ?_⟩) hH ?_
    · intro w1 hS; (try dsimp only at hS); obtain ⟨s0, s1, _⟩ := hS; go_simp
    (try simp only [List.getElem_toArray]); (try simp only [List.getElem_cons_succ]); (try simp only [List.getElem_cons_zero]); (try simp only [Act.put]); (try simp only [List.setIfInBounds_toArray]); (try simp only [List.set_cons_succ]); (try simp only [List.set_cons_zero])
    refine wpAnyH_take (i := 2) (v := .int .u8 v1) rfl (by kernel_rfl) (by kernel_rfl) (by kernel_rfl) (fun _ _ _ h => h) (Or.inl ⟨by rfl, ?_⟩) hH ?_
    · intro w1 hS; (try dsimp only at hS); obtain ⟨s0, s1, _⟩ := hS; go_simp
    (try simp only [List.getElem_toArray]); (try simp only [List.getElem_cons_succ]); (try simp only [List.getElem_cons_zero]); (try simp only [Act.put]); (try simp only [List.setIfInBounds_toArray]); (try simp only [List.set_cons_succ]); (try simp only [List.set_cons_zero])
    refine wpAnyH_take (i := 3) (v := .int .u8 v2) rfl (by kernel_rfl) (by kernel_rfl) (by kernel_rfl) (fun _ _ _ h => h) (Or.inl ⟨by rfl, ?_⟩) hH ?_
    · intro w1 hS; (try dsimp only at hS); obtain ⟨s0, s1, _⟩ := hS; go_simp
    (try simp only [List.getElem_toArray]); (try simp only [List.getElem_cons_succ]); (try simp only [List.getElem_cons_zero]); (try simp only [Act.put]); (try simp only [List.setIfInBounds_toArray]); (try simp only [List.set_cons_succ]); (try simp only [List.set_cons_zero])
    refine wpAnyH_done (by kernel_rfl) ?_ _
    dsimp only [OnlyN]
    gi_wp2
    obtain ⟨_, _, hK3, hB3⟩ := hH
    refine ⟨by simp, .inl ⟨_, _, rfl, run_takeDeferred hK3, ?_⟩⟩
    exact ⟨_, results_tmp2 rfl _ _ _, by rw [HV1.out, HV2.out]; rfl, hB3.trans (belowK_b (w := w) (Nat.le_refl _) _ D _ _ (by omega) hK3 rfl rfl)⟩
  case stop =>
    rintro D c pre W _ _ h _
    exact h.elim
end Go.Proofs.YtoibolmippfcgaaDoor

/- The kinds that a tile can have: the program's side. -/
namespace Go.Proofs.YtoibolmippfcgaaDoor
open Go.RowKit

@[go_sem ↓] theorem index_k2 (v i : Value) : Instr.index 120 v i = indexWhole 120 v i := rfl
@[go_sem] theorem run_index_k2 (cs : Array Value) (w : World) (i : Int) (h0 : 0 ≤ i) (h1 : i < (2 : Nat)) (hm : cs.size = 2) :
    (indexWhole 120 (.agg cs) (.int .i64 i)).run Tryd.prog w = .ok (cs[i.toNat]'(by omega)) w := run_index_int Tryd.underlying120 Tryd.underlying2 (by kernel_rfl) cs w i h0 h1 hm
/-- The kinds that are left behind the first e cells. -/
def kfor (G : Nat → Nat → Nat → Bool) : Nat → Nat
  | 0 => 15
  | e + 1 => togB (G e) (kfor G e)
theorem kfor_lt (G : Nat → Nat → Nat → Bool) : ∀ e, kfor G e < 16
  | 0 => (by decide : 15 < 16)
  | _ + 1 => togB_lt _ _
section
variable {C Y X K : Array Value} (hC : C.size = 67) (hY : Y.size = 136) (hX : X.size = 136) (hK : K.size = 4)
include hC hY hX hK
theorem sightC_frame : (sightC C Y X K).extract 0 67 = C := by
  have hs := sightC_size hC hY hX hK
  apply Array.ext_getElem?; intro i
  by_cases h : i < 67
  · rw [get_extract _ _ _ _ (by omega) (by omega), sightC_get hC hY hX hK, if_pos (by omega), show 0 + i = i from by omega]
  · rw [Array.getElem?_eq_none (by simp; omega), Array.getElem?_eq_none (by omega)]
end

/-- What has been seen of a tile's cells. -/
noncomputable def seenG (y x : Nat → Int) (m e k o : Nat) : Bool := goesB (y (m + e)) (x (m + e)) k o
theorem kfor_fit (y x : Nat → Int) (m : Nat) : kfor (seenG y x m) 2 = kSet (fitK y x m) 4 := tog_fit y x m

set_option maxRecDepth 100000 in
set_option maxHeartbeats 8000000 in
theorem kindsFor_any (Sn B2 B3 i j p : Nat) (C Y X : Array Value) (r : Rf) (y x : Nat → Int) (w : World) (hR : IsRoof C r) (hY : IsK .i32 Y 136 y) (hX : IsK .i32 X 136 x)
    (hr : rowAt w Sn = some (sightC C Y X (dripK B2 B3))) (h2 : rowAt w B2 = some #[.int .i64 2]) (h3 : rowAt w B3 = some #[.int .i64 3]) (hi : i < 8) (hj : j < 8) (hp : (p : Int) = 2 * j + r.by i) (hy : ∀ m, m < 136 → 0 ≤ y m ∧ y m ≤ 1000) (hx : ∀ m, m < 136 → 0 ≤ x m ∧ x m ≤ 1000) :
    Calls Tryd.prog 44 #[.pointer (some ⟨Sn, 0, none⟩), .agg #[.int .i8 i, .int .i8 j]] w fun e w' => e = .returned (.int .u8 ((kSet (fitK y x (i * 17 + p)) 4 : Nat) : Int)) ∧ Below w.heap.size w w' := by
  have hCs := hR.size
  have hYs := hY.size
  have hXs := hX.size
  have hfr := sightC_frame hCs hYs hXs (show (dripK B2 B3).size = 4 from rfl)
  have hss := sightC_size hCs hYs hXs (show (dripK B2 B3).size = 4 from rfl)
  have hb := r.by_bd i
  have hp15 : p ≤ 15 := by omega
  have i0 : 0 ≤ (i : Int) := by omega
  have i1 : (i : Int) < 8 := by omega
  have CC := fun w => cells_any C r i j w hR hi hj
  have h2' := Lib.hid h2
  have h3' := Lib.hid h3
  have HGO : ∀ (e k o : Nat) (W : World), e < 2 → k < 4 → rowAt W Sn = some (sightC C Y X (dripK B2 B3)) → Below w.heap.size w W → Calls Tryd.prog 93 #[.pointer (some ⟨Sn, 0, none⟩), .int .i64 k, .int .i64 o, .int .i64 i, .int .i64 (p + e : Int)] W fun x' w' => x' = .returned (.bool (seenG y x (i * 17 + p) e k o)) ∧ Below W.heap.size W w' := fun e k o W he hk hS hB => by
    have := goes_any Sn B2 B3 i (p + e) C Y X y x k o W hCs hY hX hS (brow hB h2'.out) (brow hB h3'.out) hi (by omega) hk (hy _ (by omega)) (hx _ (by omega))
    rw [← Nat.add_assoc] at this
    exact this
  rw [← hp] at CC
  have HP := Lib.hid hp
  have HGO' := Lib.hid HGO
  obtain ⟨p0, p1, pB⟩ : rowAt (w.alloc (.cells #[.int .i8 i, .int .i8 j] 57)) Sn = some (sightC C Y X (dripK B2 B3)) ∧ rowAt (w.alloc (.cells #[.int .i8 i, .int .i8 j] 57)) w.heap.size = some #[.int .i8 (i : Int), .int .i8 (j : Int)] ∧ Below w.heap.size w (w.alloc (.cells #[.int .i8 i, .int .i8 j] 57)) := ⟨(rowAt_alloc_past _ _ _ (rowAt_lt hr)).trans hr, rowAt_alloc_at _ _ _ _ rfl, (Below.refl _ _).alloc (Nat.le_refl _) _⟩
  clear hr h2 h3 hp hb HGO hy hx
  go_enter Tryd.func44, Tryd.ntmps44
  go_wp2_with fail
  refine wp_region_held_drew (S := (fun w' => rowAt w' Sn = some (sightC C Y X (dripK B2 B3)) ∧ rowAt w' w.heap.size = some #[.int .i8 i, .int .i8 j] ∧ Below w.heap.size w w' ∧ w.heap.size ≤ w'.heap.size)) (by kernel_rfl) (⟨p0, p1, pB.drew, pB.size⟩) (fun hH => ?_)
  refine wpAnyH_take (i := 0) (v := .pointer (some ⟨Sn, 0, none⟩)) rfl (by kernel_rfl) (by kernel_rfl) (by kernel_rfl) (fun _ _ _ h => h) (Or.inl ⟨by rfl, ?_⟩) hH ?_
  · intro w1 hS; (try dsimp only at hS); obtain ⟨s0, s1, _⟩ := hS; have k0 := cell_of_rowAt s1 0; have k1 := cell_of_rowAt s1 1; simp at k0 k1; go_simp; (try rw [hfr]); (try rfl)
  (try simp only [List.getElem_toArray]); (try simp only [List.getElem_cons_succ]); (try simp only [List.getElem_cons_zero]); (try simp only [Act.put]); (try simp only [List.setIfInBounds_toArray]); (try simp only [List.set_cons_succ]); (try simp only [List.set_cons_zero])
  refine wpAnyH_take (i := 1) (v := .pointer (some ⟨Sn, 0, none⟩)) rfl (by kernel_rfl) (by kernel_rfl) (by kernel_rfl) (fun _ _ _ h => h) (Or.inl ⟨by rfl, ?_⟩) hH ?_
  · intro w1 hS; (try dsimp only at hS); obtain ⟨s0, s1, _⟩ := hS; have k0 := cell_of_rowAt s1 0; have k1 := cell_of_rowAt s1 1; simp at k0 k1; go_simp; (try rw [hfr]); (try rfl)
  (try simp only [List.getElem_toArray]); (try simp only [List.getElem_cons_succ]); (try simp only [List.getElem_cons_zero]); (try simp only [Act.put]); (try simp only [List.setIfInBounds_toArray]); (try simp only [List.set_cons_succ]); (try simp only [List.set_cons_zero])
  refine wpAnyH_take (i := 2) (v := .pointer (some ⟨Sn, 0, none⟩)) rfl (by kernel_rfl) (by kernel_rfl) (by kernel_rfl) (fun _ _ _ h => h) (Or.inl ⟨by rfl, ?_⟩) hH ?_
  · intro w1 hS; (try dsimp only at hS); obtain ⟨s0, s1, _⟩ := hS; have k0 := cell_of_rowAt s1 0; have k1 := cell_of_rowAt s1 1; simp at k0 k1; go_simp; (try rw [hfr]); (try rfl)
  (try simp only [List.getElem_toArray]); (try simp only [List.getElem_cons_succ]); (try simp only [List.getElem_cons_zero]); (try simp only [Act.put]); (try simp only [List.setIfInBounds_toArray]); (try simp only [List.set_cons_succ]); (try simp only [List.set_cons_zero])
  refine wpAnyH_take (i := 3) (v := .agg C) rfl (by kernel_rfl) (by kernel_rfl) (by kernel_rfl) (fun _ _ _ h => h) (Or.inl ⟨by rfl, ?_⟩) hH ?_
  · intro w1 hS; (try dsimp only at hS); obtain ⟨s0, s1, _⟩ := hS; have k0 := cell_of_rowAt s1 0; have k1 := cell_of_rowAt s1 1; simp at k0 k1; go_simp; (try rw [hfr]); (try rfl)
  (try simp only [List.getElem_toArray]); (try simp only [List.getElem_cons_succ]); (try simp only [List.getElem_cons_zero]); (try simp only [Act.put]); (try simp only [List.setIfInBounds_toArray]); (try simp only [List.set_cons_succ]); (try simp only [List.set_cons_zero])
  refine wpAnyH_take (i := 4) (v := .agg #[.int .i8 i, .int .i8 j]) rfl (by kernel_rfl) (by kernel_rfl) (by kernel_rfl) (fun _ _ _ h => h) (Or.inl ⟨by rfl, ?_⟩) hH ?_
  · intro w1 hS; (try dsimp only at hS); obtain ⟨s0, s1, _⟩ := hS; have k0 := cell_of_rowAt s1 0; have k1 := cell_of_rowAt s1 1; simp at k0 k1; go_simp; (try rw [hfr]); (try rfl)
  (try simp only [List.getElem_toArray]); (try simp only [List.getElem_cons_succ]); (try simp only [List.getElem_cons_zero]); (try simp only [Act.put]); (try simp only [List.setIfInBounds_toArray]); (try simp only [List.set_cons_succ]); (try simp only [List.set_cons_zero])
  refine wpAnyH_take (i := 6) (v := .int .i64 0) rfl (by kernel_rfl) (by kernel_rfl) (by kernel_rfl) (fun _ _ _ h => h) (Or.inl ⟨by rfl, ?_⟩) hH ?_
  · intro w1 hS; (try dsimp only at hS); obtain ⟨s0, s1, _⟩ := hS; have k0 := cell_of_rowAt s1 0; have k1 := cell_of_rowAt s1 1; simp at k0 k1; go_simp; (try rw [hfr]); (try rfl)
  (try simp only [List.getElem_toArray]); (try simp only [List.getElem_cons_succ]); (try simp only [List.getElem_cons_zero]); (try simp only [Act.put]); (try simp only [List.setIfInBounds_toArray]); (try simp only [List.set_cons_succ]); (try simp only [List.set_cons_zero])
  refine wpAnyH_ready (rs := [5]) (by kernel_rfl) (by simp) (AllReadyH.cons rfl (fun K hK => ?_) AllReadyH.nil)
  go_simp
  refine (CC _).mono ?_
  rintro x wx ⟨rfl, bx⟩
  go_simp
  refine hK.out _ _ (keep2 bx hH) (fun hG => ?_)
  clear hK K hH bx
  replace hH := hG
  clear hG
  (try simp only [List.getElem_toArray]); (try simp only [List.getElem_cons_succ]); (try simp only [List.getElem_cons_zero]); (try simp only [Act.put]); (try simp only [List.setIfInBounds_toArray]); (try simp only [List.set_cons_succ]); (try simp only [List.set_cons_zero])
  refine wpAnyH_done (by kernel_rfl) ?_ _
  obtain ⟨q0, q1, qB, qs⟩ := hH
  obtain ⟨W1, hW1⟩ : ∃ W1, W1 = wx := ⟨_, rfl⟩
  rw [← hW1] at q0 q1 qB qs ⊢
  have Q0 := Lib.hid q0
  have Q1 := Lib.hid q1
  have QB := Lib.hid qB
  clear hW1 CC p0 p1 pB q0 q1 qB hfr
  go_wp2_with fail
  go_loopw [5, 14] (fun u v W => ∃ e : Nat, e ≤ 2 ∧ u = .int .u8 ((kfor (seenG y x (i * 17 + p)) e : Nat) : Int) ∧ v = .int .i64 e ∧ Below W1.heap.size W1 W) (fun _ v _ => 2 - (intOf v).toNat)
  case atStart => exact ⟨0, by omega, rfl, rfl, Below.refl _ _⟩
  case round =>
    obtain ⟨e, he, rfl, rfl, hB⟩ := hrel
    have hlt16 := kfor_lt (seenG y x (i * 17 + p)) e
    by_cases hlt : e < 2
    · have r0 := brow hB Q0.out
      have r1 := brow hB Q1.out
      have z0 := cell_of_rowAt r1 0
      simp at z0
      have BW := QB.out.trans (hB.mono qs)
      have CT := together_any Sn (seenG y x (i * 17 + p) e) 15 (kfor (seenG y x (i * 17 + p)) e) i (p + e) wr (by omega) hlt16 (fun k o W hW hk _ => HGO'.out e k o W hlt hk (brow hW r0) (BW.trans (hW.mono BW.size)))
      have HT : Hid (kfor (seenG y x (i * 17 + p)) (e + 1) = (togL (seenG y x (i * 17 + p) e) (kfor (seenG y x (i * 17 + p)) e) (kUpto 15 4)).2) := Lib.hid rfl
      have HB := Lib.hid hB
      generalize hs : kfor (seenG y x (i * 17 + p)) e = s at *
      generalize togL (seenG y x (i * 17 + p) e) s (kUpto 15 4) = tp at *
      clear hs hB r0 r1 BW
      obtain rfl | rfl : e = 0 ∨ e = 1 := by omega
      · rw [show ((15 : Nat) : Int) = 15 from rfl, show (p : Int) + ((0 : Nat) : Int) = p from by omega] at CT
        go_wp2_with fail
        refine CT.mono ?_
        rintro _ w3 ⟨rfl, b3⟩
        go_wp2_with fail
        go_roundw
        case rel => exact ⟨1, by omega, by rw [← HT.out], rfl, HB.out.trans (b3.mono HB.out.size)⟩
        case measure => simp [intOf]
      · rw [show ((15 : Nat) : Int) = 15 from rfl, show (p : Int) + ((1 : Nat) : Int) = p + 1 from rfl] at CT
        go_wp2_with fail
        refine CT.mono ?_
        rintro _ w3 ⟨rfl, b3⟩
        go_wp2_with fail
        go_roundw
        case rel => exact ⟨2, by omega, by rw [← HT.out], rfl, HB.out.trans (b3.mono HB.out.size)⟩
        case measure => simp [intOf]
    · obtain rfl : e = 2 := by omega
      have HF : Hid (kfor (seenG y x (i * 17 + p)) 2 = kSet (fitK y x (i * 17 + p)) 4) := Lib.hid (kfor_fit _ _ _)
      generalize kfor (seenG y x (i * 17 + p)) 2 = s at *
      go_wp2_with fail
      go_ret
      exact ⟨by rw [HF.out]; rfl, QB.out.trans (hB.mono qs)⟩
end Go.Proofs.YtoibolmippfcgaaDoor

/- The model's code of a roof, rain and drips. -/
namespace Go.Proofs.YtoibolmippfcgaaDoor
open Go.RowKit

noncomputable def Rf.acode (r : Rf) (t D : Nat → Int) (fine : Bool) : Int := if r.rok t = true then (if fine = true then (if r.sB t D = true then 0 else 4) else 2) else 1
noncomputable def Rf.seenF (r : Rf) (t D : Nat → Int) (fine : Bool) : Nat → Int := if r.acode t D fine = 0 then r.seen t D else fun _ => 0
noncomputable def Rf.seenA (r : Rf) (t D : Nat → Int) (fine : Bool) : Array Value := mkI .i32 136 (r.seenF t D fine)
theorem Rf.acode_no {r : Rf} {t D : Nat → Int} {fine : Bool} (h : ¬ r.Rains t) : r.acode t D fine = 1 := by unfold Rf.acode; rw [Rf.rok_false h]; rfl
theorem Rf.acode_out {r : Rf} {t D : Nat → Int} (h : r.Rains t) : r.acode t D false = 2 := by unfold Rf.acode; rw [Rf.rok_true h]; rfl
theorem Rf.acode_uns {r : Rf} {t D : Nat → Int} (h : r.Rains t) (hs : ¬ r.Sound t D) : r.acode t D true = 4 := by unfold Rf.acode; rw [Rf.rok_true h, Rf.sB_f hs]; rfl
theorem Rf.acode_in {r : Rf} {t D : Nat → Int} (h : r.Rains t) (hs : r.Sound t D) : r.acode t D true = 0 := by unfold Rf.acode; rw [Rf.rok_true h, Rf.sB_t hs]; rfl
theorem Rf.seenA_no {r : Rf} {t D : Nat → Int} {fine : Bool} (h : r.acode t D fine ≠ 0) : r.seenA t D fine = mkI .i32 136 fun _ => 0 := by unfold Rf.seenA Rf.seenF; rw [if_neg h]
theorem Rf.seenA_in {r : Rf} {t D : Nat → Int} {fine : Bool} (h : r.acode t D fine = 0) : r.seenA t D fine = mkI .i32 136 (r.seen t D) := by unfold Rf.seenA Rf.seenF; rw [if_pos h]

def AskEnd (w : World) (r : Rf) (t D : Nat → Int) (fine : Bool) (e : Ending) (w' : World) : Prop := e = .returned (.tuple #[.agg (r.seenA t D fine), .int .i64 (r.acode t D fine)]) ∧ Below w.heap.size w w'

set_option maxRecDepth 100000 in
set_option maxHeartbeats 2000000 in
theorem l03Asked_any (n0 n1 n2 : Nat) (c d X0 : Array Value) (r : Rf) (t D : Nat → Int) (fine : Bool) (w : World) (hr : rowAt w n0 = some c) (hR : IsRoof c r) (hd : rowAt w n1 = some d) (hT : IsRain d t) (he : rowAt w n2 = some X0) (hD : IsD X0 D) :
    Calls Tryd.prog 35 #[.pointer (some ⟨n0, 0, none⟩), .pointer (some ⟨n1, 0, none⟩), .pointer (some ⟨n2, 0, none⟩), .bool fine] w (AskEnd w r t D fine) := by
  have lt0 := rowAt_lt hr
  have lt1 := rowAt_lt hd
  have lt2 := rowAt_lt he
  have hz : Tryd.zeroCells47 = mkI .i32 136 (fun _ => 0) := by kernel_rfl
  have hzs : Tryd.zeroCells47.size = 136 := by rw [hz]; simp
  have hzo : Ones Tryd.zeroCells47 := by rw [hz]; exact (isK_mkI _ _ _).ones
  have HZ := Lib.hid hz
  have p3 := rowAt_alloc_at w Tryd.zeroCells47 47 w.heap.size rfl
  have pB : Below w.heap.size w (w.alloc (.cells Tryd.zeroCells47 47)) := (Below.refl _ _).alloc (Nat.le_refl _) _
  have p0 := brow pB hr
  have p1 := brow pB hd
  have p2 := brow pB he
  clear hz hr hd he
  by_cases ho : r.Rains t
  · cases fine with
    | false =>
      have hc := Rf.acode_out (D := D) ho
      have HA : Hid (r.acode t D false = 2) := Lib.hid hc
      have HSA : Hid (r.seenA t D false = mkI .i32 136 fun _ => 0) := Lib.hid (Rf.seenA_no (by rw [hc]; decide))
      clear hc
      go_enter Tryd.func35, Tryd.ntmps35
      go_wp2_with fail
      refine (l02Ok_t n0 n1 c d r t _ p0 hR p1 hT ho).mono ?_
      rintro e w1 ⟨rfl, b1⟩
      have s3 := brow b1 p3
      have sB := bnext pB b1 pB.size
      clear b1 p0 p1 p2 p3 pB
      go_wp2_with fail
      refine bodyPost_ret (v := .tuple #[.agg Tryd.zeroCells47, .int .i64 2]) (results_row2 (m := 136) rfl _ _ w.heap.size _ _ rfl rfl (rowAt_setRow_at _ _ _ (by rw [s3]; rfl)) Tryd.underlying47 rfl (by kernel_rfl) hzs) rfl ⟨by rw [HSA.out, HA.out, HZ.out], below_setRow sB (Nat.le_refl _) _⟩
    | true =>
      have CC := fun W h0 h1 h2 => l03Comes_any n0 n1 n2 c d X0 r t D W h0 hR h1 hT h2 hD ho
      by_cases hs : r.Sound t D
      · have hc := Rf.acode_in ho hs
        have HA : Hid (r.acode t D true = 0) := Lib.hid hc
        have HSA : Hid (r.seenA t D true = mkI .i32 136 (r.seen t D)) := Lib.hid (Rf.seenA_in hc)
        have hsb := Rf.sB_t hs
        have HSB := Lib.hid hsb
        clear hc hsb
        go_enter Tryd.func35, Tryd.ntmps35
        go_wp2_with fail
        refine (l02Ok_t n0 n1 c d r t _ p0 hR p1 hT ho).mono ?_
        rintro e w1 ⟨rfl, b1⟩
        have s0 := brow b1 p0
        have s1 := brow b1 p1
        have s2 := brow b1 p2
        have s3 := brow b1 p3
        have sB := bnext pB b1 pB.size
        clear b1 p0 p1 p2 p3 pB
        go_wp2_with fail
        refine (CC _ s0 s1 s2).mono ?_
        rintro e w2 ⟨F, rfl, hF, b2⟩
        have u3 := brow b2 s3
        have uB := bnext sB b2 sB.size
        have lt3 := rowAt_lt u3
        rw [HSB.out, hF hs]
        have hXs : (mkI .i32 136 (r.seen t D)).size = 136 := by simp
        have hXo := (isK_mkI .i32 136 (r.seen t D)).ones
        obtain ⟨X, hX⟩ : ∃ X, X = mkI .i32 136 (r.seen t D) := ⟨_, rfl⟩
        rw [← hX] at hXs hXo ⊢
        have HX := Lib.hid hX
        have hne : w2.heap.size ≠ w.heap.size := by omega
        clear b2 s0 s1 s2 s3 sB hX hF CC
        go_wp2_with fail
        refine bodyPost_ret (v := .tuple #[.agg X, .int .i64 0]) (results_row2 (m := 136) rfl _ _ w.heap.size _ _ rfl rfl ((rowAt_alloc_past _ _ _ (by simpa using lt3)).trans (rowAt_setRow_at _ _ _ (by rw [u3]; rfl))) Tryd.underlying47 rfl (by kernel_rfl) hXs) rfl ⟨by rw [HSA.out, HA.out, HX.out], ?_⟩
        exact (below_setRow uB (Nat.le_refl _) _).alloc (by simpa using uB.size) _
      · have hc := Rf.acode_uns ho hs
        have HA : Hid (r.acode t D true = 4) := Lib.hid hc
        have HSA : Hid (r.seenA t D true = mkI .i32 136 fun _ => 0) := Lib.hid (Rf.seenA_no (by rw [hc]; decide))
        have hsb := Rf.sB_f hs
        have HSB := Lib.hid hsb
        clear hc hsb
        go_enter Tryd.func35, Tryd.ntmps35
        go_wp2_with fail
        refine (l02Ok_t n0 n1 c d r t _ p0 hR p1 hT ho).mono ?_
        rintro e w1 ⟨rfl, b1⟩
        have s0 := brow b1 p0
        have s1 := brow b1 p1
        have s2 := brow b1 p2
        have s3 := brow b1 p3
        have sB := bnext pB b1 pB.size
        clear b1 p0 p1 p2 p3 pB
        go_wp2_with fail
        refine (CC _ s0 s1 s2).mono ?_
        rintro e w2 ⟨F, rfl, hF, b2⟩
        have u3 := brow b2 s3
        have uB := bnext sB b2 sB.size
        have lt3 := rowAt_lt u3
        rw [HSB.out]
        have hXs : (mkI .i32 136 F).size = 136 := by simp
        have hXo := (isK_mkI .i32 136 F).ones
        generalize mkI .i32 136 F = X at *
        have hne : w2.heap.size ≠ w.heap.size := by omega
        clear b2 s0 s1 s2 s3 sB hF CC
        go_wp2_with fail
        refine bodyPost_ret (v := .tuple #[.agg Tryd.zeroCells47, .int .i64 4]) (results_row2 (m := 136) rfl _ _ w.heap.size _ _ rfl rfl ((rowAt_alloc_past _ _ _ (by simpa using lt3)).trans (rowAt_setRow_at _ _ _ (by rw [u3]; rfl))) Tryd.underlying47 rfl (by kernel_rfl) hzs) rfl ⟨by rw [HSA.out, HA.out, HZ.out], ?_⟩
        exact (below_setRow uB (Nat.le_refl _) _).alloc (by simpa using uB.size) _
  · have hc := Rf.acode_no (D := D) (fine := fine) ho
    have HA : Hid (r.acode t D fine = 1) := Lib.hid hc
    have HSA : Hid (r.seenA t D fine = mkI .i32 136 fun _ => 0) := Lib.hid (Rf.seenA_no (by rw [hc]; decide))
    clear hc
    go_enter Tryd.func35, Tryd.ntmps35
    go_wp2_with fail
    refine (l02Ok_f n0 n1 c d r t _ p0 hR p1 hT ho).mono ?_
    rintro e w1 ⟨rfl, b1⟩
    have s3 := brow b1 p3
    have sB := bnext pB b1 pB.size
    clear b1 p0 p1 p2 p3 pB
    go_wp2_with fail
    refine bodyPost_ret (v := .tuple #[.agg Tryd.zeroCells47, .int .i64 1]) (results_row2 (m := 136) rfl _ _ w.heap.size _ _ rfl rfl (rowAt_setRow_at _ _ _ (by rw [s3]; rfl)) Tryd.underlying47 rfl (by kernel_rfl) hzs) rfl ⟨by rw [HSA.out, HA.out, HZ.out], below_setRow sB (Nat.le_refl _) _⟩
end Go.Proofs.YtoibolmippfcgaaDoor

/- The kinds that a tile can have: the model's KindsFor. -/
namespace Go.Proofs.YtoibolmippfcgaaDoor
open Go.RowKit

theorem Rf.Sound.bd {r : Rf} {t D : Nat → Int} (ho : r.Rains t) (hs : r.Sound t D) (i : Nat) (hi : i < 136) : (0 ≤ D i ∧ D i ≤ 1000) ∧ (0 ≤ r.seen t D i ∧ r.seen t D i ≤ 1000) := by
  have hc : i % 17 < 17 := by omega
  have hk : i / 17 < 8 := by omega
  have hb := ho.bd (i % 17) hc
  have h := hs (i % 17) hc (i / 17) hk
  have hcol := Rf.col_bd (k := i / 17) hb.1 (fun j hj => hs _ hc j (by omega))
  unfold Rf.okAt at h
  rw [show i / 17 * 17 + i % 17 = i from by omega] at h
  have h2 := Rf.seen_at (t := t) (D := D) (r := r) (k := i / 17) (cell := i % 17) hc
  have h3 := Rf.seen_out (t := t) (D := D) (r := r) (k := i / 17) (cell := i % 17) hc
  rw [show i / 17 * 17 + i % 17 = i from by omega] at h2 h3
  refine ⟨⟨h.1, by have := h.2.1; omega⟩, ?_⟩
  by_cases hin : r.inside (i / 17) (i % 17)
  · rw [h2 hin]; omega
  · rw [h3 hin]; omega

/-- The index of a place's first cell. -/
def Rf.fst (r : Rf) (a b : Int) : Nat := a.toNat * 17 + (2 * b + r.by a).toNat
/-- What KindsFor answers. -/
noncomputable def Rf.kV (r : Rf) (t D : Nat → Int) (a b : Int) : Nat := if r.acode t D (r.isB a b) = 0 then kSet (fitK (r.seen t D) D (r.fst a b)) 4 else 0

set_option maxRecDepth 100000 in
set_option maxHeartbeats 4000000 in
theorem specKindsFor_any (c d X : Array Value) (r : Rf) (t D : Nat → Int) (a b : Int) (w : World) (hR : IsRoof c r) (hT : IsRain d t) (hX : IsD X D) (ha : -128 ≤ a ∧ a ≤ 127) (hb : -128 ≤ b ∧ b ≤ 127) :
    Calls Tryd.prog 23 #[.agg c, .agg d, .agg X, .agg #[.int .i8 a, .int .i8 b]] w fun e w' => e = .returned (.tuple #[.int .u8 ((r.kV t D a b : Nat) : Int), .int .i64 (r.acode t D (r.isB a b))]) ∧ Below w.heap.size w w' := by
  have hz : Tryd.zeroCells47 = mkI .i32 136 (fun _ => 0) := by kernel_rfl
  have hzs : Tryd.zeroCells47.size = 136 := by rw [hz]; simp
  have hzo : Ones Tryd.zeroCells47 := by rw [hz]; exact (isK_mkI _ _ _).ones
  clear hz
  obtain ⟨cd, hcd⟩ : ∃ cd, cd = r.acode t D (r.isB a b) := ⟨_, rfl⟩
  have CA := fun W h0 h1 h2 => l03Asked_any w.heap.size (w.heap.size + 1) (w.heap.size + 1 + 1) c d X r t D (r.isB a b) W h0 hR h1 hT h2 hX
  unfold AskEnd at CA
  have CI := fun W h0 => l01Is_any w.heap.size c r a b W h0 hR ha hb
  have hA := isK_mkI .i32 136 (r.seenF t D (r.isB a b))
  change IsK .i32 (r.seenA t D (r.isB a b)) 136 _ at hA
  have hAs := hA.size
  have hAo := hA.ones
  have HC := Lib.hid hcd
  rw [← hcd] at CA
  by_cases ho : r.Rains t
  · have HO := Lib.hid ho
    have CK := fun W h0 h1 => l02Ok_t w.heap.size (w.heap.size + 1) c d r t W h0 hR h1 hT HO.out
    by_cases hz0 : cd = 0
    · have hc0 : r.acode t D (r.isB a b) = 0 := by rw [← hcd]; exact hz0
      have hf : r.isB a b = true := by
        cases hf : r.isB a b with
        | true => rfl
        | false => rw [hf, Rf.acode_out ho] at hc0; omega
      have hs : r.Sound t D := by
        by_cases hs : r.Sound t D
        · exact hs
        · rw [hf, Rf.acode_uns ho hs] at hc0; omega
      have hB : 0 ≤ a ∧ a < r.h ∧ 0 ≤ b ∧ b < r.w := by simpa [Rf.isB] using hf
      have h8 := ho.1.2.2.2.1
      have w8 := ho.1.2.1
      obtain ⟨i, rfl⟩ : ∃ i : Nat, a = i := ⟨a.toNat, by omega⟩
      obtain ⟨j, rfl⟩ : ∃ j : Nat, b = j := ⟨b.toNat, by omega⟩
      have hi : i < 8 := by omega
      have hj : j < 8 := by omega
      have hby := r.by_bd i
      obtain ⟨f, hf'⟩ : ∃ f : Nat, (f : Int) = 2 * j + r.by i := ⟨(2 * (j : Int) + r.by i).toNat, by omega⟩
      have hV : r.kV t D i j = kSet (fitK (r.seen t D) D (i * 17 + f)) 4 := by
        unfold Rf.kV; rw [if_pos hc0]; unfold Rf.fst; rw [← hf']; rfl
      have hAK : IsK .i32 (r.seenA t D (r.isB i j)) 136 (r.seen t D) := by rw [Rf.seenA_in hc0]; exact isK_mkI _ _ _
      have CS := fun nc W h0 h1 h2 => l03Kinds_any w.heap.size nc (w.heap.size + 1 + 1) i j f c (r.seenA t D (r.isB i j)) X r (r.seen t D) D W h0 hR h1 hAK h2 hX.isK hi hj hf' (fun m hm => (Rf.Sound.bd ho hs m hm).2) (fun m hm => (Rf.Sound.bd ho hs m hm).1)
      rw [← hV] at CS
      generalize r.kV t D i j = kv at *
      have HC0 := Lib.hid hc0
      rw [hz0] at CA
      generalize r.isB i j = fine at *
      generalize r.seenA t D fine = A at *
      clear hcd hz0 hc0 hf hs hB h8 w8 hi hj hf' hby hA hAK hV ho HC
      go_enter Tryd.func23, Tryd.ntmps23
      go_wp2_with fail
      refine gen_callsS fun W1 hW => ?_
      have p0 : rowAt W1 (w.heap.size) = some c := by rw [hW]; exact (rowAt_alloc_past _ _ _ (by first | omega | (simp; done) | (simp; omega))).trans ((rowAt_alloc_past _ _ _ (by first | omega | (simp; done) | (simp; omega))).trans ((rowAt_alloc_past _ _ _ (by first | omega | (simp; done) | (simp; omega))).trans (rowAt_alloc_at _ _ _ _ rfl)))
      have p1 : rowAt W1 (w.heap.size + 1) = some d := by rw [hW]; exact (rowAt_alloc_past _ _ _ (by first | omega | (simp; done) | (simp; omega))).trans ((rowAt_alloc_past _ _ _ (by first | omega | (simp; done) | (simp; omega))).trans (rowAt_alloc_at _ _ _ _ (by first | omega | (simp; done) | (simp; omega))))
      have p2 : rowAt W1 (w.heap.size + 1 + 1) = some X := by rw [hW]; exact (rowAt_alloc_past _ _ _ (by first | omega | (simp; done) | (simp; omega))).trans (rowAt_alloc_at _ _ _ _ (by first | omega | (simp; done) | (simp; omega)))
      have p3 : rowAt W1 (w.heap.size + 1 + 1 + 1) = some #[.int .i8 (i : Int), .int .i8 (j : Int)] := by rw [hW]; exact rowAt_alloc_at _ _ _ _ (by first | omega | (simp; done) | (simp; omega))
      have pB : Below w.heap.size w W1 := by rw [hW]; exact ((((Below.refl _ _).alloc (Nat.le_refl _) _).alloc (by first | omega | (simp; done) | (simp; omega)) _).alloc (by first | omega | (simp; done) | (simp; omega)) _).alloc (by first | omega | (simp; done) | (simp; omega)) _
      clear hW
      refine (CK _ p0 p1).mono ?_
      rintro e w2 ⟨rfl, b2⟩
      have u0 := brow b2 p0
      have u1 := brow b2 p1
      have u2 := brow b2 p2
      have u3 := brow b2 p3
      have uB := bnext pB b2 pB.size
      have z0 : w2.cell? ⟨w.heap.size + 1 + 1 + 1, 0, none⟩ = some (.int .i8 (i : Int)) := (cell_of_rowAt u3 0).trans rfl
      have z1 : w2.cell? ⟨w.heap.size + 1 + 1 + 1, 1, none⟩ = some (.int .i8 (j : Int)) := (cell_of_rowAt u3 1).trans rfl
      clear b2 p0 p1 p2 p3 pB CK
      go_wp2_with fail
      refine (CI _ u0).mono ?_
      rintro e w3 ⟨rfl, b3⟩
      have v0 := brow b3 u0
      have v1 := brow b3 u1
      have v2 := brow b3 u2
      have v3 := brow b3 u3
      have vB := bnext uB b3 uB.size
      clear b3 u0 u1 u2 u3 uB z0 z1 CI
      go_wp2_with fail
      refine (CA _ v0 v1 v2).mono ?_
      rintro e w4 ⟨rfl, b4⟩
      have x0 := brow b4 v0
      have x1 := brow b4 v1
      have x2 := brow b4 v2
      have x3 := brow b4 v3
      have xB := bnext vB b4 vB.size
      have lt3 := rowAt_lt x3
      have z0 : w4.cell? ⟨w.heap.size + 1 + 1 + 1, 0, none⟩ = some (.int .i8 (i : Int)) := (cell_of_rowAt x3 0).trans rfl
      have z1 : w4.cell? ⟨w.heap.size + 1 + 1 + 1, 1, none⟩ = some (.int .i8 (j : Int)) := (cell_of_rowAt x3 1).trans rfl
      clear b4 v0 v1 v2 v3 vB CA
      go_wp2_with fail
      refine gen_callsS fun W5 hW => ?_
      have y0 : rowAt W5 w.heap.size = some c := by rw [hW]; exact (rowAt_alloc_past _ _ _ (rowAt_lt x0)).trans x0
      have y1 : rowAt W5 w4.heap.size = some A := by rw [hW]; exact rowAt_alloc_at _ _ _ _ rfl
      have y2 : rowAt W5 (w.heap.size + 1 + 1) = some X := by rw [hW]; exact (rowAt_alloc_past _ _ _ (rowAt_lt x2)).trans x2
      have yB : Below w.heap.size w W5 := by rw [hW]; exact xB.alloc xB.size _
      clear hW x0 x1 x2 x3 xB z0 z1 lt3
      refine (CS _ _ y0 y1 y2).mono ?_
      rintro e w6 ⟨rfl, b6⟩
      have B6 := bnext yB b6 yB.size
      clear b6 y0 y1 y2 yB CS
      go_wp2_with fail
      go_ret2
      exact ⟨by rw [HC0.out]; rfl, B6⟩
    · have hc0 : (cd != 0) = true := by simpa using hz0
      have HV : Hid (r.kV t D a b = 0) := Lib.hid (by unfold Rf.kV; rw [if_neg (by rw [← HC.out]; exact hz0)])
      generalize r.isB a b = fine at *
      generalize r.seenA t D fine = A at *
      clear hz0 hcd ho hA
      go_enter Tryd.func23, Tryd.ntmps23
      go_wp2_with fail
      refine gen_callsS fun W1 hW => ?_
      have p0 : rowAt W1 (w.heap.size) = some c := by rw [hW]; exact (rowAt_alloc_past _ _ _ (by first | omega | (simp; done) | (simp; omega))).trans ((rowAt_alloc_past _ _ _ (by first | omega | (simp; done) | (simp; omega))).trans ((rowAt_alloc_past _ _ _ (by first | omega | (simp; done) | (simp; omega))).trans (rowAt_alloc_at _ _ _ _ rfl)))
      have p1 : rowAt W1 (w.heap.size + 1) = some d := by rw [hW]; exact (rowAt_alloc_past _ _ _ (by first | omega | (simp; done) | (simp; omega))).trans ((rowAt_alloc_past _ _ _ (by first | omega | (simp; done) | (simp; omega))).trans (rowAt_alloc_at _ _ _ _ (by first | omega | (simp; done) | (simp; omega))))
      have p2 : rowAt W1 (w.heap.size + 1 + 1) = some X := by rw [hW]; exact (rowAt_alloc_past _ _ _ (by first | omega | (simp; done) | (simp; omega))).trans (rowAt_alloc_at _ _ _ _ (by first | omega | (simp; done) | (simp; omega)))
      have p3 : rowAt W1 (w.heap.size + 1 + 1 + 1) = some #[.int .i8 a, .int .i8 b] := by rw [hW]; exact rowAt_alloc_at _ _ _ _ (by first | omega | (simp; done) | (simp; omega))
      have pB : Below w.heap.size w W1 := by rw [hW]; exact ((((Below.refl _ _).alloc (Nat.le_refl _) _).alloc (by first | omega | (simp; done) | (simp; omega)) _).alloc (by first | omega | (simp; done) | (simp; omega)) _).alloc (by first | omega | (simp; done) | (simp; omega)) _
      clear hW
      refine (CK _ p0 p1).mono ?_
      rintro e w2 ⟨rfl, b2⟩
      have u0 := brow b2 p0
      have u1 := brow b2 p1
      have u2 := brow b2 p2
      have u3 := brow b2 p3
      have uB := bnext pB b2 pB.size
      have z0 : w2.cell? ⟨w.heap.size + 1 + 1 + 1, 0, none⟩ = some (.int .i8 a) := (cell_of_rowAt u3 0).trans rfl
      have z1 : w2.cell? ⟨w.heap.size + 1 + 1 + 1, 1, none⟩ = some (.int .i8 b) := (cell_of_rowAt u3 1).trans rfl
      clear b2 p0 p1 p2 p3 pB CK
      go_wp2_with fail
      refine (CI _ u0).mono ?_
      rintro e w3 ⟨rfl, b3⟩
      have v0 := brow b3 u0
      have v1 := brow b3 u1
      have v2 := brow b3 u2
      have v3 := brow b3 u3
      have vB := bnext uB b3 uB.size
      clear b3 u0 u1 u2 u3 uB z0 z1 CI
      go_wp2_with fail
      refine (CA _ v0 v1 v2).mono ?_
      rintro e w4 ⟨rfl, b4⟩
      have x0 := brow b4 v0
      have x1 := brow b4 v1
      have x2 := brow b4 v2
      have x3 := brow b4 v3
      have xB := bnext vB b4 vB.size
      have lt3 := rowAt_lt x3
      have z0 : w4.cell? ⟨w.heap.size + 1 + 1 + 1, 0, none⟩ = some (.int .i8 a) := (cell_of_rowAt x3 0).trans rfl
      have z1 : w4.cell? ⟨w.heap.size + 1 + 1 + 1, 1, none⟩ = some (.int .i8 b) := (cell_of_rowAt x3 1).trans rfl
      clear b4 v0 v1 v2 v3 vB CA
      go_wp2_with fail
      go_ret2
      exact ⟨by rw [HV.out, ← HC.out]; rfl, xB.alloc xB.size _⟩
  · have HO := Lib.hid ho
    have hc1 : r.acode t D (r.isB a b) = 1 := Rf.acode_no ho
    have HV : Hid (r.kV t D a b = 0) := Lib.hid (by unfold Rf.kV; rw [if_neg (by rw [hc1]; decide)])
    have HC1 := Lib.hid hc1
    have CK := fun W h0 h1 => l02Ok_f w.heap.size (w.heap.size + 1) c d r t W h0 hR h1 hT HO.out
    clear hcd hc1 ho CA CI HC hA hAs hAo
    go_enter Tryd.func23, Tryd.ntmps23
    go_wp2_with fail
    refine gen_callsS fun W1 hW => ?_
    have p0 : rowAt W1 (w.heap.size) = some c := by rw [hW]; exact (rowAt_alloc_past _ _ _ (by first | omega | (simp; done) | (simp; omega))).trans ((rowAt_alloc_past _ _ _ (by first | omega | (simp; done) | (simp; omega))).trans ((rowAt_alloc_past _ _ _ (by first | omega | (simp; done) | (simp; omega))).trans (rowAt_alloc_at _ _ _ _ rfl)))
    have p1 : rowAt W1 (w.heap.size + 1) = some d := by rw [hW]; exact (rowAt_alloc_past _ _ _ (by first | omega | (simp; done) | (simp; omega))).trans ((rowAt_alloc_past _ _ _ (by first | omega | (simp; done) | (simp; omega))).trans (rowAt_alloc_at _ _ _ _ (by first | omega | (simp; done) | (simp; omega))))
    have p2 : rowAt W1 (w.heap.size + 1 + 1) = some X := by rw [hW]; exact (rowAt_alloc_past _ _ _ (by first | omega | (simp; done) | (simp; omega))).trans (rowAt_alloc_at _ _ _ _ (by first | omega | (simp; done) | (simp; omega)))
    have p3 : rowAt W1 (w.heap.size + 1 + 1 + 1) = some #[.int .i8 a, .int .i8 b] := by rw [hW]; exact rowAt_alloc_at _ _ _ _ (by first | omega | (simp; done) | (simp; omega))
    have pB : Below w.heap.size w W1 := by rw [hW]; exact ((((Below.refl _ _).alloc (Nat.le_refl _) _).alloc (by first | omega | (simp; done) | (simp; omega)) _).alloc (by first | omega | (simp; done) | (simp; omega)) _).alloc (by first | omega | (simp; done) | (simp; omega)) _
    clear hW
    refine (CK _ p0 p1).mono ?_
    rintro e w2 ⟨rfl, b2⟩
    have u0 := brow b2 p0
    have u1 := brow b2 p1
    have u2 := brow b2 p2
    have u3 := brow b2 p3
    have uB := bnext pB b2 pB.size
    have z0 : w2.cell? ⟨w.heap.size + 1 + 1 + 1, 0, none⟩ = some (.int .i8 a) := (cell_of_rowAt u3 0).trans rfl
    have z1 : w2.cell? ⟨w.heap.size + 1 + 1 + 1, 1, none⟩ = some (.int .i8 b) := (cell_of_rowAt u3 1).trans rfl
    clear b2 p0 p1 p2 p3 pB CK
    go_wp2_with fail
    go_ret2
    exact ⟨by rw [HV.out, HC1.out]; rfl, uB⟩
end Go.Proofs.YtoibolmippfcgaaDoor

/- KindsFor: the program. -/
namespace Go.Proofs.YtoibolmippfcgaaDoor
open Go.RowKit

/-- The cells of one place. -/
def plF (p q : Int) (i : Nat) : Int := if i = 0 then p else q
theorem isList_place {W : World} {m : Nat} {p q : Int} (h : rowAt W m = some #[.int .i8 p, .int .i8 q]) : IsList W 0 (.slice (some ⟨m, 0, none⟩) 1 1) 2 1 (fun i => .int .i8 (plF p q i)) :=
  .inr ⟨m, 1, _, rfl, Nat.zero_le _, h, by simp, fun i hi => by
    obtain rfl | rfl : i = 0 ∨ i = 1 := by omega
    · rfl
    · rfl⟩
theorem Rf.okP_one {r : Rf} {p q : Int} : r.okP (plF p q) 1 ↔ r.isB p q = true := by
  unfold Rf.okP Rf.isB
  constructor
  · intro h
    have := h 0 (by omega)
    simpa [Rf.inP, plF] using this
  · intro h k hk
    obtain rfl : k = 0 := by omega
    simpa [Rf.inP, plF] using h

set_option maxRecDepth 100000 in
set_option maxHeartbeats 8000000 in
theorem implKindsFor_any (a : Nat → Addr) (c d X : Array Value) (r : Rf) (t D : Nat → Int) (p q : Int) (w : World) (hR : IsRoof c r) (hT : IsRain d t) (hX : IsD X D) (hp : -128 ≤ p ∧ p ≤ 127) (hq : -128 ≤ q ∧ q ≤ 127) (hE : Errs a w) :
    Calls Tryd.prog 25 #[.agg c, .agg d, .agg X, .agg #[.int .i8 p, .int .i8 q]] w fun e w' => e = .returned (.tuple #[.int .u8 ((r.kV t D p q : Nat) : Int), .int .i64 (r.acode t D (r.isB p q))]) ∧ Below w.heap.size w w' := by
  have hxs := hX.size
  have hcs := hR.size
  have hds := hT.size
  have ne1 := neqNilE
  have ne0 := neqNil0
  have hss := zsight_size
  have hso := onesZ_sight
  by_cases ho : r.Rains t
  · by_cases hf : r.isB p q = true
    · by_cases hs : r.Sound t D
      · have hc : r.acode t D (r.isB p q) = 0 := by rw [hf]; exact Rf.acode_in ho hs
        have hB : 0 ≤ p ∧ p < r.h ∧ 0 ≤ q ∧ q < r.w := by simpa [Rf.isB] using hf
        have h8 := ho.1.2.2.2.1
        have w8 := ho.1.2.1
        obtain ⟨i, rfl⟩ : ∃ i : Nat, p = i := ⟨p.toNat, by omega⟩
        obtain ⟨j, rfl⟩ : ∃ j : Nat, q = j := ⟨q.toNat, by omega⟩
        have hi : i < 8 := by omega
        have hj : j < 8 := by omega
        have hby := r.by_bd i
        obtain ⟨f, hf'⟩ : ∃ f : Nat, (f : Int) = 2 * j + r.by i := ⟨(2 * (j : Int) + r.by i).toNat, by omega⟩
        have hV : r.kV t D i j = kSet (fitK (r.seen t D) D (i * 17 + f)) 4 := by
          unfold Rf.kV; rw [if_pos hc]; unfold Rf.fst; rw [← hf']; rfl
        have CL := fun W hE h => look_ok a 0 1 c d X r t D (plF i j) (.slice (some ⟨w.heap.size + 1 + 1 + 1 + 1, 0, none⟩) 1 1) W hE hR hT hX h (by omega) ho (Rf.okP_one.2 hf) hs
        unfold LookEnd at CL
        have hYK := isK_mkI .i32 136 (r.seen t D)
        have hYs : (mkI .i32 136 (r.seen t D)).size = 136 := by simp
        have hYo := (isK_mkI .i32 136 (r.seen t D)).ones
        have hbs := hR.bare.size
        have CK := fun Sn B2 B3 W h1 h2 h3 => kindsFor_any Sn B2 B3 i j f (bareC c) (mkI .i32 136 (r.seen t D)) X r.bare (r.seen t D) D W hR.bare hYK hX.isK h1 h2 h3 hi hj hf' (fun m hm => (Rf.Sound.bd ho hs m hm).2) (fun m hm => (Rf.Sound.bd ho hs m hm).1)
        rw [← hV] at CK
        have HV := Lib.hid hV
        have HC := Lib.hid hc
        have HE := Lib.hid hE
        have hBo := hR.bare.ones
        generalize r.kV t D i j = kv at *
        generalize mkI .i32 136 (r.seen t D) = Y0 at *
        generalize bareC c = C0 at *
        clear hE hc ho hf hs hB h8 w8 hf' hV hYK hby
        go_enter Tryd.func25, Tryd.ntmps25
        go_wp2_with fail
        refine gen_callsS fun W1 hW => ?_
        have p0 : rowAt W1 (w.heap.size) = some c := by rw [hW]; exact (rowAt_alloc_past _ _ _ (by first | omega | (simp; done) | (simp; omega))).trans ((rowAt_alloc_past _ _ _ (by first | omega | (simp; done) | (simp; omega))).trans ((rowAt_alloc_past _ _ _ (by first | omega | (simp; done) | (simp; omega))).trans ((rowAt_alloc_past _ _ _ (by first | omega | (simp; done) | (simp; omega))).trans (rowAt_alloc_at _ _ _ _ rfl))))
        have p1 : rowAt W1 (w.heap.size + 1) = some d := by rw [hW]; exact (rowAt_alloc_past _ _ _ (by first | omega | (simp; done) | (simp; omega))).trans ((rowAt_alloc_past _ _ _ (by first | omega | (simp; done) | (simp; omega))).trans ((rowAt_alloc_past _ _ _ (by first | omega | (simp; done) | (simp; omega))).trans (rowAt_alloc_at _ _ _ _ (by first | omega | (simp; done) | (simp; omega)))))
        have p2 : rowAt W1 (w.heap.size + 1 + 1) = some X := by rw [hW]; exact (rowAt_alloc_past _ _ _ (by first | omega | (simp; done) | (simp; omega))).trans ((rowAt_alloc_past _ _ _ (by first | omega | (simp; done) | (simp; omega))).trans (rowAt_alloc_at _ _ _ _ (by first | omega | (simp; done) | (simp; omega))))
        have p3 : rowAt W1 (w.heap.size + 1 + 1 + 1) = some #[.int .i8 (i : Int), .int .i8 (j : Int)] := by rw [hW]; exact (rowAt_alloc_past _ _ _ (by first | omega | (simp; done) | (simp; omega))).trans (rowAt_alloc_at _ _ _ _ (by first | omega | (simp; done) | (simp; omega)))
        have pB : Below w.heap.size w W1 := by rw [hW]; exact (((((Below.refl _ _).alloc (Nat.le_refl _) _).alloc (by first | omega | (simp; done) | (simp; omega)) _).alloc (by first | omega | (simp; done) | (simp; omega)) _).alloc (by first | omega | (simp; done) | (simp; omega)) _).alloc (by first | omega | (simp; done) | (simp; omega)) _
        have pL : IsList W1 0 (.slice (some ⟨w.heap.size + 1 + 1 + 1 + 1, 0, none⟩) 1 1) 2 1 (fun k => .int .i8 (plF i j k)) := isList_place (by rw [hW]; exact rowAt_alloc_at _ _ _ _ (by first | omega | (simp; done) | (simp; omega)))
        clear hW
        refine (CL _ (HE.out.below pB) pL).mono ?_
        rintro e w2 ⟨B2, B3, rfl, g2, g3, _, _, b2⟩
        have hSs := sightC_size hbs hYs hxs (show (dripK B2 B3).size = 4 from rfl)
        have hSo := sightC_ones hbs hYs hxs (show (dripK B2 B3).size = 4 from rfl) hBo hYo hX.ones (ones_dripK B2 B3)
        have CK2 := CK w2.heap.size B2 B3
        obtain ⟨S, hS⟩ : ∃ S, S = sightC C0 Y0 X (dripK B2 B3) := ⟨_, rfl⟩
        rw [← hS] at hSs hSo CK2 ⊢
        clear hS
        have u3 := brow b2 p3
        have uB := bnext pB b2 pB.size
        have lt3 := rowAt_lt u3
        have z0 : w2.cell? ⟨w.heap.size + 1 + 1 + 1, 0, none⟩ = some (.int .i8 (i : Int)) := (cell_of_rowAt u3 0).trans rfl
        have z1 : w2.cell? ⟨w.heap.size + 1 + 1 + 1, 1, none⟩ = some (.int .i8 (j : Int)) := (cell_of_rowAt u3 1).trans rfl
        clear b2 p0 p1 p2 p3 pB pL CL CK
        go_wp2_with fail
        refine gen_callsS fun W3 hW => ?_
        have v0 : rowAt W3 w2.heap.size = some S := by rw [hW]; exact rowAt_alloc_at _ _ _ _ rfl
        have v2 : rowAt W3 B2 = some #[.int .i64 2] := by rw [hW]; exact (rowAt_alloc_past _ _ _ (rowAt_lt g2)).trans g2
        have v3 : rowAt W3 B3 = some #[.int .i64 3] := by rw [hW]; exact (rowAt_alloc_past _ _ _ (rowAt_lt g3)).trans g3
        have vB : Below w.heap.size w W3 := by rw [hW]; exact uB.alloc uB.size _
        clear hW u3 uB g2 g3 z0 z1 lt3
        refine (CK2 _ v0 v2 v3).mono ?_
        rintro e w4 ⟨rfl, b4⟩
        have B4 := bnext vB b4 vB.size
        clear b4 v0 v2 v3 vB CK2
        go_wp2_with fail
        go_ret2
        exact ⟨by rw [HC.out]; rfl, B4⟩
      · have hc : r.acode t D (r.isB p q) = 4 := by rw [hf]; exact Rf.acode_uns ho hs
        have HV : Hid (r.kV t D p q = 0) := Lib.hid (by unfold Rf.kV; rw [if_neg (by rw [hc]; decide)])
        have HC := Lib.hid hc
        have HE := Lib.hid hE
        have CL := fun W hE h => look_unsound a 0 1 c d X r t D (plF p q) (.slice (some ⟨w.heap.size + 1 + 1 + 1 + 1, 0, none⟩) 1 1) W hE hR hT hX h (by omega) ho (Rf.okP_one.2 hf) hs
        clear hc ho hf hs
        clear hE
        go_enter Tryd.func25, Tryd.ntmps25
        go_wp2_with fail
        refine gen_callsS fun W1 hW => ?_
        have p0 : rowAt W1 (w.heap.size) = some c := by rw [hW]; exact (rowAt_alloc_past _ _ _ (by first | omega | (simp; done) | (simp; omega))).trans ((rowAt_alloc_past _ _ _ (by first | omega | (simp; done) | (simp; omega))).trans ((rowAt_alloc_past _ _ _ (by first | omega | (simp; done) | (simp; omega))).trans ((rowAt_alloc_past _ _ _ (by first | omega | (simp; done) | (simp; omega))).trans (rowAt_alloc_at _ _ _ _ rfl))))
        have p1 : rowAt W1 (w.heap.size + 1) = some d := by rw [hW]; exact (rowAt_alloc_past _ _ _ (by first | omega | (simp; done) | (simp; omega))).trans ((rowAt_alloc_past _ _ _ (by first | omega | (simp; done) | (simp; omega))).trans ((rowAt_alloc_past _ _ _ (by first | omega | (simp; done) | (simp; omega))).trans (rowAt_alloc_at _ _ _ _ (by first | omega | (simp; done) | (simp; omega)))))
        have p2 : rowAt W1 (w.heap.size + 1 + 1) = some X := by rw [hW]; exact (rowAt_alloc_past _ _ _ (by first | omega | (simp; done) | (simp; omega))).trans ((rowAt_alloc_past _ _ _ (by first | omega | (simp; done) | (simp; omega))).trans (rowAt_alloc_at _ _ _ _ (by first | omega | (simp; done) | (simp; omega))))
        have p3 : rowAt W1 (w.heap.size + 1 + 1 + 1) = some #[.int .i8 p, .int .i8 q] := by rw [hW]; exact (rowAt_alloc_past _ _ _ (by first | omega | (simp; done) | (simp; omega))).trans (rowAt_alloc_at _ _ _ _ (by first | omega | (simp; done) | (simp; omega)))
        have pB : Below w.heap.size w W1 := by rw [hW]; exact (((((Below.refl _ _).alloc (Nat.le_refl _) _).alloc (by first | omega | (simp; done) | (simp; omega)) _).alloc (by first | omega | (simp; done) | (simp; omega)) _).alloc (by first | omega | (simp; done) | (simp; omega)) _).alloc (by first | omega | (simp; done) | (simp; omega)) _
        have pL : IsList W1 0 (.slice (some ⟨w.heap.size + 1 + 1 + 1 + 1, 0, none⟩) 1 1) 2 1 (fun i => .int .i8 (plF p q i)) := isList_place (by rw [hW]; exact rowAt_alloc_at _ _ _ _ (by first | omega | (simp; done) | (simp; omega)))
        clear hW
        refine (CL _ (HE.out.below pB) pL).mono ?_
        rintro e w2 ⟨rfl, b2⟩
        have HE2 := Lib.hid ((HE.out.below pB).below b2)
        have uB := bnext pB b2 pB.size
        clear b2 p0 p1 p2 p3 pB pL
        go_wp2_with fail
        refine gen_callsS fun W3 hW => ?_
        have vB : Below w.heap.size w W3 := by rw [hW]; exact uB.alloc uB.size _
        have HE3 := Lib.hid (show Errs a W3 by rw [hW]; exact HE2.out.below ((Below.refl _ _).alloc (Nat.le_refl _) _))
        clear hW uB
        refine (leakCode_any a 3 _ HE3.out (by omega)).mono ?_
        rintro e w4 ⟨rfl, rfl⟩
        go_wp2_with fail
        go_ret2
        exact ⟨by rw [HV.out, HC.out]; rfl, vB⟩
    · have hff : r.isB p q = false := by simpa using hf
      have hc : r.acode t D (r.isB p q) = 2 := by rw [hff]; exact Rf.acode_out ho
      have HV : Hid (r.kV t D p q = 0) := Lib.hid (by unfold Rf.kV; rw [if_neg (by rw [hc]; decide)])
      have HC := Lib.hid hc
      have HE := Lib.hid hE
      have CL := fun W hE h => look_bad a 0 1 c d X r t D (plF p q) (.slice (some ⟨w.heap.size + 1 + 1 + 1 + 1, 0, none⟩) 1 1) W hE hR hT hX h (by omega) ho (fun h => hf (Rf.okP_one.1 h))
      clear hc ho hf hff
      clear hE
      go_enter Tryd.func25, Tryd.ntmps25
      go_wp2_with fail
      refine gen_callsS fun W1 hW => ?_
      have p0 : rowAt W1 (w.heap.size) = some c := by rw [hW]; exact (rowAt_alloc_past _ _ _ (by first | omega | (simp; done) | (simp; omega))).trans ((rowAt_alloc_past _ _ _ (by first | omega | (simp; done) | (simp; omega))).trans ((rowAt_alloc_past _ _ _ (by first | omega | (simp; done) | (simp; omega))).trans ((rowAt_alloc_past _ _ _ (by first | omega | (simp; done) | (simp; omega))).trans (rowAt_alloc_at _ _ _ _ rfl))))
      have p1 : rowAt W1 (w.heap.size + 1) = some d := by rw [hW]; exact (rowAt_alloc_past _ _ _ (by first | omega | (simp; done) | (simp; omega))).trans ((rowAt_alloc_past _ _ _ (by first | omega | (simp; done) | (simp; omega))).trans ((rowAt_alloc_past _ _ _ (by first | omega | (simp; done) | (simp; omega))).trans (rowAt_alloc_at _ _ _ _ (by first | omega | (simp; done) | (simp; omega)))))
      have p2 : rowAt W1 (w.heap.size + 1 + 1) = some X := by rw [hW]; exact (rowAt_alloc_past _ _ _ (by first | omega | (simp; done) | (simp; omega))).trans ((rowAt_alloc_past _ _ _ (by first | omega | (simp; done) | (simp; omega))).trans (rowAt_alloc_at _ _ _ _ (by first | omega | (simp; done) | (simp; omega))))
      have p3 : rowAt W1 (w.heap.size + 1 + 1 + 1) = some #[.int .i8 p, .int .i8 q] := by rw [hW]; exact (rowAt_alloc_past _ _ _ (by first | omega | (simp; done) | (simp; omega))).trans (rowAt_alloc_at _ _ _ _ (by first | omega | (simp; done) | (simp; omega)))
      have pB : Below w.heap.size w W1 := by rw [hW]; exact (((((Below.refl _ _).alloc (Nat.le_refl _) _).alloc (by first | omega | (simp; done) | (simp; omega)) _).alloc (by first | omega | (simp; done) | (simp; omega)) _).alloc (by first | omega | (simp; done) | (simp; omega)) _).alloc (by first | omega | (simp; done) | (simp; omega)) _
      have pL : IsList W1 0 (.slice (some ⟨w.heap.size + 1 + 1 + 1 + 1, 0, none⟩) 1 1) 2 1 (fun i => .int .i8 (plF p q i)) := isList_place (by rw [hW]; exact rowAt_alloc_at _ _ _ _ (by first | omega | (simp; done) | (simp; omega)))
      clear hW
      refine (CL _ (HE.out.below pB) pL).mono ?_
      rintro e w2 ⟨rfl, b2⟩
      have HE2 := Lib.hid ((HE.out.below pB).below b2)
      have uB := bnext pB b2 pB.size
      clear b2 p0 p1 p2 p3 pB pL
      go_wp2_with fail
      refine gen_callsS fun W3 hW => ?_
      have vB : Below w.heap.size w W3 := by rw [hW]; exact uB.alloc uB.size _
      have HE3 := Lib.hid (show Errs a W3 by rw [hW]; exact HE2.out.below ((Below.refl _ _).alloc (Nat.le_refl _) _))
      clear hW uB
      refine (leakCode_any a 1 _ HE3.out (by omega)).mono ?_
      rintro e w4 ⟨rfl, rfl⟩
      go_wp2_with fail
      go_ret2
      exact ⟨by rw [HV.out, HC.out]; rfl, vB⟩
  · have hc : r.acode t D (r.isB p q) = 1 := Rf.acode_no ho
    have HV : Hid (r.kV t D p q = 0) := Lib.hid (by unfold Rf.kV; rw [if_neg (by rw [hc]; decide)])
    have HC := Lib.hid hc
    have HE := Lib.hid hE
    have CL := fun W hE h => look_no a 0 1 c d X r t D (plF p q) (.slice (some ⟨w.heap.size + 1 + 1 + 1 + 1, 0, none⟩) 1 1) W hE hR hT hX h (by omega) ho
    clear hc ho
    clear hE
    go_enter Tryd.func25, Tryd.ntmps25
    go_wp2_with fail
    refine gen_callsS fun W1 hW => ?_
    have p0 : rowAt W1 (w.heap.size) = some c := by rw [hW]; exact (rowAt_alloc_past _ _ _ (by first | omega | (simp; done) | (simp; omega))).trans ((rowAt_alloc_past _ _ _ (by first | omega | (simp; done) | (simp; omega))).trans ((rowAt_alloc_past _ _ _ (by first | omega | (simp; done) | (simp; omega))).trans ((rowAt_alloc_past _ _ _ (by first | omega | (simp; done) | (simp; omega))).trans (rowAt_alloc_at _ _ _ _ rfl))))
    have p1 : rowAt W1 (w.heap.size + 1) = some d := by rw [hW]; exact (rowAt_alloc_past _ _ _ (by first | omega | (simp; done) | (simp; omega))).trans ((rowAt_alloc_past _ _ _ (by first | omega | (simp; done) | (simp; omega))).trans ((rowAt_alloc_past _ _ _ (by first | omega | (simp; done) | (simp; omega))).trans (rowAt_alloc_at _ _ _ _ (by first | omega | (simp; done) | (simp; omega)))))
    have p2 : rowAt W1 (w.heap.size + 1 + 1) = some X := by rw [hW]; exact (rowAt_alloc_past _ _ _ (by first | omega | (simp; done) | (simp; omega))).trans ((rowAt_alloc_past _ _ _ (by first | omega | (simp; done) | (simp; omega))).trans (rowAt_alloc_at _ _ _ _ (by first | omega | (simp; done) | (simp; omega))))
    have p3 : rowAt W1 (w.heap.size + 1 + 1 + 1) = some #[.int .i8 p, .int .i8 q] := by rw [hW]; exact (rowAt_alloc_past _ _ _ (by first | omega | (simp; done) | (simp; omega))).trans (rowAt_alloc_at _ _ _ _ (by first | omega | (simp; done) | (simp; omega)))
    have pB : Below w.heap.size w W1 := by rw [hW]; exact (((((Below.refl _ _).alloc (Nat.le_refl _) _).alloc (by first | omega | (simp; done) | (simp; omega)) _).alloc (by first | omega | (simp; done) | (simp; omega)) _).alloc (by first | omega | (simp; done) | (simp; omega)) _).alloc (by first | omega | (simp; done) | (simp; omega)) _
    have pL : IsList W1 0 (.slice (some ⟨w.heap.size + 1 + 1 + 1 + 1, 0, none⟩) 1 1) 2 1 (fun i => .int .i8 (plF p q i)) := isList_place (by rw [hW]; exact rowAt_alloc_at _ _ _ _ (by first | omega | (simp; done) | (simp; omega)))
    clear hW
    refine (CL _ (HE.out.below pB) pL).mono ?_
    rintro e w2 ⟨rfl, b2⟩
    have HE2 := Lib.hid ((HE.out.below pB).below b2)
    have uB := bnext pB b2 pB.size
    clear b2 p0 p1 p2 p3 pB pL
    go_wp2_with fail
    refine gen_callsS fun W3 hW => ?_
    have vB : Below w.heap.size w W3 := by rw [hW]; exact uB.alloc uB.size _
    have HE3 := Lib.hid (show Errs a W3 by rw [hW]; exact HE2.out.below ((Below.refl _ _).alloc (Nat.le_refl _) _))
    clear hW uB
    refine (leakCode_any a 0 _ HE3.out (by omega)).mono ?_
    rintro e w4 ⟨rfl, rfl⟩
    go_wp2_with fail
    go_ret2
    exact ⟨by rw [HV.out, HC.out]; rfl, vB⟩

end Go.Proofs.YtoibolmippfcgaaDoor

/- laws.FnExactKindsFor returns true for every roof, rain, drips and place, and leaves them as they were. The sentinels stand in package-level variables: they are listed, and tied by the card. -/
namespace Go.Proofs.YtoibolmippfcgaaDoor
open Go.RowKit

theorem boxes4 (w : World) (c d e f : Array Value) (t s u v : TypeId) : Boxes (w.heap.size + 1 + 1 + 1 + 1) w [(w.heap.size + 1 + 1 + 1, f), (w.heap.size + 1 + 1, e), (w.heap.size + 1, d), (w.heap.size, c)] ((((w.alloc (.cells c t)).alloc (.cells d s)).alloc (.cells e u)).alloc (.cells f v)) := by
  have h := ((boxes3 w c d e t s u).alloc (.cells f v)).more (n := w.heap.size + 1 + 1 + 1) (rowAt_alloc_at _ _ _ _ (by simp))
  simpa using h

set_option maxRecDepth 100000 in
set_option maxHeartbeats 4000000 in
theorem law_walk_FnExactKindsFor (q : Nat → Addr) {w : World} {c : Array Value} {r : Rf} (hR : IsRoof c r) {d : Array Value} {t : Nat → Int} (hT : IsRain d t) {X : Array Value} {D : Nat → Int} (hX : IsD X D) {a b : Int} (ha : -128 ≤ a ∧ a ≤ 127) (hb : -128 ≤ b ∧ b ≤ 127) (hE : Errs q w) :
    Calls Tryd.prog 7 #[.agg c, .agg d, .agg X, .agg #[.int .i8 a, .int .i8 b]] w fun e w' => e = .returned (.bool true) ∧ Below w.heap.size w w' := by
  have pb := boxes4 w c d X #[.int .i8 a, .int .i8 b] 26 28 45 54
  have hc := hR.size
  have hd := hT.size
  have hxs := hX.size
  have HE := Lib.hid hE
  clear hE
  have CS := fun W => specKindsFor_any c d X r t D a b W hR hT hX ha hb
  have CI := fun W hE => implKindsFor_any q c d X r t D a b W hR hT hX ha hb hE
  obtain ⟨v0, hv0⟩ : ∃ v0 : Int, v0 = (r.kV t D a b : Nat) := ⟨_, rfl⟩
  obtain ⟨v1, hv1⟩ : ∃ v1, v1 = r.acode t D (r.isB a b) := ⟨_, rfl⟩
  rw [← hv0, ← hv1] at CS CI
  have hne0 : (v0 != v0) = false := by simp
  have hne1 : (v1 != v1) = false := by simp
  clear hv0 hv1
  go_enter Tryd.func7, Tryd.ntmps7
  go_wp2_with fail
  refine gen_world fun W hW => ?_
  rw [← hW] at pb
  clear hW
  refine wp_region_held_drew (S := (fun w' => Boxes (w.heap.size + 1 + 1 + 1 + 1) w [(w.heap.size + 1 + 1 + 1, #[.int .i8 a, .int .i8 b]), (w.heap.size + 1 + 1, X), (w.heap.size + 1, d), (w.heap.size, c)] w')) (by kernel_rfl) (pb.drew) (fun hH => ?_)
  refine wpAnyH_take (i := 0) (v := .agg c) rfl (by kernel_rfl) (by kernel_rfl) (by kernel_rfl) (fun _ _ _ h => h) (Or.inl ⟨by rfl, ?_⟩) hH ?_
  · intro w1 hS; (try dsimp only at hS); have s0 := hS.rows (w.heap.size, c) (by simp); have s1 := hS.rows (w.heap.size + 1, d) (by simp); have s2 := hS.rows (w.heap.size + 1 + 1, X) (by simp); have s3 := hS.rows (w.heap.size + 1 + 1 + 1, #[.int .i8 a, .int .i8 b]) (by simp); dsimp only at s0 s1 s2 s3; have k0 := cell_of_rowAt s3 0; have k1 := cell_of_rowAt s3 1; simp at k0 k1; go_simp
  (try simp only [List.getElem_toArray]); (try simp only [List.getElem_cons_succ]); (try simp only [List.getElem_cons_zero]); (try simp only [Act.put]); (try simp only [List.setIfInBounds_toArray]); (try simp only [List.set_cons_succ]); (try simp only [List.set_cons_zero])
  refine wpAnyH_take (i := 2) (v := .agg d) rfl (by kernel_rfl) (by kernel_rfl) (by kernel_rfl) (fun _ _ _ h => h) (Or.inl ⟨by rfl, ?_⟩) hH ?_
  · intro w1 hS; (try dsimp only at hS); have s0 := hS.rows (w.heap.size, c) (by simp); have s1 := hS.rows (w.heap.size + 1, d) (by simp); have s2 := hS.rows (w.heap.size + 1 + 1, X) (by simp); have s3 := hS.rows (w.heap.size + 1 + 1 + 1, #[.int .i8 a, .int .i8 b]) (by simp); dsimp only at s0 s1 s2 s3; have k0 := cell_of_rowAt s3 0; have k1 := cell_of_rowAt s3 1; simp at k0 k1; go_simp
  (try simp only [List.getElem_toArray]); (try simp only [List.getElem_cons_succ]); (try simp only [List.getElem_cons_zero]); (try simp only [Act.put]); (try simp only [List.setIfInBounds_toArray]); (try simp only [List.set_cons_succ]); (try simp only [List.set_cons_zero])
  refine wpAnyH_take (i := 4) (v := .agg X) rfl (by kernel_rfl) (by kernel_rfl) (by kernel_rfl) (fun _ _ _ h => h) (Or.inl ⟨by rfl, ?_⟩) hH ?_
  · intro w1 hS; (try dsimp only at hS); have s0 := hS.rows (w.heap.size, c) (by simp); have s1 := hS.rows (w.heap.size + 1, d) (by simp); have s2 := hS.rows (w.heap.size + 1 + 1, X) (by simp); have s3 := hS.rows (w.heap.size + 1 + 1 + 1, #[.int .i8 a, .int .i8 b]) (by simp); dsimp only at s0 s1 s2 s3; have k0 := cell_of_rowAt s3 0; have k1 := cell_of_rowAt s3 1; simp at k0 k1; go_simp
  (try simp only [List.getElem_toArray]); (try simp only [List.getElem_cons_succ]); (try simp only [List.getElem_cons_zero]); (try simp only [Act.put]); (try simp only [List.setIfInBounds_toArray]); (try simp only [List.set_cons_succ]); (try simp only [List.set_cons_zero])
  refine wpAnyH_take (i := 6) (v := .agg #[.int .i8 a, .int .i8 b]) rfl (by kernel_rfl) (by kernel_rfl) (by kernel_rfl) (fun _ _ _ h => h) (Or.inl ⟨by rfl, ?_⟩) hH ?_
  · intro w1 hS; (try dsimp only at hS); have s0 := hS.rows (w.heap.size, c) (by simp); have s1 := hS.rows (w.heap.size + 1, d) (by simp); have s2 := hS.rows (w.heap.size + 1 + 1, X) (by simp); have s3 := hS.rows (w.heap.size + 1 + 1 + 1, #[.int .i8 a, .int .i8 b]) (by simp); dsimp only at s0 s1 s2 s3; have k0 := cell_of_rowAt s3 0; have k1 := cell_of_rowAt s3 1; simp at k0 k1; go_simp
  (try simp only [List.getElem_toArray]); (try simp only [List.getElem_cons_succ]); (try simp only [List.getElem_cons_zero]); (try simp only [Act.put]); (try simp only [List.setIfInBounds_toArray]); (try simp only [List.set_cons_succ]); (try simp only [List.set_cons_zero])
  refine wpAnyH_ready (rs := [1]) (by kernel_rfl) (by simp) (AllReadyH.cons rfl (fun K hK => ?_) AllReadyH.nil)
  go_simp
  refine (toRoof_any c r _ hR).mono ?_
  rintro x wx ⟨rfl, bx⟩
  go_simp
  refine hK.out _ _ (hH.call bx) (fun hG => ?_)
  clear hK K hH bx
  replace hH := hG
  clear hG
  (try simp only [List.getElem_toArray]); (try simp only [List.getElem_cons_succ]); (try simp only [List.getElem_cons_zero]); (try simp only [Act.put]); (try simp only [List.setIfInBounds_toArray]); (try simp only [List.set_cons_succ]); (try simp only [List.set_cons_zero])
  refine wpAnyH_ready (rs := [3]) (by kernel_rfl) (by simp) (AllReadyH.cons rfl (fun K hK => ?_) AllReadyH.nil)
  go_simp
  refine (toRain_any d t _ hT).mono ?_
  rintro x wx ⟨rfl, bx⟩
  go_simp
  refine hK.out _ _ (hH.call bx) (fun hG => ?_)
  clear hK K hH bx
  replace hH := hG
  clear hG
  (try simp only [List.getElem_toArray]); (try simp only [List.getElem_cons_succ]); (try simp only [List.getElem_cons_zero]); (try simp only [Act.put]); (try simp only [List.setIfInBounds_toArray]); (try simp only [List.set_cons_succ]); (try simp only [List.set_cons_zero])
  refine wpAnyH_ready (rs := [5]) (by kernel_rfl) (by simp) (AllReadyH.cons rfl (fun K hK => ?_) AllReadyH.nil)
  go_simp
  refine (toDrips_any X D _ hX).mono ?_
  rintro x wx ⟨rfl, bx⟩
  go_simp
  refine hK.out _ _ (hH.call bx) (fun hG => ?_)
  clear hK K hH bx
  replace hH := hG
  clear hG
  (try simp only [List.getElem_toArray]); (try simp only [List.getElem_cons_succ]); (try simp only [List.getElem_cons_zero]); (try simp only [Act.put]); (try simp only [List.setIfInBounds_toArray]); (try simp only [List.set_cons_succ]); (try simp only [List.set_cons_zero])
  refine wpAnyH_ready (rs := [7]) (by kernel_rfl) (by simp) (AllReadyH.cons rfl (fun K hK => ?_) AllReadyH.nil)
  go_simp
  refine (toPlace_any a b _).mono ?_
  rintro x wx ⟨rfl, bx⟩
  go_simp
  refine hK.out _ _ (hH.call bx) (fun hG => ?_)
  clear hK K hH bx
  replace hH := hG
  clear hG
  (try simp only [List.getElem_toArray]); (try simp only [List.getElem_cons_succ]); (try simp only [List.getElem_cons_zero]); (try simp only [Act.put]); (try simp only [List.setIfInBounds_toArray]); (try simp only [List.set_cons_succ]); (try simp only [List.set_cons_zero])
  refine wpAnyH_ready (rs := [8]) (by kernel_rfl) (by simp) (AllReadyH.cons rfl (fun K hK => ?_) AllReadyH.nil)
  go_simp
  refine (CS _).mono ?_
  rintro x wx ⟨rfl, bx⟩
  go_simp
  refine hK.out _ _ (hH.call bx) (fun hG => ?_)
  clear hK K hH bx
  replace hH := hG
  clear hG
  (try simp only [List.getElem_toArray]); (try simp only [List.getElem_cons_succ]); (try simp only [List.getElem_cons_zero]); (try simp only [Act.put]); (try simp only [List.setIfInBounds_toArray]); (try simp only [List.set_cons_succ]); (try simp only [List.set_cons_zero])
  refine wpAnyH_take (i := 9) (v := .tuple #[.int .u8 v0, .int .i64 v1]) rfl (by kernel_rfl) (by kernel_rfl) (by kernel_rfl) (fun _ _ _ h => h) (Or.inl ⟨by rfl, ?_⟩) hH ?_
  · intro w1 hS; (try dsimp only at hS); go_simp
  (try simp only [List.getElem_toArray]); (try simp only [List.getElem_cons_succ]); (try simp only [List.getElem_cons_zero]); (try simp only [Act.put]); (try simp only [List.setIfInBounds_toArray]); (try simp only [List.set_cons_succ]); (try simp only [List.set_cons_zero])
  refine wpAnyH_take (i := 10) (v := .int .u8 v0) rfl (by kernel_rfl) (by kernel_rfl) (by kernel_rfl) (fun _ _ _ h => h) (Or.inl ⟨by rfl, ?_⟩) hH ?_
  · intro w1 hS; (try dsimp only at hS); go_simp
  (try simp only [List.getElem_toArray]); (try simp only [List.getElem_cons_succ]); (try simp only [List.getElem_cons_zero]); (try simp only [Act.put]); (try simp only [List.setIfInBounds_toArray]); (try simp only [List.set_cons_succ]); (try simp only [List.set_cons_zero])
  refine wpAnyH_take (i := 11) (v := .int .i64 v1) rfl (by kernel_rfl) (by kernel_rfl) (by kernel_rfl) (fun _ _ _ h => h) (Or.inl ⟨by rfl, ?_⟩) hH ?_
  · intro w1 hS; (try dsimp only at hS); go_simp
  (try simp only [List.getElem_toArray]); (try simp only [List.getElem_cons_succ]); (try simp only [List.getElem_cons_zero]); (try simp only [Act.put]); (try simp only [List.setIfInBounds_toArray]); (try simp only [List.set_cons_succ]); (try simp only [List.set_cons_zero])
  refine wpAnyH_take (i := 12) (v := .int .u8 v0) rfl (by kernel_rfl) (by kernel_rfl) (by kernel_rfl) (fun _ _ _ h => h) (Or.inl ⟨by rfl, ?_⟩) hH ?_
  · intro w1 hS; (try dsimp only at hS); go_simp
  (try simp only [List.getElem_toArray]); (try simp only [List.getElem_cons_succ]); (try simp only [List.getElem_cons_zero]); (try simp only [Act.put]); (try simp only [List.setIfInBounds_toArray]); (try simp only [List.set_cons_succ]); (try simp only [List.set_cons_zero])
  refine wpAnyH_take (i := 13) (v := .int .i64 v1) rfl (by kernel_rfl) (by kernel_rfl) (by kernel_rfl) (fun _ _ _ h => h) (Or.inl ⟨by rfl, ?_⟩) hH ?_
  · intro w1 hS; (try dsimp only at hS); go_simp
  (try simp only [List.getElem_toArray]); (try simp only [List.getElem_cons_succ]); (try simp only [List.getElem_cons_zero]); (try simp only [Act.put]); (try simp only [List.setIfInBounds_toArray]); (try simp only [List.set_cons_succ]); (try simp only [List.set_cons_zero])
  refine wpAnyH_done (by kernel_rfl) ?_ _
  have HH := Lib.hid hH
  clear hH pb CS
  go_wp2_with fail
  refine wp_region_held_drew (S := (fun w' => Boxes (w.heap.size + 1 + 1 + 1 + 1) w [(w.heap.size + 1 + 1 + 1, #[.int .i8 a, .int .i8 b]), (w.heap.size + 1 + 1, X), (w.heap.size + 1, d), (w.heap.size, c)] w')) (by kernel_rfl) (HH.out.drew) (fun hH => ?_)
  refine wpAnyH_take (i := 0) (v := .agg c) rfl (by kernel_rfl) (by kernel_rfl) (by kernel_rfl) (fun _ _ _ h => h) (Or.inl ⟨by rfl, ?_⟩) hH ?_
  · intro w1 hS; (try dsimp only at hS); have s0 := hS.rows (w.heap.size, c) (by simp); have s1 := hS.rows (w.heap.size + 1, d) (by simp); have s2 := hS.rows (w.heap.size + 1 + 1, X) (by simp); have s3 := hS.rows (w.heap.size + 1 + 1 + 1, #[.int .i8 a, .int .i8 b]) (by simp); dsimp only at s0 s1 s2 s3; have k0 := cell_of_rowAt s3 0; have k1 := cell_of_rowAt s3 1; simp at k0 k1; go_simp
  (try simp only [List.getElem_toArray]); (try simp only [List.getElem_cons_succ]); (try simp only [List.getElem_cons_zero]); (try simp only [Act.put]); (try simp only [List.setIfInBounds_toArray]); (try simp only [List.set_cons_succ]); (try simp only [List.set_cons_zero])
  refine wpAnyH_take (i := 2) (v := .agg d) rfl (by kernel_rfl) (by kernel_rfl) (by kernel_rfl) (fun _ _ _ h => h) (Or.inl ⟨by rfl, ?_⟩) hH ?_
  · intro w1 hS; (try dsimp only at hS); have s0 := hS.rows (w.heap.size, c) (by simp); have s1 := hS.rows (w.heap.size + 1, d) (by simp); have s2 := hS.rows (w.heap.size + 1 + 1, X) (by simp); have s3 := hS.rows (w.heap.size + 1 + 1 + 1, #[.int .i8 a, .int .i8 b]) (by simp); dsimp only at s0 s1 s2 s3; have k0 := cell_of_rowAt s3 0; have k1 := cell_of_rowAt s3 1; simp at k0 k1; go_simp
  (try simp only [List.getElem_toArray]); (try simp only [List.getElem_cons_succ]); (try simp only [List.getElem_cons_zero]); (try simp only [Act.put]); (try simp only [List.setIfInBounds_toArray]); (try simp only [List.set_cons_succ]); (try simp only [List.set_cons_zero])
  refine wpAnyH_take (i := 4) (v := .agg X) rfl (by kernel_rfl) (by kernel_rfl) (by kernel_rfl) (fun _ _ _ h => h) (Or.inl ⟨by rfl, ?_⟩) hH ?_
  · intro w1 hS; (try dsimp only at hS); have s0 := hS.rows (w.heap.size, c) (by simp); have s1 := hS.rows (w.heap.size + 1, d) (by simp); have s2 := hS.rows (w.heap.size + 1 + 1, X) (by simp); have s3 := hS.rows (w.heap.size + 1 + 1 + 1, #[.int .i8 a, .int .i8 b]) (by simp); dsimp only at s0 s1 s2 s3; have k0 := cell_of_rowAt s3 0; have k1 := cell_of_rowAt s3 1; simp at k0 k1; go_simp
  (try simp only [List.getElem_toArray]); (try simp only [List.getElem_cons_succ]); (try simp only [List.getElem_cons_zero]); (try simp only [Act.put]); (try simp only [List.setIfInBounds_toArray]); (try simp only [List.set_cons_succ]); (try simp only [List.set_cons_zero])
  refine wpAnyH_take (i := 6) (v := .agg #[.int .i8 a, .int .i8 b]) rfl (by kernel_rfl) (by kernel_rfl) (by kernel_rfl) (fun _ _ _ h => h) (Or.inl ⟨by rfl, ?_⟩) hH ?_
  · intro w1 hS; (try dsimp only at hS); have s0 := hS.rows (w.heap.size, c) (by simp); have s1 := hS.rows (w.heap.size + 1, d) (by simp); have s2 := hS.rows (w.heap.size + 1 + 1, X) (by simp); have s3 := hS.rows (w.heap.size + 1 + 1 + 1, #[.int .i8 a, .int .i8 b]) (by simp); dsimp only at s0 s1 s2 s3; have k0 := cell_of_rowAt s3 0; have k1 := cell_of_rowAt s3 1; simp at k0 k1; go_simp
  (try simp only [List.getElem_toArray]); (try simp only [List.getElem_cons_succ]); (try simp only [List.getElem_cons_zero]); (try simp only [Act.put]); (try simp only [List.setIfInBounds_toArray]); (try simp only [List.set_cons_succ]); (try simp only [List.set_cons_zero])
  refine wpAnyH_ready (rs := [1]) (by kernel_rfl) (by simp) (AllReadyH.cons rfl (fun K hK => ?_) AllReadyH.nil)
  go_simp
  refine (toRoof_any c r _ hR).mono ?_
  rintro x wx ⟨rfl, bx⟩
  go_simp
  refine hK.out _ _ (hH.call bx) (fun hG => ?_)
  clear hK K hH bx
  replace hH := hG
  clear hG
  (try simp only [List.getElem_toArray]); (try simp only [List.getElem_cons_succ]); (try simp only [List.getElem_cons_zero]); (try simp only [Act.put]); (try simp only [List.setIfInBounds_toArray]); (try simp only [List.set_cons_succ]); (try simp only [List.set_cons_zero])
  refine wpAnyH_ready (rs := [3]) (by kernel_rfl) (by simp) (AllReadyH.cons rfl (fun K hK => ?_) AllReadyH.nil)
  go_simp
  refine (toRain_any d t _ hT).mono ?_
  rintro x wx ⟨rfl, bx⟩
  go_simp
  refine hK.out _ _ (hH.call bx) (fun hG => ?_)
  clear hK K hH bx
  replace hH := hG
  clear hG
  (try simp only [List.getElem_toArray]); (try simp only [List.getElem_cons_succ]); (try simp only [List.getElem_cons_zero]); (try simp only [Act.put]); (try simp only [List.setIfInBounds_toArray]); (try simp only [List.set_cons_succ]); (try simp only [List.set_cons_zero])
  refine wpAnyH_ready (rs := [5]) (by kernel_rfl) (by simp) (AllReadyH.cons rfl (fun K hK => ?_) AllReadyH.nil)
  go_simp
  refine (toDrips_any X D _ hX).mono ?_
  rintro x wx ⟨rfl, bx⟩
  go_simp
  refine hK.out _ _ (hH.call bx) (fun hG => ?_)
  clear hK K hH bx
  replace hH := hG
  clear hG
  (try simp only [List.getElem_toArray]); (try simp only [List.getElem_cons_succ]); (try simp only [List.getElem_cons_zero]); (try simp only [Act.put]); (try simp only [List.setIfInBounds_toArray]); (try simp only [List.set_cons_succ]); (try simp only [List.set_cons_zero])
  refine wpAnyH_ready (rs := [7]) (by kernel_rfl) (by simp) (AllReadyH.cons rfl (fun K hK => ?_) AllReadyH.nil)
  go_simp
  refine (toPlace_any a b _).mono ?_
  rintro x wx ⟨rfl, bx⟩
  go_simp
  refine hK.out _ _ (hH.call bx) (fun hG => ?_)
  clear hK K hH bx
  replace hH := hG
  clear hG
  (try simp only [List.getElem_toArray]); (try simp only [List.getElem_cons_succ]); (try simp only [List.getElem_cons_zero]); (try simp only [Act.put]); (try simp only [List.setIfInBounds_toArray]); (try simp only [List.set_cons_succ]); (try simp only [List.set_cons_zero])
  refine wpAnyH_ready (rs := [8]) (by kernel_rfl) (by simp) (AllReadyH.cons rfl (fun K hK => ?_) AllReadyH.nil)
  go_simp
  refine (CI _ (HE.out.below hH.bel)).mono ?_
  rintro x wx ⟨rfl, bx⟩
  go_simp
  refine hK.out _ _ (hH.call bx) (fun hG => ?_)
  clear hK K hH bx
  replace hH := hG
  clear hG
  (try simp only [List.getElem_toArray]); (try simp only [List.getElem_cons_succ]); (try simp only [List.getElem_cons_zero]); (try simp only [Act.put]); (try simp only [List.setIfInBounds_toArray]); (try simp only [List.set_cons_succ]); (try simp only [List.set_cons_zero])
  refine wpAnyH_take (i := 9) (v := .tuple #[.int .u8 v0, .int .i64 v1]) rfl (by kernel_rfl) (by kernel_rfl) (by kernel_rfl) (fun _ _ _ h => h) (Or.inl ⟨by rfl, ?_⟩) hH ?_
  · intro w1 hS; (try dsimp only at hS); go_simp
  (try simp only [List.getElem_toArray]); (try simp only [List.getElem_cons_succ]); (try simp only [List.getElem_cons_zero]); (try simp only [Act.put]); (try simp only [List.setIfInBounds_toArray]); (try simp only [List.set_cons_succ]); (try simp only [List.set_cons_zero])
  refine wpAnyH_take (i := 10) (v := .int .u8 v0) rfl (by kernel_rfl) (by kernel_rfl) (by kernel_rfl) (fun _ _ _ h => h) (Or.inl ⟨by rfl, ?_⟩) hH ?_
  · intro w1 hS; (try dsimp only at hS); go_simp
  (try simp only [List.getElem_toArray]); (try simp only [List.getElem_cons_succ]); (try simp only [List.getElem_cons_zero]); (try simp only [Act.put]); (try simp only [List.setIfInBounds_toArray]); (try simp only [List.set_cons_succ]); (try simp only [List.set_cons_zero])
  refine wpAnyH_take (i := 11) (v := .int .i64 v1) rfl (by kernel_rfl) (by kernel_rfl) (by kernel_rfl) (fun _ _ _ h => h) (Or.inl ⟨by rfl, ?_⟩) hH ?_
  · intro w1 hS; (try dsimp only at hS); go_simp
  (try simp only [List.getElem_toArray]); (try simp only [List.getElem_cons_succ]); (try simp only [List.getElem_cons_zero]); (try simp only [Act.put]); (try simp only [List.setIfInBounds_toArray]); (try simp only [List.set_cons_succ]); (try simp only [List.set_cons_zero])
  refine wpAnyH_take (i := 12) (v := .int .u8 v0) rfl (by kernel_rfl) (by kernel_rfl) (by kernel_rfl) (fun _ _ _ h => h) (Or.inl ⟨by rfl, ?_⟩) hH ?_
  · intro w1 hS; (try dsimp only at hS); go_simp
  (try simp only [List.getElem_toArray]); (try simp only [List.getElem_cons_succ]); (try simp only [List.getElem_cons_zero]); (try simp only [Act.put]); (try simp only [List.setIfInBounds_toArray]); (try simp only [List.set_cons_succ]); (try simp only [List.set_cons_zero])
  refine wpAnyH_take (i := 13) (v := .int .i64 v1) rfl (by kernel_rfl) (by kernel_rfl) (by kernel_rfl) (fun _ _ _ h => h) (Or.inl ⟨by rfl, ?_⟩) hH ?_
  · intro w1 hS; (try dsimp only at hS); go_simp
  (try simp only [List.getElem_toArray]); (try simp only [List.getElem_cons_succ]); (try simp only [List.getElem_cons_zero]); (try simp only [Act.put]); (try simp only [List.setIfInBounds_toArray]); (try simp only [List.set_cons_succ]); (try simp only [List.set_cons_zero])
  refine wpAnyH_done (by kernel_rfl) ?_ _
  have HH2 := Lib.hid hH
  clear hH HH CI
  go_wp2_with fail
  go_ret
  exact ⟨rfl, HH2.out.bel⟩

namespace LFnExactKindsFor
open Go.RowKit Go.ChangeShapes Go.WideShapes Go.ChangeAt
theorem own : ownKnob Tryd.prog.godebug = none := by kernel_rfl
theorem laidOut : laidOutB Tryd.prog = true := by kernel_rfl
theorem door_met (os : Os) (args : Array Value) : laidMetH Tryd.prog Rows.fnExactKindsForRow.laid ((World.doorLaid Tryd.prog 400 os).forCall (fun _ _ => 0) ⟨#[], args, []⟩).memory :=
  laidMetH_of_parts3 (fuel := 8) (laidMet_of_run' 8 (by kernel_rfl) (by kernel_rfl)) (by kernel_rfl) (by kernel_rfl)
set_option maxRecDepth 100000 in
theorem lifted (os : Os) (started : os.Started) (H : Type) (enc : TypeId × Value → H) :
    ReturnsInHanded {} Tryd.checked os 7 .any (fun w args => (Rows.fnExactKindsForSpec.pre enc Tryd.prog Tryd.f7 [] false w args ∧ laidMetH Tryd.prog Rows.fnExactKindsForRow.laid w) ∧ sizedMet enc Tryd.prog Tryd.f7 (OpenSpec.ofChange Rows.fnExactKindsForSpec) false w args)
      (Rows.fnExactKindsForSpec.post enc Tryd.prog Tryd.f7 false true false false) := by
  refine returnsInHanded_of_change_and (C := Tryd.checked) (X := fun w _ => laidMetH Tryd.prog Rows.fnExactKindsForRow.laid w) (fun _ _ _ hh h => h.of_heap hh) own started (by kernel_rfl) Tryd.func7
    (ChangeSpec.witness_shaped (enc := enc) (C := Tryd.checked) (os := os) (X := fun w _ => laidMetH Tryd.prog Rows.fnExactKindsForRow.laid w) false (World.doorLaid Tryd.prog 400 os) #[.agg Tryd.zeroCells26, .agg (Array.replicate 17 (.int .i16 0)), .agg (Array.replicate 136 (.int .i32 0)), .agg #[.int .i8 0, .int .i8 0]] 8 rfl (World.shaped_of_RefB (by kernel_rfl) (by kernel_rfl)) (by kernel_rfl) (by kernel_rfl) (by kernel_rfl) (door_met os _)) ?_
  intro W base args ds gs before hval0 hW _ _ hL _
  have hval : ∀ (j : Nat) t v, Tryd.f7.params[j]? = some t → args[j]? = some v → Value.okWide Tryd.prog W .any base t v := hval0
  have hW' := hW
  obtain ⟨p, q, hA0, hV, rfl, hfz, hnd⟩ := hW
  have hA : DataW.TrodAll enc Tryd.prog W 0 (fun _ => true) true Tryd.f7.params.toList args.toList ds p := hA0
  rw [Tryd.params7] at hA hval
  obtain ⟨v0, vs0, d0, ds0, p0, q0, hargs, rfl, rfl, h0, r0⟩ := trodAll_cons hA
  obtain ⟨v1, vs1, d1, ds1, p1, q1, rfl, rfl, rfl, h1, r1⟩ := trodAll_cons r0
  obtain ⟨v2, vs2, d2, ds2, p2, q2, rfl, rfl, rfl, h2, r2⟩ := trodAll_cons r1
  obtain ⟨v3, vs3, d3, ds3, p3, q3, rfl, rfl, rfl, h3, r3⟩ := trodAll_cons r2
  obtain ⟨rfl, rfl, rfl⟩ := trodAll_nil r3
  obtain rfl : args = #[v0, v1, v2, v3] := by cases args; simp_all
  obtain ⟨g0, g1, g2, g3, g4, g5, rfl⟩ := len6 (trodVars_len hV)
  have k0 := h0
  have lt0 : ∀ x ∈ p0, x.block < W.heap.size := by obtain ⟨m, hm⟩ := k0; exact DataW.trod_lt m _ _ _ hm
  have k1 := h1
  have lt1 : ∀ x ∈ p1, x.block < W.heap.size := by obtain ⟨m, hm⟩ := k1; exact DataW.trod_lt m _ _ _ hm
  have k2 := h2
  have lt2 : ∀ x ∈ p2, x.block < W.heap.size := by obtain ⟨m, hm⟩ := k2; exact DataW.trod_lt m _ _ _ hm
  have k3 := h3
  have lt3 : ∀ x ∈ p3, x.block < W.heap.size := by obtain ⟨m, hm⟩ := k3; exact DataW.trod_lt m _ _ _ hm
  obtain ⟨c0, f0, rfl, wf0⟩ := open_roof (hval 0 26 v0 rfl rfl) h0
  obtain ⟨c1, f1, rfl, wf1⟩ := open_rain (hval 1 28 v1 rfl rfl) h1
  obtain ⟨c2, f2, rfl, wf2⟩ := open_drips (hval 2 45 v2 rfl rfl) h2
  obtain ⟨a3, b3, rfl, wa3, wb3⟩ := open_place (hval 3 54 v3 rfl rfl) h3
  clear hA0 hval0
  obtain ⟨a, hE⟩ := errs_of hL
  refine ((law_walk_FnExactKindsFor a wf0 wf1 wf2 wa3 wb3 hE)).mono fun e W' ⟨he, bel⟩ => ?_
  subst he
  exact ⟨_, rfl, _, _, _, [], _, _, hW', trodAll_mk1 (shut_bool Tryd.underlying4 _), (trodAll_cons_mk (Below.trod laidOut (by kernel_rfl) (of_decide_eq_true (by kernel_rfl)) k0 bel lt0) (trodAll_cons_mk (Below.trod laidOut (by kernel_rfl) (of_decide_eq_true (by kernel_rfl)) k1 bel lt1) (trodAll_cons_mk (Below.trod laidOut (by kernel_rfl) (of_decide_eq_true (by kernel_rfl)) k2 bel lt2) (trodAll_cons_mk (Below.trod laidOut (by kernel_rfl) (of_decide_eq_true (by kernel_rfl)) k3 bel lt3) trodAll_mk0)))), Below.trodVars laidOut bel (by kernel_rfl) hV, bel.frame _, fun h => by cases h⟩

theorem over : Rows.FnExactKindsForSaid :=
  OpenClaim.holds_of_wide 7 Tryd.f7 rfl rfl rfl rfl rfl rfl rfl ⟨rfl, rfl, rfl, rfl, rfl⟩ rfl rfl rfl rfl rfl (by kernel_rfl) Tryd.func7 (by kernel_rfl)
    (of_decide_eq_true (by kernel_rfl)) (by unfold Func.isWrapper; first | (rw [if_pos (by decide +kernel)]; kernel_rfl) | (rw [if_neg (by decide +kernel)]; exact ⟨rfl, rfl⟩))
    (fun os started H enc _ => lifted os started H enc)

theorem proved : Rows.FnExactKindsForCardSaid :=
  Claim7.holds_tied_plain_at .later [] Rows.fnExactKindsForCard.laidKinds true Rows.fnExactKindsForCard.stood.harness Rows.fnExactKindsForCard.stood.looks
    over (fun _ h => by cases h) (by kernel_rfl) (fun _ h => by cases h) fnExactKindsFor_row_tie rfl ⟨rfl, rfl⟩ (by kernel_rfl) rfl
    (fun f fn hf hfn => by
      obtain rfl : f = 7 := Option.some.inj ((show Tryd.prog.funcNamed "loop.example/g01376/laws.FnExactKindsFor" = some 7 by kernel_rfl).symm.trans hf) |>.symm
      obtain rfl : fn = Tryd.f7 := (Option.some.inj (Tryd.func7.symm.trans hfn)).symm
      exact ⟨by kernel_rfl, fun j t ht => by
        rw [Tryd.params7] at ht
        have hm : t ∈ [26, 28, 45, 54] := by simpa using Array.mem_of_getElem? ht
        have hall : ([26, 28, 45, 54].all fun u => !Tryd.prog.wantsStandIn u) = true := by kernel_rfl
        exact (show Tryd.prog.wantsStandIn t = false by simpa using List.all_eq_true.1 hall t hm)⟩)
    (by kernel_rfl)
end LFnExactKindsFor

end Go.Proofs.YtoibolmippfcgaaDoor
