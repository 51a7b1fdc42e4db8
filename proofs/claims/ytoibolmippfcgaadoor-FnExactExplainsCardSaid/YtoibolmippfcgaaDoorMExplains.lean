import Derived.Test.YtoibolmippfcgaaDoorLookC
import Derived.Test.YtoibolmippfcgaaDoorMended
import Derived.Test.YtoibolmippfcgaaDoorMendI
import Derived.Laws.Tables
import Derived.Test.YtoibolmippfcgaaDoorEnd
import Derived.RegionTactic
import Derived.Test.YtoibolmippfcgaaDoorTy
import Derived.Test.YtoibolmippfcgaaDoorRoof
import Derived.Test.YtoibolmippfcgaaDoorEq
import Derived.Test.YtoibolmippfcgaaDoorDripS
import Derived.Test.YtoibolmippfcgaaDoorCards
import Derived.Test.YtoibolmippfcgaaDoorTie
import Derived.Test.YtoibolmippfcgaaDoorLaidN
import Derived.Test.YtoibolmippfcgaaDoorErr
import Derived.Test.YtoibolmippfcgaaDoorBox

/- What has been seen of a roof: the cells of the program's sight, and how it is built. -/
namespace Go.Proofs.YtoibolmippfcgaaDoor
open Go.RowKit

@[go_sem ↓] theorem loadAt_sight (v : Value) : Instr.loadAt 81 v = loadWhole 81 v := rfl
@[go_sem ↓] theorem storeAt_sight (a v : Value) : Instr.storeAt 81 a v = storeWhole 81 a v := rfl
@[go_sem] theorem load_sight (w : World) (n o : Nat) : (loadWhole 81 (.pointer (some ⟨n, o, none⟩))).run Tryd.prog w = rowLoad Tryd.prog 81 343 n o w (rowAt w n) := run_load_by Tryd.underlying81 rfl (by kernel_rfl) w n o
@[go_sem] theorem store_sight (vs : Array Value) (w : World) (n o : Nat) : (storeWhole 81 (.pointer (some ⟨n, o, none⟩)) (.agg vs)).run Tryd.prog w = rowStore Tryd.prog 81 343 n o vs w (rowAt w n) := run_store_by (by kernel_rfl) vs w n o

/-- 'Instr.build' under a name that the walk does not open. -/
def buildWhole (ty : TypeId) (ps : Array (Nat × Value)) : Sem Value := Instr.build ty ps
@[go_sem ↓] theorem build_sight (ps : Array (Nat × Value)) : Instr.build 81 ps = buildWhole 81 ps := rfl
theorem fillRow (off : Nat) : ∀ (l : List Value) (k : Nat) (cs : Array Value), off + k + l.length ≤ cs.size → (l.zipIdx k).foldl (fun cs p => cs.setIfInBounds (off + p.2) p.1) cs = splice cs (off + k) l.toArray
  | [], k, cs, _ => by
    apply Array.ext_getElem?; intro i
    simp [splice]
  | a :: l, k, cs, h => by
    simp only [List.length_cons] at h
    rw [List.zipIdx_cons, List.foldl_cons, fillRow off l (k + 1) _ (by simp; omega)]
    apply Array.ext_getElem?; intro i
    rw [get_splice _ _ _ (by simp; omega), get_splice _ _ _ (by simp; omega)]
    simp only [List.size_toArray, List.length_cons]
    by_cases h1 : i < off + k
    · rw [if_pos (by omega), if_pos h1, Array.getElem?_setIfInBounds_ne (by omega)]
    · rw [if_neg h1]
      by_cases h2 : i = off + k
      · subst h2
        rw [if_pos (by omega), if_pos (by omega), Array.getElem?_setIfInBounds_self_of_lt (by omega)]
        simp
      · rw [if_neg (by omega)]
        by_cases h3 : i < off + k + (l.length + 1)
        · rw [if_pos (by omega), if_pos h3]
          rw [show i - (off + k) = (i - (off + (k + 1))) + 1 from by omega]
          simp
        · rw [if_neg (by omega), if_neg h3, Array.getElem?_setIfInBounds_ne (by omega)]
theorem fill_agg {place : Nat → Option (Nat × Nat)} {cells v : Array Value} {i off : Nat} {rest : List (Nat × Value)} (hp : place i = some (off, v.size)) (hs : off + v.size ≤ cells.size) :
    Instr.fill place cells ((i, .agg v) :: rest) = Instr.fill place (splice cells off v) rest := by
  have h1 : (Value.agg v).cells = v := rfl
  have h2 := fillRow off v.toList 0 cells (by simpa using hs)
  have h3 : v.zipIdx.foldl (fun cs (p : Value × Nat) => cs.setIfInBounds (off + p.2) p.1) cells = splice cells off v := by
    rw [← Array.foldl_toList, Array.toList_zipIdx, h2]
    simp
  rw [Instr.fill, hp]
  simp only [h1]
  rw [if_neg (by simp; omega)]
  exact congrArg (fun z => Instr.fill place z rest) h3

/-- The cells of a sight: the frame, what comes, what drips, the drippers. -/
noncomputable def sightC (C Y X K : Array Value) : Array Value := splice (splice (splice (splice Tryd.zeroCells81 0 C) 67 Y) 203 X) 339 K
theorem zsight_size : Tryd.zeroCells81.size = 343 := by kernel_rfl
theorem sight_info : (Tryd.prog.info? 81).bind (·.zero) = some (.agg Tryd.zeroCells81) := by kernel_rfl
theorem sight_places : (match Tryd.prog.underlying 81 with | some (.struct fields) => fields.toList.mapM (fun f => (Tryd.prog.info? f.type).map fun i => (f.offset, i.size)) | _ => none) = some [(0, 67), (67, 136), (203, 136), (339, 4)] := by kernel_rfl
set_option maxRecDepth 100000 in
@[go_sem] theorem run_build_sight0 (w : World) : (buildWhole 81 #[]).run Tryd.prog w = .ok (.agg Tryd.zeroCells81) w := by
  show (Instr.build 81 _).run Tryd.prog w = _
  refine run_build w _ _ _ ?_
  obtain ⟨it, hi, hz⟩ := Option.bind_eq_some_iff.1 sight_info
  unfold Program.built
  have hp := sight_places
  rw [Tryd.underlying81] at hp
  rw [hi, Tryd.underlying81]
  simp only [hz]
  dsimp only at hp
  simp only [hp]
  rfl
section
variable {C Y X K : Array Value} (hC : C.size = 67) (hY : Y.size = 136) (hX : X.size = 136) (hK : K.size = 4)
include hC hY hX hK
theorem sightC_size : (sightC C Y X K).size = 343 := by
  have h0 := zsight_size
  unfold sightC
  rw [size_splice _ _ _ (by rw [size_splice _ _ _ (by rw [size_splice _ _ _ (by rw [size_splice _ _ _ (by omega)]; omega), size_splice _ _ _ (by omega)]; omega), size_splice _ _ _ (by rw [size_splice _ _ _ (by omega)]; omega), size_splice _ _ _ (by omega)]; omega), size_splice _ _ _ (by rw [size_splice _ _ _ (by rw [size_splice _ _ _ (by omega)]; omega), size_splice _ _ _ (by omega)]; omega), size_splice _ _ _ (by rw [size_splice _ _ _ (by omega)]; omega), size_splice _ _ _ (by omega)]
  exact h0
set_option maxRecDepth 100000 in
theorem sightC_get (i : Nat) : (sightC C Y X K)[i]? = if i < 67 then C[i]? else if i < 203 then Y[i - 67]? else if i < 339 then X[i - 203]? else K[i - 339]? := by
  have h0 := zsight_size
  have s1 : (splice Tryd.zeroCells81 0 C).size = 343 := by rw [size_splice _ _ _ (by omega)]; exact h0
  have s2 : (splice (splice Tryd.zeroCells81 0 C) 67 Y).size = 343 := by rw [size_splice _ _ _ (by omega)]; exact s1
  have s3 : (splice (splice (splice Tryd.zeroCells81 0 C) 67 Y) 203 X).size = 343 := by rw [size_splice _ _ _ (by omega)]; exact s2
  unfold sightC
  rw [get_splice _ _ _ (by omega), get_splice _ _ _ (by omega), get_splice _ _ _ (by omega), get_splice _ _ _ (by omega)]
  rw [hC, hY, hX, hK]
  repeat' split
  all_goals first | rfl | omega | (rw [Array.getElem?_eq_none (by omega), Array.getElem?_eq_none (by omega)])
theorem sightC_ones (oC : Ones C) (oY : Ones Y) (oX : Ones X) (oK : Ones K) : Ones (sightC C Y X K) := Ones.of_get fun i hi => by
  have hs := sightC_size hC hY hX hK
  have hg := sightC_get hC hY hX hK i
  rw [Array.getElem?_eq_getElem hi] at hg
  by_cases a : i < 67
  · rw [if_pos a, Array.getElem?_eq_getElem (by omega)] at hg
    rw [Option.some.inj hg]; exact oC _ (Array.getElem_mem _)
  · rw [if_neg a] at hg
    by_cases b : i < 203
    · rw [if_pos b, Array.getElem?_eq_getElem (by omega)] at hg
      rw [Option.some.inj hg]; exact oY _ (Array.getElem_mem _)
    · rw [if_neg b] at hg
      by_cases e : i < 339
      · rw [if_pos e, Array.getElem?_eq_getElem (by omega)] at hg
        rw [Option.some.inj hg]; exact oX _ (Array.getElem_mem _)
      · rw [if_neg e, Array.getElem?_eq_getElem (by omega)] at hg
        rw [Option.some.inj hg]; exact oK _ (Array.getElem_mem _)
theorem sightC_comes : (sightC C Y X K).extract 67 203 = Y := by
  have hs := sightC_size hC hY hX hK
  apply Array.ext_getElem?; intro i
  by_cases h : i < 136
  · rw [get_extract _ _ _ _ (by omega) (by omega), sightC_get hC hY hX hK, if_neg (by omega), if_pos (by omega), show 67 + i - 67 = i from by omega]
  · rw [Array.getElem?_eq_none (by simp; omega), Array.getElem?_eq_none (by omega)]
set_option maxRecDepth 100000 in
theorem run_build_sight (w : World) : (buildWhole 81 #[(0, .agg C), (1, .agg Y), (2, .agg X), (3, .agg K)]).run Tryd.prog w = .ok (.agg (sightC C Y X K)) w := by
  have h0 := zsight_size
  have s1 : (splice Tryd.zeroCells81 0 C).size = 343 := by rw [size_splice _ _ _ (by omega)]; exact h0
  have s2 : (splice (splice Tryd.zeroCells81 0 C) 67 Y).size = 343 := by rw [size_splice _ _ _ (by omega)]; exact s1
  have s3 : (splice (splice (splice Tryd.zeroCells81 0 C) 67 Y) 203 X).size = 343 := by rw [size_splice _ _ _ (by omega)]; exact s2
  show (Instr.build 81 _).run Tryd.prog w = _
  refine run_build w _ _ _ ?_
  obtain ⟨it, hi, hz⟩ := Option.bind_eq_some_iff.1 sight_info
  unfold Program.built
  have hp := sight_places
  rw [Tryd.underlying81] at hp
  rw [hi, Tryd.underlying81]
  simp only [hz]
  dsimp only at hp
  simp only [hp]
  show Instr.fill _ Tryd.zeroCells81 [(0, .agg C), (1, .agg Y), (2, .agg X), (3, .agg K)] = _
  rw [fill_agg (off := 0) (by rw [hC]; rfl) (by omega), fill_agg (off := 67) (by rw [hY]; rfl) (by omega), fill_agg (off := 203) (by rw [hX]; rfl) (by omega), fill_agg (off := 339) (by rw [hK]; rfl) (by omega)]
  rfl
end
end Go.Proofs.YtoibolmippfcgaaDoor

/- DripAfter: contracts of both sides. -/
namespace Go.Proofs.YtoibolmippfcgaaDoor
open Go.RowKit

theorem neqNilE (a : Addr) (w : World) : (binOp .neq 66 (errV a) .nilIface).run Tryd.prog w = .ok (.bool true) w := run_neq_iface_nil (P := Tryd.prog) (w := w) 66 (by kernel_rfl) _ _
theorem neqNil0 (w : World) : (binOp .neq 66 .nilIface .nilIface).run Tryd.prog w = .ok (.bool false) w := run_neq_nil_nil_at (P := Tryd.prog) (w := w) 66 (by kernel_rfl)

/-- What DripAfter answers. -/
noncomputable def Rf.dV (r : Rf) (t f : Nat → Int) (n : Nat) : Int := if r.pcode t f n true = 0 then r.aft t f n else 0
theorem Rf.pcode_zero {r : Rf} {t f : Nat → Int} {n : Nat} {fine : Bool} (h : r.pcode t f n fine = 0) : r.Rains t ∧ r.okP f n ∧ fine = true := by
  unfold Rf.pcode at h
  split at h
  · rename_i h1
    split at h
    · rename_i h2
      rw [Bool.and_eq_true] at h2
      exact ⟨Rf.Rains_of h1, Rf.okB_of h2.2, h2.1⟩
    · omega
  · omega
theorem Rf.pcode_cases (r : Rf) (t f : Nat → Int) (n : Nat) (fine : Bool) : r.pcode t f n fine = 0 ∨ r.pcode t f n fine = 1 ∨ r.pcode t f n fine = 2 := by
  unfold Rf.pcode
  split
  · split <;> simp
  · simp

set_option maxRecDepth 100000 in
set_option maxHeartbeats 1000000 in
theorem specDripAfter_any (b n : Nat) (c d : Array Value) (r : Rf) (t f : Nat → Int) (v : Value) (w : World) (hR : IsRoof c r) (hT : IsRain d t)
    (hv : IsList w b v 2 n (fun i => .int .i8 (f i))) (hn : n ≤ 2000000) (hf : ∀ i, i < n * 2 → -128 ≤ f i ∧ f i ≤ 127) :
    Calls Tryd.prog 9 #[.agg c, .agg d, v] w fun e w' => e = .returned (.tuple #[.int .i64 (r.dV t f n), .int .i64 (r.pcode t f n true)]) ∧ Below w.heap.size w w' := by
  obtain ⟨p0, p1, pB⟩ := two_boxes w c d 33 35
  have HV := Lib.hid (hv.below pB (Nat.le_refl _))
  have HF := Lib.hid hf
  obtain ⟨av, cv, rfl⟩ := hv.shape
  clear hv hf
  by_cases hz : r.pcode t f n true = 0
  · obtain ⟨ho, hP, _⟩ := Rf.pcode_zero hz
    have HP := Lib.hid hP
    have HD : Hid (r.dV t f n = r.aft t f n) := Lib.hid (if_pos hz)
    have HZ := Lib.hid hz
    clear hP hz
    go_enter Tryd.func9, Tryd.ntmps9
    go_wp2_with fail
    refine (l03Places_any w.heap.size (w.heap.size + 1) b n c d r t f _ true _ p0 hR p1 hT HV.out hn HF.out).mono ?_
    rw [HZ.out]
    rintro e w1 ⟨rfl, b1⟩
    have s0 := brow b1 p0
    have s1 := brow b1 p1
    have HV1 := Lib.hid (HV.out.below b1 (Nat.le_refl _))
    have B1 := bnext pB b1 pB.size
    clear b1 p0 p1 pB
    go_wp2_with fail
    refine (l03After_any w.heap.size (w.heap.size + 1) b n c d r t f _ _ s0 hR s1 hT ho HV1.out hn HP.out).mono ?_
    rintro e w2 ⟨rfl, b2⟩
    have B2 := bnext B1 b2 B1.size
    clear b2 s0 s1 B1
    go_wp2_with fail
    go_ret2
    exact ⟨by rw [HD.out, HZ.out]; rfl, B2⟩
  · have HD : Hid (r.dV t f n = 0) := Lib.hid (if_neg hz)
    obtain ⟨q, hq⟩ : ∃ q, q = r.pcode t f n true := ⟨_, rfl⟩
    have hq0 : (q != 0) = true := by rw [hq]; simpa using hz
    have HQ := Lib.hid hq
    clear hz hq
    go_enter Tryd.func9, Tryd.ntmps9
    go_wp2_with fail
    refine (l03Places_any w.heap.size (w.heap.size + 1) b n c d r t f _ true _ p0 hR p1 hT HV.out hn HF.out).mono ?_
    rw [← HQ.out]
    rintro e w1 ⟨rfl, b1⟩
    have B1 := bnext pB b1 pB.size
    clear b1 p0 p1 pB
    go_wp2_with fail
    go_ret2
    exact ⟨by rw [HD.out, ← HQ.out]; rfl, B1⟩

set_option maxRecDepth 100000 in
set_option maxHeartbeats 1000000 in
theorem implDripAfter_any (a : Nat → Addr) (b n : Nat) (c d : Array Value) (r : Rf) (t f : Nat → Int) (v : Value) (w : World) (hE : Errs a w) (hR : IsRoof c r) (hT : IsRain d t)
    (hv : IsList w b v 2 n (fun i => .int .i8 (f i))) (hn : n ≤ 2000000) :
    Calls Tryd.prog 13 #[.agg c, .agg d, v] w fun e w' => e = .returned (.tuple #[.int .i64 (r.dV t f n), .int .i64 (r.pcode t f n true)]) ∧ Below w.heap.size w w' := by
  have hc := hR.size
  have hd := hT.size
  obtain ⟨p0, p1, pB⟩ := two_boxes w c d 33 35
  have HV := Lib.hid (hv.below pB (Nat.le_refl _))
  have HE := Lib.hid (hE.below pB)
  have ne1 := neqNilE
  have ne0 := neqNil0
  obtain ⟨av, cv, rfl⟩ := hv.shape
  clear hv hE
  by_cases ho : r.Rains t
  · by_cases hP : r.okP f n
    · have hz := Rf.pcode_in ho hP
      have HD : Hid (r.dV t f n = r.aft t f n) := Lib.hid (if_pos hz)
      have HZ := Lib.hid hz
      have HP := Lib.hid hP
      clear hz hP
      go_enter Tryd.func13, Tryd.ntmps13
      go_wp2_with fail
      refine (checkPlaces_ok a b n c d r t f _ _ HE.out hR hT ho HV.out hn HP.out).mono ?_
      rintro e w1 ⟨rfl, b1⟩
      have s0 := brow b1 p0
      have s1 := brow b1 p1
      have HV1 := Lib.hid (HV.out.below b1 (Nat.le_refl _))
      have B1 := bnext pB b1 pB.size
      clear b1 p0 p1 pB
      go_wp2_with fail
      refine (dripAfter_any b n c d r t f _ _ hR hT ho HV1.out hn HP.out).mono ?_
      rintro e w2 ⟨rfl, b2⟩
      have B2 := bnext B1 b2 B1.size
      clear b2 s0 s1 B1
      go_wp2_with fail
      go_ret2
      exact ⟨by rw [HD.out, HZ.out]; rfl, B2⟩
    · have hz := Rf.pcode_out (fine := true) ho (by rw [Rf.okB_f hP]; rfl)
      have HD : Hid (r.dV t f n = 0) := Lib.hid (if_neg (by rw [hz]; decide))
      have HZ := Lib.hid hz
      have HP := Lib.hid hP
      clear hz hP
      go_enter Tryd.func13, Tryd.ntmps13
      go_wp2_with fail
      refine (checkPlaces_bad a b n c d r t f _ _ HE.out hR hT ho HV.out hn HP.out).mono ?_
      rintro e w1 ⟨rfl, b1⟩
      have HE1 := Lib.hid (HE.out.below b1)
      have B1 := bnext pB b1 pB.size
      clear b1 p0 p1 pB
      go_wp2_with fail
      refine (leakCode_any a 1 _ HE1.out (by omega)).mono ?_
      rintro e w2 ⟨rfl, rfl⟩
      go_wp2_with fail
      go_ret2
      exact ⟨by rw [HD.out, HZ.out]; rfl, B1⟩
  · have hz := Rf.pcode_no (f := f) (n := n) (fine := true) ho
    have HD : Hid (r.dV t f n = 0) := Lib.hid (if_neg (by rw [hz]; decide))
    have HZ := Lib.hid hz
    clear hz
    go_enter Tryd.func13, Tryd.ntmps13
    go_wp2_with fail
    refine (checkPlaces_no a c d r t _ _ HE.out hR hT ho).mono ?_
    rintro e w1 ⟨rfl, b1⟩
    have HE1 := Lib.hid (HE.out.below b1)
    have B1 := bnext pB b1 pB.size
    clear b1 p0 p1 pB
    go_wp2_with fail
    refine (leakCode_any a 0 _ HE1.out (by omega)).mono ?_
    rintro e w2 ⟨rfl, rfl⟩
    go_wp2_with fail
    go_ret2
    exact ⟨by rw [HD.out, HZ.out]; rfl, B1⟩
end Go.Proofs.YtoibolmippfcgaaDoor

/- What has been seen of a roof: the program's look. -/
namespace Go.Proofs.YtoibolmippfcgaaDoor
open Go.RowKit

theorem onesZ_sight : Ones Tryd.zeroCells81 := by
  have h : (Tryd.zeroCells81).toList.all (fun v => v.oneCell') = true := by kernel_rfl
  intro v hv
  exact List.all_eq_true.1 h v (by simpa using hv)

set_option maxRecDepth 100000 in
set_option maxHeartbeats 2000000 in
theorem look_no (a : Nat → Addr) (b n : Nat) (c d X : Array Value) (r : Rf) (t D f : Nat → Int) (v : Value) (w : World) (hE : Errs a w) (hR : IsRoof c r) (hT : IsRain d t) (hX : IsD X D) (hv : IsList w b v 2 n (fun i => .int .i8 (f i))) (_hn : n ≤ 2000000) (ho : ¬ r.Rains t) :
    Calls Tryd.prog 38 #[.agg c, .agg d, .agg X, v] w fun e w' => e = .returned (.tuple #[.agg Tryd.zeroCells81, errV (a 0)]) ∧ Below w.heap.size w w' := by
  have hxs := hX.size
  have hcs := hR.size
  have hds := hT.size
  have hzs := zsight_size
  have hzo : Ones Tryd.zeroCells81 := onesZ_sight
  have ne1 := neqNilE
  have ne0 := neqNil0
  have HE := Lib.hid hE
  have HV := Lib.hid hv
  obtain ⟨av, cv, rfl⟩ := hv.shape
  clear hE hv
  go_enter Tryd.func38, Tryd.ntmps38
  go_wp2_with fail
  refine gen_callsS fun W1 hW => ?_
  have p0 : rowAt W1 w.heap.size = some c := by rw [hW]; exact (rowAt_alloc_past _ _ _ (by first | omega | (simp; done) | (simp; omega))).trans ((rowAt_alloc_past _ _ _ (by first | omega | (simp; done) | (simp; omega))).trans ((rowAt_alloc_past _ _ _ (by simp)).trans (rowAt_alloc_at _ _ _ _ rfl)))
  have p1 : rowAt W1 (w.heap.size + 1) = some d := by rw [hW]; exact (rowAt_alloc_past _ _ _ (by first | omega | (simp; done) | (simp; omega))).trans ((rowAt_alloc_past _ _ _ (by simp)).trans (rowAt_alloc_at _ _ _ _ (by simp)))
  have p2 : rowAt W1 (w.heap.size + 1 + 1) = some X := by rw [hW]; exact (rowAt_alloc_past _ _ _ (by simp)).trans (rowAt_alloc_at _ _ _ _ (by simp))
  have p3 : rowAt W1 (w.heap.size + 1 + 1 + 1) = some Tryd.zeroCells81 := by rw [hW]; exact rowAt_alloc_at _ _ _ _ (by simp)
  have pB : Below w.heap.size w W1 := by rw [hW]; exact ((((Below.refl _ _).alloc (Nat.le_refl _) _).alloc (by simp) _).alloc (by first | omega | (simp; done) | (simp; omega)) _).alloc (by first | omega | (simp; done) | (simp; omega)) _
  have HV1 := Lib.hid (HV.out.below pB (Nat.le_refl _))
  have HE1 := Lib.hid (HE.out.below pB)
  clear hW
  refine (checkPlaces_no a c d r t _ _ HE1.out hR hT ho).mono ?_
  rintro e w2 ⟨rfl, b2⟩
  have s3 := brow b2 p3
  have sB := bnext pB b2 pB.size
  clear b2 p0 p1 p2 p3 pB
  go_wp2_with fail
  refine bodyPost_ret (v := .tuple #[.agg Tryd.zeroCells81, errV (a 0)]) (results_row2 (m := 343) rfl _ _ (w.heap.size + 1 + 1 + 1) _ _ rfl rfl (rowAt_setRow_at _ _ _ (by rw [s3]; rfl)) Tryd.underlying81 rfl (by kernel_rfl) hzs) rfl ⟨rfl, ?_⟩
  exact below_setRow sB (by omega) _

set_option maxRecDepth 100000 in
set_option maxHeartbeats 2000000 in
theorem look_bad (a : Nat → Addr) (b n : Nat) (c d X : Array Value) (r : Rf) (t D f : Nat → Int) (v : Value) (w : World) (hE : Errs a w) (hR : IsRoof c r) (hT : IsRain d t) (hX : IsD X D) (hv : IsList w b v 2 n (fun i => .int .i8 (f i))) (hn : n ≤ 2000000) (ho : r.Rains t) (hP : ¬ r.okP f n) :
    Calls Tryd.prog 38 #[.agg c, .agg d, .agg X, v] w fun e w' => e = .returned (.tuple #[.agg Tryd.zeroCells81, errV (a 1)]) ∧ Below w.heap.size w w' := by
  have hxs := hX.size
  have hcs := hR.size
  have hds := hT.size
  have hzs := zsight_size
  have hzo : Ones Tryd.zeroCells81 := onesZ_sight
  have ne1 := neqNilE
  have ne0 := neqNil0
  have HE := Lib.hid hE
  have HV := Lib.hid hv
  obtain ⟨av, cv, rfl⟩ := hv.shape
  clear hE hv
  go_enter Tryd.func38, Tryd.ntmps38
  go_wp2_with fail
  refine gen_callsS fun W1 hW => ?_
  have p0 : rowAt W1 w.heap.size = some c := by rw [hW]; exact (rowAt_alloc_past _ _ _ (by first | omega | (simp; done) | (simp; omega))).trans ((rowAt_alloc_past _ _ _ (by first | omega | (simp; done) | (simp; omega))).trans ((rowAt_alloc_past _ _ _ (by simp)).trans (rowAt_alloc_at _ _ _ _ rfl)))
  have p1 : rowAt W1 (w.heap.size + 1) = some d := by rw [hW]; exact (rowAt_alloc_past _ _ _ (by first | omega | (simp; done) | (simp; omega))).trans ((rowAt_alloc_past _ _ _ (by simp)).trans (rowAt_alloc_at _ _ _ _ (by simp)))
  have p2 : rowAt W1 (w.heap.size + 1 + 1) = some X := by rw [hW]; exact (rowAt_alloc_past _ _ _ (by simp)).trans (rowAt_alloc_at _ _ _ _ (by simp))
  have p3 : rowAt W1 (w.heap.size + 1 + 1 + 1) = some Tryd.zeroCells81 := by rw [hW]; exact rowAt_alloc_at _ _ _ _ (by simp)
  have pB : Below w.heap.size w W1 := by rw [hW]; exact ((((Below.refl _ _).alloc (Nat.le_refl _) _).alloc (by simp) _).alloc (by first | omega | (simp; done) | (simp; omega)) _).alloc (by first | omega | (simp; done) | (simp; omega)) _
  have HV1 := Lib.hid (HV.out.below pB (Nat.le_refl _))
  have HE1 := Lib.hid (HE.out.below pB)
  clear hW
  refine (checkPlaces_bad a b n c d r t f _ _ HE1.out hR hT ho HV1.out hn hP).mono ?_
  rintro e w2 ⟨rfl, b2⟩
  have s3 := brow b2 p3
  have sB := bnext pB b2 pB.size
  clear b2 p0 p1 p2 p3 pB
  go_wp2_with fail
  refine bodyPost_ret (v := .tuple #[.agg Tryd.zeroCells81, errV (a 1)]) (results_row2 (m := 343) rfl _ _ (w.heap.size + 1 + 1 + 1) _ _ rfl rfl (rowAt_setRow_at _ _ _ (by rw [s3]; rfl)) Tryd.underlying81 rfl (by kernel_rfl) hzs) rfl ⟨rfl, ?_⟩
  exact below_setRow sB (by omega) _

set_option maxRecDepth 100000 in
set_option maxHeartbeats 2000000 in
theorem look_unsound (a : Nat → Addr) (b n : Nat) (c d X : Array Value) (r : Rf) (t D f : Nat → Int) (v : Value) (w : World) (hE : Errs a w) (hR : IsRoof c r) (hT : IsRain d t) (hX : IsD X D) (hv : IsList w b v 2 n (fun i => .int .i8 (f i))) (hn : n ≤ 2000000) (ho : r.Rains t) (hP : r.okP f n) (hs : ¬ r.Sound t D) :
    Calls Tryd.prog 38 #[.agg c, .agg d, .agg X, v] w fun e w' => e = .returned (.tuple #[.agg Tryd.zeroCells81, errV (a 3)]) ∧ Below w.heap.size w w' := by
  have CS := fun w => areSound_any X c d r t D w hX hR hT ho
  rw [Rf.sB_f hs] at CS
  have hxs := hX.size
  have hcs := hR.size
  have hds := hT.size
  have hzs := zsight_size
  have hzo : Ones Tryd.zeroCells81 := onesZ_sight
  have ne1 := neqNilE
  have ne0 := neqNil0
  have HE := Lib.hid hE
  have HV := Lib.hid hv
  obtain ⟨av, cv, rfl⟩ := hv.shape
  clear hE hv
  go_enter Tryd.func38, Tryd.ntmps38
  go_wp2_with fail
  refine gen_callsS fun W1 hW => ?_
  have p0 : rowAt W1 w.heap.size = some c := by rw [hW]; exact (rowAt_alloc_past _ _ _ (by first | omega | (simp; done) | (simp; omega))).trans ((rowAt_alloc_past _ _ _ (by first | omega | (simp; done) | (simp; omega))).trans ((rowAt_alloc_past _ _ _ (by simp)).trans (rowAt_alloc_at _ _ _ _ rfl)))
  have p1 : rowAt W1 (w.heap.size + 1) = some d := by rw [hW]; exact (rowAt_alloc_past _ _ _ (by first | omega | (simp; done) | (simp; omega))).trans ((rowAt_alloc_past _ _ _ (by simp)).trans (rowAt_alloc_at _ _ _ _ (by simp)))
  have p2 : rowAt W1 (w.heap.size + 1 + 1) = some X := by rw [hW]; exact (rowAt_alloc_past _ _ _ (by simp)).trans (rowAt_alloc_at _ _ _ _ (by simp))
  have p3 : rowAt W1 (w.heap.size + 1 + 1 + 1) = some Tryd.zeroCells81 := by rw [hW]; exact rowAt_alloc_at _ _ _ _ (by simp)
  have pB : Below w.heap.size w W1 := by rw [hW]; exact ((((Below.refl _ _).alloc (Nat.le_refl _) _).alloc (by simp) _).alloc (by first | omega | (simp; done) | (simp; omega)) _).alloc (by first | omega | (simp; done) | (simp; omega)) _
  have HV1 := Lib.hid (HV.out.below pB (Nat.le_refl _))
  have HE1 := Lib.hid (HE.out.below pB)
  clear hW
  refine (checkPlaces_ok a b n c d r t f _ _ HE1.out hR hT ho HV1.out hn hP).mono ?_
  rintro e w2 ⟨rfl, b2⟩
  have s0 := brow b2 p0
  have s1 := brow b2 p1
  have s2 := brow b2 p2
  have s3 := brow b2 p3
  have HE2 := Lib.hid (HE1.out.below b2)
  have sB := bnext pB b2 pB.size
  clear b2 p0 p1 p2 p3 pB
  go_wp2_with fail
  refine (CS _).mono ?_
  rintro e w3 ⟨rfl, b3⟩
  have u3 := brow b3 s3
  have uB := bnext sB b3 sB.size
  have k3 := (HE2.out.below b3).v3
  have lt3 := rowAt_lt u3
  have l5 := lt_of_cellE HE.out.v3
  have n5 : 3 ≠ w.heap.size + 1 + 1 + 1 := by simp at l5; omega
  have n5a : ¬ w.heap.size = 0 := by simp at l5; omega
  have n5b : ¬ 0 = w.heap.size := by simp at l5; omega
  clear b3 s0 s1 s2 s3 sB CS
  go_wp2_with fail
  go_region
  go_wp2_with fail
  refine bodyPost_ret (v := .tuple #[.agg Tryd.zeroCells81, errV (a 3)]) (results_row2 (m := 343) rfl _ _ (w.heap.size + 1 + 1 + 1) _ _ rfl rfl (rowAt_setRow_at _ _ _ (by rw [u3]; rfl)) Tryd.underlying81 rfl (by kernel_rfl) hzs) rfl ⟨rfl, ?_⟩
  exact (below_setRow uB (by omega) _).drew

/-- What look gives where all is well. -/
def LookEnd (w : World) (c X : Array Value) (r : Rf) (t D : Nat → Int) (e : Ending) (w' : World) : Prop :=
  ∃ B2 B3, e = .returned (.tuple #[.agg (sightC (bareC c) (mkI .i32 136 (r.seen t D)) X (dripK B2 B3)), .nilIface]) ∧ rowAt w' B2 = some #[.int .i64 2] ∧ rowAt w' B3 = some #[.int .i64 3] ∧ w.heap.size ≤ B2 ∧ w.heap.size ≤ B3 ∧ Below w.heap.size w w'

set_option maxRecDepth 100000 in
set_option maxHeartbeats 4000000 in
theorem look_ok (a : Nat → Addr) (b n : Nat) (c d X : Array Value) (r : Rf) (t D f : Nat → Int) (v : Value) (w : World) (hE : Errs a w) (hR : IsRoof c r) (hT : IsRain d t) (hX : IsD X D) (hv : IsList w b v 2 n (fun i => .int .i8 (f i))) (hn : n ≤ 2000000) (ho : r.Rains t) (hP : r.okP f n) (hs : r.Sound t D) :
    Calls Tryd.prog 38 #[.agg c, .agg d, .agg X, v] w (LookEnd w c X r t D) := by
  have CS := fun w => areSound_any X c d r t D w hX hR hT ho
  rw [Rf.sB_t hs] at CS
  have CM := fun w => mended_any c r w hR
  have CC := fun w => comesTo_any X c d r t D w hX hR hT ho hs
  have hbs := hR.bare.size
  have hbo := hR.bare.ones
  have hys : (mkI .i32 136 (r.seen t D)).size = 136 := by simp
  have hyo := (isK_mkI .i32 136 (r.seen t D)).ones
  have hxo := hX.ones
  obtain ⟨Y, hY⟩ : ∃ Y, Y = mkI .i32 136 (r.seen t D) := ⟨_, rfl⟩
  obtain ⟨C, hC⟩ : ∃ C, C = bareC c := ⟨_, rfl⟩
  rw [← hY] at CC hys hyo
  rw [← hC] at CM hbs hbo
  have HY := Lib.hid hY
  have HC := Lib.hid hC
  clear hY hC
  have hxs := hX.size
  have hcs := hR.size
  have hds := hT.size
  have hzs := zsight_size
  have hzo : Ones Tryd.zeroCells81 := onesZ_sight
  have ne1 := neqNilE
  have ne0 := neqNil0
  have HE := Lib.hid hE
  have HV := Lib.hid hv
  obtain ⟨av, cv, rfl⟩ := hv.shape
  clear hE hv
  go_enter Tryd.func38, Tryd.ntmps38
  go_wp2_with fail
  refine gen_callsS fun W1 hW => ?_
  have p0 : rowAt W1 w.heap.size = some c := by rw [hW]; exact (rowAt_alloc_past _ _ _ (by first | omega | (simp; done) | (simp; omega))).trans ((rowAt_alloc_past _ _ _ (by first | omega | (simp; done) | (simp; omega))).trans ((rowAt_alloc_past _ _ _ (by simp)).trans (rowAt_alloc_at _ _ _ _ rfl)))
  have p1 : rowAt W1 (w.heap.size + 1) = some d := by rw [hW]; exact (rowAt_alloc_past _ _ _ (by first | omega | (simp; done) | (simp; omega))).trans ((rowAt_alloc_past _ _ _ (by simp)).trans (rowAt_alloc_at _ _ _ _ (by simp)))
  have p2 : rowAt W1 (w.heap.size + 1 + 1) = some X := by rw [hW]; exact (rowAt_alloc_past _ _ _ (by simp)).trans (rowAt_alloc_at _ _ _ _ (by simp))
  have p3 : rowAt W1 (w.heap.size + 1 + 1 + 1) = some Tryd.zeroCells81 := by rw [hW]; exact rowAt_alloc_at _ _ _ _ (by simp)
  have pB : Below w.heap.size w W1 := by rw [hW]; exact ((((Below.refl _ _).alloc (Nat.le_refl _) _).alloc (by simp) _).alloc (by first | omega | (simp; done) | (simp; omega)) _).alloc (by first | omega | (simp; done) | (simp; omega)) _
  have HV1 := Lib.hid (HV.out.below pB (Nat.le_refl _))
  have HE1 := Lib.hid (HE.out.below pB)
  clear hW
  refine (checkPlaces_ok a b n c d r t f _ _ HE1.out hR hT ho HV1.out hn hP).mono ?_
  rintro e w2 ⟨rfl, b2⟩
  have s0 := brow b2 p0
  have s1 := brow b2 p1
  have s2 := brow b2 p2
  have s3 := brow b2 p3
  have sB := bnext pB b2 pB.size
  clear b2 p0 p1 p2 p3 pB
  go_wp2_with fail
  refine (CS _).mono ?_
  rintro e w3 ⟨rfl, b3⟩
  have u0 := brow b3 s0
  have u1 := brow b3 s1
  have u2 := brow b3 s2
  have u3 := brow b3 s3
  have uB := bnext sB b3 sB.size
  have lt3 := rowAt_lt u3
  clear b3 s0 s1 s2 s3 sB CS
  go_wp2_with fail
  refine wp_region_held_drew (S := (fun w' => (rowAt w' w.heap.size = some c ∧ rowAt w' (w.heap.size + 1) = some d ∧ rowAt w' (w.heap.size + 1 + 1) = some X ∧ (∃ Z, rowAt w' (w.heap.size + 1 + 1 + 1) = some Z ∧ Z.size = 343)) ∧ Below w.heap.size w w' ∧ w.heap.size + 1 + 1 + 1 < w'.heap.size)) (by kernel_rfl) (⟨⟨u0, u1, u2, _, u3, hzs⟩, uB.drew, lt3⟩) (fun hH => ?_)
  refine wpAnyH_take (i := 0) (v := .agg c) rfl (by kernel_rfl) (by kernel_rfl) (by kernel_rfl) (fun _ _ _ h => h) (Or.inl ⟨by rfl, ?_⟩) hH ?_
  · intro w1 hS; (try dsimp only at hS); obtain ⟨⟨q0, q1, q2, _⟩, _⟩ := hS; go_simp
  (try simp only [List.getElem_toArray]); (try simp only [List.getElem_cons_succ]); (try simp only [List.getElem_cons_zero]); (try simp only [Act.put]); (try simp only [List.setIfInBounds_toArray]); (try simp only [List.set_cons_succ]); (try simp only [List.set_cons_zero])
  refine wpAnyH_take (i := 2) (v := .agg X) rfl (by kernel_rfl) (by kernel_rfl) (by kernel_rfl) (fun _ _ _ h => h) (Or.inl ⟨by rfl, ?_⟩) hH ?_
  · intro w1 hS; (try dsimp only at hS); obtain ⟨⟨q0, q1, q2, _⟩, _⟩ := hS; go_simp
  (try simp only [List.getElem_toArray]); (try simp only [List.getElem_cons_succ]); (try simp only [List.getElem_cons_zero]); (try simp only [Act.put]); (try simp only [List.setIfInBounds_toArray]); (try simp only [List.set_cons_succ]); (try simp only [List.set_cons_zero])
  refine wpAnyH_take (i := 3) (v := .agg c) rfl (by kernel_rfl) (by kernel_rfl) (by kernel_rfl) (fun _ _ _ h => h) (Or.inl ⟨by rfl, ?_⟩) hH ?_
  · intro w1 hS; (try dsimp only at hS); obtain ⟨⟨q0, q1, q2, _⟩, _⟩ := hS; go_simp
  (try simp only [List.getElem_toArray]); (try simp only [List.getElem_cons_succ]); (try simp only [List.getElem_cons_zero]); (try simp only [Act.put]); (try simp only [List.setIfInBounds_toArray]); (try simp only [List.set_cons_succ]); (try simp only [List.set_cons_zero])
  refine wpAnyH_take (i := 4) (v := .agg d) rfl (by kernel_rfl) (by kernel_rfl) (by kernel_rfl) (fun _ _ _ h => h) (Or.inl ⟨by rfl, ?_⟩) hH ?_
  · intro w1 hS; (try dsimp only at hS); obtain ⟨⟨q0, q1, q2, _⟩, _⟩ := hS; go_simp
  (try simp only [List.getElem_toArray]); (try simp only [List.getElem_cons_succ]); (try simp only [List.getElem_cons_zero]); (try simp only [Act.put]); (try simp only [List.setIfInBounds_toArray]); (try simp only [List.set_cons_succ]); (try simp only [List.set_cons_zero])
  refine wpAnyH_take (i := 6) (v := .agg X) rfl (by kernel_rfl) (by kernel_rfl) (by kernel_rfl) (fun _ _ _ h => h) (Or.inl ⟨by rfl, ?_⟩) hH ?_
  · intro w1 hS; (try dsimp only at hS); obtain ⟨⟨q0, q1, q2, _⟩, _⟩ := hS; go_simp
  (try simp only [List.getElem_toArray]); (try simp only [List.getElem_cons_succ]); (try simp only [List.getElem_cons_zero]); (try simp only [Act.put]); (try simp only [List.setIfInBounds_toArray]); (try simp only [List.set_cons_succ]); (try simp only [List.set_cons_zero])
  refine wpAnyH_ready (rs := [1]) (by kernel_rfl) (by simp) (AllReadyH.cons rfl (fun K hK => ?_) AllReadyH.nil)
  go_simp
  refine (CM _).mono ?_
  rintro x wx ⟨rfl, bx⟩
  go_simp
  refine hK.out _ _ (⟨⟨brow bx hH.1.1, brow bx hH.1.2.1, brow bx hH.1.2.2.1, by obtain ⟨z, hz, hs⟩ := hH.1.2.2.2; exact ⟨z, brow bx hz, hs⟩⟩, bnext hH.2.1 bx hH.2.1.size, Nat.lt_of_lt_of_le hH.2.2 bx.size⟩) (fun hG => ?_)
  clear hK K hH bx
  replace hH := hG
  clear hG
  (try simp only [List.getElem_toArray]); (try simp only [List.getElem_cons_succ]); (try simp only [List.getElem_cons_zero]); (try simp only [Act.put]); (try simp only [List.setIfInBounds_toArray]); (try simp only [List.set_cons_succ]); (try simp only [List.set_cons_zero])
  refine wpAnyH_ready (rs := [5]) (by kernel_rfl) (by simp) (AllReadyH.cons rfl (fun K hK => ?_) AllReadyH.nil)
  go_simp
  refine (CC _).mono ?_
  rintro x wx ⟨rfl, bx⟩
  go_simp
  refine hK.out _ _ (⟨⟨brow bx hH.1.1, brow bx hH.1.2.1, brow bx hH.1.2.2.1, by obtain ⟨z, hz, hs⟩ := hH.1.2.2.2; exact ⟨z, brow bx hz, hs⟩⟩, bnext hH.2.1 bx hH.2.1.size, Nat.lt_of_lt_of_le hH.2.2 bx.size⟩) (fun hG => ?_)
  clear hK K hH bx
  replace hH := hG
  clear hG
  (try simp only [List.getElem_toArray]); (try simp only [List.getElem_cons_succ]); (try simp only [List.getElem_cons_zero]); (try simp only [Act.put]); (try simp only [List.setIfInBounds_toArray]); (try simp only [List.set_cons_succ]); (try simp only [List.set_cons_zero])
  refine wpAnyH_ready (rs := [7]) (by kernel_rfl) (by simp) (AllReadyH.cons rfl (fun K hK => ?_) AllReadyH.nil)
  go_simp
  refine (drippers_any _).mono ?_
  rintro x wx ⟨B2, B3, rfl, e2, e3, g2, g3, bx⟩
  have lx := hH.2.2
  go_simp
  refine hK.out _ _ (⟨⟨brow bx hH.1.1, brow bx hH.1.2.1, brow bx hH.1.2.2.1, by obtain ⟨z, hz, hs⟩ := hH.1.2.2.2; exact ⟨z, brow bx hz, hs⟩⟩, bnext hH.2.1 bx hH.2.1.size, Nat.lt_of_lt_of_le hH.2.2 bx.size⟩) (fun hG => ?_)
  clear hK K hH bx
  replace hH := hG
  clear hG
  (try simp only [List.getElem_toArray]); (try simp only [List.getElem_cons_succ]); (try simp only [List.getElem_cons_zero]); (try simp only [Act.put]); (try simp only [List.setIfInBounds_toArray]); (try simp only [List.set_cons_succ]); (try simp only [List.set_cons_zero])
  have hkl : (dripK B2 B3).size = 4 := rfl
  have hbu := fun w => run_build_sight (w := w) hbs hys hxs hkl
  have hSs := sightC_size hbs hys hxs hkl
  have hSo := sightC_ones hbs hys hxs hkl hbo hyo hxo (ones_dripK B2 B3)
  obtain ⟨S, hS⟩ : ∃ S, S = sightC C Y X (dripK B2 B3) := ⟨_, rfl⟩
  rw [← hS] at hbu hSs hSo
  have HS := Lib.hid hS
  clear hS
  refine wpAnyH_take (i := 8) (v := .agg S) rfl (by kernel_rfl) (by kernel_rfl) (by kernel_rfl) (fun _ _ _ h => h) (Or.inl ⟨by rfl, ?_⟩) hH ?_
  · intro w1 hS; (try dsimp only at hS); go_simp; (first | done | (rw [hbu]; rfl))
  (try simp only [List.getElem_toArray]); (try simp only [List.getElem_cons_succ]); (try simp only [List.getElem_cons_zero]); (try simp only [Act.put]); (try simp only [List.setIfInBounds_toArray]); (try simp only [List.set_cons_succ]); (try simp only [List.set_cons_zero])
  refine wpAnyH_ready (rs := [9]) (by kernel_rfl) (by simp) (AllReadyH.cons rfl (fun K hK => ?_) AllReadyH.nil)
  obtain ⟨Z, hZ, hZs⟩ := hH.1.2.2.2
  go_simp
  refine hK.out _ _ ?_ (fun hG => ?_)
  · exact ⟨⟨(rowAt_setRow_ne _ _ _ _ (by omega)).trans hH.1.1, (rowAt_setRow_ne _ _ _ _ (by omega)).trans hH.1.2.1, (rowAt_setRow_ne _ _ _ _ (by omega)).trans hH.1.2.2.1, ⟨_, rowAt_setRow_at _ _ _ (by rw [hZ]; rfl), hSs⟩⟩, below_setRow hH.2.1 (by omega) _, by simpa using hH.2.2⟩
  clear hK K
  have hH0 := hH
  replace hH := hG
  clear hG
  (try simp only [List.getElem_toArray]); (try simp only [List.getElem_cons_succ]); (try simp only [List.getElem_cons_zero]); (try simp only [Act.put]); (try simp only [List.setIfInBounds_toArray]); (try simp only [List.set_cons_succ]); (try simp only [List.set_cons_zero])
  refine wpAnyH_take (i := 10) (v := .nilIface) rfl (by kernel_rfl) (by kernel_rfl) (by kernel_rfl) (fun _ _ _ h => h) (Or.inl ⟨by rfl, ?_⟩) hH ?_
  · intro w1 hS; (try dsimp only at hS); go_simp
  (try simp only [List.getElem_toArray]); (try simp only [List.getElem_cons_succ]); (try simp only [List.getElem_cons_zero]); (try simp only [Act.put]); (try simp only [List.setIfInBounds_toArray]); (try simp only [List.set_cons_succ]); (try simp only [List.set_cons_zero])
  refine wpAnyH_done (by kernel_rfl) ?_ _
  go_wp2_with fail
  refine bodyPost_ret (v := .tuple #[.agg S, .nilIface]) (results_row2 (m := 343) rfl _ _ (w.heap.size + 1 + 1 + 1) _ _ rfl rfl (rowAt_setRow_at _ _ _ (by rw [hZ]; rfl)) Tryd.underlying81 rfl (by kernel_rfl) hSs) rfl ⟨B2, B3, by rw [HS.out, HY.out, HC.out], (rowAt_setRow_ne _ _ _ _ (by omega)).trans e2, (rowAt_setRow_ne _ _ _ _ (by omega)).trans e3, by omega, by omega, ?_⟩
  exact below_setRow hH0.2.1 (by omega) _
end Go.Proofs.YtoibolmippfcgaaDoor

/- The model's code of a roof, rain and drips. -/
namespace Go.Proofs.YtoibolmippfcgaaDoor
open Go.RowKit

noncomputable def Rf.acode (r : Rf) (t D : Nat → Int) (fine : Bool) : Int := if r.rok t = true then (if fine = true then (if r.sB t D = true then 0 else 4) else 2) else 1
noncomputable def Rf.seenF (r : Rf) (t D : Nat → Int) (fine : Bool) : Nat → Int := if r.acode t D fine = 0 then r.seen t D else fun _ => 0
noncomputable def Rf.seenA (r : Rf) (t D : Nat → Int) (fine : Bool) : Array Value := mkI .i32 136 (r.seenF t D fine)
theorem Rf.acode_no {r : Rf} {t D : Nat → Int} {fine : Bool} (h : ¬ r.Rains t) : r.acode t D fine = 1 := by unfold Rf.acode; rw [Rf.rok_false h]; rfl
theorem Rf.acode_out {r : Rf} {t D : Nat → Int} (h : r.Rains t) : r.acode t D false = 2 := by unfold Rf.acode; rw [Rf.rok_true h]; rfl
theorem Rf.acode_uns {r : Rf} {t D : Nat → Int} (h : r.Rains t) (hs : ¬ r.Sound t D) : r.acode t D true = 4 := by unfold Rf.acode; rw [Rf.rok_true h, Rf.sB_f hs]; rfl
theorem Rf.acode_in {r : Rf} {t D : Nat → Int} (h : r.Rains t) (hs : r.Sound t D) : r.acode t D true = 0 := by unfold Rf.acode; rw [Rf.rok_true h, Rf.sB_t hs]; rfl
theorem Rf.seenA_no {r : Rf} {t D : Nat → Int} {fine : Bool} (h : r.acode t D fine ≠ 0) : r.seenA t D fine = mkI .i32 136 fun _ => 0 := by unfold Rf.seenA Rf.seenF; rw [if_neg h]
theorem Rf.seenA_in {r : Rf} {t D : Nat → Int} {fine : Bool} (h : r.acode t D fine = 0) : r.seenA t D fine = mkI .i32 136 (r.seen t D) := by unfold Rf.seenA Rf.seenF; rw [if_pos h]

def AskEnd (w : World) (r : Rf) (t D : Nat → Int) (fine : Bool) (e : Ending) (w' : World) : Prop := e = .returned (.tuple #[.agg (r.seenA t D fine), .int .i64 (r.acode t D fine)]) ∧ Below w.heap.size w w'

set_option maxRecDepth 100000 in
set_option maxHeartbeats 2000000 in
theorem l03Asked_any (n0 n1 n2 : Nat) (c d X0 : Array Value) (r : Rf) (t D : Nat → Int) (fine : Bool) (w : World) (hr : rowAt w n0 = some c) (hR : IsRoof c r) (hd : rowAt w n1 = some d) (hT : IsRain d t) (he : rowAt w n2 = some X0) (hD : IsD X0 D) :
    Calls Tryd.prog 35 #[.pointer (some ⟨n0, 0, none⟩), .pointer (some ⟨n1, 0, none⟩), .pointer (some ⟨n2, 0, none⟩), .bool fine] w (AskEnd w r t D fine) := by
  have lt0 := rowAt_lt hr
  have lt1 := rowAt_lt hd
  have lt2 := rowAt_lt he
  have hz : Tryd.zeroCells47 = mkI .i32 136 (fun _ => 0) := by kernel_rfl
  have hzs : Tryd.zeroCells47.size = 136 := by rw [hz]; simp
  have hzo : Ones Tryd.zeroCells47 := by rw [hz]; exact (isK_mkI _ _ _).ones
  have HZ := Lib.hid hz
  have p3 := rowAt_alloc_at w Tryd.zeroCells47 47 w.heap.size rfl
  have pB : Below w.heap.size w (w.alloc (.cells Tryd.zeroCells47 47)) := (Below.refl _ _).alloc (Nat.le_refl _) _
  have p0 := brow pB hr
  have p1 := brow pB hd
  have p2 := brow pB he
  clear hz hr hd he
  by_cases ho : r.Rains t
  · cases fine with
    | false =>
      have hc := Rf.acode_out (D := D) ho
      have HA : Hid (r.acode t D false = 2) := Lib.hid hc
      have HSA : Hid (r.seenA t D false = mkI .i32 136 fun _ => 0) := Lib.hid (Rf.seenA_no (by rw [hc]; decide))
      clear hc
      go_enter Tryd.func35, Tryd.ntmps35
      go_wp2_with fail
      refine (l02Ok_t n0 n1 c d r t _ p0 hR p1 hT ho).mono ?_
      rintro e w1 ⟨rfl, b1⟩
      have s3 := brow b1 p3
      have sB := bnext pB b1 pB.size
      clear b1 p0 p1 p2 p3 pB
      go_wp2_with fail
      refine bodyPost_ret (v := .tuple #[.agg Tryd.zeroCells47, .int .i64 2]) (results_row2 (m := 136) rfl _ _ w.heap.size _ _ rfl rfl (rowAt_setRow_at _ _ _ (by rw [s3]; rfl)) Tryd.underlying47 rfl (by kernel_rfl) hzs) rfl ⟨by rw [HSA.out, HA.out, HZ.out], below_setRow sB (Nat.le_refl _) _⟩
    | true =>
      have CC := fun W h0 h1 h2 => l03Comes_any n0 n1 n2 c d X0 r t D W h0 hR h1 hT h2 hD ho
      by_cases hs : r.Sound t D
      · have hc := Rf.acode_in ho hs
        have HA : Hid (r.acode t D true = 0) := Lib.hid hc
        have HSA : Hid (r.seenA t D true = mkI .i32 136 (r.seen t D)) := Lib.hid (Rf.seenA_in hc)
        have hsb := Rf.sB_t hs
        have HSB := Lib.hid hsb
        clear hc hsb
        go_enter Tryd.func35, Tryd.ntmps35
        go_wp2_with fail
        refine (l02Ok_t n0 n1 c d r t _ p0 hR p1 hT ho).mono ?_
        rintro e w1 ⟨rfl, b1⟩
        have s0 := brow b1 p0
        have s1 := brow b1 p1
        have s2 := brow b1 p2
        have s3 := brow b1 p3
        have sB := bnext pB b1 pB.size
        clear b1 p0 p1 p2 p3 pB
        go_wp2_with fail
        refine (CC _ s0 s1 s2).mono ?_
        rintro e w2 ⟨F, rfl, hF, b2⟩
        have u3 := brow b2 s3
        have uB := bnext sB b2 sB.size
        have lt3 := rowAt_lt u3
        rw [HSB.out, hF hs]
        have hXs : (mkI .i32 136 (r.seen t D)).size = 136 := by simp
        have hXo := (isK_mkI .i32 136 (r.seen t D)).ones
        obtain ⟨X, hX⟩ : ∃ X, X = mkI .i32 136 (r.seen t D) := ⟨_, rfl⟩
        rw [← hX] at hXs hXo ⊢
        have HX := Lib.hid hX
        have hne : w2.heap.size ≠ w.heap.size := by omega
        clear b2 s0 s1 s2 s3 sB hX hF CC
        go_wp2_with fail
        refine bodyPost_ret (v := .tuple #[.agg X, .int .i64 0]) (results_row2 (m := 136) rfl _ _ w.heap.size _ _ rfl rfl ((rowAt_alloc_past _ _ _ (by simpa using lt3)).trans (rowAt_setRow_at _ _ _ (by rw [u3]; rfl))) Tryd.underlying47 rfl (by kernel_rfl) hXs) rfl ⟨by rw [HSA.out, HA.out, HX.out], ?_⟩
        exact (below_setRow uB (Nat.le_refl _) _).alloc (by simpa using uB.size) _
      · have hc := Rf.acode_uns ho hs
        have HA : Hid (r.acode t D true = 4) := Lib.hid hc
        have HSA : Hid (r.seenA t D true = mkI .i32 136 fun _ => 0) := Lib.hid (Rf.seenA_no (by rw [hc]; decide))
        have hsb := Rf.sB_f hs
        have HSB := Lib.hid hsb
        clear hc hsb
        go_enter Tryd.func35, Tryd.ntmps35
        go_wp2_with fail
        refine (l02Ok_t n0 n1 c d r t _ p0 hR p1 hT ho).mono ?_
        rintro e w1 ⟨rfl, b1⟩
        have s0 := brow b1 p0
        have s1 := brow b1 p1
        have s2 := brow b1 p2
        have s3 := brow b1 p3
        have sB := bnext pB b1 pB.size
        clear b1 p0 p1 p2 p3 pB
        go_wp2_with fail
        refine (CC _ s0 s1 s2).mono ?_
        rintro e w2 ⟨F, rfl, hF, b2⟩
        have u3 := brow b2 s3
        have uB := bnext sB b2 sB.size
        have lt3 := rowAt_lt u3
        rw [HSB.out]
        have hXs : (mkI .i32 136 F).size = 136 := by simp
        have hXo := (isK_mkI .i32 136 F).ones
        generalize mkI .i32 136 F = X at *
        have hne : w2.heap.size ≠ w.heap.size := by omega
        clear b2 s0 s1 s2 s3 sB hF CC
        go_wp2_with fail
        refine bodyPost_ret (v := .tuple #[.agg Tryd.zeroCells47, .int .i64 4]) (results_row2 (m := 136) rfl _ _ w.heap.size _ _ rfl rfl ((rowAt_alloc_past _ _ _ (by simpa using lt3)).trans (rowAt_setRow_at _ _ _ (by rw [u3]; rfl))) Tryd.underlying47 rfl (by kernel_rfl) hzs) rfl ⟨by rw [HSA.out, HA.out, HZ.out], ?_⟩
        exact (below_setRow uB (Nat.le_refl _) _).alloc (by simpa using uB.size) _
  · have hc := Rf.acode_no (D := D) (fine := fine) ho
    have HA : Hid (r.acode t D fine = 1) := Lib.hid hc
    have HSA : Hid (r.seenA t D fine = mkI .i32 136 fun _ => 0) := Lib.hid (Rf.seenA_no (by rw [hc]; decide))
    clear hc
    go_enter Tryd.func35, Tryd.ntmps35
    go_wp2_with fail
    refine (l02Ok_f n0 n1 c d r t _ p0 hR p1 hT ho).mono ?_
    rintro e w1 ⟨rfl, b1⟩
    have s3 := brow b1 p3
    have sB := bnext pB b1 pB.size
    clear b1 p0 p1 p2 p3 pB
    go_wp2_with fail
    refine bodyPost_ret (v := .tuple #[.agg Tryd.zeroCells47, .int .i64 1]) (results_row2 (m := 136) rfl _ _ w.heap.size _ _ rfl rfl (rowAt_setRow_at _ _ _ (by rw [s3]; rfl)) Tryd.underlying47 rfl (by kernel_rfl) hzs) rfl ⟨by rw [HSA.out, HA.out, HZ.out], below_setRow sB (Nat.le_refl _) _⟩
end Go.Proofs.YtoibolmippfcgaaDoor

/- '==' of two roofs. -/
namespace Go.Proofs.YtoibolmippfcgaaDoor
open Go.RowKit

open Classical in
noncomputable def Rf.rowEq (r q : Rf) (i : Nat) : Bool := decide (∀ j, j < 8 → r.t (i * 8 + j) = q.t (i * 8 + j))
open Classical in
noncomputable def Rf.tilesEq (r q : Rf) : Bool := decide (∀ i, i < 8 → r.rowEq q i = true)
noncomputable def Rf.eqB (r q : Rf) : Bool := if r.w = q.w then if r.h = q.h then if r.s = q.s then r.tilesEq q else false else false else false

theorem run_eq_rows (x y : Array Value) (r q : Rf) (hx : IsU8 x 64 r.t) (hy : IsU8 y 64 q.t) (d : Nat) (w : World) : (Op.equalIn (d + 3) 24 (.agg x) (.agg y)).run Tryd.prog w = .ok (r.tilesEq q) w := by
  have hxs := hx.size
  have hys := hy.size
  rw [run_equalIn_arr Tryd.underlying24 (sz := 8) (by kernel_rfl) (d + 2) x y w (fun i => r.rowEq q i) ?_]
  · congr 1
    unfold Rf.tilesEq
    rw [Bool.eq_iff_iff]; simp
  · intro i hi
    refine ⟨_, _, run_part_agg Tryd.underlying23 rfl (sz := 8) (by kernel_rfl) x (i * 8) w, run_part_agg Tryd.underlying23 rfl (sz := 8) (by kernel_rfl) y (i * 8) w, ?_⟩
    have h1 := hx.extract (i * 8) 8 (by omega)
    have h2 := hy.extract (i * 8) 8 (by omega)
    rw [run_equalIn_ints Tryd.underlying23 Tryd.underlying5 (by kernel_rfl) _ _ (fun j => r.t (i * 8 + j)) (fun j => q.t (i * 8 + j))
      (fun j hj => by rw [Array.getElem?_eq_getElem (by have := h1.size; omega), h1.cell]) (fun j hj => by rw [Array.getElem?_eq_getElem (by have := h2.size; omega), h2.cell]) d w]
    congr 1
    unfold Rf.rowEq
    rw [Bool.eq_iff_iff]; simp

theorem run_eq_roof (c e : Array Value) (r q : Rf) (hc : IsRoof c r) (he : IsRoof e q) (w : World) : (Op.equalIn 10000 33 (.agg c) (.agg e)).run Tryd.prog w = .ok (r.eqB q) w := by
  have hcs := hc.size
  have hes := he.size
  have hf : Tryd.prog.underlying 33 = some (.struct (Tryd.prog.fieldsOf 33)) := by kernel_rfl
  have hs : Tryd.prog.stoodInHeld 33 = false := by kernel_rfl
  have key := run_eq_rows _ _ r q hc.tiles he.tiles 9996 w
  have p0 := run_part_int (P := Tryd.prog) Tryd.underlying22 c 0 (.int .i8 r.w) (by rw [Array.getElem?_eq_getElem (by omega), hc.wide]) w
  have p1 := run_part_int (P := Tryd.prog) Tryd.underlying22 c 1 (.int .i8 r.h) (by rw [Array.getElem?_eq_getElem (by omega), hc.high]) w
  have p2 := run_part_int (P := Tryd.prog) Tryd.underlying5 c 2 (.int .u8 r.s) (by rw [Array.getElem?_eq_getElem (by omega), hc.shift]) w
  have p3 := run_part_agg (P := Tryd.prog) Tryd.underlying24 rfl (sz := 64) (by kernel_rfl) c 3 w
  have q0 := run_part_int (P := Tryd.prog) Tryd.underlying22 e 0 (.int .i8 q.w) (by rw [Array.getElem?_eq_getElem (by omega), he.wide]) w
  have q1 := run_part_int (P := Tryd.prog) Tryd.underlying22 e 1 (.int .i8 q.h) (by rw [Array.getElem?_eq_getElem (by omega), he.high]) w
  have q2 := run_part_int (P := Tryd.prog) Tryd.underlying5 e 2 (.int .u8 q.s) (by rw [Array.getElem?_eq_getElem (by omega), he.shift]) w
  have q3 := run_part_agg (P := Tryd.prog) Tryd.underlying24 rfl (sz := 64) (by kernel_rfl) e 3 w
  have i0 := run_equalIn_int w 9998 22 .i8 .i8 r.w q.w Tryd.underlying22
  have i1 := run_equalIn_int w 9998 22 .i8 .i8 r.h q.h Tryd.underlying22
  have i2 := run_equalIn_int w 9998 5 .u8 .u8 r.s q.s Tryd.underlying5
  rw [run_equalIn_struct w 9999 _ c e hf hs]
  have hfl := TypeDesc.struct.inj (Option.some.inj (hf.symm.trans Tryd.underlying33))
  rw [hfl]
  simp only [Nat.reduceAdd] at p3 q3 key i0 i1 i2
  simp [Op.eqFields, Sem.run_bind, p0, p1, p2, p3, q0, q1, q2, q3, i0, i1, i2]
  rw [key]
  unfold Rf.eqB
  cases r.tilesEq q <;> by_cases h0 : r.w = q.w <;> by_cases h1 : r.h = q.h <;> by_cases h2 : r.s = q.s <;> simp [h0, h1, h2]
end Go.Proofs.YtoibolmippfcgaaDoor

/- The first drip: contracts of both sides. -/
namespace Go.Proofs.YtoibolmippfcgaaDoor
open Go.RowKit

/-- The first of the first n that is greater than 0. -/
def firstTo (D : Nat → Int) : Nat → Option Nat
  | 0 => none
  | n + 1 => match firstTo D n with
    | some i => some i
    | none => if 0 < D n then some n else none
theorem firstTo_none {D : Nat → Int} : ∀ {n : Nat}, (∀ j, j < n → D j ≤ 0) → firstTo D n = none
  | 0, _ => rfl
  | n + 1, h => by
    have h1 := firstTo_none (n := n) fun j hj => h j (by omega)
    have h2 := h n (by omega)
    simp only [firstTo, h1]
    rw [if_neg (by omega)]
theorem firstTo_at {D : Nat → Int} {i : Nat} (hp : 0 < D i) (hm : ∀ j, j < i → D j ≤ 0) : ∀ {n : Nat}, i < n → firstTo D n = some i
  | n + 1, h => by
    by_cases hi : i = n
    · subst hi
      simp only [firstTo, firstTo_none hm]
      rw [if_pos hp]
    · have h1 := firstTo_at hp hm (n := n) (by omega)
      simp only [firstTo, h1]
def firstI (D : Nat → Int) : Nat := (firstTo D 136).getD 136
theorem firstI_at {D : Nat → Int} {i : Nat} (hi : i < 136) (hp : 0 < D i) (hm : ∀ j, j < i → D j ≤ 0) : firstI D = i := by
  unfold firstI; rw [firstTo_at hp hm hi]; rfl
theorem firstI_none {D : Nat → Int} (hm : ∀ j, j < 136 → D j ≤ 0) : firstI D = 136 := by
  unfold firstI; rw [firstTo_none hm]; rfl

noncomputable def Rf.fdc (r : Rf) (t : Nat → Int) : Int := if r.rok t = true then (if firstI (r.drips t) < 136 then 0 else 6) else 1
noncomputable def Rf.fdv (r : Rf) (t : Nat → Int) (x : Int) : Int := if r.fdc t = 0 then x else 0
theorem Rf.fdc_f {r : Rf} {t : Nat → Int} (h : ¬ r.Rains t) : r.fdc t = 1 := by simp [Rf.fdc, Rf.rok_false h]
/-- The answer, if i is the first. -/
def FdIs (r : Rf) (t : Nat → Int) (a b c : Int) : Prop := (Ending.returned (.tuple #[.int .i64 a, .int .i64 b, .int .i64 c])) = .returned (.tuple #[.int .i64 (r.fdv t ((firstI (r.drips t) / 17 : Nat) : Int)), .int .i64 (r.fdv t ((firstI (r.drips t) % 17 : Nat) : Int)), .int .i64 (r.fdc t)])
theorem FdIs.at {r : Rf} {t : Nat → Int} (h : r.Rains t) {c k : Nat} (hc : c < 8) (hk : k < 17) (hp : 0 < r.drips t (c * 17 + k)) (hm : ∀ j, j < c * 17 + k → r.drips t j ≤ 0) : FdIs r t c k 0 := by
  have h1 := firstI_at (by omega) hp hm
  have h2 : r.fdc t = 0 := by rw [Rf.fdc, if_pos (Rf.rok_true h), h1, if_pos (by omega)]
  unfold FdIs
  rw [Rf.fdv, Rf.fdv, if_pos h2, if_pos h2, h1, h2, show (c * 17 + k) / 17 = c from by omega, show (c * 17 + k) % 17 = k from by omega]
theorem FdIs.none {r : Rf} {t : Nat → Int} (h : r.Rains t) (hm : ∀ j, j < 136 → r.drips t j ≤ 0) : FdIs r t 0 0 6 := by
  have h1 := firstI_none hm
  have h2 : r.fdc t = 6 := by rw [Rf.fdc, if_pos (Rf.rok_true h), h1, if_neg (by omega)]
  unfold FdIs
  rw [Rf.fdv, Rf.fdv, if_neg (by omega), if_neg (by omega), h2]

open Classical in
theorem run_eq_drips (x y : Array Value) (f g : Nat → Int) (hx : IsK .i32 x 136 f) (hy : IsK .i32 y 136 g) (w : World) : ∃ b : Bool, (Op.equalIn 10000 47 (.agg x) (.agg y)).run Tryd.prog w = .ok b w ∧ (b = true ↔ ∀ i, i < 136 → f i = g i) := by
  refine ⟨_, run_equalIn_arr Tryd.underlying47 (sz := 17) (by kernel_rfl) 9999 x y w (fun i => decide (∀ j, j < 17 → f (i * 17 + j) = g (i * 17 + j))) ?_, ?_⟩
  · intro i hi
    refine ⟨_, _, run_part_agg Tryd.underlying44 rfl (sz := 17) (by kernel_rfl) x (i * 17) w, run_part_agg Tryd.underlying44 rfl (sz := 17) (by kernel_rfl) y (i * 17) w, ?_⟩
    have h1 := hx.extract (i * 17) 17 (by omega)
    have h2 := hy.extract (i * 17) 17 (by omega)
    rw [run_equalIn_ints Tryd.underlying44 Tryd.underlying21 (by kernel_rfl) _ _ (fun j => f (i * 17 + j)) (fun j => g (i * 17 + j)) (fun j hj => h1.get hj) (fun j hj => h2.get hj) 9997 w]
    congr 1
    rw [Bool.eq_iff_iff]; simp
  · simp only [decide_eq_true_eq]
    constructor
    · intro h j hj
      have := h (j / 17) (by omega) (j % 17) (by omega)
      rwa [show j / 17 * 17 + j % 17 = j from by omega] at this
    · intro h i hi j hj
      exact h _ (by omega)

/-- What first returns. -/
def FirstEnd (D : Nat → Int) (w : World) (e : Ending) (w' : World) : Prop := ∃ c k : Nat, c < 8 ∧ k < 17 ∧ 0 < D (c * 17 + k) ∧ (∀ j, j < c * 17 + k → D j ≤ 0) ∧ e = .returned (.tuple #[.int .i64 c, .int .i64 k]) ∧ Below w.heap.size w w'

end Go.Proofs.YtoibolmippfcgaaDoor

/- ComesTo, Explains: contracts of both sides. -/
namespace Go.Proofs.YtoibolmippfcgaaDoor
open Go.RowKit

set_option maxRecDepth 100000 in
set_option maxHeartbeats 2000000 in
theorem specComesTo_any (c d X : Array Value) (r : Rf) (t D : Nat → Int) (w : World) (hR : IsRoof c r) (hT : IsRain d t) (hX : IsD X D) :
    Calls Tryd.prog 20 #[.agg c, .agg d, .agg X] w fun e w' => e = .returned (.tuple #[.agg (r.seenA t D true), .int .i64 (r.acode t D true)]) ∧ Below w.heap.size w w' := by
  have hz : Tryd.zeroCells47 = mkI .i32 136 (fun _ => 0) := by kernel_rfl
  have hzs : Tryd.zeroCells47.size = 136 := by rw [hz]; simp
  have hzo : Ones Tryd.zeroCells47 := by rw [hz]; exact (isK_mkI _ _ _).ones
  have HZ := Lib.hid hz
  clear hz
  have hAs : (r.seenA t D true).size = 136 := by simp [Rf.seenA]
  have hAo : Ones (r.seenA t D true) := (isK_mkI _ _ _).ones
  obtain ⟨cd, hcd⟩ : ∃ cd, cd = r.acode t D true := ⟨_, rfl⟩
  have CA := fun W h0 h1 h2 => l03Asked_any w.heap.size (w.heap.size + 1) (w.heap.size + 1 + 1) c d X r t D true W h0 hR h1 hT h2 hX
  unfold AskEnd at CA
  have hno := Rf.seenA_no (r := r) (t := t) (D := D) (fine := true)
  rw [← hcd] at CA hno
  obtain ⟨A, hA⟩ : ∃ A, A = r.seenA t D true := ⟨_, rfl⟩
  rw [← hA] at CA hAs hAo hno
  have HA := Lib.hid hA
  have HC := Lib.hid hcd
  have HN := Lib.hid hno
  clear hA hcd hno
  by_cases hz0 : cd = 0
  · subst hz0
    go_enter Tryd.func20, Tryd.ntmps20
    go_wp2_with fail
    refine gen_callsS fun W1 hW => ?_
    have p0 : rowAt W1 (w.heap.size) = some c := by rw [hW]; exact (rowAt_alloc_past _ _ _ (by first | omega | (simp; done) | (simp; omega))).trans ((rowAt_alloc_past _ _ _ (by first | omega | (simp; done) | (simp; omega))).trans ((rowAt_alloc_past _ _ _ (by first | omega | (simp; done) | (simp; omega))).trans (rowAt_alloc_at _ _ _ _ rfl)))
    have p1 : rowAt W1 (w.heap.size + 1) = some d := by rw [hW]; exact (rowAt_alloc_past _ _ _ (by first | omega | (simp; done) | (simp; omega))).trans ((rowAt_alloc_past _ _ _ (by first | omega | (simp; done) | (simp; omega))).trans (rowAt_alloc_at _ _ _ _ (by simp)))
    have p2 : rowAt W1 (w.heap.size + 1 + 1) = some X := by rw [hW]; exact (rowAt_alloc_past _ _ _ (by first | omega | (simp; done) | (simp; omega))).trans (rowAt_alloc_at _ _ _ _ (by simp))
    have p3 : rowAt W1 (w.heap.size + 1 + 1 + 1) = some Tryd.zeroCells47 := by rw [hW]; exact rowAt_alloc_at _ _ _ _ (by simp)
    have pB : Below w.heap.size w W1 := by rw [hW]; exact ((((Below.refl _ _).alloc (Nat.le_refl _) _).alloc (by first | omega | (simp; done) | (simp; omega)) _).alloc (by first | omega | (simp; done) | (simp; omega)) _).alloc (by first | omega | (simp; done) | (simp; omega)) _
    clear hW
    refine (CA _ p0 p1 p2).mono ?_
    rintro e w2 ⟨rfl, b2⟩
    have u3 := brow b2 p3
    have uB := bnext pB b2 pB.size
    have lt3 := rowAt_lt u3
    have hne : w2.heap.size ≠ w.heap.size + 1 + 1 + 1 := by omega
    clear b2 p0 p1 p2 p3 pB CA
    go_wp2_with fail
    refine bodyPost_ret (v := .tuple #[.agg A, .int .i64 0]) (results_row2 (m := 136) rfl _ _ (w.heap.size + 1 + 1 + 1) _ _ rfl rfl ((rowAt_alloc_past _ _ _ (by simpa using lt3)).trans (rowAt_setRow_at _ _ _ (by rw [u3]; rfl))) Tryd.underlying47 rfl (by kernel_rfl) hAs) rfl ⟨by rw [HA.out, ← HC.out], ?_⟩
    exact (below_setRow uB (by omega) _).alloc (by simpa using uB.size) _
  · have hc0 : (cd != 0) = true := by simpa using hz0
    have HAz := Lib.hid (HN.out hz0)
    clear hz0
    go_enter Tryd.func20, Tryd.ntmps20
    go_wp2_with fail
    refine gen_callsS fun W1 hW => ?_
    have p0 : rowAt W1 (w.heap.size) = some c := by rw [hW]; exact (rowAt_alloc_past _ _ _ (by first | omega | (simp; done) | (simp; omega))).trans ((rowAt_alloc_past _ _ _ (by first | omega | (simp; done) | (simp; omega))).trans ((rowAt_alloc_past _ _ _ (by first | omega | (simp; done) | (simp; omega))).trans (rowAt_alloc_at _ _ _ _ rfl)))
    have p1 : rowAt W1 (w.heap.size + 1) = some d := by rw [hW]; exact (rowAt_alloc_past _ _ _ (by first | omega | (simp; done) | (simp; omega))).trans ((rowAt_alloc_past _ _ _ (by first | omega | (simp; done) | (simp; omega))).trans (rowAt_alloc_at _ _ _ _ (by simp)))
    have p2 : rowAt W1 (w.heap.size + 1 + 1) = some X := by rw [hW]; exact (rowAt_alloc_past _ _ _ (by first | omega | (simp; done) | (simp; omega))).trans (rowAt_alloc_at _ _ _ _ (by simp))
    have p3 : rowAt W1 (w.heap.size + 1 + 1 + 1) = some Tryd.zeroCells47 := by rw [hW]; exact rowAt_alloc_at _ _ _ _ (by simp)
    have pB : Below w.heap.size w W1 := by rw [hW]; exact ((((Below.refl _ _).alloc (Nat.le_refl _) _).alloc (by first | omega | (simp; done) | (simp; omega)) _).alloc (by first | omega | (simp; done) | (simp; omega)) _).alloc (by first | omega | (simp; done) | (simp; omega)) _
    clear hW
    refine (CA _ p0 p1 p2).mono ?_
    rintro e w2 ⟨rfl, b2⟩
    have u3 := brow b2 p3
    have uB := bnext pB b2 pB.size
    have lt3 := rowAt_lt u3
    have hne : w2.heap.size ≠ w.heap.size + 1 + 1 + 1 := by omega
    clear b2 p0 p1 p2 p3 pB CA
    go_wp2_with fail
    refine bodyPost_ret (v := .tuple #[.agg Tryd.zeroCells47, .int .i64 cd]) (results_row2 (m := 136) rfl _ _ (w.heap.size + 1 + 1 + 1) _ _ rfl rfl ((rowAt_alloc_past _ _ _ (by simpa using lt3)).trans (rowAt_setRow_at _ _ _ (by rw [u3]; rfl))) Tryd.underlying47 rfl (by kernel_rfl) hzs) rfl ⟨by rw [← HA.out, HAz.out, HZ.out, HC.out], ?_⟩
    exact (below_setRow uB (by omega) _).alloc (by simpa using uB.size) _

/-- What look's code says where there are no places. -/
theorem Rf.look_code {r : Rf} {t D : Nat → Int} : (¬ r.Rains t ∧ r.acode t D true = 1) ∨ (r.Rains t ∧ ¬ r.Sound t D ∧ r.acode t D true = 4) ∨ (r.Rains t ∧ r.Sound t D ∧ r.acode t D true = 0) := by
  by_cases ho : r.Rains t
  · by_cases hs : r.Sound t D
    · exact .inr (.inr ⟨ho, hs, Rf.acode_in ho hs⟩)
    · exact .inr (.inl ⟨ho, hs, Rf.acode_uns ho hs⟩)
  · exact .inl ⟨ho, Rf.acode_no ho⟩
theorem isList_nil (w : World) (b : Nat) (f : Nat → Value) : IsList w b (.slice none 0 0) 2 0 f := .inl ⟨rfl, none, 0, rfl⟩
/-- look without places: an error with its code. -/
theorem look0_err {a : Nat → Addr} {c d X : Array Value} {r : Rf} {t D : Nat → Int} (hR : IsRoof c r) (hT : IsRain d t) (hX : IsD X D) (hz : r.acode t D true ≠ 0) :
    ∃ i, i < 6 ∧ ecode i = r.acode t D true ∧ ∀ w, Errs a w → Calls Tryd.prog 38 #[.agg c, .agg d, .agg X, .slice none 0 0] w fun e w' => e = .returned (.tuple #[.agg Tryd.zeroCells81, errV (a i)]) ∧ Below w.heap.size w w' := by
  rcases Rf.look_code (r := r) (t := t) (D := D) with ⟨ho, hc⟩ | ⟨ho, hs, hc⟩ | ⟨ho, hs, hc⟩
  · exact ⟨0, by omega, by rw [hc]; rfl, fun w hE => look_no a 0 0 c d X r t D (fun _ => 0) _ w hE hR hT hX (isList_nil _ _ _) (by omega) ho⟩
  · exact ⟨3, by omega, by rw [hc]; rfl, fun w hE => look_unsound a 0 0 c d X r t D (fun _ => 0) _ w hE hR hT hX (isList_nil _ _ _) (by omega) ho (r.okP_zero _) hs⟩
  · exact absurd hc hz
theorem look0_ok {a : Nat → Addr} {c d X : Array Value} {r : Rf} {t D : Nat → Int} (hR : IsRoof c r) (hT : IsRain d t) (hX : IsD X D) (hz : r.acode t D true = 0) (w : World) (hE : Errs a w) :
    Calls Tryd.prog 38 #[.agg c, .agg d, .agg X, .slice none 0 0] w (LookEnd w c X r t D) := by
  rcases Rf.look_code (r := r) (t := t) (D := D) with ⟨ho, hc⟩ | ⟨ho, hs, hc⟩ | ⟨ho, hs, hc⟩
  · omega
  · omega
  · exact look_ok a 0 0 c d X r t D (fun _ => 0) _ w hE hR hT hX (isList_nil _ _ _) (by omega) ho (r.okP_zero _) hs

set_option maxRecDepth 100000 in
set_option maxHeartbeats 2000000 in
theorem implComesTo_any (a : Nat → Addr) (c d X : Array Value) (r : Rf) (t D : Nat → Int) (w : World) (hR : IsRoof c r) (hT : IsRain d t) (hX : IsD X D) (hE : Errs a w) :
    Calls Tryd.prog 21 #[.agg c, .agg d, .agg X] w fun e w' => e = .returned (.tuple #[.agg (r.seenA t D true), .int .i64 (r.acode t D true)]) ∧ Below w.heap.size w w' := by
  have hxs := hX.size
  have hcs := hR.size
  have hds := hT.size
  have ne1 := neqNilE
  have ne0 := neqNil0
  have hss := zsight_size
  have hso := onesZ_sight
  have hz : Tryd.zeroCells47 = mkI .i32 136 (fun _ => 0) := by kernel_rfl
  have hzs : Tryd.zeroCells47.size = 136 := by rw [hz]; simp
  have hzo : Ones Tryd.zeroCells47 := by rw [hz]; exact (isK_mkI _ _ _).ones
  have HZ := Lib.hid hz
  clear hz
  have HE := Lib.hid hE
  clear hE
  by_cases hz0 : r.acode t D true = 0
  · have CL := fun w hE => look0_ok (a := a) hR hT hX hz0 w hE
    unfold LookEnd at CL
    have hYs : (mkI .i32 136 (r.seen t D)).size = 136 := by simp
    have hYo := (isK_mkI .i32 136 (r.seen t D)).ones
    have hSA := Rf.seenA_in hz0
    obtain ⟨Y, hY⟩ : ∃ Y, Y = mkI .i32 136 (r.seen t D) := ⟨_, rfl⟩
    rw [← hY] at CL hYs hYo hSA
    have HA := Lib.hid hSA
    have HC := Lib.hid hz0
    clear hSA hz0 hY
    go_enter Tryd.func21, Tryd.ntmps21
    go_wp2_with fail
    refine gen_callsS fun W1 hW => ?_
    have p0 : rowAt W1 (w.heap.size) = some c := by rw [hW]; exact (rowAt_alloc_past _ _ _ (by first | omega | (simp; done) | (simp; omega))).trans ((rowAt_alloc_past _ _ _ (by first | omega | (simp; done) | (simp; omega))).trans ((rowAt_alloc_past _ _ _ (by first | omega | (simp; done) | (simp; omega))).trans (rowAt_alloc_at _ _ _ _ rfl)))
    have p1 : rowAt W1 (w.heap.size + 1) = some d := by rw [hW]; exact (rowAt_alloc_past _ _ _ (by first | omega | (simp; done) | (simp; omega))).trans ((rowAt_alloc_past _ _ _ (by first | omega | (simp; done) | (simp; omega))).trans (rowAt_alloc_at _ _ _ _ (by simp)))
    have p2 : rowAt W1 (w.heap.size + 1 + 1) = some X := by rw [hW]; exact (rowAt_alloc_past _ _ _ (by first | omega | (simp; done) | (simp; omega))).trans (rowAt_alloc_at _ _ _ _ (by simp))
    have p3 : rowAt W1 (w.heap.size + 1 + 1 + 1) = some Tryd.zeroCells47 := by rw [hW]; exact rowAt_alloc_at _ _ _ _ (by simp)
    have pB : Below w.heap.size w W1 := by rw [hW]; exact ((((Below.refl _ _).alloc (Nat.le_refl _) _).alloc (by first | omega | (simp; done) | (simp; omega)) _).alloc (by first | omega | (simp; done) | (simp; omega)) _).alloc (by first | omega | (simp; done) | (simp; omega)) _
    clear hW
    refine (CL _ (HE.out.below pB)).mono ?_
    rintro e w2 ⟨B2, B3, rfl, _, _, _, _, b2⟩
    have hbs := hR.bare.size
    have hSs := sightC_size hbs hYs hxs (show (dripK B2 B3).size = 4 from rfl)
    have hSo := sightC_ones hbs hYs hxs (show (dripK B2 B3).size = 4 from rfl) hR.bare.ones hYo hX.ones (ones_dripK B2 B3)
    have hSc := sightC_comes hbs hYs hxs (show (dripK B2 B3).size = 4 from rfl)
    generalize sightC (bareC c) Y X (dripK B2 B3) = S at *
    have u3 := brow b2 p3
    have uB := bnext pB b2 pB.size
    have lt3 := rowAt_lt u3
    have hne : w2.heap.size ≠ w.heap.size + 1 + 1 + 1 := by omega
    clear b2 p0 p1 p2 p3 pB CL
    go_wp2_with fail
    refine bodyPost_ret (v := .tuple #[.agg Y, .int .i64 0]) (results_row2 (m := 136) rfl _ _ (w.heap.size + 1 + 1 + 1) _ _ rfl rfl ((rowAt_alloc_past _ _ _ (by simpa using lt3)).trans (rowAt_setRow_at _ _ _ (by rw [u3]; rfl))) Tryd.underlying47 rfl (by kernel_rfl) hYs) rfl ⟨by rw [HA.out, HC.out], ?_⟩
    exact (below_setRow uB (by omega) _).alloc (by simpa using uB.size) _
  · obtain ⟨i, hi, he, CL⟩ := look0_err (a := a) hR hT hX hz0
    have HAz := Lib.hid (Rf.seenA_no hz0)
    have HI := Lib.hid he
    have CLH := Lib.hid CL
    clear hz0 he CL
    go_enter Tryd.func21, Tryd.ntmps21
    go_wp2_with fail
    refine gen_callsS fun W1 hW => ?_
    have p0 : rowAt W1 (w.heap.size) = some c := by rw [hW]; exact (rowAt_alloc_past _ _ _ (by first | omega | (simp; done) | (simp; omega))).trans ((rowAt_alloc_past _ _ _ (by first | omega | (simp; done) | (simp; omega))).trans ((rowAt_alloc_past _ _ _ (by first | omega | (simp; done) | (simp; omega))).trans (rowAt_alloc_at _ _ _ _ rfl)))
    have p1 : rowAt W1 (w.heap.size + 1) = some d := by rw [hW]; exact (rowAt_alloc_past _ _ _ (by first | omega | (simp; done) | (simp; omega))).trans ((rowAt_alloc_past _ _ _ (by first | omega | (simp; done) | (simp; omega))).trans (rowAt_alloc_at _ _ _ _ (by simp)))
    have p2 : rowAt W1 (w.heap.size + 1 + 1) = some X := by rw [hW]; exact (rowAt_alloc_past _ _ _ (by first | omega | (simp; done) | (simp; omega))).trans (rowAt_alloc_at _ _ _ _ (by simp))
    have p3 : rowAt W1 (w.heap.size + 1 + 1 + 1) = some Tryd.zeroCells47 := by rw [hW]; exact rowAt_alloc_at _ _ _ _ (by simp)
    have pB : Below w.heap.size w W1 := by rw [hW]; exact ((((Below.refl _ _).alloc (Nat.le_refl _) _).alloc (by first | omega | (simp; done) | (simp; omega)) _).alloc (by first | omega | (simp; done) | (simp; omega)) _).alloc (by first | omega | (simp; done) | (simp; omega)) _
    clear hW
    refine (CLH.out _ (HE.out.below pB)).mono ?_
    rintro e w2 ⟨rfl, b2⟩
    have HE2 := Lib.hid ((HE.out.below pB).below b2)
    have u3 := brow b2 p3
    have uB := bnext pB b2 pB.size
    have lt3 := rowAt_lt u3
    have hne : w2.heap.size ≠ w.heap.size + 1 + 1 + 1 := by omega
    clear b2 p0 p1 p2 p3 pB
    go_wp2_with fail
    refine gen_callsS fun W3 hW => ?_
    have v3 : rowAt W3 (w.heap.size + 1 + 1 + 1) = some Tryd.zeroCells47 := by rw [hW]; exact (rowAt_alloc_past _ _ _ lt3).trans u3
    have vB : Below w.heap.size w W3 := by rw [hW]; exact uB.alloc uB.size _
    have HE3 := Lib.hid (show Errs a W3 by rw [hW]; exact HE2.out.below ((Below.refl _ _).alloc (Nat.le_refl _) _))
    clear hW u3 uB
    refine (leakCode_any a i _ HE3.out hi).mono ?_
    rintro e w4 ⟨rfl, rfl⟩
    go_wp2_with fail
    refine bodyPost_ret (v := .tuple #[.agg Tryd.zeroCells47, .int .i64 (ecode i)]) (results_row2 (m := 136) rfl _ _ (w.heap.size + 1 + 1 + 1) _ _ rfl rfl (rowAt_setRow_at _ _ _ (by rw [v3]; rfl)) Tryd.underlying47 rfl (by kernel_rfl) hzs) rfl ⟨by rw [HAz.out, HZ.out, HI.out], ?_⟩
    exact below_setRow vB (by omega) _
end Go.Proofs.YtoibolmippfcgaaDoor

/- Explains: contracts of both sides. -/
namespace Go.Proofs.YtoibolmippfcgaaDoor
open Go.RowKit

open Classical in
/-- Whether a roof has just these drips. -/
noncomputable def Rf.exB (r : Rf) (t D : Nat → Int) : Bool := decide (∀ i, i < 136 → r.drips t i = D i)
noncomputable def Rf.exV (r : Rf) (t D : Nat → Int) : Bool := if r.acode t D true = 0 then r.exB t D else false
set_option maxRecDepth 100000 in
theorem run_eq_ex {r : Rf} {t D : Nat → Int} {Y X : Array Value} (hY : IsK .i32 Y 136 (r.drips t)) (hX : IsD X D) (w : World) : (Op.equalIn 10000 47 (.agg Y) (.agg X)).run Tryd.prog w = .ok (r.exB t D) w := by
  obtain ⟨b, hb, hi⟩ := run_eq_drips Y X _ _ hY hX.isK w
  have hbe : b = r.exB t D := by
    rw [Bool.eq_iff_iff, hi]
    simp [Rf.exB]
  rw [← hbe]
  exact hb

set_option maxRecDepth 100000 in
set_option maxHeartbeats 2000000 in
theorem l03Explains_any (n0 n1 n2 : Nat) (c d X : Array Value) (r : Rf) (t D : Nat → Int) (w : World) (hr : rowAt w n0 = some c) (hR : IsRoof c r) (hd : rowAt w n1 = some d) (hT : IsRain d t) (he : rowAt w n2 = some X) (hX : IsD X D) (ho : r.Rains t) :
    Calls Tryd.prog 36 #[.pointer (some ⟨n0, 0, none⟩), .pointer (some ⟨n1, 0, none⟩), .pointer (some ⟨n2, 0, none⟩)] w fun e w' => e = .returned (.bool (r.exB t D)) ∧ Below w.heap.size w w' := by
  have lt2 := rowAt_lt he
  have hxs := hX.size
  have hz : Tryd.zeroCells47 = mkI .i32 136 (fun _ => 0) := by kernel_rfl
  have hzs : Tryd.zeroCells47.size = 136 := by rw [hz]; simp
  have hzo : Ones Tryd.zeroCells47 := by rw [hz]; exact (isK_mkI _ _ _).ones
  clear hz
  go_enter Tryd.func36, Tryd.ntmps36
  go_wp2_with fail
  refine (l02Run_any n0 n1 c d r t _ hr hR hd hT ho).mono ?_
  rintro e w1 ⟨v, rfl, hl, b1⟩
  have z2 : (mkI .i32 136 (r.drips t)).size = 136 := by simp
  have z3 : (mkI .i32 136 (r.comeAll t)).size = 136 := by simp
  have o2 := (isK_mkI .i32 136 (r.drips t)).ones
  have o3 := (isK_mkI .i32 136 (r.comeAll t)).ones
  have hYK := isK_mkI .i32 136 (r.drips t)
  generalize mkI .i32 136 (r.drips t) = Y at *
  generalize mkI .i32 136 (r.comeAll t) = Y2 at *
  have r2 := brow b1 he
  clear hl
  go_wp2_with fail
  refine gen_world fun W hW => ?_
  have q0 : rowAt W w1.heap.size = some Y := by rw [hW]; exact specRun2 _ _ _ _ _
  have q1 : rowAt W n2 = some X := by rw [hW]; exact (rowAt_alloc_past _ _ _ (by have := rowAt_lt r2; simp; omega)).trans ((rowAt_alloc_past _ _ _ (rowAt_lt r2)).trans r2)
  have qB : Below w.heap.size w W := by rw [hW]; exact (b1.alloc b1.size _).alloc (by have := b1.size; simp; omega) _
  have heq := fun W : World => run_eq_ex hYK hX W
  clear hW b1 o2 o3 z3 hzs hzo r2
  refine wp_region_held_drew (S := (fun w' => rowAt w' w1.heap.size = some Y ∧ rowAt w' n2 = some X ∧ Below w.heap.size w w' ∧ w.heap.size ≤ w'.heap.size)) (by kernel_rfl) (⟨q0, q1, qB.drew, qB.size⟩) (fun hH => ?_)
  refine wpAnyH_take (i := 0) (v := .agg Y) rfl (by kernel_rfl) (by kernel_rfl) (by kernel_rfl) (fun _ _ _ h => h) (Or.inl ⟨by rfl, ?_⟩) hH ?_
  · intro w1 hS; (try dsimp only at hS); obtain ⟨s0, s1, _, _⟩ := hS; go_simp
  (try simp only [List.getElem_toArray]); (try simp only [List.getElem_cons_succ]); (try simp only [List.getElem_cons_zero]); (try simp only [Act.put]); (try simp only [List.setIfInBounds_toArray]); (try simp only [List.set_cons_succ]); (try simp only [List.set_cons_zero])
  refine wpAnyH_take (i := 1) (v := .pointer (some ⟨n2, 0, none⟩)) rfl (by kernel_rfl) (by kernel_rfl) (by kernel_rfl) (fun _ _ _ h => h) (Or.inl ⟨by rfl, ?_⟩) hH ?_
  · intro w1 hS; (try dsimp only at hS); obtain ⟨s0, s1, _, _⟩ := hS; go_simp
  (try simp only [List.getElem_toArray]); (try simp only [List.getElem_cons_succ]); (try simp only [List.getElem_cons_zero]); (try simp only [Act.put]); (try simp only [List.setIfInBounds_toArray]); (try simp only [List.set_cons_succ]); (try simp only [List.set_cons_zero])
  refine wpAnyH_take (i := 2) (v := .pointer (some ⟨n2, 0, none⟩)) rfl (by kernel_rfl) (by kernel_rfl) (by kernel_rfl) (fun _ _ _ h => h) (Or.inl ⟨by rfl, ?_⟩) hH ?_
  · intro w1 hS; (try dsimp only at hS); obtain ⟨s0, s1, _, _⟩ := hS; go_simp
  (try simp only [List.getElem_toArray]); (try simp only [List.getElem_cons_succ]); (try simp only [List.getElem_cons_zero]); (try simp only [Act.put]); (try simp only [List.setIfInBounds_toArray]); (try simp only [List.set_cons_succ]); (try simp only [List.set_cons_zero])
  refine wpAnyH_take (i := 3) (v := .agg X) rfl (by kernel_rfl) (by kernel_rfl) (by kernel_rfl) (fun _ _ _ h => h) (Or.inl ⟨by rfl, ?_⟩) hH ?_
  · intro w1 hS; (try dsimp only at hS); obtain ⟨s0, s1, _, _⟩ := hS; go_simp
  (try simp only [List.getElem_toArray]); (try simp only [List.getElem_cons_succ]); (try simp only [List.getElem_cons_zero]); (try simp only [Act.put]); (try simp only [List.setIfInBounds_toArray]); (try simp only [List.set_cons_succ]); (try simp only [List.set_cons_zero])
  refine wpAnyH_take (i := 4) (v := .bool (r.exB t D)) rfl (by kernel_rfl) (by kernel_rfl) (by kernel_rfl) (fun _ _ _ h => h) (Or.inl ⟨by rfl, ?_⟩) hH ?_
  · intro w1 hS; (try dsimp only at hS); go_simp
  (try simp only [List.getElem_toArray]); (try simp only [List.getElem_cons_succ]); (try simp only [List.getElem_cons_zero]); (try simp only [Act.put]); (try simp only [List.setIfInBounds_toArray]); (try simp only [List.set_cons_succ]); (try simp only [List.set_cons_zero])
  refine wpAnyH_take (i := 5) (v := .bool (r.exB t D)) rfl (by kernel_rfl) (by kernel_rfl) (by kernel_rfl) (fun _ _ _ h => h) (Or.inl ⟨by rfl, ?_⟩) hH ?_
  · intro w1 hS; (try dsimp only at hS); go_simp
  (try simp only [List.getElem_toArray]); (try simp only [List.getElem_cons_succ]); (try simp only [List.getElem_cons_zero]); (try simp only [Act.put]); (try simp only [List.setIfInBounds_toArray]); (try simp only [List.set_cons_succ]); (try simp only [List.set_cons_zero])
  refine wpAnyH_done (by kernel_rfl) ?_ _
  go_wp2_with fail
  go_ret
  exact ⟨rfl, hH.2.2.1⟩

set_option maxRecDepth 100000 in
set_option maxHeartbeats 2000000 in
theorem specExplains_any (c d X : Array Value) (r : Rf) (t D : Nat → Int) (w : World) (hR : IsRoof c r) (hT : IsRain d t) (hX : IsD X D) :
    Calls Tryd.prog 17 #[.agg c, .agg d, .agg X] w fun e w' => e = .returned (.tuple #[.bool (r.exV t D), .int .i64 (r.acode t D true)]) ∧ Below w.heap.size w w' := by
  have hz : Tryd.zeroCells47 = mkI .i32 136 (fun _ => 0) := by kernel_rfl
  have hzs : Tryd.zeroCells47.size = 136 := by rw [hz]; simp
  have hzo : Ones Tryd.zeroCells47 := by rw [hz]; exact (isK_mkI _ _ _).ones
  clear hz
  have hAs : (r.seenA t D true).size = 136 := by simp [Rf.seenA]
  have hAo : Ones (r.seenA t D true) := (isK_mkI _ _ _).ones
  have hpos : r.acode t D true = 0 → r.Rains t := fun h => by
    rcases Rf.look_code (r := r) (t := t) (D := D) with ⟨_, hc⟩ | ⟨_, _, hc⟩ | ⟨ho, _, _⟩
    · omega
    · omega
    · exact ho
  obtain ⟨cd, hcd⟩ : ∃ cd, cd = r.acode t D true := ⟨_, rfl⟩
  have CA := fun W h0 h1 h2 => l03Asked_any w.heap.size (w.heap.size + 1) (w.heap.size + 1 + 1) c d X r t D true W h0 hR h1 hT h2 hX
  unfold AskEnd at CA
  rw [← hcd] at CA hpos
  generalize r.seenA t D true = A at *
  have HC := Lib.hid hcd
  by_cases hz0 : cd = 0
  · have ho := hpos hz0
    have HV : Hid (r.exV t D = r.exB t D) := Lib.hid (if_pos (by omega))
    have CX := fun W h0 h1 h2 => l03Explains_any w.heap.size (w.heap.size + 1) (w.heap.size + 1 + 1) c d X r t D W h0 hR h1 hT h2 hX ho
    subst hz0
    clear hcd hpos
    go_enter Tryd.func17, Tryd.ntmps17
    go_wp2_with fail
    refine gen_callsS fun W1 hW => ?_
    have p0 : rowAt W1 (w.heap.size) = some c := by rw [hW]; exact (rowAt_alloc_past _ _ _ (by first | omega | (simp; done) | (simp; omega))).trans ((rowAt_alloc_past _ _ _ (by first | omega | (simp; done) | (simp; omega))).trans (rowAt_alloc_at _ _ _ _ rfl))
    have p1 : rowAt W1 (w.heap.size + 1) = some d := by rw [hW]; exact (rowAt_alloc_past _ _ _ (by first | omega | (simp; done) | (simp; omega))).trans (rowAt_alloc_at _ _ _ _ (by simp))
    have p2 : rowAt W1 (w.heap.size + 1 + 1) = some X := by rw [hW]; exact rowAt_alloc_at _ _ _ _ (by simp)
    have pB : Below w.heap.size w W1 := by rw [hW]; exact (((Below.refl _ _).alloc (Nat.le_refl _) _).alloc (by first | omega | (simp; done) | (simp; omega)) _).alloc (by first | omega | (simp; done) | (simp; omega)) _
    clear hW
    refine (CA _ p0 p1 p2).mono ?_
    rintro e w2 ⟨rfl, b2⟩
    have u0 := brow b2 p0
    have u1 := brow b2 p1
    have u2 := brow b2 p2
    have uB := bnext pB b2 pB.size
    clear b2 p0 p1 p2 pB CA
    go_wp2_with fail
    refine gen_callsS fun W3 hW => ?_
    have v0 : rowAt W3 w.heap.size = some c := by rw [hW]; exact (rowAt_alloc_past _ _ _ (rowAt_lt u0)).trans u0
    have v1 : rowAt W3 (w.heap.size + 1) = some d := by rw [hW]; exact (rowAt_alloc_past _ _ _ (rowAt_lt u1)).trans u1
    have v2 : rowAt W3 (w.heap.size + 1 + 1) = some X := by rw [hW]; exact (rowAt_alloc_past _ _ _ (rowAt_lt u2)).trans u2
    have vB : Below w.heap.size w W3 := by rw [hW]; exact uB.alloc uB.size _
    clear hW u0 u1 u2 uB
    refine (CX _ v0 v1 v2).mono ?_
    rintro e w4 ⟨rfl, b4⟩
    have B4 := bnext vB b4 vB.size
    clear b4 v0 v1 v2 vB CX
    go_wp2_with fail
    go_ret2
    exact ⟨by rw [HV.out, ← HC.out]; rfl, B4⟩
  · have HV : Hid (r.exV t D = false) := Lib.hid (if_neg (by omega))
    have hc0 : (cd != 0) = true := by simpa using hz0
    clear hcd hz0 hpos
    go_enter Tryd.func17, Tryd.ntmps17
    go_wp2_with fail
    refine gen_callsS fun W1 hW => ?_
    have p0 : rowAt W1 (w.heap.size) = some c := by rw [hW]; exact (rowAt_alloc_past _ _ _ (by first | omega | (simp; done) | (simp; omega))).trans ((rowAt_alloc_past _ _ _ (by first | omega | (simp; done) | (simp; omega))).trans (rowAt_alloc_at _ _ _ _ rfl))
    have p1 : rowAt W1 (w.heap.size + 1) = some d := by rw [hW]; exact (rowAt_alloc_past _ _ _ (by first | omega | (simp; done) | (simp; omega))).trans (rowAt_alloc_at _ _ _ _ (by simp))
    have p2 : rowAt W1 (w.heap.size + 1 + 1) = some X := by rw [hW]; exact rowAt_alloc_at _ _ _ _ (by simp)
    have pB : Below w.heap.size w W1 := by rw [hW]; exact (((Below.refl _ _).alloc (Nat.le_refl _) _).alloc (by first | omega | (simp; done) | (simp; omega)) _).alloc (by first | omega | (simp; done) | (simp; omega)) _
    clear hW
    refine (CA _ p0 p1 p2).mono ?_
    rintro e w2 ⟨rfl, b2⟩
    have uB := bnext pB b2 pB.size
    clear b2 p0 p1 p2 pB CA
    go_wp2_with fail
    go_ret2
    exact ⟨by rw [HV.out, ← HC.out]; rfl, uB.alloc uB.size _⟩

set_option maxRecDepth 100000 in
set_option maxHeartbeats 2000000 in
theorem implExplains_any (a : Nat → Addr) (c d X : Array Value) (r : Rf) (t D : Nat → Int) (w : World) (hR : IsRoof c r) (hT : IsRain d t) (hX : IsD X D) (hE : Errs a w) :
    Calls Tryd.prog 19 #[.agg c, .agg d, .agg X] w fun e w' => e = .returned (.tuple #[.bool (r.exV t D), .int .i64 (r.acode t D true)]) ∧ Below w.heap.size w w' := by
  have hxs := hX.size
  have hcs := hR.size
  have hds := hT.size
  have ne1 := neqNilE
  have ne0 := neqNil0
  have hss := zsight_size
  have hso := onesZ_sight
  have HE := Lib.hid hE
  clear hE
  by_cases hz0 : r.acode t D true = 0
  · have ho : r.Rains t := by
      rcases Rf.look_code (r := r) (t := t) (D := D) with ⟨_, hc⟩ | ⟨_, _, hc⟩ | ⟨ho, _, _⟩
      · omega
      · omega
      · exact ho
    have CL := fun w hE => look0_ok (a := a) hR hT hX hz0 w hE
    unfold LookEnd at CL
    have hYs : (mkI .i32 136 (r.seen t D)).size = 136 := by simp
    have hYo := (isK_mkI .i32 136 (r.seen t D)).ones
    have HV : Hid (r.exV t D = r.exB t D) := Lib.hid (if_pos hz0)
    have HC := Lib.hid hz0
    have CR := fun w => runDown_any c d r t w hR hT ho
    have hF := isFlow_mkF (r.comes t) (r.drips t)
    have hFe := hF.dripsK
    have hFs := hF.size
    have hYK := isK_mkI .i32 136 (r.drips t)
    clear hF
    generalize mkF (r.comes t) (r.drips t) = F at *
    generalize mkI .i32 136 (r.seen t D) = Y0 at *
    generalize mkI .i32 136 (r.drips t) = Y at *
    have heq := fun W : World => run_eq_ex hYK hX W
    clear hz0
    go_enter Tryd.func19, Tryd.ntmps19
    go_wp2_with fail
    refine gen_callsS fun W1 hW => ?_
    have p0 : rowAt W1 (w.heap.size) = some c := by rw [hW]; exact (rowAt_alloc_past _ _ _ (by first | omega | (simp; done) | (simp; omega))).trans ((rowAt_alloc_past _ _ _ (by first | omega | (simp; done) | (simp; omega))).trans (rowAt_alloc_at _ _ _ _ rfl))
    have p1 : rowAt W1 (w.heap.size + 1) = some d := by rw [hW]; exact (rowAt_alloc_past _ _ _ (by first | omega | (simp; done) | (simp; omega))).trans (rowAt_alloc_at _ _ _ _ (by simp))
    have p2 : rowAt W1 (w.heap.size + 1 + 1) = some X := by rw [hW]; exact rowAt_alloc_at _ _ _ _ (by simp)
    have pB : Below w.heap.size w W1 := by rw [hW]; exact (((Below.refl _ _).alloc (Nat.le_refl _) _).alloc (by first | omega | (simp; done) | (simp; omega)) _).alloc (by first | omega | (simp; done) | (simp; omega)) _
    clear hW
    refine (CL _ (HE.out.below pB)).mono ?_
    rintro e w2 ⟨B2, B3, rfl, _, _, _, _, b2⟩
    have hbs := hR.bare.size
    have hSs := sightC_size hbs hYs hxs (show (dripK B2 B3).size = 4 from rfl)
    have hSo := sightC_ones hbs hYs hxs (show (dripK B2 B3).size = 4 from rfl) hR.bare.ones hYo hX.ones (ones_dripK B2 B3)
    generalize sightC (bareC c) Y0 X (dripK B2 B3) = S at *
    have u0 := brow b2 p0
    have u1 := brow b2 p1
    have u2 := brow b2 p2
    have uB := bnext pB b2 pB.size
    clear b2 p0 p1 p2 pB CL
    go_wp2_with fail
    refine gen_world fun W3 hW => ?_
    have v0 : rowAt W3 w.heap.size = some c := by rw [hW]; exact (rowAt_alloc_past _ _ _ (rowAt_lt u0)).trans u0
    have v1 : rowAt W3 (w.heap.size + 1) = some d := by rw [hW]; exact (rowAt_alloc_past _ _ _ (rowAt_lt u1)).trans u1
    have v2 : rowAt W3 (w.heap.size + 1 + 1) = some X := by rw [hW]; exact (rowAt_alloc_past _ _ _ (rowAt_lt u2)).trans u2
    have vB : Below w.heap.size w W3 := by rw [hW]; exact uB.alloc uB.size _
    clear hW u0 u1 u2 uB hSs hSo
    refine wp_region_held_drew (S := (fun w' => rowAt w' w.heap.size = some c ∧ rowAt w' (w.heap.size + 1) = some d ∧ rowAt w' (w.heap.size + 1 + 1) = some X ∧ Below w.heap.size w w' ∧ w.heap.size ≤ w'.heap.size)) (by kernel_rfl) (⟨v0, v1, v2, vB.drew, vB.size⟩) (fun hH => ?_)
    refine wpAnyH_take (i := 0) (v := .agg c) rfl (by kernel_rfl) (by kernel_rfl) (by kernel_rfl) (fun _ _ _ h => h) (Or.inl ⟨by rfl, ?_⟩) hH ?_
    · intro w1 hS; (try dsimp only at hS); obtain ⟨u0, u1, u2, _⟩ := hS; go_simp
    (try simp only [List.getElem_toArray]); (try simp only [List.getElem_cons_succ]); (try simp only [List.getElem_cons_zero]); (try simp only [Act.put]); (try simp only [List.setIfInBounds_toArray]); (try simp only [List.set_cons_succ]); (try simp only [List.set_cons_zero])
    refine wpAnyH_take (i := 1) (v := .agg d) rfl (by kernel_rfl) (by kernel_rfl) (by kernel_rfl) (fun _ _ _ h => h) (Or.inl ⟨by rfl, ?_⟩) hH ?_
    · intro w1 hS; (try dsimp only at hS); obtain ⟨u0, u1, u2, _⟩ := hS; go_simp
    (try simp only [List.getElem_toArray]); (try simp only [List.getElem_cons_succ]); (try simp only [List.getElem_cons_zero]); (try simp only [Act.put]); (try simp only [List.setIfInBounds_toArray]); (try simp only [List.set_cons_succ]); (try simp only [List.set_cons_zero])
    refine wpAnyH_take (i := 4) (v := .agg X) rfl (by kernel_rfl) (by kernel_rfl) (by kernel_rfl) (fun _ _ _ h => h) (Or.inl ⟨by rfl, ?_⟩) hH ?_
    · intro w1 hS; (try dsimp only at hS); obtain ⟨u0, u1, u2, _⟩ := hS; go_simp
    (try simp only [List.getElem_toArray]); (try simp only [List.getElem_cons_succ]); (try simp only [List.getElem_cons_zero]); (try simp only [Act.put]); (try simp only [List.setIfInBounds_toArray]); (try simp only [List.set_cons_succ]); (try simp only [List.set_cons_zero])
    refine wpAnyH_ready (rs := [2]) (by kernel_rfl) (by simp) (AllReadyH.cons rfl (fun K hK => ?_) AllReadyH.nil)
    go_simp
    refine (CR _).mono ?_
    rintro x wx ⟨rfl, bx⟩
    go_simp
    refine hK.out _ _ (keep3 bx hH) (fun hG => ?_)
    clear hK K hH bx
    replace hH := hG
    clear hG
    (try simp only [List.getElem_toArray]); (try simp only [List.getElem_cons_succ]); (try simp only [List.getElem_cons_zero]); (try simp only [Act.put]); (try simp only [List.setIfInBounds_toArray]); (try simp only [List.set_cons_succ]); (try simp only [List.set_cons_zero])
    refine wpAnyH_take (i := 3) (v := .agg Y) rfl (by kernel_rfl) (by kernel_rfl) (by kernel_rfl) (fun _ _ _ h => h) (Or.inl ⟨by rfl, ?_⟩) hH ?_
    · intro w1 hS; (try dsimp only at hS); go_simp; (try rw [hFe])
    (try simp only [List.getElem_toArray]); (try simp only [List.getElem_cons_succ]); (try simp only [List.getElem_cons_zero]); (try simp only [Act.put]); (try simp only [List.setIfInBounds_toArray]); (try simp only [List.set_cons_succ]); (try simp only [List.set_cons_zero])
    refine wpAnyH_take (i := 5) (v := .bool (r.exB t D)) rfl (by kernel_rfl) (by kernel_rfl) (by kernel_rfl) (fun _ _ _ h => h) (Or.inl ⟨by rfl, ?_⟩) hH ?_
    · intro w1 hS; (try dsimp only at hS); go_simp
    (try simp only [List.getElem_toArray]); (try simp only [List.getElem_cons_succ]); (try simp only [List.getElem_cons_zero]); (try simp only [Act.put]); (try simp only [List.setIfInBounds_toArray]); (try simp only [List.set_cons_succ]); (try simp only [List.set_cons_zero])
    refine wpAnyH_take (i := 6) (v := .bool (r.exB t D)) rfl (by kernel_rfl) (by kernel_rfl) (by kernel_rfl) (fun _ _ _ h => h) (Or.inl ⟨by rfl, ?_⟩) hH ?_
    · intro w1 hS; (try dsimp only at hS); go_simp
    (try simp only [List.getElem_toArray]); (try simp only [List.getElem_cons_succ]); (try simp only [List.getElem_cons_zero]); (try simp only [Act.put]); (try simp only [List.setIfInBounds_toArray]); (try simp only [List.set_cons_succ]); (try simp only [List.set_cons_zero])
    refine wpAnyH_take (i := 7) (v := .int .i64 0) rfl (by kernel_rfl) (by kernel_rfl) (by kernel_rfl) (fun _ _ _ h => h) (Or.inl ⟨by rfl, ?_⟩) hH ?_
    · intro w1 hS; (try dsimp only at hS); go_simp
    (try simp only [List.getElem_toArray]); (try simp only [List.getElem_cons_succ]); (try simp only [List.getElem_cons_zero]); (try simp only [Act.put]); (try simp only [List.setIfInBounds_toArray]); (try simp only [List.set_cons_succ]); (try simp only [List.set_cons_zero])
    refine wpAnyH_done (by kernel_rfl) ?_ _
    go_wp2_with fail
    go_ret2
    exact ⟨by rw [HV.out, HC.out]; rfl, hH.2.2.2.1⟩
  · obtain ⟨i, hi, he, CL⟩ := look0_err (a := a) hR hT hX hz0
    have HV : Hid (r.exV t D = false) := Lib.hid (if_neg hz0)
    have HI := Lib.hid he
    have CLH := Lib.hid CL
    clear hz0 he CL
    go_enter Tryd.func19, Tryd.ntmps19
    go_wp2_with fail
    refine gen_callsS fun W1 hW => ?_
    have p0 : rowAt W1 (w.heap.size) = some c := by rw [hW]; exact (rowAt_alloc_past _ _ _ (by first | omega | (simp; done) | (simp; omega))).trans ((rowAt_alloc_past _ _ _ (by first | omega | (simp; done) | (simp; omega))).trans (rowAt_alloc_at _ _ _ _ rfl))
    have p1 : rowAt W1 (w.heap.size + 1) = some d := by rw [hW]; exact (rowAt_alloc_past _ _ _ (by first | omega | (simp; done) | (simp; omega))).trans (rowAt_alloc_at _ _ _ _ (by simp))
    have p2 : rowAt W1 (w.heap.size + 1 + 1) = some X := by rw [hW]; exact rowAt_alloc_at _ _ _ _ (by simp)
    have pB : Below w.heap.size w W1 := by rw [hW]; exact (((Below.refl _ _).alloc (Nat.le_refl _) _).alloc (by first | omega | (simp; done) | (simp; omega)) _).alloc (by first | omega | (simp; done) | (simp; omega)) _
    clear hW
    refine (CLH.out _ (HE.out.below pB)).mono ?_
    rintro e w2 ⟨rfl, b2⟩
    have HE2 := Lib.hid ((HE.out.below pB).below b2)
    have uB := bnext pB b2 pB.size
    clear b2 p0 p1 p2 pB
    go_wp2_with fail
    refine gen_callsS fun W3 hW => ?_
    have vB : Below w.heap.size w W3 := by rw [hW]; exact uB.alloc uB.size _
    have HE3 := Lib.hid (show Errs a W3 by rw [hW]; exact HE2.out.below ((Below.refl _ _).alloc (Nat.le_refl _) _))
    clear hW uB
    refine (leakCode_any a i _ HE3.out hi).mono ?_
    rintro e w4 ⟨rfl, rfl⟩
    go_wp2_with fail
    go_ret2
    exact ⟨by rw [HV.out, ← HI.out]; rfl, vB⟩
end Go.Proofs.YtoibolmippfcgaaDoor

/- laws.FnExactExplains returns true for every roof, rain and drips, and leaves them as they were. The sentinels stand in package-level variables: they are listed, and tied by the card. -/
namespace Go.Proofs.YtoibolmippfcgaaDoor
open Go.RowKit

set_option maxRecDepth 100000 in
set_option maxHeartbeats 4000000 in
theorem law_walk_FnExactExplains (a : Nat → Addr) {w : World} {c : Array Value} {r : Rf} (hR : IsRoof c r) {d : Array Value} {t : Nat → Int} (hT : IsRain d t) {X : Array Value} {D : Nat → Int} (hX : IsD X D) (hE : Errs a w) :
    Calls Tryd.prog 5 #[.agg c, .agg d, .agg X] w fun e w' => e = .returned (.bool true) ∧ Below w.heap.size w w' := by
  have pb := boxes3 w c d X 26 28 45
  have hc := hR.size
  have hd := hT.size
  have hxs := hX.size
  have HE := Lib.hid hE
  clear hE
  have CS := fun W => specExplains_any c d X r t D W hR hT hX
  have CI := fun W hE => implExplains_any a c d X r t D W hR hT hX hE
  have hne0 : (r.exV t D != r.exV t D) = false := by simp
  have hne1 : (r.acode t D true != r.acode t D true) = false := by simp
  generalize r.exV t D = v0 at *
  generalize r.acode t D true = v1 at *
  go_enter Tryd.func5, Tryd.ntmps5
  go_wp2_with fail
  refine gen_world fun W hW => ?_
  rw [← hW] at pb
  clear hW
  refine wp_region_held_drew (S := (fun w' => Boxes (w.heap.size + 1 + 1 + 1) w [(w.heap.size + 1 + 1, X), (w.heap.size + 1, d), (w.heap.size, c)] w')) (by kernel_rfl) (pb.drew) (fun hH => ?_)
  refine wpAnyH_take (i := 0) (v := .agg c) rfl (by kernel_rfl) (by kernel_rfl) (by kernel_rfl) (fun _ _ _ h => h) (Or.inl ⟨by rfl, ?_⟩) hH ?_
  · intro w1 hS; (try dsimp only at hS); have s0 := hS.rows (w.heap.size, c) (by simp); have s1 := hS.rows (w.heap.size + 1, d) (by simp); have s2 := hS.rows (w.heap.size + 1 + 1, X) (by simp); dsimp only at s0 s1 s2; go_simp
  (try simp only [List.getElem_toArray]); (try simp only [List.getElem_cons_succ]); (try simp only [List.getElem_cons_zero]); (try simp only [Act.put]); (try simp only [List.setIfInBounds_toArray]); (try simp only [List.set_cons_succ]); (try simp only [List.set_cons_zero])
  refine wpAnyH_take (i := 2) (v := .agg d) rfl (by kernel_rfl) (by kernel_rfl) (by kernel_rfl) (fun _ _ _ h => h) (Or.inl ⟨by rfl, ?_⟩) hH ?_
  · intro w1 hS; (try dsimp only at hS); have s0 := hS.rows (w.heap.size, c) (by simp); have s1 := hS.rows (w.heap.size + 1, d) (by simp); have s2 := hS.rows (w.heap.size + 1 + 1, X) (by simp); dsimp only at s0 s1 s2; go_simp
  (try simp only [List.getElem_toArray]); (try simp only [List.getElem_cons_succ]); (try simp only [List.getElem_cons_zero]); (try simp only [Act.put]); (try simp only [List.setIfInBounds_toArray]); (try simp only [List.set_cons_succ]); (try simp only [List.set_cons_zero])
  refine wpAnyH_take (i := 4) (v := .agg X) rfl (by kernel_rfl) (by kernel_rfl) (by kernel_rfl) (fun _ _ _ h => h) (Or.inl ⟨by rfl, ?_⟩) hH ?_
  · intro w1 hS; (try dsimp only at hS); have s0 := hS.rows (w.heap.size, c) (by simp); have s1 := hS.rows (w.heap.size + 1, d) (by simp); have s2 := hS.rows (w.heap.size + 1 + 1, X) (by simp); dsimp only at s0 s1 s2; go_simp
  (try simp only [List.getElem_toArray]); (try simp only [List.getElem_cons_succ]); (try simp only [List.getElem_cons_zero]); (try simp only [Act.put]); (try simp only [List.setIfInBounds_toArray]); (try simp only [List.set_cons_succ]); (try simp only [List.set_cons_zero])
  refine wpAnyH_ready (rs := [1]) (by kernel_rfl) (by simp) (AllReadyH.cons rfl (fun K hK => ?_) AllReadyH.nil)
  go_simp
  refine (toRoof_any c r _ hR).mono ?_
  rintro x wx ⟨rfl, bx⟩
  go_simp
  refine hK.out _ _ (hH.call bx) (fun hG => ?_)
  clear hK K hH bx
  replace hH := hG
  clear hG
  (try simp only [List.getElem_toArray]); (try simp only [List.getElem_cons_succ]); (try simp only [List.getElem_cons_zero]); (try simp only [Act.put]); (try simp only [List.setIfInBounds_toArray]); (try simp only [List.set_cons_succ]); (try simp only [List.set_cons_zero])
  refine wpAnyH_ready (rs := [3]) (by kernel_rfl) (by simp) (AllReadyH.cons rfl (fun K hK => ?_) AllReadyH.nil)
  go_simp
  refine (toRain_any d t _ hT).mono ?_
  rintro x wx ⟨rfl, bx⟩
  go_simp
  refine hK.out _ _ (hH.call bx) (fun hG => ?_)
  clear hK K hH bx
  replace hH := hG
  clear hG
  (try simp only [List.getElem_toArray]); (try simp only [List.getElem_cons_succ]); (try simp only [List.getElem_cons_zero]); (try simp only [Act.put]); (try simp only [List.setIfInBounds_toArray]); (try simp only [List.set_cons_succ]); (try simp only [List.set_cons_zero])
  refine wpAnyH_ready (rs := [5]) (by kernel_rfl) (by simp) (AllReadyH.cons rfl (fun K hK => ?_) AllReadyH.nil)
  go_simp
  refine (toDrips_any X D _ hX).mono ?_
  rintro x wx ⟨rfl, bx⟩
  go_simp
  refine hK.out _ _ (hH.call bx) (fun hG => ?_)
  clear hK K hH bx
  replace hH := hG
  clear hG
  (try simp only [List.getElem_toArray]); (try simp only [List.getElem_cons_succ]); (try simp only [List.getElem_cons_zero]); (try simp only [Act.put]); (try simp only [List.setIfInBounds_toArray]); (try simp only [List.set_cons_succ]); (try simp only [List.set_cons_zero])
  refine wpAnyH_ready (rs := [6]) (by kernel_rfl) (by simp) (AllReadyH.cons rfl (fun K hK => ?_) AllReadyH.nil)
  go_simp
  refine (CS _).mono ?_
  rintro x wx ⟨rfl, bx⟩
  go_simp
  refine hK.out _ _ (hH.call bx) (fun hG => ?_)
  clear hK K hH bx
  replace hH := hG
  clear hG
  (try simp only [List.getElem_toArray]); (try simp only [List.getElem_cons_succ]); (try simp only [List.getElem_cons_zero]); (try simp only [Act.put]); (try simp only [List.setIfInBounds_toArray]); (try simp only [List.set_cons_succ]); (try simp only [List.set_cons_zero])
  refine wpAnyH_take (i := 7) (v := .tuple #[.bool v0, .int .i64 v1]) rfl (by kernel_rfl) (by kernel_rfl) (by kernel_rfl) (fun _ _ _ h => h) (Or.inl ⟨by rfl, ?_⟩) hH ?_
  · intro w1 hS; (try dsimp only at hS); go_simp
  (try simp only [List.getElem_toArray]); (try simp only [List.getElem_cons_succ]); (try simp only [List.getElem_cons_zero]); (try simp only [Act.put]); (try simp only [List.setIfInBounds_toArray]); (try simp only [List.set_cons_succ]); (try simp only [List.set_cons_zero])
  refine wpAnyH_take (i := 8) (v := .bool v0) rfl (by kernel_rfl) (by kernel_rfl) (by kernel_rfl) (fun _ _ _ h => h) (Or.inl ⟨by rfl, ?_⟩) hH ?_
  · intro w1 hS; (try dsimp only at hS); go_simp
  (try simp only [List.getElem_toArray]); (try simp only [List.getElem_cons_succ]); (try simp only [List.getElem_cons_zero]); (try simp only [Act.put]); (try simp only [List.setIfInBounds_toArray]); (try simp only [List.set_cons_succ]); (try simp only [List.set_cons_zero])
  refine wpAnyH_take (i := 9) (v := .int .i64 v1) rfl (by kernel_rfl) (by kernel_rfl) (by kernel_rfl) (fun _ _ _ h => h) (Or.inl ⟨by rfl, ?_⟩) hH ?_
  · intro w1 hS; (try dsimp only at hS); go_simp
  (try simp only [List.getElem_toArray]); (try simp only [List.getElem_cons_succ]); (try simp only [List.getElem_cons_zero]); (try simp only [Act.put]); (try simp only [List.setIfInBounds_toArray]); (try simp only [List.set_cons_succ]); (try simp only [List.set_cons_zero])
  refine wpAnyH_take (i := 10) (v := .bool v0) rfl (by kernel_rfl) (by kernel_rfl) (by kernel_rfl) (fun _ _ _ h => h) (Or.inl ⟨by rfl, ?_⟩) hH ?_
  · intro w1 hS; (try dsimp only at hS); go_simp
  (try simp only [List.getElem_toArray]); (try simp only [List.getElem_cons_succ]); (try simp only [List.getElem_cons_zero]); (try simp only [Act.put]); (try simp only [List.setIfInBounds_toArray]); (try simp only [List.set_cons_succ]); (try simp only [List.set_cons_zero])
  refine wpAnyH_take (i := 11) (v := .int .i64 v1) rfl (by kernel_rfl) (by kernel_rfl) (by kernel_rfl) (fun _ _ _ h => h) (Or.inl ⟨by rfl, ?_⟩) hH ?_
  · intro w1 hS; (try dsimp only at hS); go_simp
  (try simp only [List.getElem_toArray]); (try simp only [List.getElem_cons_succ]); (try simp only [List.getElem_cons_zero]); (try simp only [Act.put]); (try simp only [List.setIfInBounds_toArray]); (try simp only [List.set_cons_succ]); (try simp only [List.set_cons_zero])
  refine wpAnyH_done (by kernel_rfl) ?_ _
  have HH := Lib.hid hH
  clear hH pb CS
  go_wp2_with fail
  refine wp_region_held_drew (S := (fun w' => Boxes (w.heap.size + 1 + 1 + 1) w [(w.heap.size + 1 + 1, X), (w.heap.size + 1, d), (w.heap.size, c)] w')) (by kernel_rfl) (HH.out.drew) (fun hH => ?_)
  refine wpAnyH_take (i := 0) (v := .agg c) rfl (by kernel_rfl) (by kernel_rfl) (by kernel_rfl) (fun _ _ _ h => h) (Or.inl ⟨by rfl, ?_⟩) hH ?_
  · intro w1 hS; (try dsimp only at hS); have s0 := hS.rows (w.heap.size, c) (by simp); have s1 := hS.rows (w.heap.size + 1, d) (by simp); have s2 := hS.rows (w.heap.size + 1 + 1, X) (by simp); dsimp only at s0 s1 s2; go_simp
  (try simp only [List.getElem_toArray]); (try simp only [List.getElem_cons_succ]); (try simp only [List.getElem_cons_zero]); (try simp only [Act.put]); (try simp only [List.setIfInBounds_toArray]); (try simp only [List.set_cons_succ]); (try simp only [List.set_cons_zero])
  refine wpAnyH_take (i := 2) (v := .agg d) rfl (by kernel_rfl) (by kernel_rfl) (by kernel_rfl) (fun _ _ _ h => h) (Or.inl ⟨by rfl, ?_⟩) hH ?_
  · intro w1 hS; (try dsimp only at hS); have s0 := hS.rows (w.heap.size, c) (by simp); have s1 := hS.rows (w.heap.size + 1, d) (by simp); have s2 := hS.rows (w.heap.size + 1 + 1, X) (by simp); dsimp only at s0 s1 s2; go_simp
  (try simp only [List.getElem_toArray]); (try simp only [List.getElem_cons_succ]); (try simp only [List.getElem_cons_zero]); (try simp only [Act.put]); (try simp only [List.setIfInBounds_toArray]); (try simp only [List.set_cons_succ]); (try simp only [List.set_cons_zero])
  refine wpAnyH_take (i := 4) (v := .agg X) rfl (by kernel_rfl) (by kernel_rfl) (by kernel_rfl) (fun _ _ _ h => h) (Or.inl ⟨by rfl, ?_⟩) hH ?_
  · intro w1 hS; (try dsimp only at hS); have s0 := hS.rows (w.heap.size, c) (by simp); have s1 := hS.rows (w.heap.size + 1, d) (by simp); have s2 := hS.rows (w.heap.size + 1 + 1, X) (by simp); dsimp only at s0 s1 s2; go_simp
  (try simp only [List.getElem_toArray]); (try simp only [List.getElem_cons_succ]); (try simp only [List.getElem_cons_zero]); (try simp only [Act.put]); (try simp only [List.setIfInBounds_toArray]); (try simp only [List.set_cons_succ]); (try simp only [List.set_cons_zero])
  refine wpAnyH_ready (rs := [1]) (by kernel_rfl) (by simp) (AllReadyH.cons rfl (fun K hK => ?_) AllReadyH.nil)
  go_simp
  refine (toRoof_any c r _ hR).mono ?_
  rintro x wx ⟨rfl, bx⟩
  go_simp
  refine hK.out _ _ (hH.call bx) (fun hG => ?_)
  clear hK K hH bx
  replace hH := hG
  clear hG
  (try simp only [List.getElem_toArray]); (try simp only [List.getElem_cons_succ]); (try simp only [List.getElem_cons_zero]); (try simp only [Act.put]); (try simp only [List.setIfInBounds_toArray]); (try simp only [List.set_cons_succ]); (try simp only [List.set_cons_zero])
  refine wpAnyH_ready (rs := [3]) (by kernel_rfl) (by simp) (AllReadyH.cons rfl (fun K hK => ?_) AllReadyH.nil)
  go_simp
  refine (toRain_any d t _ hT).mono ?_
  rintro x wx ⟨rfl, bx⟩
  go_simp
  refine hK.out _ _ (hH.call bx) (fun hG => ?_)
  clear hK K hH bx
  replace hH := hG
  clear hG
  (try simp only [List.getElem_toArray]); (try simp only [List.getElem_cons_succ]); (try simp only [List.getElem_cons_zero]); (try simp only [Act.put]); (try simp only [List.setIfInBounds_toArray]); (try simp only [List.set_cons_succ]); (try simp only [List.set_cons_zero])
  refine wpAnyH_ready (rs := [5]) (by kernel_rfl) (by simp) (AllReadyH.cons rfl (fun K hK => ?_) AllReadyH.nil)
  go_simp
  refine (toDrips_any X D _ hX).mono ?_
  rintro x wx ⟨rfl, bx⟩
  go_simp
  refine hK.out _ _ (hH.call bx) (fun hG => ?_)
  clear hK K hH bx
  replace hH := hG
  clear hG
  (try simp only [List.getElem_toArray]); (try simp only [List.getElem_cons_succ]); (try simp only [List.getElem_cons_zero]); (try simp only [Act.put]); (try simp only [List.setIfInBounds_toArray]); (try simp only [List.set_cons_succ]); (try simp only [List.set_cons_zero])
  refine wpAnyH_ready (rs := [6]) (by kernel_rfl) (by simp) (AllReadyH.cons rfl (fun K hK => ?_) AllReadyH.nil)
  go_simp
  refine (CI _ (HE.out.below hH.bel)).mono ?_
  rintro x wx ⟨rfl, bx⟩
  go_simp
  refine hK.out _ _ (hH.call bx) (fun hG => ?_)
  clear hK K hH bx
  replace hH := hG
  clear hG
  (try simp only [List.getElem_toArray]); (try simp only [List.getElem_cons_succ]); (try simp only [List.getElem_cons_zero]); (try simp only [Act.put]); (try simp only [List.setIfInBounds_toArray]); (try simp only [List.set_cons_succ]); (try simp only [List.set_cons_zero])
  refine wpAnyH_take (i := 7) (v := .tuple #[.bool v0, .int .i64 v1]) rfl (by kernel_rfl) (by kernel_rfl) (by kernel_rfl) (fun _ _ _ h => h) (Or.inl ⟨by rfl, ?_⟩) hH ?_
  · intro w1 hS; (try dsimp only at hS); go_simp
  (try simp only [List.getElem_toArray]); (try simp only [List.getElem_cons_succ]); (try simp only [List.getElem_cons_zero]); (try simp only [Act.put]); (try simp only [List.setIfInBounds_toArray]); (try simp only [List.set_cons_succ]); (try simp only [List.set_cons_zero])
  refine wpAnyH_take (i := 8) (v := .bool v0) rfl (by kernel_rfl) (by kernel_rfl) (by kernel_rfl) (fun _ _ _ h => h) (Or.inl ⟨by rfl, ?_⟩) hH ?_
  · intro w1 hS; (try dsimp only at hS); go_simp
  (try simp only [List.getElem_toArray]); (try simp only [List.getElem_cons_succ]); (try simp only [List.getElem_cons_zero]); (try simp only [Act.put]); (try simp only [List.setIfInBounds_toArray]); (try simp only [List.set_cons_succ]); (try simp only [List.set_cons_zero])
  refine wpAnyH_take (i := 9) (v := .int .i64 v1) rfl (by kernel_rfl) (by kernel_rfl) (by kernel_rfl) (fun _ _ _ h => h) (Or.inl ⟨by rfl, ?_⟩) hH ?_
  · intro w1 hS; (try dsimp only at hS); go_simp
  (try simp only [List.getElem_toArray]); (try simp only [List.getElem_cons_succ]); (try simp only [List.getElem_cons_zero]); (try simp only [Act.put]); (try simp only [List.setIfInBounds_toArray]); (try simp only [List.set_cons_succ]); (try simp only [List.set_cons_zero])
  refine wpAnyH_take (i := 10) (v := .bool v0) rfl (by kernel_rfl) (by kernel_rfl) (by kernel_rfl) (fun _ _ _ h => h) (Or.inl ⟨by rfl, ?_⟩) hH ?_
  · intro w1 hS; (try dsimp only at hS); go_simp
  (try simp only [List.getElem_toArray]); (try simp only [List.getElem_cons_succ]); (try simp only [List.getElem_cons_zero]); (try simp only [Act.put]); (try simp only [List.setIfInBounds_toArray]); (try simp only [List.set_cons_succ]); (try simp only [List.set_cons_zero])
  refine wpAnyH_take (i := 11) (v := .int .i64 v1) rfl (by kernel_rfl) (by kernel_rfl) (by kernel_rfl) (fun _ _ _ h => h) (Or.inl ⟨by rfl, ?_⟩) hH ?_
  · intro w1 hS; (try dsimp only at hS); go_simp
  (try simp only [List.getElem_toArray]); (try simp only [List.getElem_cons_succ]); (try simp only [List.getElem_cons_zero]); (try simp only [Act.put]); (try simp only [List.setIfInBounds_toArray]); (try simp only [List.set_cons_succ]); (try simp only [List.set_cons_zero])
  refine wpAnyH_done (by kernel_rfl) ?_ _
  have HH2 := Lib.hid hH
  clear hH HH CI
  go_wp2_with fail
  go_ret
  exact ⟨rfl, HH2.out.bel⟩

namespace LFnExactExplains
open Go.RowKit Go.ChangeShapes Go.WideShapes Go.ChangeAt
theorem own : ownKnob Tryd.prog.godebug = none := by kernel_rfl
theorem laidOut : laidOutB Tryd.prog = true := by kernel_rfl
theorem door_met (os : Os) (args : Array Value) : laidMetH Tryd.prog Rows.fnExactExplainsRow.laid ((World.doorLaid Tryd.prog 400 os).forCall (fun _ _ => 0) ⟨#[], args, []⟩).memory :=
  laidMetH_of_parts3 (fuel := 8) (laidMet_of_run' 8 (by kernel_rfl) (by kernel_rfl)) (by kernel_rfl) (by kernel_rfl)
set_option maxRecDepth 100000 in
theorem lifted (os : Os) (started : os.Started) (H : Type) (enc : TypeId × Value → H) :
    ReturnsInHanded {} Tryd.checked os 5 .any (fun w args => (Rows.fnExactExplainsSpec.pre enc Tryd.prog Tryd.f5 [] false w args ∧ laidMetH Tryd.prog Rows.fnExactExplainsRow.laid w) ∧ sizedMet enc Tryd.prog Tryd.f5 (OpenSpec.ofChange Rows.fnExactExplainsSpec) false w args)
      (Rows.fnExactExplainsSpec.post enc Tryd.prog Tryd.f5 false true false false) := by
  refine returnsInHanded_of_change_and (C := Tryd.checked) (X := fun w _ => laidMetH Tryd.prog Rows.fnExactExplainsRow.laid w) (fun _ _ _ hh h => h.of_heap hh) own started (by kernel_rfl) Tryd.func5
    (ChangeSpec.witness_shaped (enc := enc) (C := Tryd.checked) (os := os) (X := fun w _ => laidMetH Tryd.prog Rows.fnExactExplainsRow.laid w) false (World.doorLaid Tryd.prog 400 os) #[.agg Tryd.zeroCells26, .agg (Array.replicate 17 (.int .i16 0)), .agg (Array.replicate 136 (.int .i32 0))] 8 rfl (World.shaped_of_RefB (by kernel_rfl) (by kernel_rfl)) (by kernel_rfl) (by kernel_rfl) (by kernel_rfl) (door_met os _)) ?_
  intro W base args ds gs before hval0 hW _ _ hL _
  have hval : ∀ (j : Nat) t v, Tryd.f5.params[j]? = some t → args[j]? = some v → Value.okWide Tryd.prog W .any base t v := hval0
  have hW' := hW
  obtain ⟨p, q, hA0, hV, rfl, hfz, hnd⟩ := hW
  have hA : DataW.TrodAll enc Tryd.prog W 0 (fun _ => true) true Tryd.f5.params.toList args.toList ds p := hA0
  rw [Tryd.params5] at hA hval
  obtain ⟨v0, vs0, d0, ds0, p0, q0, hargs, rfl, rfl, h0, r0⟩ := trodAll_cons hA
  obtain ⟨v1, vs1, d1, ds1, p1, q1, rfl, rfl, rfl, h1, r1⟩ := trodAll_cons r0
  obtain ⟨v2, vs2, d2, ds2, p2, q2, rfl, rfl, rfl, h2, r2⟩ := trodAll_cons r1
  obtain ⟨rfl, rfl, rfl⟩ := trodAll_nil r2
  obtain rfl : args = #[v0, v1, v2] := by cases args; simp_all
  obtain ⟨g0, g1, g2, g3, g4, g5, rfl⟩ := len6 (trodVars_len hV)
  have k0 := h0
  have lt0 : ∀ x ∈ p0, x.block < W.heap.size := by obtain ⟨m, hm⟩ := k0; exact DataW.trod_lt m _ _ _ hm
  have k1 := h1
  have lt1 : ∀ x ∈ p1, x.block < W.heap.size := by obtain ⟨m, hm⟩ := k1; exact DataW.trod_lt m _ _ _ hm
  have k2 := h2
  have lt2 : ∀ x ∈ p2, x.block < W.heap.size := by obtain ⟨m, hm⟩ := k2; exact DataW.trod_lt m _ _ _ hm
  obtain ⟨c0, f0, rfl, wf0⟩ := open_roof (hval 0 26 v0 rfl rfl) h0
  obtain ⟨c1, f1, rfl, wf1⟩ := open_rain (hval 1 28 v1 rfl rfl) h1
  obtain ⟨c2, f2, rfl, wf2⟩ := open_drips (hval 2 45 v2 rfl rfl) h2
  clear hA0 hval0
  obtain ⟨a, hE⟩ := errs_of hL
  refine ((law_walk_FnExactExplains a wf0 wf1 wf2 hE)).mono fun e W' ⟨he, bel⟩ => ?_
  subst he
  exact ⟨_, rfl, _, _, _, [], _, _, hW', trodAll_mk1 (shut_bool Tryd.underlying4 _), (trodAll_cons_mk (Below.trod laidOut (by kernel_rfl) (of_decide_eq_true (by kernel_rfl)) k0 bel lt0) (trodAll_cons_mk (Below.trod laidOut (by kernel_rfl) (of_decide_eq_true (by kernel_rfl)) k1 bel lt1) (trodAll_cons_mk (Below.trod laidOut (by kernel_rfl) (of_decide_eq_true (by kernel_rfl)) k2 bel lt2) trodAll_mk0))), Below.trodVars laidOut bel (by kernel_rfl) hV, bel.frame _, fun h => by cases h⟩

theorem over : Rows.FnExactExplainsSaid :=
  OpenClaim.holds_of_wide 5 Tryd.f5 rfl rfl rfl rfl rfl rfl rfl ⟨rfl, rfl, rfl, rfl, rfl⟩ rfl rfl rfl rfl rfl (by kernel_rfl) Tryd.func5 (by kernel_rfl)
    (of_decide_eq_true (by kernel_rfl)) (by unfold Func.isWrapper; first | (rw [if_pos (by decide +kernel)]; kernel_rfl) | (rw [if_neg (by decide +kernel)]; exact ⟨rfl, rfl⟩))
    (fun os started H enc _ => lifted os started H enc)

theorem proved : Rows.FnExactExplainsCardSaid :=
  Claim7.holds_tied_plain_at .later [] Rows.fnExactExplainsCard.laidKinds true Rows.fnExactExplainsCard.stood.harness Rows.fnExactExplainsCard.stood.looks
    over (fun _ h => by cases h) (by kernel_rfl) (fun _ h => by cases h) fnExactExplains_row_tie rfl ⟨rfl, rfl⟩ (by kernel_rfl) rfl
    (fun f fn hf hfn => by
      obtain rfl : f = 5 := Option.some.inj ((show Tryd.prog.funcNamed "loop.example/g01376/laws.FnExactExplains" = some 5 by kernel_rfl).symm.trans hf) |>.symm
      obtain rfl : fn = Tryd.f5 := (Option.some.inj (Tryd.func5.symm.trans hfn)).symm
      exact ⟨by kernel_rfl, fun j t ht => by
        rw [Tryd.params5] at ht
        have hm : t ∈ [26, 28, 45] := by simpa using Array.mem_of_getElem? ht
        have hall : ([26, 28, 45].all fun u => !Tryd.prog.wantsStandIn u) = true := by kernel_rfl
        exact (show Tryd.prog.wantsStandIn t = false by simpa using List.all_eq_true.1 hall t hm)⟩)
    (by kernel_rfl)
end LFnExactExplains

end Go.Proofs.YtoibolmippfcgaaDoor
