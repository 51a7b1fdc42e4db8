/- What has been seen of a roof: the cells of the program's sight, and how it is built. -/
import Derived.Test.YtdpnmaodagmpkaaDoorLookC
import Derived.Test.YtdpnmaodagmpkaaDoorMended
import Derived.Test.YtdpnmaodagmpkaaDoorMendI
import Derived.Laws.Tables
namespace Go.Proofs.YtdpnmaodagmpkaaDoor
open Go.RowKit

@[go_sem ↓] theorem loadAt_sight (v : Value) : Instr.loadAt 83 v = loadWhole 83 v := rfl
@[go_sem ↓] theorem storeAt_sight (a v : Value) : Instr.storeAt 83 a v = storeWhole 83 a v := rfl
@[go_sem] theorem load_sight (w : World) (n o : Nat) : (loadWhole 83 (.pointer (some ⟨n, o, none⟩))).run Tryd.prog w = rowLoad Tryd.prog 83 343 n o w (rowAt w n) := run_load_by Tryd.underlying83 rfl (by kernel_rfl) w n o
@[go_sem] theorem store_sight (vs : Array Value) (w : World) (n o : Nat) : (storeWhole 83 (.pointer (some ⟨n, o, none⟩)) (.agg vs)).run Tryd.prog w = rowStore Tryd.prog 83 343 n o vs w (rowAt w n) := run_store_by (by kernel_rfl) vs w n o

/-- 'Instr.build' under a name that the walk does not open. -/
def buildWhole (ty : TypeId) (ps : Array (Nat × Value)) : Sem Value := Instr.build ty ps
@[go_sem ↓] theorem build_sight (ps : Array (Nat × Value)) : Instr.build 83 ps = buildWhole 83 ps := rfl
theorem fillRow (off : Nat) : ∀ (l : List Value) (k : Nat) (cs : Array Value), off + k + l.length ≤ cs.size → (l.zipIdx k).foldl (fun cs p => cs.setIfInBounds (off + p.2) p.1) cs = splice cs (off + k) l.toArray
  | [], k, cs, _ => by
    apply Array.ext_getElem?; intro i
    simp [splice]
  | a :: l, k, cs, h => by
    simp only [List.length_cons] at h
    rw [List.zipIdx_cons, List.foldl_cons, fillRow off l (k + 1) _ (by simp; omega)]
    apply Array.ext_getElem?; intro i
    rw [get_splice _ _ _ (by simp; omega), get_splice _ _ _ (by simp; omega)]
    simp only [List.size_toArray, List.length_cons]
    by_cases h1 : i < off + k
    · rw [if_pos (by omega), if_pos h1, Array.getElem?_setIfInBounds_ne (by omega)]
    · rw [if_neg h1]
      by_cases h2 : i = off + k
      · subst h2
        rw [if_pos (by omega), if_pos (by omega), Array.getElem?_setIfInBounds_self_of_lt (by omega)]
        simp
      · rw [if_neg (by omega)]
        by_cases h3 : i < off + k + (l.length + 1)
        · rw [if_pos (by omega), if_pos h3]
          rw [show i - (off + k) = (i - (off + (k + 1))) + 1 from by omega]
          simp
        · rw [if_neg (by omega), if_neg h3, Array.getElem?_setIfInBounds_ne (by omega)]
theorem fill_agg {place : Nat → Option (Nat × Nat)} {cells v : Array Value} {i off : Nat} {rest : List (Nat × Value)} (hp : place i = some (off, v.size)) (hs : off + v.size ≤ cells.size) :
    Instr.fill place cells ((i, .agg v) :: rest) = Instr.fill place (splice cells off v) rest := by
  have h1 : (Value.agg v).cells = v := rfl
  have h2 := fillRow off v.toList 0 cells (by simpa using hs)
  have h3 : v.zipIdx.foldl (fun cs (p : Value × Nat) => cs.setIfInBounds (off + p.2) p.1) cells = splice cells off v := by
    rw [← Array.foldl_toList, Array.toList_zipIdx, h2]
    simp
  rw [Instr.fill, hp]
  simp only [h1]
  rw [if_neg (by simp; omega)]
  exact congrArg (fun z => Instr.fill place z rest) h3

/-- The cells of a sight: the frame, what comes, what drips, the drippers. -/
noncomputable def sightC (C Y X K : Array Value) : Array Value := splice (splice (splice (splice Tryd.zeroCells83 0 C) 67 Y) 203 X) 339 K
theorem zsight_size : Tryd.zeroCells83.size = 343 := by kernel_rfl
theorem sight_info : (Tryd.prog.info? 83).bind (·.zero) = some (.agg Tryd.zeroCells83) := by kernel_rfl
theorem sight_places : (match Tryd.prog.underlying 83 with | some (.struct fields) => fields.toList.mapM (fun f => (Tryd.prog.info? f.type).map fun i => (f.offset, i.size)) | _ => none) = some [(0, 67), (67, 136), (203, 136), (339, 4)] := by kernel_rfl
set_option maxRecDepth 100000 in
@[go_sem] theorem run_build_sight0 (w : World) : (buildWhole 83 #[]).run Tryd.prog w = .ok (.agg Tryd.zeroCells83) w := by
  show (Instr.build 83 _).run Tryd.prog w = _
  refine run_build w _ _ _ ?_
  obtain ⟨it, hi, hz⟩ := Option.bind_eq_some_iff.1 sight_info
  unfold Program.built
  have hp := sight_places
  rw [Tryd.underlying83] at hp
  rw [hi, Tryd.underlying83]
  simp only [hz]
  dsimp only at hp
  simp only [hp]
  rfl
section
variable {C Y X K : Array Value} (hC : C.size = 67) (hY : Y.size = 136) (hX : X.size = 136) (hK : K.size = 4)
include hC hY hX hK
theorem sightC_size : (sightC C Y X K).size = 343 := by
  have h0 := zsight_size
  unfold sightC
  rw [size_splice _ _ _ (by rw [size_splice _ _ _ (by rw [size_splice _ _ _ (by rw [size_splice _ _ _ (by omega)]; omega), size_splice _ _ _ (by omega)]; omega), size_splice _ _ _ (by rw [size_splice _ _ _ (by omega)]; omega), size_splice _ _ _ (by omega)]; omega), size_splice _ _ _ (by rw [size_splice _ _ _ (by rw [size_splice _ _ _ (by omega)]; omega), size_splice _ _ _ (by omega)]; omega), size_splice _ _ _ (by rw [size_splice _ _ _ (by omega)]; omega), size_splice _ _ _ (by omega)]
  exact h0
set_option maxRecDepth 100000 in
theorem sightC_get (i : Nat) : (sightC C Y X K)[i]? = if i < 67 then C[i]? else if i < 203 then Y[i - 67]? else if i < 339 then X[i - 203]? else K[i - 339]? := by
  have h0 := zsight_size
  have s1 : (splice Tryd.zeroCells83 0 C).size = 343 := by rw [size_splice _ _ _ (by omega)]; exact h0
  have s2 : (splice (splice Tryd.zeroCells83 0 C) 67 Y).size = 343 := by rw [size_splice _ _ _ (by omega)]; exact s1
  have s3 : (splice (splice (splice Tryd.zeroCells83 0 C) 67 Y) 203 X).size = 343 := by rw [size_splice _ _ _ (by omega)]; exact s2
  unfold sightC
  rw [get_splice _ _ _ (by omega), get_splice _ _ _ (by omega), get_splice _ _ _ (by omega), get_splice _ _ _ (by omega)]
  rw [hC, hY, hX, hK]
  repeat' split
  all_goals first | rfl | omega | (rw [Array.getElem?_eq_none (by omega), Array.getElem?_eq_none (by omega)])
theorem sightC_ones (oC : Ones C) (oY : Ones Y) (oX : Ones X) (oK : Ones K) : Ones (sightC C Y X K) := Ones.of_get fun i hi => by
  have hs := sightC_size hC hY hX hK
  have hg := sightC_get hC hY hX hK i
  rw [Array.getElem?_eq_getElem hi] at hg
  by_cases a : i < 67
  · rw [if_pos a, Array.getElem?_eq_getElem (by omega)] at hg
    rw [Option.some.inj hg]; exact oC _ (Array.getElem_mem _)
  · rw [if_neg a] at hg
    by_cases b : i < 203
    · rw [if_pos b, Array.getElem?_eq_getElem (by omega)] at hg
      rw [Option.some.inj hg]; exact oY _ (Array.getElem_mem _)
    · rw [if_neg b] at hg
      by_cases e : i < 339
      · rw [if_pos e, Array.getElem?_eq_getElem (by omega)] at hg
        rw [Option.some.inj hg]; exact oX _ (Array.getElem_mem _)
      · rw [if_neg e, Array.getElem?_eq_getElem (by omega)] at hg
        rw [Option.some.inj hg]; exact oK _ (Array.getElem_mem _)
theorem sightC_comes : (sightC C Y X K).extract 67 203 = Y := by
  have hs := sightC_size hC hY hX hK
  apply Array.ext_getElem?; intro i
  by_cases h : i < 136
  · rw [get_extract _ _ _ _ (by omega) (by omega), sightC_get hC hY hX hK, if_neg (by omega), if_pos (by omega), show 67 + i - 67 = i from by omega]
  · rw [Array.getElem?_eq_none (by simp; omega), Array.getElem?_eq_none (by omega)]
set_option maxRecDepth 100000 in
theorem run_build_sight (w : World) : (buildWhole 83 #[(0, .agg C), (1, .agg Y), (2, .agg X), (3, .agg K)]).run Tryd.prog w = .ok (.agg (sightC C Y X K)) w := by
  have h0 := zsight_size
  have s1 : (splice Tryd.zeroCells83 0 C).size = 343 := by rw [size_splice _ _ _ (by omega)]; exact h0
  have s2 : (splice (splice Tryd.zeroCells83 0 C) 67 Y).size = 343 := by rw [size_splice _ _ _ (by omega)]; exact s1
  have s3 : (splice (splice (splice Tryd.zeroCells83 0 C) 67 Y) 203 X).size = 343 := by rw [size_splice _ _ _ (by omega)]; exact s2
  show (Instr.build 83 _).run Tryd.prog w = _
  refine run_build w _ _ _ ?_
  obtain ⟨it, hi, hz⟩ := Option.bind_eq_some_iff.1 sight_info
  unfold Program.built
  have hp := sight_places
  rw [Tryd.underlying83] at hp
  rw [hi, Tryd.underlying83]
  simp only [hz]
  dsimp only at hp
  simp only [hp]
  show Instr.fill _ Tryd.zeroCells83 [(0, .agg C), (1, .agg Y), (2, .agg X), (3, .agg K)] = _
  rw [fill_agg (off := 0) (by rw [hC]; rfl) (by omega), fill_agg (off := 67) (by rw [hY]; rfl) (by omega), fill_agg (off := 203) (by rw [hX]; rfl) (by omega), fill_agg (off := 339) (by rw [hK]; rfl) (by omega)]
  rfl
end
end Go.Proofs.YtdpnmaodagmpkaaDoor
