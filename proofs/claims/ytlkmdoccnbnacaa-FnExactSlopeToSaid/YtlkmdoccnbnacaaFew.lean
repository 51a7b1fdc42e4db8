/- FewestPipes: both sides. -/
import Derived.Test.YtlkmdoccnbnacaaEnd6
namespace Go.Proofs.Ytlkmdoccnbnacaa
open Go.RowKit

/-- The numbers below n of which P holds, as values. -/
def pickV (P : Nat → Bool) (n : Nat) : List Value := ((List.range n).filter P).map fun (i : Nat) => .int .i64 (i : Int)
def pickN (P : Nat → Bool) (n : Nat) : Nat := ((List.range n).filter P).length
def pickF (P : Nat → Bool) (n i : Nat) : Int := (((List.range n).filter P).getD i 0 : Nat)
theorem pickV_t {P : Nat → Bool} {n : Nat} (h : P n = true) : pickV P n ++ [.int .i64 n] = pickV P (n + 1) := by simp [pickV, List.range_succ, List.filter_append, h]
theorem pickV_f {P : Nat → Bool} {n : Nat} (h : P n = false) : pickV P (n + 1) = pickV P n := by simp [pickV, List.range_succ, List.filter_append, h]
theorem pickN_t {P : Nat → Bool} {n : Nat} (h : P n = true) : pickN P (n + 1) = pickN P n + 1 := by simp [pickN, List.range_succ, List.filter_append, h]
theorem pickN_f {P : Nat → Bool} {n : Nat} (h : P n = false) : pickN P (n + 1) = pickN P n := by simp [pickN, List.range_succ, List.filter_append, h]
theorem pickN_le (P : Nat → Bool) (n : Nat) : pickN P n ≤ n := by
  have := List.length_filter_le P (List.range n)
  rw [List.length_range] at this
  exact this
theorem IsList.of_pick {w : World} {base n : Nat} {e : TypeId} {v : Value} {P : Nat → Bool} (h : w.ownsRow base e 1 v (pickN P n) (pickV P n)) : IsList w base v 1 (pickN P n) fun i => .int .i64 (pickF P n i) := by
  obtain ⟨hl, h | ⟨g, cap, cur, rfl, hg, hh, hn, hm, hs, ht⟩⟩ := h
  · exact .inl ⟨h.2, none, 0, by rw [h.1]⟩
  · refine .inr ⟨g, cap, cur, rfl, hg, rowAt_of_heap hh, by omega, fun i hi => ?_⟩
    have h1 : cur[i]? = (cur.toList.take (pickN P n * 1))[i]? := by rw [List.getElem?_take, if_pos hi, Array.getElem?_toList]
    have h2 : i < ((List.range n).filter P).length := by unfold pickN at hi; omega
    show _ = some (Value.int .i64 (pickF P n i))
    unfold pickF
    rw [h1, ht, pickV, List.getElem?_map, List.getD_eq_getElem?_getD, List.getElem?_eq_getElem h2]; rfl

theorem rowAt_grown {w w' : World} {row : Option Nat} {k : Nat} {c : Array Value} (h : w.grownBy w' row) (hr : rowAt w k = some c) (hne : row ≠ some k) : rowAt w' k = some c := by
  rw [← hr]; unfold rowAt; rw [h.block k (rowAt_lt hr) (Ne.symm hne)]
/-- The gutter without its pipes. -/
def Gt.plain (g : Gt) : Gt := { g with m := 0 }
theorem Gt.plain_n (g : Gt) : g.plain.n = g.n := rfl
theorem Gt.plain_m (g : Gt) : g.plain.m = 0 := rfl
theorem Gt.plain_ok {g : Gt} (h : g.Ok) : g.plain.Ok := ⟨h.n1, h.n17, h.d0, h.d1, h.lv, by rw [Gt.plain_m]; omega, h.hs, fun i hi => by rw [Gt.plain_m] at hi; omega⟩
theorem IsGut.plain {c : Array Value} {g : Gt} {v : Value} (h : IsGut c g v) (a : Option Addr) (cap : Nat) : IsGut (Proofs.Ytlkmdoccnbnacaa.setP c (.slice a 0 cap)) g.plain (.slice a 0 cap) := by
  have hs := h.size
  refine IsGut.of_get (by simpa using hs) ?_ ?_ (fun i hi => ?_) ?_ ?_ ⟨h.n0, h.n1⟩ ⟨h.d0, h.d1⟩ (fun i hi => ⟨h.h0 i hi, h.h1 i hi⟩) ⟨h.l0, h.l1⟩ (fun i hi => by rw [Gt.plain_m] at hi; omega) ⟨a, cap, rfl⟩
  · unfold Proofs.Ytlkmdoccnbnacaa.setP; rw [Array.getElem?_setIfInBounds_ne (by omega)]; exact h.get0
  · unfold Proofs.Ytlkmdoccnbnacaa.setP; rw [Array.getElem?_setIfInBounds_ne (by omega)]; exact h.get1
  · unfold Proofs.Ytlkmdoccnbnacaa.setP; rw [Array.getElem?_setIfInBounds_ne (by omega)]; exact h.getH hi
  · unfold Proofs.Ytlkmdoccnbnacaa.setP; rw [Array.getElem?_setIfInBounds_ne (by omega)]; exact h.getL
  · unfold Proofs.Ytlkmdoccnbnacaa.setP; rw [Array.getElem?_setIfInBounds_self_of_lt (by omega)]
/-- A cell that flows to no other one, were there no pipes. -/
noncomputable def Gt.sink (g : Gt) (j : Nat) : Bool := decide (g.plain.to j < 0)
theorem Gt.sink_eq {g : Gt} {j : Nat} (hj : (j : Int) < g.n) : g.sink j = decide (g.plain.to j = -1) := by
  unfold Gt.sink
  rcases Gt.to_cases (g := g.plain) (j := j) (by rw [Gt.plain_n]; exact hj) with h | ⟨q, hq, _, _⟩
  · rw [h]; rfl
  · rw [hq, decide_eq_decide]; omega
noncomputable def Gt.fewN (g : Gt) : Nat := if g.ok = true then pickN g.sink g.n.toNat else 0
theorem Gt.fewN_t {g : Gt} (h : g.ok = true) : g.fewN = pickN g.sink g.n.toNat := if_pos h
theorem Gt.fewN_f {g : Gt} (h : g.ok = false) : g.fewN = 0 := if_neg (by simp [h])
theorem Gt.fewN_le (g : Gt) : g.fewN ≤ 2000000 := by
  cases h : g.ok with
  | true => have := (Gt.Ok_of h).n17; rw [Gt.fewN_t h]; have := pickN_le g.sink g.n.toNat; omega
  | false => rw [Gt.fewN_f h]; omega

set_option maxRecDepth 100000 in
set_option maxHeartbeats 2000000 in
theorem specFewestPipes_any (b : Nat) (c : Array Value) (g : Gt) (v : Value) (w : World) (hG : IsGut c g v) (hv : IsList w b v 2 g.m (pipeV g.p)) (hm : g.m ≤ 2000000) :
    Calls Try.prog 56 #[.agg c] w (GivesT w 1 .i64 g.fewN (pickF g.sink g.n.toNat) [.int .i64 g.cd]) := by
  have hA := Lib.hid (gutAt_box hG hv)
  have hBA : Below w.heap.size w (w.alloc (.cells c 33)) := (Below.refl _ _).alloc (Nat.le_refl _) _
  have hB1 : Below (w.heap.size + 1) (w.alloc (.cells c 33)) ((w.alloc (.cells c 33)).alloc (.cells #[] 2)) := (Below.refl _ _).alloc (by simp) _
  have ow := own_start c w
  have hA1 := Lib.hid (hA.out.below hB1 (by simp))
  obtain ⟨i0, hi0, hz0, hz1, hz2⟩ := info_parts A_infoIw
  have CK := fun W H => l06Ok_any w.heap.size b c g v W H hm
  cases hk : g.ok with
  | false =>
    rw [hk] at CK
    have HN := Lib.hid (Gt.fewN_f hk)
    have HC := Lib.hid (Gt.cd_f hk)
    clear hG hv hk
    go_enter Try.func56, Try.ntmps56
    go_wp2_with fail
    refine (CK _ hA1.out).mono ?_
    rintro e w1 ⟨rfl, b1⟩
    have B1 := hBA.trans ((hB1.trans (b1.mono (by simp))).mono (by simp))
    clear b1 ow CK
    go_wp2_with fail
    go_ret2
    exact ⟨_, by rw [HC.out]; rfl, by rw [HN.out]; exact .inl ⟨rfl, _, _, rfl⟩, B1⟩
  | true =>
    rw [hk] at CK
    have hO := Gt.Ok_of hk
    have HN := Lib.hid (Gt.fewN_t hk)
    have HC := Lib.hid (Gt.cd_t hk)
    obtain ⟨N, hN⟩ := Int.eq_ofNat_of_zero_le (show 0 ≤ g.n by have := hO.n1; omega)
    have hN17 : N ≤ 17 := by have := hO.n17; omega
    have CT := fun (k b' : Nat) (c' : Array Value) (u : Value) W (j : Nat) H (hj : (j : Int) < g.n) => l06To_any k b' c' g.plain u j W H (by rw [Gt.plain_n]; exact hj) (by rw [Gt.plain_n]; exact hO.n17) (by rw [Gt.plain_m]; omega)
    have HG := Lib.hid hG
    have hc := hG.size
    have ho := hG.ones
    have HNN := Lib.hid hN
    have HS := Lib.hid (show ∀ j : Nat, g.sink j = decide (g.plain.to j < 0) from fun j => rfl)
    clear hG hv hk hO
    rw [hN] at CT
    rw [show g.n.toNat = N by rw [hN]; rfl] at HN
    go_enter Try.func56, Try.ntmps56
    go_wp2_with fail
    refine (CK _ hA1.out).mono ?_
    rintro e w1 ⟨rfl, b1⟩
    have B1 : Below (w.heap.size + 1) (w.alloc (.cells c 33)) w1 := hB1.trans (b1.mono (by simp))
    have ow1 := owns_below ow b1
    have A1 := Lib.hid (hA1.out.below b1 (by simp))
    have r1 := A1.out.row
    have lt1 : w.heap.size + 1 < w1.heap.size := by have := b1.size; simp at this; omega
    clear b1 ow CK hA1 hB1 hN
    go_wp2_with fail
    obtain ⟨W2, hW2⟩ : ∃ W2 : World, W2 = (w1.alloc (.cells (setP c (.slice (some ⟨w1.heap.size + 1, 0, none⟩) 0 0)) 33)).alloc (.cells #[] 77) := ⟨_, rfl⟩
    have hF : Below w1.heap.size w1 W2 := by rw [hW2]; exact ((Below.refl _ _).alloc (Nat.le_refl _) _).alloc (by simp) _
    have rK : rowAt W2 w1.heap.size = some (setP c (.slice (some ⟨w1.heap.size + 1, 0, none⟩) 0 0)) := by rw [hW2]; exact (rowAt_alloc_past _ _ _ (by simp)).trans (rowAt_alloc_at _ _ _ _ rfl)
    have ow2 := owns_below ow1 hF
    have A2 := Lib.hid (A1.out.below hF (Nat.le_refl _))
    have B2 := B1.trans (hF.mono (by omega))
    have HP := Lib.hid (HG.out.plain (some ⟨w1.heap.size + 1, 0, none⟩) 0)
    unfold setP at hW2
    rw [← hW2]
    have hob : (Value.slice (some ⟨w.heap.size + 1, 0, none⟩) 0 0).ownBlock ≠ some w1.heap.size := by simp [Value.ownBlock]; omega
    clear hF ow1 A1 r1 hW2 HG
    generalize setP c (.slice (some ⟨w1.heap.size + 1, 0, none⟩) 0 0) = c' at *
    have hK := rowAt_lt rK
    generalize w1.heap.size = K at *
    clear B1
    go_loopw [4, 6] (fun u i W => ∃ j : Nat, j ≤ N ∧ i = .int .i64 j ∧ W.ownsRow (w.heap.size + 1) 2 1 u (pickN g.sink j) (pickV g.sink j) ∧ u.ownBlock ≠ some K ∧ rowAt W K = some c' ∧ Below (w.heap.size + 1) (w.alloc (.cells c 33)) W) (fun _ i _ => N - (intOf i).toNat)
    case atStart => exact ⟨0, by omega, rfl, ow2, hob, rK, B2⟩
    case round =>
      clear ow2 B2 hob rK A2
      obtain ⟨j, hj, rfl, hv, hob, rK, hB⟩ := hrel
      have hAW := hA.out.below hB (by simp)
      have z0 : wr.cell? ⟨w.heap.size, 0, none⟩ = some (.int .i8 (N : Int)) := by rw [cell_of_rowAt hAW.row, hAW.is.get0, HNN.out]
      have hlw := hAW.lt
      have hpl := pickN_le g.sink j
      clear hAW
      by_cases hlt : j < N
      · have j1 : (j : Int) < N := by omega
        have hP : GutAt wr K c' g.plain _ 0 := ⟨rK, HP.out, .inl ⟨rfl, _, _, rfl⟩⟩
        have HPW := Lib.hid hP
        have kl := rowAt_lt rK
        clear hP
        cases hs : g.sink j with
        | true =>
          have HT := Lib.hid (by have := hs; rw [HS.out, decide_eq_true_eq] at this; exact this : g.plain.to j < 0)
          go_wp2_with fail
          refine (CT _ _ _ _ _ j HPW.out j1).mono ?_
          rintro e w2 ⟨rfl, b2⟩
          have hv := owns_below hv b2
          have rK2 := brow b2 rK
          have hB := hB.trans (b2.mono (by have := hB.size; simpa using this))
          have hd : decide (g.plain.to j < 0) = true := by rw [decide_eq_true_eq]; exact HT.out
          obtain ⟨wo, hwo⟩ : ∃ wo : World, wo = w2 := ⟨_, rfl⟩
          rw [← hwo] at hv hB rK2 ⊢
          have kl2 := rowAt_lt rK2
          clear hwo b2 z0 hlw HPW rK kl
          go_wp2_with (at_builtin; refine Go.wpList_append_own_at _ rfl _ _ 43 rfl (w.heap.size + 1) 2 i0 (.int .i64 0) 1 8 Try.underlying43 hi0 hz0 hz1 hz2 rfl (by decide) _ _ _ rfl (hv.alloc _) ⟨wo.heap.size, 0, none⟩ 1 1 [.int .i64 j] rfl rfl (cell_one_new _ _ _) (by simp [Value.oneCell']) (by unfold maxLen; omega) (by omega) (by have := hB.size; simp at this; simp; omega) ?_; intro v3 w3 own3 grow3 _ hq3)
          have B3 := (hB.alloc (by have := hB.size; simpa using this) _).grown grow3 (by have := hB.size; simp at this; simp; omega) (owns_base hv)
          have rK3 := rowAt_grown grow3 ((rowAt_alloc_past _ _ _ kl2).trans rK2) hob
          have hob3 : v3.ownBlock ≠ some K := by
            rcases hq3 with h | h
            · rw [h]; exact hob
            · rw [h]; simp; omega
          rw [pickV_t hs] at own3
          have pn := pickN_t hs
          rw [← pn] at own3
          clear grow3 hv hB hq3 rK2 hob
          go_wp2_with fail
          refine ⟨⟨j + 1, by omega, by go_num, own3, hob3, rK3, B3⟩, by simp [intOf]; omega⟩
        | false =>
          have HT := Lib.hid (show ¬ g.plain.to j < 0 by have := hs; rw [HS.out, decide_eq_false_iff_not] at this; exact this)
          go_wp2_with fail
          refine (CT _ _ _ _ _ j HPW.out j1).mono ?_
          rintro e w2 ⟨rfl, b2⟩
          have hv := owns_below hv b2
          have rK2 := brow b2 rK
          have hB := hB.trans (b2.mono (by have := hB.size; simpa using this))
          have hd : decide (g.plain.to j < 0) = false := decide_eq_false (by have := HT.out; omega)
          rw [← pickV_f hs, ← pickN_f hs] at hv
          clear b2 z0 hlw HPW rK kl
          go_wp2_with fail
          refine ⟨⟨j + 1, by omega, by go_num, hv, hob, rK2, hB⟩, by simp [intOf]; omega⟩
      · obtain rfl : N = j := by omega
        have hl := (IsList.of_pick hv).mono (show w.heap.size ≤ w.heap.size + 1 by omega)
        have B4 := Lib.hid (hBA.trans (hB.mono (by omega)))
        clear hv hB
        go_wp2_with fail
        go_ret2
        exact ⟨_, by rw [HC.out]; rfl, by rw [HN.out, HNN.out]; exact hl, B4.out⟩

set_option maxRecDepth 100000 in
set_option maxHeartbeats 2000000 in
theorem implFewestPipes_any (b : Nat) (c : Array Value) (g : Gt) (v : Value) (w : World) (hG : IsGut c g v) (hv : IsList w b v 2 g.m (pipeV g.p)) (hm : g.m ≤ 2000000) :
    Calls Try.prog 57 #[.agg c] w (GivesT w 1 .i64 g.fewN (pickF g.sink g.n.toNat) [.int .i64 g.cd]) := by
  have hc := hG.size
  have rA : rowAt (w.alloc (.cells c 33)) w.heap.size = some c := rowAt_alloc_at _ _ _ _ rfl
  have hBA : Below w.heap.size w (w.alloc (.cells c 33)) := (Below.refl _ _).alloc (Nat.le_refl _) _
  have hV := Lib.hid (hv.below hBA (Nat.le_refl _))
  have CK := fun W H => implValidGutter_any b c g v W hG H hm
  cases hk : g.ok with
  | false =>
    rw [hk] at CK
    have HN := Lib.hid (Gt.fewN_f hk)
    have HC := Lib.hid (Gt.cd_f hk)
    clear hG hv hk
    go_enter Try.func57, Try.ntmps57
    go_wp2_with fail
    refine (CK _ hV.out).mono ?_
    rintro e w1 ⟨rfl, b1⟩
    have B1 := bnext hBA b1 hBA.size
    clear b1 CK
    go_wp2_with fail
    go_ret2
    exact ⟨_, by rw [HC.out]; rfl, by rw [HN.out]; exact .inl ⟨rfl, _, _, rfl⟩, B1⟩
  | true =>
    rw [hk] at CK
    have hO := Gt.Ok_of hk
    have HN := Lib.hid (Gt.fewN_t hk)
    have HC := Lib.hid (Gt.cd_t hk)
    obtain ⟨N, hN⟩ := Int.eq_ofNat_of_zero_le (show 0 ≤ g.n by have := hO.n1; omega)
    have hN17 : N ≤ 17 := by have := hO.n17; omega
    have HS := Lib.hid (show ∀ j : Nat, j < N → g.sink j = decide (g.plain.to j = -1) from fun j hj => Gt.sink_eq (by omega))
    have CF := fun W H => flows_any 0 (setP c (.slice none 0 0)) g.plain (.slice none 0 0) N W (hG.plain none 0) H (Gt.plain_ok hO) hN
    have hss : (setP c (.slice none 0 0)).size = 21 := by simpa using hc
    have hsd : c.setIfInBounds 20 (.slice none 0 0) = setP c (.slice none 0 0) := rfl
    obtain ⟨i0, hi0, hz0, hz1, hz2⟩ := info_parts A_infoIw
    have HNN := Lib.hid hN
    rw [show g.n.toNat = N by rw [hN]; rfl] at HN
    have k20 : (w.alloc (.cells c 33)).cell? ⟨w.heap.size, 20, none⟩ = some (c[20]'(by omega)) := by rw [cell_of_rowAt rA, Array.getElem?_eq_getElem]
    clear hG hv hk hO hN
    have HF := CF
    clear CF
    generalize g.plain.to = to at *
    go_enter Try.func57, Try.ntmps57
    go_wp2_with fail
    refine (CK _ hV.out).mono ?_
    rintro e w1 ⟨rfl, b1⟩
    have r1 := brow b1 rA
    have B1 := bnext hBA b1 hBA.size
    clear b1 CK rA hV k20
    have z20 : w1.cell? ⟨w.heap.size, 20, none⟩ = some (c[20]'(by omega)) := by rw [cell_of_rowAt r1, Array.getElem?_eq_getElem]
    have f20 := frozen_of_rowAt r1
    go_wp2_with fail
    have B2 := B1.setCell (p := ⟨w.heap.size, 20, none⟩) (by simp) (.slice none 0 0)
    refine (HF _ (.inl ⟨rfl, _, _, rfl⟩)).mono ?_
    rintro e w2 ⟨a2, rfl, l2, b2⟩
    have B3 := bnext B2 b2 B2.size
    have L2 := Lib.hid l2
    clear b2 l2 HF B2 B1 r1 z20 f20
    go_wp2_with fail
    go_loopw [4, 5, 6, 14] (fun u _ _ i W => ∃ j : Nat, j ≤ N ∧ i = .int .i64 j ∧ W.ownsRow w2.heap.size 2 1 u (pickN g.sink j) (pickV g.sink j) ∧ Below w2.heap.size w2 W) (fun _ _ _ i _ => N - (intOf i).toNat)
    case atStart => exact ⟨0, by omega, rfl, ⟨rfl, .inl ⟨rfl, rfl⟩⟩, Below.refl _ _⟩
    case round =>
      obtain ⟨j, hj, rfl, hv, hB⟩ := hrel
      have hpl := pickN_le g.sink j
      by_cases hlt : j < N
      · obtain ⟨g', rfl, hg', c0⟩ : ∃ g', a2 = some ⟨g', 0, none⟩ ∧ g' < wr.heap.size ∧ wr.cell? ⟨g', j, none⟩ = some (.int .i64 (to j)) := by
          rcases L2.out.below hB (Nat.le_refl _) with ⟨h0, _⟩ | ⟨g', cap', cur', e, hg, hr', hs', hf'⟩
          · omega
          · cases e
            exact ⟨g', rfl, rowAt_lt hr', by rw [cell_of_rowAt hr']; exact hf' _ (by omega)⟩
        cases hs : g.sink j with
        | true =>
          have hT : to j = -1 := by have := hs; rw [HS.out j hlt, decide_eq_true_eq] at this; exact this
          rw [hT] at c0
          obtain ⟨wo, hwo⟩ : ∃ wo : World, wo = wr := ⟨_, rfl⟩
          rw [← hwo] at hv hB c0 hg' ⊢
          clear hwo hT
          go_wp2_with (at_builtin; refine Go.wpList_append_own_at _ rfl _ _ 43 rfl w2.heap.size 2 i0 (.int .i64 0) 1 8 Try.underlying43 hi0 hz0 hz1 hz2 rfl (by decide) _ _ _ rfl (hv.alloc _) ⟨wo.heap.size, 0, none⟩ 1 1 [.int .i64 j] rfl rfl (cell_one_new _ _ _) (by simp [Value.oneCell']) (by unfold maxLen; omega) (by omega) (by have := hB.size; simp; omega) ?_; intro v3 w3 own3 grow3 _ hq3)
          have B4 := (hB.alloc hB.size _).grown grow3 (by have := hB.size; simp; omega) (owns_base hv)
          rw [pickV_t hs] at own3
          have pn := pickN_t hs
          rw [← pn] at own3
          clear grow3 hv hB hq3 c0
          go_wp2_with fail
          refine ⟨⟨j + 1, by omega, by go_num, own3, B4⟩, by simp [intOf]; omega⟩
        | false =>
          have hT := Lib.hid (show ¬ to j = -1 by have := hs; rw [HS.out j hlt, decide_eq_false_iff_not] at this; exact this)
          have hd : (to j == -1) = false := by have := hT.out; simpa using this
          rw [← pickV_f hs, ← pickN_f hs] at hv
          generalize to j = x at *
          go_wp2_with fail
          refine ⟨⟨j + 1, by omega, by go_num, hv, hB⟩, by simp [intOf]; omega⟩
      · obtain rfl : N = j := by omega
        have hl := (IsList.of_pick hv).mono B3.size
        have B4 := Lib.hid (B3.trans (hB.mono B3.size))
        clear hv hB
        go_wp2_with fail
        go_ret2
        exact ⟨_, by rw [HC.out]; rfl, by rw [HN.out, HNN.out]; exact hl, B4.out⟩
end Go.Proofs.Ytlkmdoccnbnacaa
