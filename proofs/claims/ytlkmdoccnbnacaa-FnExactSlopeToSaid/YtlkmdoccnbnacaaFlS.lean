/- FlowsTo: both sides. -/
import Derived.Test.YtlkmdoccnbnacaaToS
import Derived.Test.YtlkmdoccnbnacaaIntsV
import Derived.Test.YtlkmdoccnbnacaaAll
namespace Go.Proofs.Ytlkmdoccnbnacaa
open Go.RowKit

noncomputable def Gt.fN (g : Gt) : Nat := if g.ok = true then g.n.toNat else 0
noncomputable def Gt.cd (g : Gt) : Int := if g.ok = true then 0 else 1
theorem Gt.fN_t {g : Gt} (h : g.ok = true) : g.fN = g.n.toNat := if_pos h
theorem Gt.fN_f {g : Gt} (h : g.ok = false) : g.fN = 0 := if_neg (by simp [h])
theorem Gt.cd_t {g : Gt} (h : g.ok = true) : g.cd = 0 := if_pos h
theorem Gt.cd_f {g : Gt} (h : g.ok = false) : g.cd = 1 := if_neg (by simp [h])
theorem Gt.fN_le (g : Gt) : g.fN ≤ 2000000 := by
  cases h : g.ok with
  | true => have := (Gt.Ok_of h).n17; rw [Gt.fN_t h]; omega
  | false => rw [Gt.fN_f h]; omega
theorem own_start (c : Array Value) (w : World) : ((w.alloc (.cells c 33)).alloc (.cells #[] 2)).ownsRow (w.heap.size + 1) 2 1 (.slice (some ⟨w.heap.size + 1, 0, none⟩) 0 0) 0 [] := by
  have := owns_empty (w.alloc (.cells c 33)) 2 1
  simpa using this

set_option maxRecDepth 100000 in
set_option maxHeartbeats 2000000 in
theorem specFlowsTo_any (b : Nat) (c : Array Value) (g : Gt) (v : Value) (w : World) (hG : IsGut c g v) (hv : IsList w b v 2 g.m (pipeV g.p)) (hm : g.m ≤ 2000000) :
    Calls Try.prog 27 #[.agg c] w (GivesT w 1 .i64 g.fN g.to [.int .i64 g.cd]) := by
  have hA := Lib.hid (gutAt_box hG hv)
  have hBA : Below w.heap.size w (w.alloc (.cells c 33)) := (Below.refl _ _).alloc (Nat.le_refl _) _
  have hB1 : Below (w.heap.size + 1) (w.alloc (.cells c 33)) ((w.alloc (.cells c 33)).alloc (.cells #[] 2)) := (Below.refl _ _).alloc (by simp) _
  have ow := own_start c w
  have hA1 := Lib.hid (hA.out.below hB1 (by simp))
  obtain ⟨i0, hi0, hz0, hz1, hz2⟩ := info_parts A_infoIw
  have CK := fun W H => l06Ok_any w.heap.size b c g v W H hm
  cases hk : g.ok with
  | false =>
    rw [hk] at CK
    have HN := Lib.hid (Gt.fN_f hk)
    have HC := Lib.hid (Gt.cd_f hk)
    clear hG hv hk
    go_enter Try.func27, Try.ntmps27
    go_wp2_with fail
    refine (CK _ hA1.out).mono ?_
    rintro e w1 ⟨rfl, b1⟩
    have B1 := hBA.trans ((hB1.trans (b1.mono (by simp))).mono (by simp))
    clear b1 ow CK
    go_wp2_with fail
    go_ret2
    exact ⟨_, by rw [HC.out]; rfl, by rw [HN.out]; exact .inl ⟨rfl, _, _, rfl⟩, B1⟩
  | true =>
    rw [hk] at CK
    have hO := Gt.Ok_of hk
    have HN := Lib.hid (Gt.fN_t hk)
    have HC := Lib.hid (Gt.cd_t hk)
    obtain ⟨N, hN⟩ := Int.eq_ofNat_of_zero_le (show 0 ≤ g.n by have := hO.n1; omega)
    have hN17 : N ≤ 17 := by have := hO.n17; omega
    have CT := fun W (j : Nat) H (hj : (j : Int) < g.n) => l06To_any w.heap.size b c g v j W H hj hO.n17 hm
    have HNN := Lib.hid hN
    clear hG hv hk hO
    rw [hN] at CT
    generalize g.to = to at *
    go_enter Try.func27, Try.ntmps27
    go_wp2_with fail
    refine (CK _ hA1.out).mono ?_
    rintro e w1 ⟨rfl, b1⟩
    have B1 : Below (w.heap.size + 1) (w.alloc (.cells c 33)) w1 := hB1.trans (b1.mono (by simp))
    have ow1 := owns_below ow b1
    clear b1 ow CK hA1 hB1 hN
    go_wp2_with fail
    go_loopw [4, 5] (fun u i W => ∃ j : Nat, j ≤ N ∧ i = .int .i64 j ∧ W.ownsRow (w.heap.size + 1) 2 1 u j (intsV to j) ∧ Below (w.heap.size + 1) (w.alloc (.cells c 33)) W) (fun _ i _ => N - (intOf i).toNat)
    case atStart => exact ⟨0, by omega, rfl, ow1, B1⟩
    case round =>
      clear ow1 B1
      obtain ⟨j, hj, rfl, hv, hB⟩ := hrel
      have hAW := hA.out.below hB (by simp)
      have z0 : wr.cell? ⟨w.heap.size, 0, none⟩ = some (.int .i8 (N : Int)) := by rw [cell_of_rowAt hAW.row, hAW.is.get0, HNN.out]
      have hlw := hAW.lt
      have HAW := Lib.hid hAW
      clear hAW
      by_cases hlt : j < N
      · have j1 : (j : Int) < N := by omega
        go_wp2_with fail
        refine (CT _ j HAW.out j1).mono ?_
        rintro e w2 ⟨rfl, b2⟩
        have hv := owns_below hv b2
        have hB := hB.trans (b2.mono (by have := hB.size; simpa using this))
        obtain ⟨wo, hwo⟩ : ∃ wo : World, wo = w2 := ⟨_, rfl⟩
        rw [← hwo] at hv hB ⊢
        clear hwo b2 z0 hlw HAW
        go_wp2_with (at_builtin; refine Go.wpList_append_own_at _ rfl _ _ 43 rfl (w.heap.size + 1) 2 i0 (.int .i64 0) 1 8 Try.underlying43 hi0 hz0 hz1 hz2 rfl (by decide) _ _ _ rfl (hv.alloc _) ⟨wo.heap.size, 0, none⟩ 1 1 [.int .i64 (to j)] rfl rfl (cell_one_new _ _ _) (by simp [Value.oneCell']) (by unfold maxLen; omega) (by omega) (by have := hB.size; simp at this ⊢; omega) ?_; intro v3 w3 own3 grow3 _ _)
        have B3 := (hB.alloc (by have := hB.size; simpa using this) _).grown grow3 (by have := hB.size; simp at this; simp; omega) (owns_base hv)
        rw [intsV_succ] at own3
        clear grow3 hv hB
        go_wp2_with fail
        refine ⟨⟨j + 1, by omega, by go_num, own3, B3⟩, by simp [intOf]; omega⟩
      · obtain rfl : N = j := by omega
        have hl := (IsList.of_intsV hv).mono (show w.heap.size ≤ w.heap.size + 1 by omega)
        have B4 := Lib.hid (hBA.trans (hB.mono (by omega)))
        clear hv hB
        go_wp2_with fail
        go_ret2
        exact ⟨_, by rw [HC.out]; rfl, by rw [HN.out, HNN.out]; exact hl, B4.out⟩

set_option maxRecDepth 100000 in
set_option maxHeartbeats 2000000 in
theorem implFlowsTo_any (b : Nat) (c : Array Value) (g : Gt) (v : Value) (w : World) (hG : IsGut c g v) (hv : IsList w b v 2 g.m (pipeV g.p)) (hm : g.m ≤ 2000000) :
    Calls Try.prog 28 #[.agg c] w (GivesT w 1 .i64 g.fN g.to [.int .i64 g.cd]) := by
  have hc := hG.size
  have rA : rowAt (w.alloc (.cells c 33)) w.heap.size = some c := rowAt_alloc_at _ _ _ _ rfl
  have hBA : Below w.heap.size w (w.alloc (.cells c 33)) := (Below.refl _ _).alloc (Nat.le_refl _) _
  have hV := Lib.hid (hv.below hBA (Nat.le_refl _))
  have CK := fun W H => implValidGutter_any b c g v W hG H hm
  cases hk : g.ok with
  | false =>
    rw [hk] at CK
    have HN := Lib.hid (Gt.fN_f hk)
    have HC := Lib.hid (Gt.cd_f hk)
    clear hG hv hk
    go_enter Try.func28, Try.ntmps28
    go_wp2_with fail
    refine (CK _ hV.out).mono ?_
    rintro e w1 ⟨rfl, b1⟩
    have B1 := bnext hBA b1 hBA.size
    clear b1 CK
    go_wp2_with fail
    go_ret2
    exact ⟨_, by rw [HC.out]; rfl, by rw [HN.out]; exact .inl ⟨rfl, _, _, rfl⟩, B1⟩
  | true =>
    rw [hk] at CK
    have hO := Gt.Ok_of hk
    have HN := Lib.hid (Gt.fN_t hk)
    have HC := Lib.hid (Gt.cd_t hk)
    obtain ⟨N, hN⟩ := Int.eq_ofNat_of_zero_le (show 0 ≤ g.n by have := hO.n1; omega)
    have CF := fun W H => flows_any b c g v N W hG H hO hN
    have HNN := Lib.hid hN
    clear hG hv hk hO hN
    generalize g.to = to at *
    go_enter Try.func28, Try.ntmps28
    go_wp2_with fail
    refine (CK _ hV.out).mono ?_
    rintro e w1 ⟨rfl, b1⟩
    have r1 := brow b1 rA
    have V1 := Lib.hid (hV.out.below b1 (Nat.le_refl _))
    have B1 := bnext hBA b1 hBA.size
    clear b1 CK rA
    go_wp2_with fail
    refine (CF _ V1.out).mono ?_
    rintro e w2 ⟨a2, rfl, l2, b2⟩
    have B2 := bnext B1 b2 B1.size
    have L2 := Lib.hid (l2.mono B1.size)
    clear b2 r1 CF l2 B1
    go_wp2_with fail
    go_ret2
    exact ⟨_, by rw [HC.out]; rfl, by rw [HN.out, HNN.out]; exact L2.out, B2⟩
end Go.Proofs.Ytlkmdoccnbnacaa
