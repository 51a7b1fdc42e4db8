/- TilesNeeded: the program's side: what is reached of some kinds. -/
import Derived.Test.YtkimngffbioeeaaDelP
import Derived.Test.YtkimngffbioeeaaReachI
import Derived.Test.YtkimngffbioeeaaLadI
namespace Go.Proofs.Ytkimngffbioeeaa
open Go.RowKit

/-- Whether the tile's kind is none of m ones. -/
def Rf.othB (r : Rf) (l : Nat → Int) (m : Nat) (a b : Int) : Bool := !(anyI (fun q => r.t (a.toNat * 8 + b.toNat) == l q) m)

set_option maxRecDepth 100000 in
set_option maxHeartbeats 2000000 in
theorem isOther_pred (n7 n4 m : Nat) (c : Array Value) (r : Rf) (l : Nat → Int) (v : Value) (w : World) (h7 : rowAt w n7 = some #[v]) (h4 : rowAt w n4 = some c) (hR : IsRoof c r) (hv : NumsAt w v m l) (hm : m ≤ 2000000) :
    PredB w.heap.size 125 #[.pointer (some ⟨n7, 0, none⟩), .pointer (some ⟨n4, 0, none⟩)] (r.othB l m) w := by
  intro i j W hi hj hW
  have hc := hR.size
  have H7 := brow hW h7
  have H4 := brow hW h4
  have HV0 := hv.below hW (Nat.le_refl _)
  obtain ⟨a, cp, rfl⟩ := hv.shape
  have e0 : r.othB l m i j = !(anyI (fun q => r.t (i * 8 + j) == l q) m) := by unfold Rf.othB; rw [Int.toNat_natCast, Int.toNat_natCast]
  rw [e0]
  clear hv h7 h4 hW e0
  show Calls Try.prog 125 #[.agg #[.int .i8 i, .int .i8 j], .pointer (some ⟨n7, 0, none⟩), .pointer (some ⟨n4, 0, none⟩)] W _
  have S7 := Lib.hid H7
  have S4 := Lib.hid H4
  have HV := Lib.hid HV0
  clear H7 H4 HV0
  go_enter Try.func125, Try.ntmps125
  go_wp2_with fail
  refine gen_world fun V hV => ?_
  have BV : Hid (Below W.heap.size W V) := Lib.hid (by rw [hV]; exact (Below.refl _ _).alloc (Nat.le_refl _) _)
  have SX : Hid (rowAt V W.heap.size = some #[.int .i8 i, .int .i8 j]) := Lib.hid (by rw [hV]; exact rowAt_alloc_at _ _ _ _ rfl)
  replace S7 := Lib.hid (brow BV.out S7.out)
  replace S4 := Lib.hid (brow BV.out S4.out)
  clear hV
  refine wp_region_held_drew (S := fun w' => Below V.heap.size V w') (by kernel_rfl) ((Below.refl _ _).drew) (fun hH => ?_)
  refine wpAnyH_take (i := 0) (v := .slice a m cp) rfl (by kernel_rfl) (by kernel_rfl) (by kernel_rfl) (fun _ _ _ h => h) (Or.inl ⟨by rfl, ?_⟩) hH ?_
  · intro w1 hS; (try dsimp only at hS); have d := cell_of_rowAt (brow hS S7.out) 0; simp at d; go_simp
  (try simp only [List.getElem_toArray]); (try simp only [List.getElem_cons_succ]); (try simp only [List.getElem_cons_zero]); (try simp only [Act.put]); (try simp only [List.setIfInBounds_toArray]); (try simp only [List.set_cons_succ]); (try simp only [List.set_cons_zero])
  refine wpAnyH_take (i := 1) (v := .agg c) rfl (by kernel_rfl) (by kernel_rfl) (by kernel_rfl) (fun _ _ _ h => h) (Or.inl ⟨by rfl, ?_⟩) hH ?_
  · intro w1 hS; (try dsimp only at hS); have s0 := brow hS S4.out; go_simp
  (try simp only [List.getElem_toArray]); (try simp only [List.getElem_cons_succ]); (try simp only [List.getElem_cons_zero]); (try simp only [Act.put]); (try simp only [List.setIfInBounds_toArray]); (try simp only [List.set_cons_succ]); (try simp only [List.set_cons_zero])
  refine wpAnyH_take (i := 2) (v := .agg #[.int .i8 i, .int .i8 j]) rfl (by kernel_rfl) (by kernel_rfl) (by kernel_rfl) (fun _ _ _ h => h) (Or.inl ⟨by rfl, ?_⟩) hH ?_
  · intro w1 hS; (try dsimp only at hS); have d0 := cell_of_rowAt (brow hS SX.out) 0; have d1 := cell_of_rowAt (brow hS SX.out) 1; simp at d0 d1; go_simp
  (try simp only [List.getElem_toArray]); (try simp only [List.getElem_cons_succ]); (try simp only [List.getElem_cons_zero]); (try simp only [Act.put]); (try simp only [List.setIfInBounds_toArray]); (try simp only [List.set_cons_succ]); (try simp only [List.set_cons_zero])
  refine wpAnyH_ready (rs := [3]) (by kernel_rfl) (by simp) (AllReadyH.cons rfl (fun K hK => ?_) AllReadyH.nil)
  go_simp
  refine (kind_any c r i j _ hR hi hj).mono ?_
  rintro x wx ⟨rfl, bx⟩
  go_simp
  refine hK.out _ _ (bnext hH bx hH.size) (fun hG => ?_)
  clear hK K hH bx
  replace hH := hG
  clear hG
  (try simp only [List.getElem_toArray]); (try simp only [List.getElem_cons_succ]); (try simp only [List.getElem_cons_zero]); (try simp only [Act.put]); (try simp only [List.setIfInBounds_toArray]); (try simp only [List.set_cons_succ]); (try simp only [List.set_cons_zero])
  refine wpAnyH_ready (rs := [4]) (by kernel_rfl) (by simp) (AllReadyH.cons rfl (fun K hK => ?_) AllReadyH.nil)
  go_simp
  refine (containsI_any (r.t (i * 8 + j)) (.slice a m cp) m l _ (HV.out.below (bnext BV.out hH BV.out.size) (Nat.le_refl _)) hm).mono ?_
  rintro x wx ⟨rfl, bx⟩
  go_simp
  refine hK.out _ _ (bnext hH bx hH.size) (fun hG => ?_)
  clear hK K hH bx
  replace hH := hG
  clear hG
  (try simp only [List.getElem_toArray]); (try simp only [List.getElem_cons_succ]); (try simp only [List.getElem_cons_zero]); (try simp only [Act.put]); (try simp only [List.setIfInBounds_toArray]); (try simp only [List.set_cons_succ]); (try simp only [List.set_cons_zero])
  refine wpAnyH_take (i := 5) (v := .bool (!(anyI (fun q => r.t (i * 8 + j) == l q) m))) rfl (by kernel_rfl) (by kernel_rfl) (by kernel_rfl) (fun _ _ _ h => h) (Or.inl ⟨by rfl, ?_⟩) hH ?_
  · intro w1 hS; (try dsimp only at hS); go_simp
  (try simp only [List.getElem_toArray]); (try simp only [List.getElem_cons_succ]); (try simp only [List.getElem_cons_zero]); (try simp only [Act.put]); (try simp only [List.setIfInBounds_toArray]); (try simp only [List.set_cons_succ]); (try simp only [List.set_cons_zero])
  refine wpAnyH_take (i := 6) (v := .bool (!(anyI (fun q => r.t (i * 8 + j) == l q) m))) rfl (by kernel_rfl) (by kernel_rfl) (by kernel_rfl) (fun _ _ _ h => h) (Or.inl ⟨by rfl, ?_⟩) hH ?_
  · intro w1 hS; (try dsimp only at hS); go_simp
  (try simp only [List.getElem_toArray]); (try simp only [List.getElem_cons_succ]); (try simp only [List.getElem_cons_zero]); (try simp only [Act.put]); (try simp only [List.setIfInBounds_toArray]); (try simp only [List.set_cons_succ]); (try simp only [List.set_cons_zero])
  refine wpAnyH_done (by kernel_rfl) ?_ _
  have B2 := Lib.hid (bnext BV.out hH BV.out.size)
  clear hH
  go_wp2_with fail
  go_ret
  exact ⟨rfl, B2.out⟩

theorem inD_pls {H V : Nat} (h8 : H ≤ 8) (w8 : V ≤ 8) (l : List (Pl H V)) : inD (plAt l) l.length := fun k hk => by
  refine ⟨(l[k]).1.1, (l[k]).1.2, by have := (l[k]).2.1; omega, by have := (l[k]).2.2; omega, ?_, ?_⟩
  · unfold plAt
    rw [show k * 2 / 2 = k by omega, List.getElem?_eq_getElem hk]
    simp
  · unfold plAt
    rw [show (k * 2 + 1) / 2 = k by omega, List.getElem?_eq_getElem hk]
    simp

set_option maxRecDepth 100000 in
set_option maxHeartbeats 2000000 in
theorem reachedOf_any (m k : Nat) (c : Array Value) (r : Rf) (y : Int) (g l : Nat → Int) (v1 v3 : Value) (hh ww : Nat) (hhe : r.h = hh) (hwe : r.w = ww) (h8 : hh ≤ 8) (w8 : ww ≤ 8) (w : World) (hR : IsRoof c r) (hv : NumsAt w v1 m g) (hm : m ≤ 2000000) (hv3 : NumsAt w v3 k l) (hk : k ≤ 2000000) (hy : 0 ≤ y ∧ y ≤ 8) :
    Calls Try.prog 85 #[.agg c, v1, .int .i64 y, v3] w fun e w' => ∃ v, e = .returned v ∧ IsList w' w.heap.size v 2 (kpt (r.othB l k) (plAt (fltP (r.canL y g m) (plUpto hh ww (hh * ww)))) (fltP (r.canL y g m) (plUpto hh ww (hh * ww))).length).1 (fun i => .int .i8 ((kpt (r.othB l k) (plAt (fltP (r.canL y g m) (plUpto hh ww (hh * ww)))) (fltP (r.canL y g m) (plUpto hh ww (hh * ww))).length).2 i)) ∧ Below w.heap.size w w' := by
  have hc := hR.size
  have CR := fun W H => reached_own m c r y g v1 hh ww hhe hwe h8 w8 W hR H hm hy
  have hL : (fltP (r.canL y g m) (plUpto hh ww (hh * ww))).length ≤ 2000000 := by
    have h1 := fltP_len (p := r.canL y g m) (plUpto hh ww (hh * ww))
    have h2 := plUpto_len hh ww (hh * ww)
    have : hh * ww ≤ 8 * 8 := Nat.mul_le_mul h8 w8
    omega
  have HD := Lib.hid (inD_pls h8 w8 (fltP (r.canL y g m) (plUpto hh ww (hh * ww))))
  generalize fltP (r.canL y g m) (plUpto hh ww (hh * ww)) = L at *
  have eg : ∀ args w, (callFunc 125 args).run Try.prog w = .ok (.enter 125 args) w := enters_of Try.func125 (by kernel_rfl) rfl
  obtain ⟨a1, c1, rfl⟩ := hv.shape
  obtain ⟨a3, c3, rfl⟩ := hv3.shape
  have p4 : rowAt ((w.alloc (.cells c 30)).alloc (.cells #[.slice a3 k c3] 35)) w.heap.size = some c := (rowAt_alloc_past _ _ _ (by simp)).trans (rowAt_alloc_at w c _ _ rfl)
  have p7 : rowAt ((w.alloc (.cells c 30)).alloc (.cells #[.slice a3 k c3] 35)) (w.heap.size + 1) = some #[.slice a3 k c3] := rowAt_alloc_at _ _ _ _ (by simp)
  have pB : Below w.heap.size w ((w.alloc (.cells c 30)).alloc (.cells #[.slice a3 k c3] 35)) := ((Below.refl _ _).alloc (Nat.le_refl _) _).alloc (by simp) _
  go_enter Try.func85, Try.ntmps85
  go_wp2_with fail
  refine gen_callsC fun W hW => ?_
  rw [← hW] at p4 p7 pB
  clear hW
  have PR := Lib.hid (isOther_pred (w.heap.size + 1) w.heap.size k c r l (.slice a3 k c3) W p7 p4 hR (hv3.below pB (Nat.le_refl _)) hk)
  have PB := Lib.hid pB
  have HV1 := hv.below pB (Nat.le_refl _)
  clear p4 p7 pB hv hv3
  refine (CR W HV1).mono ?_
  rintro e w2 ⟨v, rfl, l2, b2, a2, cap2, rfl, hn2, _⟩
  have PR2 : PredB W.heap.size 125 #[.pointer (some ⟨w.heap.size + 1, 0, none⟩), .pointer (some ⟨w.heap.size, 0, none⟩)] (r.othB l k) w2 := fun i j W' hi hj hW' => PR.out i j W' hi hj (b2.trans hW')
  have CD := deleteP_any 125 #[.pointer (some ⟨w.heap.size + 1, 0, none⟩), .pointer (some ⟨w.heap.size, 0, none⟩)] (r.othB l k) eg W.heap.size L.length cap2 a2 (plAt L) w2 PR2 HD.out b2.size l2 hn2 hL
  have B2 := Lib.hid (bnext PB.out b2 PB.out.size)
  clear b2 l2 PR PR2 CR HV1 eg
  go_wp2_with fail
  refine CD.mono ?_
  rintro e w3 ⟨rfl, l3, b3⟩
  have L3 := Lib.hid (l3.mono PB.out.size)
  have B3 := Lib.hid (B2.out.trans (b3.mono PB.out.size))
  clear l3 b3 CD
  go_wp2_with fail
  go_ret
  exact ⟨_, rfl, L3.out, B3.out⟩
end Go.Proofs.Ytkimngffbioeeaa
