import Derived.Test.YtoibolmippfcgaaAll
import Derived.Test.YtoibolmippfcgaaLadS
import Derived.Test.YtoibolmippfcgaaDelP
import Derived.Test.YtoibolmippfcgaaReachI
import Derived.Test.YtoibolmippfcgaaRowT
import Derived.Test.YtoibolmippfcgaaLift
import Derived.Test.YtoibolmippfcgaaPlOf
import Derived.Test.YtoibolmippfcgaaInP
import Derived.Test.YtoibolmippfcgaaRset
import Derived.Test.YtoibolmippfcgaaNums
import Derived.StillTailTactics
import Derived.Deep.RegionHeld3
import Derived.IntWalk
import Derived.OneCell
import Derived.Test.YtoibolmippfcgaaHelp
import Derived.Test.YtoibolmippfcgaaOpen
import Derived.Test.YtoibolmippfcgaaGive
import Derived.Test.YtoibolmippfcgaaArgN
import Derived.Test.YtoibolmippfcgaaLsP

/- Numbers that are appended one by one. -/
namespace Go.Proofs.Ytoibolmippfcgaa
open Go.RowKit
def numsOf (f : Nat → Int) (n : Nat) : List Value := (List.range n).map fun i => .int .i64 (f i)
theorem numsOf_succ (f : Nat → Int) (n : Nat) : numsOf f n ++ [.int .i64 (f n)] = numsOf f (n + 1) := by simp [numsOf, List.range_succ]
theorem numsOf_congr {f g : Nat → Int} {n : Nat} (h : ∀ i, i < n → f i = g i) : numsOf f n = numsOf g n := by
  unfold numsOf
  refine List.map_congr_left fun i hi => ?_
  rw [h i (by simpa using hi)]
theorem IsList.of_nums {w : World} {base n : Nat} {e : TypeId} {v : Value} {f : Nat → Int} (h : w.ownsRow base e 1 v n (numsOf f n)) : IsList w base v 1 n fun i => .int .i64 (f i) := by
  obtain ⟨hl, h | ⟨g, cap, cur, rfl, hg, hh, hn, hm, hs, ht⟩⟩ := h
  · exact .inl ⟨h.2, none, 0, by rw [h.1]⟩
  · refine .inr ⟨g, cap, cur, rfl, hg, rowAt_of_heap hh, by omega, fun i hi => ?_⟩
    have h1 : cur[i]? = (cur.toList.take (n * 1))[i]? := by rw [List.getElem?_take, if_pos hi, Array.getElem?_toList]
    rw [h1, ht]
    rw [numsOf, List.getElem?_map, List.getElem?_range (by omega)]; rfl
theorem cell_num_new (w : World) (v : Value) (t : TypeId) : ∀ j x, [v][j]? = some x → (w.alloc (.cells #[v] t)).cell? ((⟨w.heap.size, 0, none⟩ : Addr).add j) = some x := fun j x h => by
  cases j with
  | zero =>
    simp at h; subst h
    have : (⟨w.heap.size, 0, none⟩ : Addr).add 0 = ⟨w.heap.size, 0, none⟩ := by unfold Addr.add; split <;> simp_all
    rw [this]
    exact (cell_of_rowAt (rowAt_alloc_at w #[v] t _ rfl) 0).trans rfl
  | succ j => simp at h
end Go.Proofs.Ytoibolmippfcgaa

/- CanReach, LadderFor: the model's two functions. -/
namespace Go.Proofs.Ytoibolmippfcgaa
open Go.RowKit

theorem A_infoI : (Try.prog.info? 2).map (fun i => (i.zero, i.size, i.bytes)) = some (some (.int .i64 0), 1, 8) := by kernel_rfl

end Go.Proofs.Ytoibolmippfcgaa

/- CanReach, LadderFor: the program's side. -/
namespace Go.Proofs.Ytoibolmippfcgaa
open Go.RowKit

set_option maxHeartbeats 1000000 in
theorem indexI_any (x : Int) (v : Value) (n : Nat) (f : Nat → Int) (w : World) (hv : NumsAt w v n f) (hn : n ≤ 2000000) :
    Calls Try.prog 106 #[v, .int .i64 x] w fun e w' => e = .returned (.int .i64 (firstI (fun i => x == f i) n)) ∧ Below w.heap.size w w' := by
  have HV := Lib.hid hv
  obtain ⟨a, cap, rfl⟩ := hv.shape
  clear hv
  go_enter Try.func106, Try.ntmps106
  go_wp2_with fail
  go_loopg [5, 8] n (fun gg _ i W => ∃ k : Nat, k ≤ n ∧ n - k ≤ gg ∧ i = .int .i64 k ∧ Hid (∀ j, j < k → (x == f j) = false) ∧ Below w.heap.size w W)
  case atStart => exact ⟨0, by omega, by omega, rfl, Lib.hid (by omega), Below.refl _ _⟩
  case round =>
    obtain ⟨k, hk, hg, rfl, hF, hB⟩ := hrel
    by_cases hlt : k < n
    · obtain ⟨b, o, rfl, cc⟩ := (HV.out.below hB (Nat.le_refl _)).at hlt
      have hi0 : 0 ≤ (k : Int) := by omega
      have hi1 : (k : Int) < n := by omega
      have HB := Lib.hid hB
      clear hB
      cases hq : (x == f k) with
      | true =>
        have HQ := Lib.hid hq
        go_wp2_with fail
        go_ret
        exact ⟨by rw [firstI_hit hlt hF.out HQ.out]; rfl, HB.out⟩
      | false =>
        have HQ := Lib.hid hq
        go_wp2_with fail
        go_roundg (n - (k + 1))
        case measure => omega
        case rel => exact ⟨k + 1, by omega, by omega, by go_num, Lib.hid (fun j hj => by
          by_cases e : j = k
          · subst e; exact HQ.out
          · exact hF.out j (by omega)), HB.out⟩
    · obtain rfl : k = n := by omega
      go_wp2_with fail
      go_ret
      exact ⟨by rw [firstI_miss hF.out]; rfl, hB⟩
theorem containsI_any (x : Int) (v : Value) (n : Nat) (f : Nat → Int) (w : World) (hv : NumsAt w v n f) (hn : n ≤ 2000000) :
    Calls Try.prog 91 #[v, .int .i64 x] w fun e w' => e = .returned (.bool (anyI (fun i => x == f i) n)) ∧ Below w.heap.size w w' := by
  have hbd := firstI_bd (fun i => x == f i) n
  have CX := indexI_any x v n f w hv hn
  obtain ⟨a, cap, rfl⟩ := hv.shape
  unfold anyI
  generalize firstI (fun i => x == f i) n = z at *
  clear hv
  by_cases hz : 0 ≤ z
  · have hd : decide (0 ≤ z) = true := by simp [hz]
    rw [hd]
    go_enter Try.func91, Try.ntmps91
    go_wp2_with fail
    refine CX.mono ?_
    rintro e w1 ⟨rfl, b1⟩
    go_wp2_with fail
    go_ret
    exact ⟨rfl, b1⟩
  · have hd : decide (0 ≤ z) = false := by simp; omega
    rw [hd]
    go_enter Try.func91, Try.ntmps91
    go_wp2_with fail
    refine CX.mono ?_
    rintro e w1 ⟨rfl, b1⟩
    go_wp2_with fail
    go_ret
    exact ⟨rfl, b1⟩
theorem Rf.any_miss (r : Rf) (y : Int) (g : Nat → Int) (m : Nat) (f : Nat → Int) (n : Nat) : anyI (fun i => (-1 : Int) == r.lad y g m f i) n = anyI (r.miss y g m f) n := by
  unfold anyI
  rw [firstI_congr fun j _ => ?_]
  have := r.lad_bd y g m f j
  unfold Rf.miss
  by_cases h : r.lad y g m f j < 0
  · have e : r.lad y g m f j = -1 := by omega
    rw [e]; rfl
  · have e : ¬ (-1 : Int) = r.lad y g m f j := by omega
    simp [h, e]

end Go.Proofs.Ytoibolmippfcgaa

/- TilesNeeded: the program's side: what is reached of some kinds. -/
namespace Go.Proofs.Ytoibolmippfcgaa
open Go.RowKit

/-- Whether the tile's kind is none of m ones. -/
def Rf.othB (r : Rf) (l : Nat → Int) (m : Nat) (a b : Int) : Bool := !(anyI (fun q => r.t (a.toNat * 8 + b.toNat) == l q) m)

set_option maxRecDepth 100000 in
set_option maxHeartbeats 2000000 in
theorem isOther_pred (n7 n4 m : Nat) (c : Array Value) (r : Rf) (l : Nat → Int) (v : Value) (w : World) (h7 : rowAt w n7 = some #[v]) (h4 : rowAt w n4 = some c) (hR : IsRoof c r) (hv : NumsAt w v m l) (hm : m ≤ 2000000) :
    PredB w.heap.size 90 #[.pointer (some ⟨n7, 0, none⟩), .pointer (some ⟨n4, 0, none⟩)] (r.othB l m) w := by
  intro i j W hi hj hW
  have hc := hR.size
  have H7 := brow hW h7
  have H4 := brow hW h4
  have HV0 := hv.below hW (Nat.le_refl _)
  obtain ⟨a, cp, rfl⟩ := hv.shape
  have e0 : r.othB l m i j = !(anyI (fun q => r.t (i * 8 + j) == l q) m) := by unfold Rf.othB; rw [Int.toNat_natCast, Int.toNat_natCast]
  rw [e0]
  clear hv h7 h4 hW e0
  show Calls Try.prog 90 #[.agg #[.int .i8 i, .int .i8 j], .pointer (some ⟨n7, 0, none⟩), .pointer (some ⟨n4, 0, none⟩)] W _
  have S7 := Lib.hid H7
  have S4 := Lib.hid H4
  have HV := Lib.hid HV0
  clear H7 H4 HV0
  go_enter Try.func90, Try.ntmps90
  go_wp2_with fail
  refine gen_world fun V hV => ?_
  have BV : Hid (Below W.heap.size W V) := Lib.hid (by rw [hV]; exact (Below.refl _ _).alloc (Nat.le_refl _) _)
  have SX : Hid (rowAt V W.heap.size = some #[.int .i8 i, .int .i8 j]) := Lib.hid (by rw [hV]; exact rowAt_alloc_at _ _ _ _ rfl)
  replace S7 := Lib.hid (brow BV.out S7.out)
  replace S4 := Lib.hid (brow BV.out S4.out)
  clear hV
  refine wp_region_held_drew (S := fun w' => Below V.heap.size V w') (by kernel_rfl) ((Below.refl _ _).drew) (fun hH => ?_)
  refine wpAnyH_take (i := 0) (v := .slice a m cp) rfl (by kernel_rfl) (by kernel_rfl) (by kernel_rfl) (fun _ _ _ h => h) (Or.inl ⟨by rfl, ?_⟩) hH ?_
  · intro w1 hS; (try dsimp only at hS); have d := cell_of_rowAt (brow hS S7.out) 0; simp at d; go_simp
  (try simp only [List.getElem_toArray]); (try simp only [List.getElem_cons_succ]); (try simp only [List.getElem_cons_zero]); (try simp only [Act.put]); (try simp only [List.setIfInBounds_toArray]); (try simp only [List.set_cons_succ]); (try simp only [List.set_cons_zero])
  refine wpAnyH_take (i := 1) (v := .agg c) rfl (by kernel_rfl) (by kernel_rfl) (by kernel_rfl) (fun _ _ _ h => h) (Or.inl ⟨by rfl, ?_⟩) hH ?_
  · intro w1 hS; (try dsimp only at hS); have s0 := brow hS S4.out; go_simp
  (try simp only [List.getElem_toArray]); (try simp only [List.getElem_cons_succ]); (try simp only [List.getElem_cons_zero]); (try simp only [Act.put]); (try simp only [List.setIfInBounds_toArray]); (try simp only [List.set_cons_succ]); (try simp only [List.set_cons_zero])
  refine wpAnyH_take (i := 2) (v := .agg #[.int .i8 i, .int .i8 j]) rfl (by kernel_rfl) (by kernel_rfl) (by kernel_rfl) (fun _ _ _ h => h) (Or.inl ⟨by rfl, ?_⟩) hH ?_
  · intro w1 hS; (try dsimp only at hS); have d0 := cell_of_rowAt (brow hS SX.out) 0; have d1 := cell_of_rowAt (brow hS SX.out) 1; simp at d0 d1; go_simp
  (try simp only [List.getElem_toArray]); (try simp only [List.getElem_cons_succ]); (try simp only [List.getElem_cons_zero]); (try simp only [Act.put]); (try simp only [List.setIfInBounds_toArray]); (try simp only [List.set_cons_succ]); (try simp only [List.set_cons_zero])
  refine wpAnyH_ready (rs := [3]) (by kernel_rfl) (by simp) (AllReadyH.cons rfl (fun K hK => ?_) AllReadyH.nil)
  go_simp
  refine (kind_any c r i j _ hR hi hj).mono ?_
  rintro x wx ⟨rfl, bx⟩
  go_simp
  refine hK.out _ _ (bnext hH bx hH.size) (fun hG => ?_)
  clear hK K hH bx
  replace hH := hG
  clear hG
  (try simp only [List.getElem_toArray]); (try simp only [List.getElem_cons_succ]); (try simp only [List.getElem_cons_zero]); (try simp only [Act.put]); (try simp only [List.setIfInBounds_toArray]); (try simp only [List.set_cons_succ]); (try simp only [List.set_cons_zero])
  refine wpAnyH_ready (rs := [4]) (by kernel_rfl) (by simp) (AllReadyH.cons rfl (fun K hK => ?_) AllReadyH.nil)
  go_simp
  refine (containsI_any (r.t (i * 8 + j)) (.slice a m cp) m l _ (HV.out.below (bnext BV.out hH BV.out.size) (Nat.le_refl _)) hm).mono ?_
  rintro x wx ⟨rfl, bx⟩
  go_simp
  refine hK.out _ _ (bnext hH bx hH.size) (fun hG => ?_)
  clear hK K hH bx
  replace hH := hG
  clear hG
  (try simp only [List.getElem_toArray]); (try simp only [List.getElem_cons_succ]); (try simp only [List.getElem_cons_zero]); (try simp only [Act.put]); (try simp only [List.setIfInBounds_toArray]); (try simp only [List.set_cons_succ]); (try simp only [List.set_cons_zero])
  refine wpAnyH_take (i := 5) (v := .bool (!(anyI (fun q => r.t (i * 8 + j) == l q) m))) rfl (by kernel_rfl) (by kernel_rfl) (by kernel_rfl) (fun _ _ _ h => h) (Or.inl ⟨by rfl, ?_⟩) hH ?_
  · intro w1 hS; (try dsimp only at hS); go_simp
  (try simp only [List.getElem_toArray]); (try simp only [List.getElem_cons_succ]); (try simp only [List.getElem_cons_zero]); (try simp only [Act.put]); (try simp only [List.setIfInBounds_toArray]); (try simp only [List.set_cons_succ]); (try simp only [List.set_cons_zero])
  refine wpAnyH_take (i := 6) (v := .bool (!(anyI (fun q => r.t (i * 8 + j) == l q) m))) rfl (by kernel_rfl) (by kernel_rfl) (by kernel_rfl) (fun _ _ _ h => h) (Or.inl ⟨by rfl, ?_⟩) hH ?_
  · intro w1 hS; (try dsimp only at hS); go_simp
  (try simp only [List.getElem_toArray]); (try simp only [List.getElem_cons_succ]); (try simp only [List.getElem_cons_zero]); (try simp only [Act.put]); (try simp only [List.setIfInBounds_toArray]); (try simp only [List.set_cons_succ]); (try simp only [List.set_cons_zero])
  refine wpAnyH_done (by kernel_rfl) ?_ _
  have B2 := Lib.hid (bnext BV.out hH BV.out.size)
  clear hH
  go_wp2_with fail
  go_ret
  exact ⟨rfl, B2.out⟩

theorem inD_pls {H V : Nat} (h8 : H ≤ 8) (w8 : V ≤ 8) (l : List (Pl H V)) : inD (plAt l) l.length := fun k hk => by
  refine ⟨(l[k]).1.1, (l[k]).1.2, by have := (l[k]).2.1; omega, by have := (l[k]).2.2; omega, ?_, ?_⟩
  · unfold plAt
    rw [show k * 2 / 2 = k by omega, List.getElem?_eq_getElem hk]
    simp
  · unfold plAt
    rw [show (k * 2 + 1) / 2 = k by omega, List.getElem?_eq_getElem hk]
    simp

set_option maxRecDepth 100000 in
set_option maxHeartbeats 2000000 in
theorem reachedOf_any (m k : Nat) (c : Array Value) (r : Rf) (y : Int) (g l : Nat → Int) (v1 v3 : Value) (hh ww : Nat) (hhe : r.h = hh) (hwe : r.w = ww) (h8 : hh ≤ 8) (w8 : ww ≤ 8) (w : World) (hR : IsRoof c r) (hv : NumsAt w v1 m g) (hm : m ≤ 2000000) (hv3 : NumsAt w v3 k l) (hk : k ≤ 2000000) (hy : 0 ≤ y ∧ y ≤ 8) :
    Calls Try.prog 66 #[.agg c, v1, .int .i64 y, v3] w fun e w' => ∃ v, e = .returned v ∧ IsList w' w.heap.size v 2 (kpt (r.othB l k) (plAt (fltP (r.canL y g m) (plUpto hh ww (hh * ww)))) (fltP (r.canL y g m) (plUpto hh ww (hh * ww))).length).1 (fun i => .int .i8 ((kpt (r.othB l k) (plAt (fltP (r.canL y g m) (plUpto hh ww (hh * ww)))) (fltP (r.canL y g m) (plUpto hh ww (hh * ww))).length).2 i)) ∧ Below w.heap.size w w' := by
  have hc := hR.size
  have CR := fun W H => reached_own m c r y g v1 hh ww hhe hwe h8 w8 W hR H hm hy
  have hL : (fltP (r.canL y g m) (plUpto hh ww (hh * ww))).length ≤ 2000000 := by
    have h1 := fltP_len (p := r.canL y g m) (plUpto hh ww (hh * ww))
    have h2 := plUpto_len hh ww (hh * ww)
    have : hh * ww ≤ 8 * 8 := Nat.mul_le_mul h8 w8
    omega
  have HD := Lib.hid (inD_pls h8 w8 (fltP (r.canL y g m) (plUpto hh ww (hh * ww))))
  generalize fltP (r.canL y g m) (plUpto hh ww (hh * ww)) = L at *
  have eg : ∀ args w, (callFunc 90 args).run Try.prog w = .ok (.enter 90 args) w := enters_of Try.func90 (by kernel_rfl) rfl
  obtain ⟨a1, c1, rfl⟩ := hv.shape
  obtain ⟨a3, c3, rfl⟩ := hv3.shape
  have p4 : rowAt ((w.alloc (.cells c 29)).alloc (.cells #[.slice a3 k c3] 51)) w.heap.size = some c := (rowAt_alloc_past _ _ _ (by simp)).trans (rowAt_alloc_at w c _ _ rfl)
  have p7 : rowAt ((w.alloc (.cells c 29)).alloc (.cells #[.slice a3 k c3] 51)) (w.heap.size + 1) = some #[.slice a3 k c3] := rowAt_alloc_at _ _ _ _ (by simp)
  have pB : Below w.heap.size w ((w.alloc (.cells c 29)).alloc (.cells #[.slice a3 k c3] 51)) := ((Below.refl _ _).alloc (Nat.le_refl _) _).alloc (by simp) _
  go_enter Try.func66, Try.ntmps66
  go_wp2_with fail
  refine gen_callsC fun W hW => ?_
  rw [← hW] at p4 p7 pB
  clear hW
  have PR := Lib.hid (isOther_pred (w.heap.size + 1) w.heap.size k c r l (.slice a3 k c3) W p7 p4 hR (hv3.below pB (Nat.le_refl _)) hk)
  have PB := Lib.hid pB
  have HV1 := hv.below pB (Nat.le_refl _)
  clear p4 p7 pB hv hv3
  refine (CR W HV1).mono ?_
  rintro e w2 ⟨v, rfl, l2, b2, a2, cap2, rfl, hn2, _⟩
  have PR2 : PredB W.heap.size 90 #[.pointer (some ⟨w.heap.size + 1, 0, none⟩), .pointer (some ⟨w.heap.size, 0, none⟩)] (r.othB l k) w2 := fun i j W' hi hj hW' => PR.out i j W' hi hj (b2.trans hW')
  have CD := deleteP_any 90 #[.pointer (some ⟨w.heap.size + 1, 0, none⟩), .pointer (some ⟨w.heap.size, 0, none⟩)] (r.othB l k) eg W.heap.size L.length cap2 a2 (plAt L) w2 PR2 HD.out b2.size l2 hn2 hL
  have B2 := Lib.hid (bnext PB.out b2 PB.out.size)
  clear b2 l2 PR PR2 CR HV1 eg
  go_wp2_with fail
  refine CD.mono ?_
  rintro e w3 ⟨rfl, l3, b3⟩
  have L3 := Lib.hid (l3.mono PB.out.size)
  have B3 := Lib.hid (B2.out.trans (b3.mono PB.out.size))
  clear l3 b3 CD
  go_wp2_with fail
  go_ret
  exact ⟨_, rfl, L3.out, B3.out⟩
end Go.Proofs.Ytoibolmippfcgaa

/- The places of all tiles that are not whole: both sides. -/
namespace Go.Proofs.Ytoibolmippfcgaa
open Go.RowKit Go.Shelf
attribute [local go_sem] Oper.semAt_some

/-- Of some places those whose tiles are not whole. -/
def Rf.wrongs (r : Rf) {h w : Nat} (l : List (Pl h w)) : List (Pl h w) := l.filter fun x => decide (r.t (x.1.1 * 8 + x.1.2) ≠ 0)
theorem Rf.wrongs_hit {r : Rf} {h w : Nat} {l : List (Pl h w)} {x : Pl h w} (e : r.t (x.1.1 * 8 + x.1.2) ≠ 0) : r.wrongs (l ++ [x]) = r.wrongs l ++ [x] := by simp [Rf.wrongs, e]
theorem Rf.wrongs_miss {r : Rf} {h w : Nat} {l : List (Pl h w)} {x : Pl h w} (e : ¬ r.t (x.1.1 * 8 + x.1.2) ≠ 0) : r.wrongs (l ++ [x]) = r.wrongs l := by simp only [Rf.wrongs, List.filter_append]; simp [e]
theorem Rf.wrongs_len {r : Rf} {h w : Nat} (l : List (Pl h w)) : (r.wrongs l).length ≤ l.length := List.length_filter_le _ _

set_option maxRecDepth 100000 in
set_option maxHeartbeats 1000000 in
theorem l03Wrong_any (n : Nat) (c : Array Value) (r : Rf) (hh ww : Nat) (hhe : r.h = hh) (hwe : r.w = ww) (h8 : hh ≤ 8) (w8 : ww ≤ 8) (w : World) (hr : rowAt w n = some c) (hR : IsRoof c r) :
    Calls Try.prog 68 #[.pointer (some ⟨n, 0, none⟩)] w (GivesP w (r.wrongs (plUpto hh ww (hh * ww)))) := by
  have hn := rowAt_lt hr
  obtain ⟨i0, hi0, hz0, hz1, hz2⟩ := info_parts A_infoPc
  have hsz : hh * ww ≤ 64 := Nat.mul_le_mul h8 w8
  have ow := owns_empty w 68 2
  have hB0 : Below w.heap.size w (w.alloc (.cells #[] 68)) := (Below.refl _ _).alloc (Nat.le_refl _) _
  have r0 := brow hB0 hr
  go_enter Try.func68, Try.ntmps68
  go_wp2_with fail
  refine (l01All_any n c r hh ww hhe hwe h8 w8 _ r0 hR).mono ?_
  rintro e w1 ⟨va, rfl, la, b1⟩
  have ow1 := owns_below ow b1
  have B1 := bnext hB0 b1 hB0.size
  have hs1 : w.heap.size < w1.heap.size := by have := b1.size; simp at this; omega
  rw [plUpto_size (Nat.le_refl _)] at la
  replace la := la.mono (show w.heap.size + 1 ≤ _ by simp)
  obtain ⟨aa, ca, rfl⟩ := la.shape
  have LA := Lib.hid la
  have HR := Lib.hid hr
  have cs := Coll.start B1 0 0
  clear b1 ow hB0 r0 hr la B1
  go_wp2_with fail
  go_loopw [3, 5] (fun v i W => ∃ m : Nat, m ≤ hh * ww ∧ i = .int .i64 m ∧ W.ownsRow w.heap.size 68 2 v (r.wrongs (plUpto hh ww m)).length (plCells (r.wrongs (plUpto hh ww m))) ∧ Coll w w1 W v) (fun _ i _ => hh * ww - (intOf i).toNat)
  case atStart => exact ⟨0, by omega, rfl, ow1, cs⟩
  case round =>
    clear ow1 cs
    obtain ⟨m, hm, rfl, hv, hC⟩ := hrel
    by_cases hlt : m < hh * ww
    · have hp := pl_in hlt
      have i8 : m / ww < 8 := by omega
      have j8 : m % ww < 8 := by omega
      have rW := brow hC.bel HR.out
      obtain ⟨h0, _⟩ | ⟨g, cap, cur, e1, hg, hgr, hgs, hgf⟩ := LA.out.by_rows (fun g h1 h2 => hC.rows g (by omega) h2)
      · omega
      cases e1
      have c0 : wr.cell? ⟨g, m * 2, none⟩ = some (.int .i8 ((m / ww : Nat) : Int)) := (cell_of_rowAt hgr _).trans ((hgf _ (by omega)).trans (congrArg (fun z => some (Value.int .i8 z)) (plAt_even (Nat.le_refl _) hlt)))
      have c1 : wr.cell? ⟨g, m * 2 + 1, none⟩ = some (.int .i8 ((m % ww : Nat) : Int)) := (cell_of_rowAt hgr _).trans ((hgf _ (by omega)).trans (congrArg (fun z => some (Value.int .i8 z)) (plAt_odd (Nat.le_refl _) hlt)))
      have m0 : 0 ≤ (m : Int) := by omega
      have m1 : (m : Int) < ((hh * ww : Nat) : Int) := by omega
      have hpl := r.wrongs_len (plUpto hh ww m)
      have hpl2 := plUpto_len hh ww m
      clear hgf hgs
      obtain ⟨N, hN⟩ : ∃ N, N = hh * ww := ⟨_, rfl⟩
      have HN := Lib.hid hN
      rw [← hN] at m1 hlt hm hsz
      generalize hi : m / ww = i at *
      generalize hj : m % ww = j at *
      have HI := Lib.hid hi
      have HJ := Lib.hid hj
      clear hi hj
      go_wp2_with fail
      refine (l01At_any n c r i j _ rW hR i8 j8).mono ?_
      rintro e w2 ⟨rfl, b2⟩
      have hv2 := owns_below hv b2
      have hC2 := hC.call b2
      have d0 : w2.cell? ⟨g, m * 2, none⟩ = some (.int .i8 (i : Int)) := (b2.cell (p := ⟨g, m * 2, none⟩) (rowAt_lt hgr)).trans c0
      have d1 : w2.cell? ⟨g, m * 2 + 1, none⟩ = some (.int .i8 (j : Int)) := (b2.cell (p := ⟨g, m * 2 + 1, none⟩) (rowAt_lt hgr)).trans c1
      have hgw2 : g < w2.heap.size := Nat.lt_of_lt_of_le (rowAt_lt hgr) b2.size
      clear hv hC b2 c0 c1 hgr rW
      have hsC := hC2.bel.size
      by_cases hx : r.t (i * 8 + j) ≠ 0
      · have hxb : (r.t (i * 8 + j) != 0) = true := by simpa using hx
        clear hx
        go_wp2_with (at_builtin; refine wpList_append_own_at _ rfl _ _ 32 rfl w.heap.size 68 i0 (.agg #[.int .i8 0, .int .i8 0]) 2 2 Try.underlying32 hi0 hz0 hz1 hz2 rfl (by decide) _ _ _ rfl (hv2.alloc _) ⟨w2.heap.size, 0, none⟩ 1 1 [.int .i8 i, .int .i8 j] rfl rfl (cell_two_new _ _ _ _) (by simp [Value.oneCell']) (by unfold maxLen; omega) (by omega) (by simp; omega) ?_; intro v' w3 own3 grow3 _ at3)
        have hC3 := hC2.append hs1 grow3 (at3.imp (fun h => h) (fun h => h.trans (by simp)))
        clear hv2 hC2 d0 d1 grow3 at3
        go_wp2_with fail
        refine ⟨⟨m + 1, by omega, by go_num, ?_, hC3⟩, by simp [intOf]; omega⟩
        rw [plUpto_next (by rw [← HN.out]; exact hlt), Rf.wrongs_hit (by simp only [HI.out, HJ.out]; simpa using hxb), plCells_snoc]
        simp only [HI.out, HJ.out]
        simpa using own3
      · have hxb : (r.t (i * 8 + j) != 0) = false := by simpa using hx
        have HX := Lib.hid hx
        clear hx
        go_wp2_with fail
        refine ⟨⟨m + 1, by omega, by go_num, ?_, hC2⟩, by simp [intOf]; omega⟩
        rw [plUpto_next (by rw [← HN.out]; exact hlt), Rf.wrongs_miss (by simp only [HI.out, HJ.out]; exact HX.out)]
        exact hv2
    · obtain rfl : m = hh * ww := by omega
      go_wp2_with fail
      go_ret
      exact ⟨_, rfl, IsList.of_pls hv, hC.bel⟩
end Go.Proofs.Ytoibolmippfcgaa

/- TilesNeeded: its mathematics; the model's side; the program's contract. -/
namespace Go.Proofs.Ytoibolmippfcgaa
open Go.RowKit

theorem plAt_get {H V : Nat} {l : List (Pl H V)} {k : Nat} (hk : k < l.length) : plAt l (k * 2) = ((l[k]).1.1 : Int) ∧ plAt l (k * 2 + 1) = ((l[k]).1.2 : Int) := by
  unfold plAt
  rw [show k * 2 / 2 = k by omega, show (k * 2 + 1) / 2 = k by omega, List.getElem?_eq_getElem hk]
  simp
theorem take_snoc {α : Type} {l : List α} {k : Nat} (hk : k < l.length) : l.take (k + 1) = l.take k ++ [l[k]] := by
  rw [List.take_add_one, List.getElem?_eq_getElem hk]; rfl
theorem kpt_count {H V : Nat} (p : Int → Int → Bool) (l : List (Pl H V)) : ∀ k, k ≤ l.length → (kpt p (plAt l) k).1 = ((l.take k).filter fun x => !(p x.1.1 x.1.2)).length
  | 0, _ => rfl
  | k + 1, h => by
    have ih := kpt_count p l k (by omega)
    obtain ⟨e0, e1⟩ := plAt_get (l := l) (k := k) (by omega)
    rw [take_snoc (by omega), List.filter_append, List.length_append, ← ih]
    cases hp : p ((l[k]).1.1) ((l[k]).1.2) with
    | true => rw [kpt_del (by rw [e0, e1]; exact hp)]; simp [hp]
    | false => rw [kpt_keep (by rw [e0, e1]; exact hp)]; simp [hp]
/-- Of the first k places those of which q holds. -/
def cntL {H V : Nat} (q : Nat → Nat → Bool) (l : List (Pl H V)) (k : Nat) : Nat := ((l.take k).filter fun x => q x.1.1 x.1.2).length
theorem cntL_succ {H V : Nat} {q : Nat → Nat → Bool} {l : List (Pl H V)} {k : Nat} (hk : k < l.length) : cntL q l (k + 1) = cntL q l k + (if q (l[k]).1.1 (l[k]).1.2 then 1 else 0) := by
  unfold cntL
  rw [take_snoc hk, List.filter_append, List.length_append]
  cases h : q (l[k]).1.1 (l[k]).1.2 <;> simp [h]
theorem cntL_le {H V : Nat} (q : Nat → Nat → Bool) (l : List (Pl H V)) (k : Nat) : cntL q l k ≤ k := by
  unfold cntL
  have h1 := List.length_filter_le (fun x : Pl H V => q x.1.1 x.1.2) (l.take k)
  have h2 : (l.take k).length ≤ k := by simp; omega
  omega
/-- The kinds that need a tile. -/
def kinds2 : Nat → Int := fun q => if q = 0 then 1 else 3
/-- How many tiles are needed: what the model counts, and what the program does. -/
def Rf.needQ (r : Rf) (y : Int) (g : Nat → Int) (m : Nat) (i j : Nat) : Bool := decide (r.t (i * 8 + j) ≠ 2) && decide (0 ≤ firstI (fun q => r.can y i j (g q)) m)
def Rf.needN (r : Rf) (y : Int) (g : Nat → Int) (m : Nat) {H V : Nat} (all : List (Pl H V)) : Nat := cntL (r.needQ y g m) (r.wrongs all) (r.wrongs all).length
theorem Rf.need_eq (r : Rf) (y : Int) (g : Nat → Int) (m : Nat) {H V : Nat} (all : List (Pl H V)) (ht : ∀ i j, i < H → j < V → 0 ≤ r.t (i * 8 + j) ∧ r.t (i * 8 + j) ≤ 3) :
    (kpt (r.othB kinds2 2) (plAt (fltP (r.canL y g m) all)) (fltP (r.canL y g m) all).length).1 = r.needN y g m all := by
  rw [kpt_count _ _ _ (Nat.le_refl _), List.take_length]
  unfold Rf.needN cntL
  rw [List.take_length]
  unfold fltP Rf.wrongs
  rw [List.filter_filter, List.filter_filter]
  congr 1
  refine List.filter_congr fun x _ => ?_
  have h := ht x.1.1 x.1.2 x.2.1 x.2.2
  unfold Rf.othB Rf.needQ Rf.canL
  rw [Int.toNat_natCast, Int.toNat_natCast]
  have e : anyI (fun q => r.t (x.1.1 * 8 + x.1.2) == kinds2 q) 2 = decide (r.t (x.1.1 * 8 + x.1.2) = 1 ∨ r.t (x.1.1 * 8 + x.1.2) = 3) := by
    rw [anyI_succ, anyI_succ, anyI_zero, Bool.false_or]
    unfold kinds2
    rw [Bool.eq_iff_iff]
    simp
  rw [e]
  show _ = (decide (r.t (x.1.1 * 8 + x.1.2) ≠ 2) && anyI (fun q => r.can y x.1.1 x.1.2 (g q)) m && decide (r.t (x.1.1 * 8 + x.1.2) ≠ 0))
  cases anyI (fun q => r.can y x.1.1 x.1.2 (g q)) m
  · simp
  · generalize r.t (x.1.1 * 8 + x.1.2) = z at *
    obtain ⟨z0, z3⟩ := h
    have hz : z = 0 ∨ z = 1 ∨ z = 2 ∨ z = 3 := by omega
    rcases hz with rfl | rfl | rfl | rfl <;> decide
end Go.Proofs.Ytoibolmippfcgaa

/- TilesNeeded: contracts of both sides. -/
namespace Go.Proofs.Ytoibolmippfcgaa
open Go.RowKit

/-- How many tiles are needed, and the code. -/
noncomputable def Rf.needC (r : Rf) (g : Nat → Int) (m : Nat) (y : Int) : Int := r.lcode g m (fun _ => 0) 0 y
noncomputable def Rf.needV (r : Rf) (g : Nat → Int) (m : Nat) (y : Int) : Int := if r.needC g m y = 0 then (r.needN y g m r.all : Int) else 0
theorem IsList.num2 {w : World} {n base cap : Nat} (hr : rowAt w n = some #[.int .i64 1, .int .i64 3]) (hb : base ≤ n) : IsList w base (.slice (some ⟨n, 0, none⟩) 2 cap) 1 2 (fun i => .int .i64 (kinds2 i)) :=
  .inr ⟨n, cap, _, rfl, hb, hr, by simp, fun i hi => by
    have : i = 0 ∨ i = 1 := by omega
    rcases this with rfl | rfl <;> simp [kinds2]⟩

set_option maxRecDepth 100000 in
set_option maxHeartbeats 2000000 in
theorem specTilesNeeded_any (c : Array Value) (r : Rf) (B m : Nat) (g : Nat → Int) (u : Option Addr) (y : Int) (w : World) (hR : IsRoof c r) (hv : IsList w B (.slice u m m) 1 m (fun i => .int .i64 (g i))) (hm : m ≤ 2000000) (_hg : ∀ i, i < m → -9223372036854775808 ≤ g i ∧ g i ≤ 9223372036854775807) :
    Calls Try.prog 37 #[.agg c, .slice u m m, .int .i64 y] w fun e w' => e = .returned (.tuple #[.int .i64 (r.needV g m y), .int .i64 (r.needC g m y)]) ∧ Below w.heap.size w w' := by
  have hc := hR.size
  have HV := Lib.hid hv
  clear hv
  have p0 := rowAt_alloc_at w c 29 w.heap.size rfl
  have LA := fun W k hr H1 => l04Asked_any w.heap.size B 0 m 0 c r g (fun _ => 0) (.slice u m m) (.slice k 0 0) (inB y 0 8) W hr hR H1 hm (IsList.none0 _ _ _ _ _ _) (by omega) (fun i hi => by omega)
  rw [show r.wcode g m (fun _ => 0) 0 (inB y 0 8) = r.needC g m y from rfl] at LA
  by_cases hk : r.needC g m y = 0
  · have hb1 : (r.needC g m y != 0) = false := by simp [hk]
    have hV : r.needV g m y = (r.needN y g m r.all : Int) := by unfold Rf.needV; rw [if_pos hk]
    obtain ⟨ho, hy, _, _, _, _⟩ := Rf.lcode_in hk
    have HK := Lib.hid hk
    have CW := fun W hr => l03Wrong_any w.heap.size c r r.h.toNat r.w.toNat (by have := ho.2.2.1; omega) (by have := ho.1; omega) (by have := ho.2.2.2.1; omega) (by have := ho.2.1; omega) W hr hR
    rw [hV]
    have hle : (r.wrongs r.all).length ≤ 64 := Nat.le_trans (List.length_filter_le _ _) (Rf.all_le ho)
    replace CW : ∀ W (_ : rowAt W w.heap.size = some c), Calls Try.prog 68 #[.pointer (some ⟨w.heap.size, 0, none⟩)] W (GivesP W (r.wrongs r.all)) := CW
    have h8 : r.h.toNat ≤ 8 := by have := ho.2.2.2.1; omega
    have w8 : r.w.toNat ≤ 8 := by have := ho.2.1; omega
    have HN : Hid (r.needN y g m r.all = cntL (r.needQ y g m) (r.wrongs r.all) (r.wrongs r.all).length) := Lib.hid rfl
    generalize r.needN y g m r.all = N at *
    generalize r.wrongs r.all = L at *
    clear hk hV
    go_enter Try.func37, Try.ntmps37
    go_wp2_with fail
    refine gen_callsC fun W hW => ?_
    have P0 : rowAt W w.heap.size = some c := by rw [hW]; exact (rowAt_alloc_past _ _ _ (by simp <;> omega)).trans p0
    have PB : Below w.heap.size w W := by rw [hW]; exact ((Below.refl _ _).alloc (Nat.le_refl _) _).alloc (by simp) _
    clear hW p0
    refine (l04Reach_any y _).mono ?_
    rintro e w1 ⟨rfl, rfl⟩
    go_wp2_with fail
    refine (LA _ _ P0 (HV.out.below PB (Nat.le_refl _))).mono ?_
    rintro e w2 ⟨rfl, b2⟩
    have PB2 := Lib.hid (bnext PB b2 PB.size)
    have P2 := Lib.hid (brow b2 P0)
    clear b2 P0 PB LA
    go_wp2_with fail
    refine (CW _ P2.out).mono ?_
    rintro e w3 ⟨v, rfl, l3, b3⟩
    obtain ⟨av, cv, rfl⟩ := l3.shape
    have PB3 := Lib.hid (bnext PB2.out b3 PB2.out.size)
    have P3 := Lib.hid (brow b3 P2.out)
    have L3 := Lib.hid l3
    clear b3 l3 CW
    go_wp2_with fail
    go_loopw [9, 11] (fun cn i W => ∃ k : Nat, k ≤ L.length ∧ i = .int .i64 k ∧ cn = .int .i64 (cntL (r.needQ y g m) L k : Nat) ∧ Below w3.heap.size w3 W) (fun _ i _ => L.length - (intOf i).toNat)
    case atStart => exact ⟨0, by omega, rfl, rfl, Below.refl _ _⟩
    case round =>
      obtain ⟨k, hk, rfl, rfl, hB⟩ := hrel
      have HB := Lib.hid hB
      clear hB
      have c64 := cntL_le (r.needQ y g m) L k
      by_cases hlt : k < L.length
      · obtain ⟨gg, rfl, c0, c1⟩ := (L3.out.below HB.out (Nat.le_refl _)).pl hlt
        obtain ⟨e0, e1⟩ := plAt_get hlt
        have x1 := (L[k]).2.1
        have x2 := (L[k]).2.2
        have HS := Lib.hid (cntL_succ (q := r.needQ y g m) hlt)
        rw [e0] at c0
        rw [e1] at c1
        generalize (L[k]).1.1 = i at *
        generalize (L[k]).1.2 = j at *
        have i8 : i < 8 := by omega
        have j8 : j < 8 := by omega
        have hi0 : 0 ≤ (k : Int) := by omega
        have hi1 : (k : Int) < L.length := by omega
        have CA := fun W hr => l01At_any w.heap.size c r i j W hr hR i8 j8
        have CF := fun W hr H => l04First_any w.heap.size B m c r g (.slice u m m) y i j W hr hR H hm i8 j8 hy
        have HQ : Hid (r.needQ y g m i j = (decide (r.t (i * 8 + j) ≠ 2) && decide (0 ≤ firstI (fun q => r.can y i j (g q)) m))) := Lib.hid rfl
        have hgg : gg < wr.heap.size := by
          rcases L3.out.below HB.out (Nat.le_refl _) with ⟨h0, _⟩ | ⟨g2, cap2, cur2, e2, _, hr2, _⟩
          · omega
          · cases e2; exact rowAt_lt hr2
        clear e0 e1 x1 x2
        generalize r.needQ y g m i j = qq at *
        generalize firstI (fun q => r.can y i j (g q)) m = z at *
        generalize cntL (r.needQ y g m) L k = cn at *
        have q0 := brow HB.out P3.out
        by_cases ht : r.t (i * 8 + j) = 2
        · have hb2 : (r.t (i * 8 + j) != 2) = false := by simp [ht]
          have HF : Hid (qq = false) := Lib.hid (by rw [HQ.out]; simp [ht])
          clear ht
          go_wp2_with fail
          refine (CA _ q0).mono ?_
          rintro e w4 ⟨rfl, b4⟩
          have B4 := bnext HB.out b4 HB.out.size
          clear b4 q0 CA CF c0 c1
          go_wp2_with fail
          exact ⟨⟨k + 1, by omega, by go_num, by rw [HS.out, HF.out]; simp, B4⟩, by simp [intOf]; omega⟩
        · have hb2 : (r.t (i * 8 + j) != 2) = true := by simp [ht]
          by_cases hz : 0 ≤ z
          · have HF : Hid (qq = true) := Lib.hid (by rw [HQ.out]; simp [ht, hz])
            clear ht
            go_wp2_with fail
            refine (CA _ q0).mono ?_
            rintro e w4 ⟨rfl, b4⟩
            have B4 := bnext HB.out b4 HB.out.size
            have d0 : w4.cell? ⟨gg, k * 2, none⟩ = some (.int .i8 (i : Int)) := (b4.cell (p := ⟨gg, k * 2, none⟩) hgg).trans c0
            have d1 : w4.cell? ⟨gg, k * 2 + 1, none⟩ = some (.int .i8 (j : Int)) := (b4.cell (p := ⟨gg, k * 2 + 1, none⟩) hgg).trans c1
            have q4 := brow b4 q0
            clear b4 q0 CA c0 c1
            go_wp2_with fail
            refine (CF _ q4 (HV.out.below (PB3.out.trans (B4.mono PB3.out.size)) (Nat.le_refl _))).mono ?_
            rintro e w5 ⟨rfl, b5⟩
            have B5 := bnext B4 b5 B4.size
            clear b5 q4 CF d0 d1 B4
            go_wp2_with fail
            exact ⟨⟨k + 1, by omega, by go_num, by rw [HS.out, HF.out]; simp, B5⟩, by simp [intOf]; omega⟩
          · have HF : Hid (qq = false) := Lib.hid (by rw [HQ.out]; simp [hz])
            clear ht
            go_wp2_with fail
            refine (CA _ q0).mono ?_
            rintro e w4 ⟨rfl, b4⟩
            have B4 := bnext HB.out b4 HB.out.size
            have d0 : w4.cell? ⟨gg, k * 2, none⟩ = some (.int .i8 (i : Int)) := (b4.cell (p := ⟨gg, k * 2, none⟩) hgg).trans c0
            have d1 : w4.cell? ⟨gg, k * 2 + 1, none⟩ = some (.int .i8 (j : Int)) := (b4.cell (p := ⟨gg, k * 2 + 1, none⟩) hgg).trans c1
            have q4 := brow b4 q0
            clear b4 q0 CA c0 c1
            go_wp2_with fail
            refine (CF _ q4 (HV.out.below (PB3.out.trans (B4.mono PB3.out.size)) (Nat.le_refl _))).mono ?_
            rintro e w5 ⟨rfl, b5⟩
            have B5 := bnext B4 b5 B4.size
            clear b5 q4 CF d0 d1 B4
            go_wp2_with fail
            exact ⟨⟨k + 1, by omega, by go_num, by rw [HS.out, HF.out]; simp, B5⟩, by simp [intOf]; omega⟩
      · obtain rfl : k = L.length := by omega
        go_wp2_with fail
        go_ret2
        exact ⟨by simp [HK.out, HN.out], PB3.out.trans (HB.out.mono PB3.out.size)⟩
  · have hb1 : (r.needC g m y != 0) = true := by simp [hk]
    have hV : r.needV g m y = 0 := by unfold Rf.needV; rw [if_neg hk]
    rw [hV]
    clear hk hV
    go_enter Try.func37, Try.ntmps37
    go_wp2_with fail
    refine gen_callsC fun W hW => ?_
    have P0 : rowAt W w.heap.size = some c := by rw [hW]; exact (rowAt_alloc_past _ _ _ (by simp <;> omega)).trans p0
    have PB : Below w.heap.size w W := by rw [hW]; exact ((Below.refl _ _).alloc (Nat.le_refl _) _).alloc (by simp) _
    clear hW p0
    refine (l04Reach_any y _).mono ?_
    rintro e w1 ⟨rfl, rfl⟩
    go_wp2_with fail
    refine (LA _ _ P0 (HV.out.below PB (Nat.le_refl _))).mono ?_
    rintro e w2 ⟨rfl, b2⟩
    have PB2 := Lib.hid (bnext PB b2 PB.size)
    clear b2 P0 PB LA
    go_wp2_with fail
    go_ret2
    exact ⟨rfl, PB2.out⟩

set_option maxRecDepth 100000 in
set_option maxHeartbeats 2000000 in
theorem implTilesNeeded_any (c : Array Value) (r : Rf) (B m : Nat) (g : Nat → Int) (u : Option Addr) (y : Int) (w : World) (hR : IsRoof c r) (hv : IsList w B (.slice u m m) 1 m (fun i => .int .i64 (g i))) (hm : m ≤ 2000000) (_hg : ∀ i, i < m → -9223372036854775808 ≤ g i ∧ g i ≤ 9223372036854775807) :
    Calls Try.prog 38 #[.agg c, .slice u m m, .int .i64 y] w fun e w' => e = .returned (.tuple #[.int .i64 (r.needV g m y), .int .i64 (r.needC g m y)]) ∧ Below w.heap.size w w' := by
  have hc := hR.size
  have p0 := rowAt_alloc_at w c 29 w.heap.size rfl
  have pB : Below w.heap.size w (w.alloc (.cells c 29)) := (Below.refl _ _).alloc (Nat.le_refl _) _
  have HV1 := Lib.hid (hv.below pB (Nat.le_refl _)).nums
  have PB := Lib.hid pB
  have CL := fun W H1 => checkLadders_any 0 m 0 c r g (fun _ => 0) (.slice u m m) (.slice none 0 0) y W hR H1 hm (IsList.none0 _ _ _ _ _ _) (by omega)
  rw [show r.wcode g m (fun _ => 0) 0 (inB y 0 8) = r.needC g m y from rfl] at CL
  clear hv pB
  by_cases hk : r.needC g m y = 0
  · have hb1 : (r.needC g m y != 0) = false := by simp [hk]
    obtain ⟨ho, hy, _, _, _, _⟩ := Rf.lcode_in hk
    have HK := Lib.hid hk
    have h8 : r.h.toNat ≤ 8 := by have := ho.2.2.2.1; omega
    have w8 : r.w.toNat ≤ 8 := by have := ho.2.1; omega
    have hV : r.needV g m y = ((kpt (r.othB kinds2 2) (plAt (fltP (r.canL y g m) r.all)) (fltP (r.canL y g m) r.all).length).1 : Nat) := by
      unfold Rf.needV
      rw [if_pos hk, Rf.need_eq r y g m r.all fun i j hi hj => ⟨hR.tiles.lo _ (by omega), (ho.2.2.2.2.2 (i * 8 + j) (by omega)).1⟩]
    have CO := fun W H1 k H3 => reachedOf_any m 2 c r y g kinds2 (.slice u m m) (.slice (some ⟨k, 0, none⟩) 2 2) r.h.toNat r.w.toNat (by have := ho.2.2.1; omega) (by have := ho.1; omega) h8 w8 W hR H1 hm H3 (by omega) hy
    have hle : (kpt (r.othB kinds2 2) (plAt (fltP (r.canL y g m) r.all)) (fltP (r.canL y g m) r.all).length).1 ≤ 64 := Nat.le_trans (kpt_le _) (Nat.le_trans (fltP_len _) (Rf.all_le ho))
    rw [show plUpto r.h.toNat r.w.toNat (r.h.toNat * r.w.toNat) = r.all from rfl] at CO
    rw [hV]
    generalize (kpt (r.othB kinds2 2) (plAt (fltP (r.canL y g m) r.all)) (fltP (r.canL y g m) r.all).length).1 = N at *
    generalize (kpt (r.othB kinds2 2) (plAt (fltP (r.canL y g m) r.all)) (fltP (r.canL y g m) r.all).length).2 = Z at *
    clear hk hV
    have P0 := Lib.hid p0
    go_enter Try.func38, Try.ntmps38
    go_wp2_with fail
    refine (CL _ HV1.out).mono ?_
    rintro e w1 ⟨rfl, b1⟩
    have q0 := brow b1 P0.out
    have q1 := Lib.hid (HV1.out.below b1 (Nat.le_refl _))
    have B1 := Lib.hid (bnext PB.out b1 PB.out.size)
    clear b1 p0 P0 CL HV1
    go_wp2_with fail
    refine gen_callsC fun W hW => ?_
    have b2 : Below w1.heap.size w1 W := by rw [hW]; exact (Below.refl _ _).alloc (Nat.le_refl _) _
    have k2 : rowAt W w1.heap.size = some #[.int .i64 1, .int .i64 3] := by rw [hW]; exact rowAt_alloc_at _ _ _ _ rfl
    have B2 := Lib.hid (bnext B1.out b2 B1.out.size)
    clear hW
    refine (CO W (q1.out.below b2 (Nat.le_refl _)) _ (IsList.num2 (base := 0) (cap := 2) k2 (Nat.zero_le _)).nums).mono ?_
    rintro e w3 ⟨v, rfl, l3, b3⟩
    obtain ⟨av, cv, rfl⟩ := l3.shape
    have B3 := Lib.hid (bnext B2.out b3 B2.out.size)
    clear b2 b3 l3 k2 CO q0
    go_wp2_with fail
    go_ret2
    exact ⟨by simp [HK.out], B3.out⟩
  · have hb1 : (r.needC g m y != 0) = true := by simp [hk]
    have hV : r.needV g m y = 0 := by unfold Rf.needV; rw [if_neg hk]
    rw [hV]
    clear hk hV
    go_enter Try.func38, Try.ntmps38
    go_wp2_with fail
    refine (CL _ HV1.out).mono ?_
    rintro e w1 ⟨rfl, b1⟩
    have B1 := Lib.hid (bnext PB.out b1 PB.out.size)
    clear b1 p0 CL
    go_wp2_with fail
    go_ret2
    exact ⟨rfl, B1.out⟩
end Go.Proofs.Ytoibolmippfcgaa

/- r.mend, r.mendEach, apart from rain (the names of XRunF, XSave, XMendA, XMendI within a namespace of their own). -/
namespace Go.Proofs.Ytoibolmippfcgaa
open Go.RowKit
namespace E

structure Sole (n : Nat) (w W : World) : Prop where
  below : Below n w W
  rows : ∀ m, m < w.heap.size → m ≠ n → rowAt W m = rowAt w m
theorem Sole.refl (n : Nat) (w : World) : Sole n w w := ⟨Below.refl _ _, fun _ _ _ => rfl⟩
theorem Sole.call {n : Nat} {w W W' : World} (h : Sole n w W) (hn : n < w.heap.size) (b : Below W.heap.size W W') : Sole n w W' :=
  have hs := h.below.size
  ⟨h.below.trans (b.mono (by omega)), fun m hm hmn => (rowAt_below b m (by omega)).trans (h.rows m hm hmn)⟩
theorem Sole.setCell {n : Nat} {w W : World} (h : Sole n w W) (o : Nat) (v : Value) : Sole n w (W.setCell ⟨n, o, none⟩ v) :=
  ⟨h.below.setCell (p := ⟨n, o, none⟩) (Nat.le_refl _) v, fun m hm hmn => (rowAt_setCell_ne _ _ _ _ _ hmn).trans (h.rows m hm hmn)⟩
theorem Sole.drew {n : Nat} {w W : World} (h : Sole n w W) : Sole n w W.drew := ⟨h.below.drew, h.rows⟩
theorem Sole.alloc {n : Nat} {w W : World} (h : Sole n w W) (hn : n < w.heap.size) (o : Obj) : Sole n w (W.alloc o) :=
  have hs := h.below.size
  ⟨h.below.alloc (by omega) o, fun m hm hmn => (rowAt_alloc_past _ _ _ (by omega)).trans (h.rows m hm hmn)⟩

theorem Sole.of_below {n : Nat} {w W : World} (b : Below w.heap.size w W) (hn : n < w.heap.size) : Sole n w W :=
  ⟨b.mono (by omega), fun m hm _ => rowAt_below b m hm⟩
theorem Sole.trans {n : Nat} {w W W' : World} (h : Sole n w W) (g : Sole n W W') : Sole n w W' :=
  have hs := h.below.size
  ⟨h.below.trans g.below, fun m hm hmn => (g.rows m (by omega) hmn).trans (h.rows m hm hmn)⟩

theorem Rf.set_ok {r : Rf} (h : r.Ok) (x : Nat) : (r.set x 0).Ok :=
  ⟨h.1, h.2.1, h.2.2.1, h.2.2.2.1, h.2.2.2.2.1, fun i hi => by
    have g := h.2.2.2.2.2 i hi
    unfold Rf.fine Rf.set at *
    dsimp only
    split
    · exact ⟨by omega, .inr rfl⟩
    · exact g⟩

set_option maxRecDepth 100000 in
set_option maxHeartbeats 1000000 in
theorem mend_any (c : Array Value) (r : Rf) (i j : Nat) (w : World) (hR : IsRoof c r) (hi : i < 8) (hj : j < 8) :
    Calls Try.prog 93 #[.agg c, .agg #[.int .i8 i, .int .i8 j]] w fun e w' => e = .returned (.agg (c.setIfInBounds (3 + i * 8 + j) (.int .u8 0))) ∧ Below w.heap.size w w' := by
  have hc := hR.size
  have hzs := zroof_size
  have hrs := (hR.set (i * 8 + j) (by omega) 0 (by omega)).ones
  rw [← Nat.add_assoc] at hrs
  have i0 : 0 ≤ (i : Int) := by omega
  have i1 : (i : Int) < 8 := by omega
  have j0 : 0 ≤ (j : Int) := by omega
  have j1 : (j : Int) < 8 := by omega
  have hcx : 3 + i * 8 + j < 67 := by omega
  have hne2 : w.heap.size + 1 + 1 ≠ w.heap.size := by omega
  clear hR
  go_enter Try.func93, Try.ntmps93
  go_wp2_with fail
  refine gen_world fun W hW => ?_
  have p0 : rowAt W w.heap.size = some c := by rw [hW]; exact (rowAt_alloc_past _ _ _ (by simp; omega)).trans ((rowAt_alloc_past _ _ _ (by simp)).trans (rowAt_alloc_at _ _ _ _ rfl))
  have p1 : rowAt W (w.heap.size + 1) = some #[.int .i8 i, .int .i8 j] := by rw [hW]; exact (rowAt_alloc_past _ _ _ (by simp)).trans (rowAt_alloc_at _ _ _ _ (by simp))
  have p2 : rowAt W (w.heap.size + 1 + 1) = some Try.zeroCells29 := by rw [hW]; exact rowAt_alloc_at _ _ _ _ (by simp)
  have pB : Below w.heap.size w W := by rw [hW]; exact (((Below.refl _ _).alloc (Nat.le_refl _) _).alloc (by simp) _).alloc (by simp; omega) _
  clear hW
  have g1 : W.cell? ⟨w.heap.size + 1, 0, none⟩ = some (.int .i8 i) := by rw [cell_of_rowAt p1]; rfl
  have g2 : W.cell? ⟨w.heap.size + 1, 1, none⟩ = some (.int .i8 j) := by rw [cell_of_rowAt p1]; rfl
  have gcell := cell_of_rowAt p0
  have gfro := frozen_of_rowAt p0
  go_still_tail 7, (by kernel_rfl)
  change wpList _ _ _ _ _ W.drew
  repeat go_step
  have s0 := rowAt_setCell_at W w.heap.size (3 + i * 8 + j) (.int .u8 0) (by simp [p0])
  have s2 := (rowAt_setCell_ne W w.heap.size (w.heap.size + 1 + 1) (3 + i * 8 + j) (.int .u8 0) hne2).trans p2
  refine bodyPost_ret (v := .agg (c.setIfInBounds (3 + i * 8 + j) (.int .u8 0))) (results_row1 rfl _ _ (w.heap.size + 1 + 1) _ rfl (rowAt_setRow_at _ _ _ (by rw [s2]; rfl)) Try.underlying29 rfl (by kernel_rfl) (by simpa using hc)) rfl ⟨rfl, ?_⟩
  exact below_setRow ((pB.setCell (p := ⟨_, _, none⟩) (Nat.le_refl _) _).drew) (by omega) _

def pix (f : Nat → Int) (k : Nat) : Nat := (f (k * 2)).toNat * 8 + (f (k * 2 + 1)).toNat
def Rf.mendL (r : Rf) (f : Nat → Int) : Nat → Rf
  | 0 => r
  | n + 1 => (Rf.mendL r f n).set (pix f n) 0
def mendC (c : Array Value) (f : Nat → Int) : Nat → Array Value
  | 0 => c
  | n + 1 => (mendC c f n).setIfInBounds (3 + pix f n) (.int .u8 0)
theorem Rf.pix_lt {r : Rf} {f : Nat → Int} {k : Nat} (ho : r.Ok) (h : r.inP f k) : pix f k < 64 := by
  have h1 := ho.2.1
  have h2 := ho.2.2.2.1
  obtain ⟨a, b, c, d⟩ := h
  unfold pix
  omega
theorem mendC_is {c : Array Value} {r : Rf} {f : Nat → Int} (hR : IsRoof c r) (ho : r.Ok) : ∀ {n : Nat}, r.okP f n → IsRoof (mendC c f n) (Rf.mendL r f n)
  | 0, _ => hR
  | n + 1, h => (mendC_is hR ho (Rf.okP_succ.1 h).1).set _ (Rf.pix_lt ho (Rf.okP_succ.1 h).2) 0 (by omega)

theorem gen_callsL {P : Program} {f : FuncId} {args : Array Value} {Q : Ending → World → Prop} {w : World} (h : ∀ W, W = w → Calls P f args W Q) : Calls P f args w Q := h w rfl

set_option maxRecDepth 100000 in
set_option maxHeartbeats 1000000 in
theorem mendEach_any (b n : Nat) (c : Array Value) (r : Rf) (f : Nat → Int) (v : Value) (w : World) (hR : IsRoof c r) (ho : r.Ok) (hv : IsList w b v 2 n (fun i => .int .i8 (f i))) (hn : n ≤ 2000000) (hP : r.okP f n) :
    Calls Try.prog 67 #[.agg c, v] w fun e w' => e = .returned (.agg (mendC c f n)) ∧ Below w.heap.size w w' := by
  have hc := hR.size
  have hzs := zroof_size
  have HV := Lib.hid hv
  have HP := Lib.hid hP
  obtain ⟨av, cv, rfl⟩ := hv.shape
  clear hv hP
  go_enter Try.func67, Try.ntmps67
  go_wp2_with fail
  refine gen_world fun W0 hW => ?_
  have p0 : rowAt W0 w.heap.size = some c := by rw [hW]; exact (rowAt_alloc_past _ _ _ (by simp)).trans (rowAt_alloc_at _ _ _ _ rfl)
  have p1 : rowAt W0 (w.heap.size + 1) = some Try.zeroCells29 := by rw [hW]; exact rowAt_alloc_at _ _ _ _ (by simp)
  have pB : Below w.heap.size w W0 := by rw [hW]; exact ((Below.refl _ _).alloc (Nat.le_refl _) _).alloc (by simp) _
  have P0 := Lib.hid p0
  have P1 := Lib.hid p1
  have PB := Lib.hid pB
  clear hW p0 p1 pB
  go_loopw [9] (fun i W => ∃ k : Nat, k ≤ n ∧ i = .int .i64 k ∧ rowAt W w.heap.size = some (mendC c f k) ∧ Sole w.heap.size W0 W) (fun i _ => n - (intOf i).toNat)
  case atStart => exact ⟨0, by omega, rfl, P0.out, Sole.refl _ _⟩
  case round =>
    obtain ⟨k, hk, rfl, hrow, hS⟩ := hrel
    have hm := mendC_is hR ho (Rf.okP_le HP.out hk)
    have hms := hm.size
    by_cases hlt : k < n
    · have hL : IsList wr b (.slice av n cv) 2 n (fun i => .int .i8 (f i)) := by
        rcases HV.out with h | ⟨g, cap, cur, e, hg, hr', hs, hf⟩
        · exact .inl h
        · have h1 := rowAt_lt hr'
          exact .inr ⟨g, cap, cur, e, hg, (hS.rows g (by have := rowAt_lt P0.out; omega) (by omega)).trans ((rowAt_below PB.out g h1).trans hr'), hs, hf⟩
      obtain ⟨g, rfl, c0, c1⟩ := hL.pl hlt
      have hin := HP.out k hlt
      obtain ⟨x, hx⟩ := Int.eq_ofNat_of_zero_le hin.1
      obtain ⟨y, hy⟩ := Int.eq_ofNat_of_zero_le hin.2.2.1
      have hx8 : x < 8 := by have := hin.2.1; have := ho.2.2.2.1; omega
      have hy8 : y < 8 := by have := hin.2.2.2; have := ho.2.1; omega
      have hpx : pix f k = x * 8 + y := by unfold pix; rw [hx, hy]; rfl
      rw [hx] at c0
      rw [hy] at c1
      have i0 : 0 ≤ (k : Int) := by omega
      have i1 : (k : Int) < n := by omega
      have lt0 := rowAt_lt hrow
      have HX := Lib.hid hpx
      have HW := Lib.hid hrow
      have HS := Lib.hid hS
      have HM := Lib.hid hm
      clear hin hx hy hpx hS hL hm
      go_wp2_with fail
      refine gen_callsL fun W hW => ?_
      have q0 : rowAt W w.heap.size = some (mendC c f k) := by rw [hW]; exact (rowAt_alloc_past _ _ _ lt0).trans hrow
      have qS : Sole w.heap.size W0 W := by rw [hW]; exact HS.out.alloc (rowAt_lt P0.out) _
      have Q0 := Lib.hid q0
      have QS := Lib.hid qS
      clear hW q0 qS hrow
      refine (mend_any _ _ x y _ HM.out hx8 hy8).mono ?_
      rintro e w2 ⟨rfl, b2⟩
      have s0 := brow b2 Q0.out
      have SS := Lib.hid (QS.out.call (rowAt_lt P0.out) b2)
      have hms2 : ((mendC c f k).setIfInBounds (3 + x * 8 + y) (.int .u8 0)).size = 67 := by simpa using hms
      have hmo2 : Ones ((mendC c f k).setIfInBounds (3 + x * 8 + y) (.int .u8 0)) := by
        have := (HM.out.set (x * 8 + y) (by omega) 0 (by omega)).ones
        rwa [← Nat.add_assoc] at this
      have hE : (mendC c f k).setIfInBounds (3 + x * 8 + y) (.int .u8 0) = mendC c f (k + 1) := by
        show _ = (mendC c f k).setIfInBounds (3 + pix f k) (.int .u8 0)
        rw [HX.out, Nat.add_assoc]
      rw [hE] at hms2 hmo2 ⊢
      have S0 := Lib.hid s0
      have HE := Lib.hid hE
      clear b2 hE c0 c1
      go_wp2_with fail
      refine ⟨⟨k + 1, by omega, by go_num, rowAt_setRow_at _ _ _ (by rw [S0.out]; rfl), ⟨below_setRow SS.out.below (Nat.le_refl _) _, fun m hm hmn => (rowAt_setRow_ne _ _ _ _ hmn).trans (SS.out.rows m hm hmn)⟩⟩, by simp [intOf]; omega⟩
    · obtain rfl : k = n := by omega
      have ho1 := hm.ones
      have s1 : rowAt wr (w.heap.size + 1) = some Try.zeroCells29 := (hS.rows _ (by have := rowAt_lt P1.out; omega) (by omega)).trans P1.out
      have hB : Below w.heap.size w wr := PB.out.trans hS.below
      have hne : w.heap.size + 1 ≠ w.heap.size := by omega
      clear hS hm
      go_wp2_with fail
      refine bodyPost_ret (v := .agg (mendC c f k)) (results_row1 rfl _ _ (w.heap.size + 1) _ rfl (by simp [go_sem, s1]) Try.underlying29 rfl (by kernel_rfl) hms) rfl ⟨rfl, ?_⟩
      exact below_setRow hB (by omega) _

end E
end Go.Proofs.Ytoibolmippfcgaa

/- PushBack: its mathematics. -/
namespace Go.Proofs.Ytoibolmippfcgaa
open Go.RowKit E

theorem plAt_left {H V : Nat} (l t : List (Pl H V)) {x : Nat} (hx : x < l.length * 2) : plAt (l ++ t) x = plAt l x := by
  unfold plAt
  rw [List.getElem?_append_left (by omega)]
theorem plAt_last {H V : Nat} (l : List (Pl H V)) (a : Pl H V) : plAt (l ++ [a]) (l.length * 2) = (a.1.1 : Int) ∧ plAt (l ++ [a]) (l.length * 2 + 1) = (a.1.2 : Int) := by
  have h := plAt_get (l := l ++ [a]) (k := l.length) (by simp)
  simpa using h
/-- The cells of those that stay. -/
theorem kpt_cells {H V : Nat} (p : Int → Int → Bool) (l : List (Pl H V)) : ∀ k, k ≤ l.length → ∀ x, x < (kpt p (plAt l) k).1 * 2 → (kpt p (plAt l) k).2 x = plAt ((l.take k).filter fun x => !(p x.1.1 x.1.2)) x
  | 0, _, x, hx => by simp [kpt] at hx
  | k + 1, h, x, hx => by
    have ih := kpt_cells p l k (by omega)
    have hc := kpt_count p l k (by omega)
    obtain ⟨e0, e1⟩ := plAt_get (l := l) (k := k) (by omega)
    rw [take_snoc (by omega), List.filter_append]
    cases hp : p ((l[k]).1.1) ((l[k]).1.2) with
    | true =>
      rw [kpt_del (by rw [e0, e1]; exact hp)] at hx ⊢
      simpa [hp] using ih x hx
    | false =>
      rw [kpt_keep (by rw [e0, e1]; exact hp)] at hx ⊢
      dsimp only at hx ⊢
      have hs : List.filter (fun x : Pl H V => !(p x.1.1 x.1.2)) [l[k]] = [l[k]] := by simp [hp]
      rw [hs]
      obtain ⟨f0, f1⟩ := plAt_last ((l.take k).filter fun x => !(p x.1.1 x.1.2)) (l[k])
      rw [← hc] at f0 f1
      by_cases h0 : x = (kpt p (plAt l) k).1 * 2
      · rw [if_pos h0, h0, f0, e0]
      · by_cases h1 : x = (kpt p (plAt l) k).1 * 2 + 1
        · rw [if_neg h0, if_pos h1, h1, f1, e1]
        · rw [if_neg h0, if_neg h1, plAt_left _ _ (by rw [← hc]; omega)]
          exact ih x (by omega)
/-- The roof in which the tiles of a list are whole. -/
def mendP {H V : Nat} (c : Array Value) (l : List (Pl H V)) : Array Value := l.foldl (fun c x => c.setIfInBounds (3 + (x.1.1 * 8 + x.1.2)) (.int .u8 0)) c
theorem mendP_snoc {H V : Nat} (c : Array Value) (l : List (Pl H V)) (x : Pl H V) : mendP c (l ++ [x]) = (mendP c l).setIfInBounds (3 + (x.1.1 * 8 + x.1.2)) (.int .u8 0) := by simp [mendP]
theorem mendC_congr {c : Array Value} {f h : Nat → Int} : ∀ {n : Nat}, (∀ x, x < n * 2 → f x = h x) → mendC c f n = mendC c h n
  | 0, _ => rfl
  | n + 1, e => by
    have h0 := e (n * 2) (by omega)
    have h1 := e (n * 2 + 1) (by omega)
    simp only [mendC, pix, h0, h1]
    rw [mendC_congr fun x hx => e x (by omega)]
theorem mendC_take {H V : Nat} (c : Array Value) (l : List (Pl H V)) : ∀ k, k ≤ l.length → mendC c (plAt l) k = mendP c (l.take k)
  | 0, _ => rfl
  | k + 1, h => by
    obtain ⟨e0, e1⟩ := plAt_get (l := l) (k := k) (by omega)
    rw [take_snoc (by omega), mendP_snoc, ← mendC_take c l k (by omega)]
    simp only [mendC, pix, e0, e1, Int.toNat_natCast]
/-- What is pushed back. -/
def Rf.pushL (r : Rf) (y : Int) (g : Nat → Int) (m : Nat) {H V : Nat} (all : List (Pl H V)) : List (Pl H V) := fltP (r.canL y g m) (r.ofKind 2 all)
def kind1 (k : Int) : Nat → Int := fun _ => k
theorem Rf.push_eq (r : Rf) (y : Int) (g : Nat → Int) (m : Nat) {H V : Nat} (all : List (Pl H V)) :
    (fltP (r.canL y g m) all).filter (fun x => !(r.othB (kind1 2) 1 x.1.1 x.1.2)) = r.pushL y g m all := by
  unfold Rf.pushL fltP Rf.ofKind
  rw [List.filter_filter, List.filter_filter]
  refine List.filter_congr fun x _ => ?_
  unfold Rf.othB
  rw [Int.toNat_natCast, Int.toNat_natCast, anyI_succ, anyI_zero, Bool.false_or, Bool.not_not, Bool.and_comm]
  congr 1
end Go.Proofs.Ytoibolmippfcgaa

/- PushBack: the program's contract. -/
namespace Go.Proofs.Ytoibolmippfcgaa
open Go.RowKit E

section
variable {P : Program} {ty : TypeId} {d : TypeDesc} {m : Nat}
theorem results_row3E {fn : Func} {p u v : Tmp} (h : fn.results = #[.cell p ty, .tmp u, .tmp v]) (tmps : Array Value) (w : World) (n : Nat) (c : Array Value) (x y : Value) (hp : tmps.getD p undef = .pointer (some ⟨n, 0, none⟩))
    (hx : tmps.getD u undef = x) (hy : tmps.getD v undef = y) (hr : rowAt w n = some c) (hu : P.underlying ty = some d) (hd : (match d with | .struct _ | .array _ _ => true | _ => false) = true) (hi : (P.info? ty).map (·.size) = some m) (hm : c.size = m) :
    (results fn tmps).run P w = .ok (.tuple #[.agg c, x, y]) w := by
  obtain ⟨t, ht⟩ := rowAt_some hr
  subst hm
  have hp' : tmps[p]?.getD undef = .pointer (some ⟨n, 0, none⟩) := by simpa using hp
  have hx' : tmps[u]?.getD undef = x := by simpa using hx
  have hy' : tmps[v]?.getD undef = y := by simpa using hy
  simp [results, h, hp', hx', hy', asAddr, run_loadVar_row w n t ty c _ d ht hu hd hi]

end
theorem IsList.swap {w : World} {B n s : Nat} {v : Value} {f h : Nat → Value} (l : IsList w B v s n f) (e : ∀ i, i < n * s → f i = h i) : IsList w B v s n h := by
  rcases l with h0 | ⟨g, cap, cur, e1, hg, hr, hs, hf⟩
  · exact .inl h0
  · exact .inr ⟨g, cap, cur, e1, hg, hr, hs, fun i hi => by rw [hf i hi, e i hi]⟩
theorem IsList.setOther {w : World} {k n s : Nat} {v : Value} {f : Nat → Value} (l : IsList w (k + 1) v s n f) (c : Array Value) : IsList (w.setRow k c) (k + 1) v s n f := by
  rcases l with h0 | ⟨g, cap, cur, e1, hg, hr, hs, hf⟩
  · exact .inl h0
  · exact .inr ⟨g, cap, cur, e1, hg, (rowAt_setRow_ne _ _ _ _ (by omega)).trans hr, hs, hf⟩
theorem okP_pls {r : Rf} {H V : Nat} (hh : r.h = H) (hw : r.w = V) (l : List (Pl H V)) : r.okP (plAt l) l.length := fun k hk => by
  obtain ⟨e0, e1⟩ := plAt_get hk
  have h1 := (l[k]).2.1
  have h2 := (l[k]).2.2
  unfold Rf.inP
  rw [e0, e1, hh, hw]
  omega
theorem mendP_is {c : Array Value} {r : Rf} (hR : IsRoof c r) (ho : r.Ok) {H V : Nat} (hh : r.h = H) (hw : r.w = V) (l : List (Pl H V)) : IsRoof (mendP c l) (E.Rf.mendL r (plAt l) l.length) := by
  have h := mendC_is hR ho (okP_pls hh hw l)
  rwa [mendC_take c l _ (Nat.le_refl _), List.take_length] at h
theorem IsList.num1k {w : World} {n base cap : Nat} {x : Int} (hr : rowAt w n = some #[.int .i64 x]) (hb : base ≤ n) : IsList w base (.slice (some ⟨n, 0, none⟩) 1 cap) 1 1 (fun i => .int .i64 (kind1 x i)) :=
  .inr ⟨n, cap, _, rfl, hb, hr, by simp, fun i hi => by
    obtain rfl : i = 0 := by omega
    simp [kind1]⟩
noncomputable def Rf.pbL (r : Rf) (g : Nat → Int) (m : Nat) (y : Int) : List (Pl r.h.toNat r.w.toNat) := if r.needC g m y = 0 then r.pushL y g m r.all else []
noncomputable def Rf.pbX (r : Rf) (c : Array Value) (g : Nat → Int) (m : Nat) (y : Int) : Array Value := if r.needC g m y = 0 then mendP c (r.pushL y g m r.all) else Try.zeroCells29
/-- A roof, a list of places, a code. -/
def GivesRL (w : World) (X : Array Value) {H V : Nat} (l : List (Pl H V)) (code : Int) (e : Ending) (w' : World) : Prop :=
  ∃ v, e = .returned (.tuple #[.agg X, v, .int .i64 code]) ∧ IsList w' w.heap.size v 2 l.length (fun i => .int .i8 (plAt l i)) ∧ Below w.heap.size w w'

set_option maxRecDepth 100000 in
set_option maxHeartbeats 2000000 in
theorem implPushBack_any (c : Array Value) (r : Rf) (B m : Nat) (g : Nat → Int) (u : Option Addr) (y : Int) (w : World) (hR : IsRoof c r) (hv : IsList w B (.slice u m m) 1 m (fun i => .int .i64 (g i))) (hm : m ≤ 2000000) (_hg : ∀ i, i < m → -9223372036854775808 ≤ g i ∧ g i ≤ 9223372036854775807) :
    Calls Try.prog 34 #[.agg c, .slice u m m, .int .i64 y] w (GivesRL w (r.pbX c g m y) (r.pbL g m y) (r.needC g m y)) := by
  have hc := hR.size
  have hzs := zroof_size
  have hzo := zroof_ones
  have p0 : rowAt ((w.alloc (.cells c 29)).alloc (.cells Try.zeroCells29 29)) w.heap.size = some c := (rowAt_alloc_past _ _ _ (by simp)).trans (rowAt_alloc_at w c _ _ rfl)
  have p1 : rowAt ((w.alloc (.cells c 29)).alloc (.cells Try.zeroCells29 29)) (w.heap.size + 1) = some Try.zeroCells29 := rowAt_alloc_at _ _ _ _ (by simp)
  have pB : Below w.heap.size w ((w.alloc (.cells c 29)).alloc (.cells Try.zeroCells29 29)) := ((Below.refl _ _).alloc (Nat.le_refl _) _).alloc (by simp) _
  have HV1 := Lib.hid (hv.below pB (Nat.le_refl _)).nums
  have PB := Lib.hid pB
  have CL := fun W H1 => checkLadders_any 0 m 0 c r g (fun _ => 0) (.slice u m m) (.slice none 0 0) y W hR H1 hm (IsList.none0 _ _ _ _ _ _) (by omega)
  rw [show r.wcode g m (fun _ => 0) 0 (inB y 0 8) = r.needC g m y from rfl] at CL
  clear hv pB
  have ne1 : w.heap.size + 1 ≠ w.heap.size := by omega
  by_cases hk : r.needC g m y = 0
  · have hb1 : (r.needC g m y != 0) = false := by simp [hk]
    obtain ⟨ho, hy, _, _, _, _⟩ := Rf.lcode_in hk
    have HK := Lib.hid hk
    have h8 : r.h.toNat ≤ 8 := by have := ho.2.2.2.1; omega
    have w8 : r.w.toNat ≤ 8 := by have := ho.2.1; omega
    have hhe : r.h = (r.h.toNat : Int) := by have := ho.2.2.1; omega
    have hwe : r.w = (r.w.toNat : Int) := by have := ho.1; omega
    have eL : r.pbL g m y = r.pushL y g m r.all := if_pos hk
    have eX : r.pbX c g m y = mendP c (r.pushL y g m r.all) := if_pos hk
    have CO := fun W H1 k H3 => reachedOf_any m 1 c r y g (kind1 2) (.slice u m m) (.slice (some ⟨k, 0, none⟩) 1 1) r.h.toNat r.w.toNat hhe hwe h8 w8 W hR H1 hm H3 (by omega) hy
    rw [show plUpto r.h.toNat r.w.toNat (r.h.toNat * r.w.toNat) = r.all from rfl] at CO
    have kc := kpt_cells (r.othB (kind1 2) 1) (fltP (r.canL y g m) r.all) _ (Nat.le_refl _)
    have kn := kpt_count (r.othB (kind1 2) 1) (fltP (r.canL y g m) r.all) _ (Nat.le_refl _)
    rw [List.take_length, Rf.push_eq] at kc kn
    have hle : (r.pushL y g m r.all).length ≤ 2000000 := by
      rw [← kn]
      exact Nat.le_trans (Nat.le_trans (kpt_le _) (Nat.le_trans (fltP_len _) (Rf.all_le ho))) (by omega)
    have hM := mendP_is hR ho hhe hwe (r.pushL y g m r.all)
    have hMs := hM.size
    have hMo := hM.ones
    have hT : mendC c (plAt (r.pushL y g m r.all)) (r.pushL y g m r.all).length = mendP c (r.pushL y g m r.all) := by rw [mendC_take c _ _ (Nat.le_refl _), List.take_length]
    have hOk := okP_pls hhe hwe (r.pushL y g m r.all)
    rw [eL, eX]
    generalize r.pushL y g m r.all = L at *
    generalize (kpt (r.othB (kind1 2) 1) (plAt (fltP (r.canL y g m) r.all)) (fltP (r.canL y g m) r.all).length) = K at *
    have CE := fun W b v H => mendEach_any b L.length c r (plAt L) v W hR ho H hle hOk
    rw [hT] at CE
    generalize mendP c L = X at *
    have KC := Lib.hid kc
    have KN := Lib.hid kn
    clear hk eL eX kc kn hM hT hOk
    have P0 := Lib.hid p0
    have P1 := Lib.hid p1
    clear p0 p1
    go_enter Try.func34, Try.ntmps34
    have p0 := P0.out
    go_wp2_with fail
    refine (CL _ HV1.out).mono ?_
    rintro e w1 ⟨rfl, b1⟩
    have q0 := brow b1 P0.out
    have q0' := Lib.hid q0
    have q1 := Lib.hid (brow b1 P1.out)
    have hl := Lib.hid (HV1.out.below b1 (Nat.le_refl _))
    have B1 := Lib.hid (bnext PB.out b1 PB.out.size)
    clear b1 p0 P0 P1 CL HV1
    go_wp2_with fail
    refine gen_callsC fun W hW => ?_
    have b2 : Below w1.heap.size w1 W := by rw [hW]; exact (Below.refl _ _).alloc (Nat.le_refl _) _
    have k2 : rowAt W w1.heap.size = some #[.int .i64 2] := by rw [hW]; exact rowAt_alloc_at _ _ _ _ rfl
    have B2 := Lib.hid (bnext B1.out b2 B1.out.size)
    have q02 := Lib.hid (brow b2 q0'.out)
    have q12 := Lib.hid (brow b2 q1.out)
    clear hW q0 q0' q1
    refine (CO W (hl.out.below b2 (Nat.le_refl _)) _ (IsList.num1k (base := 0) (cap := 1) k2 (Nat.zero_le _)).nums).mono ?_
    rintro e w3 ⟨v, rfl, l3, b3⟩
    rw [KN.out] at l3
    have hsW : w.heap.size + 1 + 1 ≤ W.heap.size := rowAt_lt q12.out
    have L3 := Lib.hid ((l3.swap (h := fun i => .int .i8 (plAt L i)) fun i hi => by rw [KC.out i (by rw [KN.out]; exact hi)]).mono hsW)
    obtain ⟨av, cv, rfl⟩ := l3.shape
    have B3 := Lib.hid (bnext B2.out b3 B2.out.size)
    have q03 := brow b3 q02.out
    have q13 := Lib.hid (brow b3 q12.out)
    clear b2 b3 l3 k2 CO q02 q12
    go_wp2_with fail
    refine (CE _ _ _ L3.out).mono ?_
    rintro e w4 ⟨rfl, b4⟩
    have B4 := Lib.hid (bnext B3.out b4 B3.out.size)
    have q14 := brow b4 q13.out
    have L4 := Lib.hid (L3.out.below b4 (Nat.le_refl _))
    clear b4 q03 q13 CE
    go_wp2_with fail
    refine bodyPost_ret (v := .tuple #[.agg X, .slice av L.length cv, .int .i64 0]) (results_row3E (m := 67) rfl _ _ (w.heap.size + 1) _ _ _ rfl rfl rfl (rowAt_setRow_at _ _ _ (by rw [q14]; rfl)) Try.underlying29 rfl (by kernel_rfl) hMs) rfl ?_
    exact ⟨_, by rw [HK.out], (L4.out.setOther _).mono (by omega), below_setRow B4.out (by omega) _⟩
  · have hb1 : (r.needC g m y != 0) = true := by simp [hk]
    have eL : r.pbL g m y = [] := if_neg hk
    have eX : r.pbX c g m y = Try.zeroCells29 := if_neg hk
    rw [eL, eX]
    clear hk eL eX
    go_enter Try.func34, Try.ntmps34
    go_wp2_with fail
    refine (CL _ HV1.out).mono ?_
    rintro e w1 ⟨rfl, b1⟩
    have q1 := brow b1 p1
    have B1 := Lib.hid (bnext PB.out b1 PB.out.size)
    clear b1 p0 p1 CL HV1
    go_wp2_with fail
    refine bodyPost_ret (v := .tuple #[.agg Try.zeroCells29, .slice none 0 0, .int .i64 (r.needC g m y)]) (results_row3E (m := 67) rfl _ _ (w.heap.size + 1) _ _ _ rfl rfl rfl (rowAt_setRow_at _ _ _ (by rw [q1]; rfl)) Try.underlying29 rfl (by kernel_rfl) hzs) rfl ?_
    exact ⟨_, rfl, .inl ⟨rfl, none, 0, rfl⟩, below_setRow B1.out (by omega) _⟩
end Go.Proofs.Ytoibolmippfcgaa

/- PushBack: the model's contract. -/
namespace Go.Proofs.Ytoibolmippfcgaa
open Go.RowKit E

theorem Rf.pbX_is {r : Rf} {c : Array Value} (hR : IsRoof c r) (g : Nat → Int) (m : Nat) (y : Int) : ∃ r', IsRoof (r.pbX c g m y) r' := by
  unfold Rf.pbX
  split
  · rename_i h
    have ho := (Rf.lcode_in h).1
    exact ⟨_, mendP_is hR ho (by have := ho.2.2.1; omega) (by have := ho.1; omega) _⟩
  · exact ⟨_, zroof_is⟩
theorem Rf.pbL_le (r : Rf) (g : Nat → Int) (m : Nat) (y : Int) : (r.pbL g m y).length ≤ 2000000 := by
  unfold Rf.pbL
  split
  · rename_i h
    have ho := (Rf.lcode_in h).1
    exact Nat.le_trans (Nat.le_trans (fltP_len _) (Nat.le_trans (r.ofKind_len _) (Rf.all_le ho))) (by omega)
  · simp
theorem Coll.setCell {w W1 W : World} {v : Value} (h : Coll w W1 W v) {n o : Nat} (hn : W1.heap.size ≤ n) (hw : w.heap.size ≤ W1.heap.size) (x : Value) : Coll w W1 (W.setCell ⟨n, o, none⟩ x) v :=
  ⟨h.blk, fun g h1 h2 => (rowAt_setCell_ne _ _ _ _ _ (by omega)).trans (h.rows g h1 h2), h.bel.setCell (p := ⟨n, o, none⟩) (by show _ ≤ n; omega) x, by have := h.size; simpa using this⟩
theorem Coll.drew {w W1 W : World} {v : Value} (h : Coll w W1 W v) : Coll w W1 W.drew v := ⟨h.blk, h.rows, h.bel.drew, h.size⟩

theorem owns_drewE {w : World} {base : Nat} {e : TypeId} {size : Nat} {v : Value} {n : Nat} {xs : List Value} (h : w.ownsRow base e size v n xs) : w.drew.ownsRow base e size v n xs := h

set_option maxRecDepth 100000 in
set_option maxHeartbeats 4000000 in
theorem specPushBack_any (c : Array Value) (r : Rf) (B m : Nat) (g : Nat → Int) (u : Option Addr) (y : Int) (w : World) (hR : IsRoof c r) (hv : IsList w B (.slice u m m) 1 m (fun i => .int .i64 (g i))) (hm : m ≤ 2000000) (_hg : ∀ i, i < m → -9223372036854775808 ≤ g i ∧ g i ≤ 9223372036854775807) :
    Calls Try.prog 32 #[.agg c, .slice u m m, .int .i64 y] w (GivesRL w (r.pbX c g m y) (r.pbL g m y) (r.needC g m y)) := by
  have hc := hR.size
  have hzs := zroof_size
  have hzo := zroof_ones
  have hco := hR.ones
  obtain ⟨i0, hi0, hz0, hz1, hz2⟩ := info_parts A_infoPc
  obtain ⟨Wb, hWb⟩ : ∃ Wb, Wb = (w.alloc (.cells c 29)).alloc (.cells Try.zeroCells29 29) := ⟨_, rfl⟩
  have p0 : rowAt Wb w.heap.size = some c := by rw [hWb]; exact (rowAt_alloc_past _ _ _ (by simp)).trans (rowAt_alloc_at w c _ _ rfl)
  have p1 : rowAt Wb (w.heap.size + 1) = some Try.zeroCells29 := by rw [hWb]; exact rowAt_alloc_at _ _ _ _ (by simp)
  have pB : Below w.heap.size w Wb := by rw [hWb]; exact ((Below.refl _ _).alloc (Nat.le_refl _) _).alloc (by simp) _
  have hsz0 : Wb.heap.size = w.heap.size + 1 + 1 := by rw [hWb]; simp
  have hB0 : Below Wb.heap.size Wb (Wb.alloc (.cells #[] 68)) := (Below.refl _ _).alloc (Nat.le_refl _) _
  have ow := owns_empty Wb 68 2
  have HV := Lib.hid (hv.below pB (Nat.le_refl _))
  have LA := fun W k hr H1 => l04Asked_any w.heap.size B 0 m 0 c r g (fun _ => 0) (.slice u m m) (.slice k 0 0) (inB y 0 8) W hr hR H1 hm (IsList.none0 _ _ _ _ _ _) (by omega) (fun i hi => by omega)
  rw [show r.wcode g m (fun _ => 0) 0 (inB y 0 8) = r.needC g m y from rfl] at LA
  have P0 := Lib.hid p0
  have P1 := Lib.hid p1
  have PB := Lib.hid pB
  have HSZ := Lib.hid hsz0
  clear hv p0 p1 pB
  by_cases hk : r.needC g m y = 0
  · have hb1 : (r.needC g m y != 0) = false := by simp [hk]
    obtain ⟨ho, hy, _, _, _, _⟩ := Rf.lcode_in hk
    have HK := Lib.hid hk
    have h8 : r.h.toNat ≤ 8 := by have := ho.2.2.2.1; omega
    have w8 : r.w.toNat ≤ 8 := by have := ho.2.1; omega
    have eL : r.pbL g m y = fltP (r.canL y g m) (r.ofKind 2 r.all) := if_pos hk
    have eX : r.pbX c g m y = mendP c (fltP (r.canL y g m) (r.ofKind 2 r.all)) := if_pos hk
    have CT := fun W hr => l01Tiles_ok w.heap.size c r 2 W hr hR ho
    have CF := fun W i j hr H1 i8 j8 => l04First_any w.heap.size B m c r g (.slice u m m) y i j W hr hR H1 hm i8 j8 hy
    have hle : (r.ofKind 2 r.all).length ≤ 64 := Nat.le_trans (r.ofKind_len _) (Rf.all_le ho)
    rw [eL, eX]
    obtain ⟨q, HQ⟩ : ∃ q : Nat → Nat → Bool, Hid (∀ i j, q i j = decide (0 ≤ firstI (fun x => r.can y i j (g x)) m)) ∧ r.canL y g m = q := ⟨r.canL y g m, Lib.hid (fun _ _ => rfl), rfl⟩
    obtain ⟨HQ, hq⟩ := HQ
    rw [hq]
    generalize r.ofKind 2 r.all = L at *
    have hhe : r.h = (r.h.toNat : Int) := by have := ho.2.2.1; omega
    have hwe : r.w = (r.w.toNat : Int) := by have := ho.1; omega
    have HM := Lib.hid (fun l => mendP_is hR ho hhe hwe (l : List (Pl r.h.toNat r.w.toNat)))
    clear hk eL eX hq
    go_enter Try.func32, Try.ntmps32
    go_wp2_with fail
    rw [← hWb, ← hsz0]
    clear hWb hsz0
    refine gen_callsC fun W hW => ?_
    have b0 : Below Wb.heap.size Wb W := by rw [hW]; exact hB0
    rw [← hW] at ow
    clear hW hB0
    refine (l04Reach_any y _).mono ?_
    rintro e w1 ⟨rfl, rfl⟩
    go_wp2_with fail
    refine (LA _ _ (brow b0 P0.out) (HV.out.below b0 (Nat.le_refl _))).mono ?_
    rintro e w2 ⟨rfl, b2⟩
    have ow2 := owns_below ow b2
    have B2 := bnext b0 b2 b0.size
    have hs2 : Wb.heap.size < w2.heap.size := by
      obtain ⟨_, h | ⟨g1, _, _, e1, _, hh, _⟩⟩ := ow2
      · cases h.1
      · cases e1; exact (Array.getElem?_eq_some_iff.1 hh).1
    clear b0 b2 ow LA
    go_wp2_with fail
    refine (CT _ (brow B2 P0.out)).mono ?_
    rintro e w3 ⟨va, rfl, la, b3⟩
    have ow3 := owns_below ow2 b3
    have B3 := bnext B2 b3 B2.size
    have hs3 : Wb.heap.size < w3.heap.size := Nat.lt_of_lt_of_le hs2 b3.size
    replace la := la.mono (show Wb.heap.size + 1 ≤ _ from hs2)
    obtain ⟨aa, ca, rfl⟩ := la.shape
    have LA := Lib.hid la
    have cs := Coll.start B3 0 0
    have q0 := brow B3 P0.out
    clear b3 ow2 la B2 B3 CT hs2
    go_wp2_with fail
    refine gen_world fun W0 hW0 => ?_
    have rX : RowT W0 w3.heap.size 29 (mendP c (fltP q (L.take 0))) := by rw [hW0]; exact RowT.new w3 29 c
    have bX : Below w3.heap.size w3 W0 := by rw [hW0]; exact (Below.refl _ _).alloc (Nat.le_refl _) _
    have cX := cs.call bX
    have oX := owns_below ow3 bX
    clear hW0 bX cs ow3 q0
    go_loopw [9, 13] (fun v i W => ∃ k : Nat, k ≤ L.length ∧ i = .int .i64 k ∧ W.ownsRow Wb.heap.size 68 2 v (fltP q (L.take k)).length (plCells (fltP q (L.take k))) ∧ Coll Wb w3 W v ∧ RowT W w3.heap.size 29 (mendP c (fltP q (L.take k)))) (fun _ i _ => L.length - (intOf i).toNat)
    case atStart => exact ⟨0, by omega, rfl, oX, cX, rX⟩
    case round =>
      clear oX cX rX
      obtain ⟨k, hk, rfl, hv, hC, hX⟩ := hrel
      by_cases hlt : k < L.length
      · obtain ⟨h0, _⟩ | ⟨gg, cap, cur, e1, hg, hgr, hgs, hgf⟩ := LA.out.by_rows (fun g h1 h2 => hC.rows g (by omega) h2)
        · omega
        cases e1
        obtain ⟨e0, e1⟩ := plAt_get hlt
        have x1 := (L[k]).2.1
        have x2 := (L[k]).2.2
        have hgw : gg < w3.heap.size := by
          rcases LA.out with ⟨h0, _⟩ | ⟨g2, cap2, cur2, e2, _, hr2, _⟩
          · omega
          · cases e2; exact rowAt_lt hr2
        have c0 : wr.cell? ⟨gg, k * 2, none⟩ = some (.int .i8 ((L[k]).1.1 : Int)) := (cell_of_rowAt hgr _).trans ((hgf _ (by omega)).trans (congrArg (fun z => some (Value.int .i8 z)) e0))
        have c1 : wr.cell? ⟨gg, k * 2 + 1, none⟩ = some (.int .i8 ((L[k]).1.2 : Int)) := (cell_of_rowAt hgr _).trans ((hgf _ (by omega)).trans (congrArg (fun z => some (Value.int .i8 z)) e1))
        have HT := Lib.hid (take_snoc hlt)
        have HQ1 := HQ.out (L[k]).1.1 (L[k]).1.2
        have HMW := (HM.out (fltP q (L.take k))).size
        have hlen : (fltP q (L.take k)).length ≤ k := Nat.le_trans (fltP_len _) (by simp; omega)
        clear hgf hgs hgr
        obtain ⟨pl, HPL⟩ : ∃ pl, Hid (pl = L[k]) := ⟨_, Lib.hid rfl⟩
        rw [← HPL.out] at x1 x2 c0 c1 HT HQ1
        obtain ⟨i, hi⟩ : ∃ i, i = pl.1.1 := ⟨_, rfl⟩
        obtain ⟨j, hj⟩ : ∃ j, j = pl.1.2 := ⟨_, rfl⟩
        rw [← hi] at x1 c0 HQ1
        rw [← hj] at x2 c1 HQ1
        have HI := Lib.hid hi
        have HJ := Lib.hid hj
        have E0 : Hid (plAt L (k * 2) = (i : Int)) := Lib.hid (by rw [e0, HI.out, HPL.out])
        have E1 : Hid (plAt L (k * 2 + 1) = (j : Int)) := Lib.hid (by rw [e1, HJ.out, HPL.out])
        clear hi hj e0 e1
        have i8 : i < 8 := by omega
        have j8 : j < 8 := by omega
        have k0 : 0 ≤ (k : Int) := by omega
        have k1 : (k : Int) < L.length := by omega
        have CF1 := fun W hr H1 => CF W i j hr H1 i8 j8
        have rW := brow hC.bel P0.out
        have hVW := HV.out.below hC.bel (Nat.le_refl _)
        generalize firstI (fun x => r.can y i j (g x)) m = z at *
        by_cases hz : 0 ≤ z
        · have HQT : Hid (q i j = true) := Lib.hid (by rw [HQ1]; simp [hz])
          clear HQ1
          go_wp2_with fail
          refine (CF1 _ rW hVW).mono ?_
          rintro e w4 ⟨rfl, b4⟩
          have hv4 := owns_below hv b4
          have hC4 := hC.call b4
          have hX4 := hX.below b4
          have hgw3 : gg < wr.heap.size := Nat.lt_of_lt_of_le hgw hC.size
          have d0 : w4.cell? ⟨gg, k * 2, none⟩ = some (.int .i8 (i : Int)) := (b4.cell (p := ⟨gg, k * 2, none⟩) hgw3).trans c0
          have d1 : w4.cell? ⟨gg, k * 2 + 1, none⟩ = some (.int .i8 (j : Int)) := (b4.cell (p := ⟨gg, k * 2 + 1, none⟩) hgw3).trans c1
          clear hv hC hX b4 c0 c1 rW hVW CF1
          have i0' : 0 ≤ (i : Int) := by omega
          have i1' : (i : Int) < 8 := by omega
          have j0' : 0 ≤ (j : Int) := by omega
          have j1' : (j : Int) < 8 := by omega
          obtain ⟨X0, HX0⟩ : ∃ X0, Hid (X0 = mendP c (fltP q (L.take k))) := ⟨_, Lib.hid rfl⟩
          rw [← HX0.out] at hX4 HMW
          have hcx : 3 + i * 8 + j < X0.size := by omega
          obtain ⟨xv, gx⟩ : ∃ xv, X0[3 + i * 8 + j]? = some xv := ⟨_, Array.getElem?_eq_getElem hcx⟩
          have gcell := cell_of_rowAt hX4.row
          have gfro := frozen_of_rowAt hX4.row
          go_wp2_with fail
          go_still_tail 13, (by kernel_rfl)
          change wpList _ _ _ _ _ w4.drew
          repeat ((fail_if_success (refine gen_world fun V hV => ?_)); go_step)
          refine gen_world fun V hV => ?_
          have hvV := owns_drewE (ownsRow_setCell_other hv4 (a := ⟨w3.heap.size, 3 + i * 8 + j, none⟩) (Ne.symm (hX4.not_row (by decide) hv4)) (.int .u8 0))
          have hCV := (hC4.setCell (n := w3.heap.size) (o := 3 + i * 8 + j) (Nat.le_refl _) (by omega) (.int .u8 0)).drew
          have hXV := (hX4.set (o := 3 + i * 8 + j) (.int .u8 0)).drew
          rw [← hV] at hvV hCV hXV
          obtain ⟨h0, _⟩ | ⟨g2, cap2, cur2, e2, _, hgr2, _, hgf2⟩ := LA.out.by_rows (fun g h1 h2 => hCV.rows g (by omega) h2)
          · omega
          cases e2
          have f0 : V.cell? ⟨gg, k * 2, none⟩ = some (.int .i8 (i : Int)) := (cell_of_rowAt hgr2 _).trans ((hgf2 _ (by omega)).trans (congrArg (fun z => some (Value.int .i8 z)) E0.out))
          have f1 : V.cell? ⟨gg, k * 2 + 1, none⟩ = some (.int .i8 (j : Int)) := (cell_of_rowAt hgr2 _).trans ((hgf2 _ (by omega)).trans (congrArg (fun z => some (Value.int .i8 z)) E1.out))
          have hgv : gg < V.heap.size := rowAt_lt hgr2
          have hsC := hCV.bel.size
          clear hV hv4 hC4 hX4 d0 d1 gcell gfro hgr2 hgf2 gx
          go_wp2_with (at_builtin; refine wpList_append_own_at _ rfl _ _ 32 rfl Wb.heap.size 68 i0 (.agg #[.int .i8 0, .int .i8 0]) 2 2 Try.underlying32 hi0 hz0 hz1 hz2 rfl (by decide) _ _ _ rfl (hvV.alloc _) ⟨V.heap.size, 0, none⟩ 1 1 [.int .i8 i, .int .i8 j] rfl rfl (cell_two_new _ _ _ _) (by simp [Value.oneCell']) (by unfold maxLen; omega) (by omega) (by simp; omega) ?_; intro v' w5 own3 grow3 _ at3)
          have hC5 := hCV.append hs3 grow3 (at3.imp (fun h => h) (fun h => h.trans (by simp)))
          have hX5 := hXV.appended (by decide) hvV grow3
          have HE : fltP q (L.take (k + 1)) = fltP q (L.take k) ++ [pl] := by rw [HT.out, fltP_hit (by rw [← HI.out, ← HJ.out]; exact HQT.out)]
          clear hvV hCV hXV f0 f1 grow3 at3
          go_wp2_with fail
          refine ⟨⟨k + 1, by omega, by go_num, ?_, hC5, ?_⟩, by simp [intOf]; omega⟩
          · rw [HE, plCells_snoc]
            rw [HI.out, HJ.out] at own3
            simpa using own3
          · rw [HE, mendP_snoc, ← HX0.out, ← HI.out, ← HJ.out, ← Nat.add_assoc]
            exact hX5
        · have HQT : Hid (q i j = false) := Lib.hid (by rw [HQ1]; simp [hz])
          clear HQ1
          go_wp2_with fail
          refine (CF1 _ rW hVW).mono ?_
          rintro e w4 ⟨rfl, b4⟩
          have hv4 := owns_below hv b4
          have hC4 := hC.call b4
          have hX4 := hX.below b4
          have HE : fltP q (L.take (k + 1)) = fltP q (L.take k) := by rw [HT.out, fltP_miss (by rw [← HI.out, ← HJ.out]; exact HQT.out)]
          clear hv hC hX b4 c0 c1 rW hVW CF1
          go_wp2_with fail
          exact ⟨⟨k + 1, by omega, by go_num, by rw [HE]; exact hv4, hC4, by rw [HE]; exact hX4⟩, by simp [intOf]; omega⟩
      · obtain rfl : k = L.length := by omega
        rw [List.take_length] at hv hX
        have hM := HM.out (fltP q L)
        have hMs := hM.size
        have hMo := hM.ones
        clear hM
        generalize mendP c (fltP q L) = X at *
        have hXr := hX.row
        have hR1 := brow hC.bel P1.out
        have hB := PB.out.trans (hC.bel.mono PB.out.size)
        have hL := Lib.hid ((IsList.of_pls hv).mono (show w.heap.size + 1 + 1 ≤ _ from Nat.le_of_eq HSZ.out.symm))
        go_wp2_with fail
        refine bodyPost_ret (results_row3E (m := 67) rfl _ _ (w.heap.size + 1) _ _ _ rfl rfl rfl (rowAt_setRow_at _ _ _ (by rw [hR1]; rfl)) Try.underlying29 rfl (by kernel_rfl) hMs) rfl ?_
        exact ⟨_, by rw [HK.out]; rfl, (hL.out.setOther _).mono (by omega), below_setRow hB (by omega) _⟩
  · have hb1 : (r.needC g m y != 0) = true := by simp [hk]
    have eL : r.pbL g m y = [] := if_neg hk
    have eX : r.pbX c g m y = Try.zeroCells29 := if_neg hk
    rw [eL, eX]
    clear hk eL eX
    go_enter Try.func32, Try.ntmps32
    go_wp2_with fail
    rw [← hWb, ← hsz0]
    clear hWb hsz0
    refine gen_callsC fun W hW => ?_
    have b0 : Below Wb.heap.size Wb W := by rw [hW]; exact hB0
    clear hW hB0 ow
    refine (l04Reach_any y _).mono ?_
    rintro e w1 ⟨rfl, rfl⟩
    go_wp2_with fail
    refine (LA _ _ (brow b0 P0.out) (HV.out.below b0 (Nat.le_refl _))).mono ?_
    rintro e w2 ⟨rfl, b2⟩
    have B2 := bnext b0 b2 b0.size
    have q1 := brow B2 P1.out
    have hB := PB.out.trans (B2.mono PB.out.size)
    clear b0 b2 LA B2
    go_wp2_with fail
    refine bodyPost_ret (results_row3E (m := 67) rfl _ _ (w.heap.size + 1) _ _ _ rfl rfl rfl (rowAt_setRow_at _ _ _ (by rw [q1]; rfl)) Try.underlying29 rfl (by kernel_rfl) hzs) rfl ?_
    exact ⟨_, rfl, .inl ⟨rfl, _, _, rfl⟩, below_setRow hB (by omega) _⟩
end Go.Proofs.Ytoibolmippfcgaa

/- laws.FnExactPushBack returns true for every roof, list of numbers, number, and leaves them as they were. No condition. -/
namespace Go.Proofs.Ytoibolmippfcgaa
open Go.RowKit

set_option maxRecDepth 100000 in
set_option maxHeartbeats 4000000 in
theorem law_walk_FnExactPushBack {w : World} {c : Array Value} {r : Rf} (hR : IsRoof c r) {v_g : Value} {m_g : Nat} {g : Nat → Int} (hv_g : NumsAt w v_g m_g g) (hm_g : m_g ≤ maxLen) (hb_g : ∀ i, i < m_g → -9223372036854775808 ≤ g i ∧ g i ≤ 9223372036854775807) {y : Int} (_hy : -9223372036854775808 ≤ y ∧ y ≤ 9223372036854775807) :
    Calls Try.prog 10 #[.agg c, v_g, .int .i64 y] w fun e w' => e = .returned (.bool true) ∧ Below w.heap.size w w' := by
  have hc := hR.size
  have q0 := rowAt_alloc_at w c 26 w.heap.size rfl
  have PB0 := Lib.hid (show Below w.heap.size w (w.alloc (.cells c 26)) from (Below.refl _ _).alloc (Nat.le_refl _) _)
  have A_g := Lib.hid (hv_g.below PB0.out (Nat.le_refl _))
  have HB_g := Lib.hid hb_g
  have _hmm_g := hm_g
  obtain ⟨av_g, cv_g, rfl⟩ := hv_g.shape
  clear hv_g hb_g
  by_cases hl_g : m_g ≤ 1048576
  rotate_left
  · have hl1_g : (1048576 : Int) < m_g := by omega
    unfold maxLen at hm_g
    go_enter Try.func10, Try.ntmps10
    go_wp2_with fail
    go_ret
    exact ⟨rfl, PB0.out⟩
  have hl1_g : (m_g : Int) ≤ 1048576 := by omega
  have CS := fun (W : World) (B_g : Nat) (U_g : Option Addr) (H_g : IsList W B_g (.slice U_g m_g m_g) 1 m_g (fun i => .int .i64 (g i))) => specPushBack_any c r B_g m_g g U_g y W hR H_g (by omega) HB_g.out
  have CI := fun (W : World) (B_g : Nat) (U_g : Option Addr) (H_g : IsList W B_g (.slice U_g m_g m_g) 1 m_g (fun i => .int .i64 (g i))) => implPushBack_any c r B_g m_g g U_g y W hR H_g (by omega) HB_g.out
  have hne0 : ((r.needC g m_g y) != (r.needC g m_g y)) = false := by simp
  generalize (r.needC g m_g y) = x0 at *
  have hzs := zroof_size
  have hzo := zroof_ones
  obtain ⟨rX, hX⟩ := Rf.pbX_is hR g m_g y
  generalize (r.pbX c g m_g y) = X at *
  have hXs := hX.size
  have hXo := hX.ones
  have CE := fun w => eqRoof_same X rX w hX
  unfold GivesRL at CS CI
  have hnb : ((r.pbL g m_g y).length) ≤ 2000000 := r.pbL_le g m_g y
  generalize ((r.pbL g m_g y).length) = nn at *
  generalize (plAt (r.pbL g m_g y)) = ff at *
  obtain ⟨M, hM⟩ : ∃ M : Int, M = ((1 + 2 * nn : Nat) : Int) := ⟨_, rfl⟩
  have hM0 : 0 ≤ M := by omega
  have hmm : (M != M) = false := by simp
  have HM := Lib.hid hM
  clear hM
  obtain ⟨K0, hK0⟩ : ∃ K : Int, K = ((1 + m_g : Nat) : Int) := ⟨_, rfl⟩
  have HK0 := Lib.hid hK0
  have hK0_0 : 0 ≤ K0 := by omega
  clear hK0
  go_enter Try.func10, Try.ntmps10
  go_wp2_with fail
  refine gen_callsW fun W0 hW => ?_
  rw [← hW] at q0 PB0 A_g
  clear hW
  have H0 := Lib.hid (Below.refl W0.heap.size W0)
  refine (toRoof_any c r _ hR).mono ?_
  rintro e w1 ⟨rfl, b1⟩
  have H1 := Lib.hid (bnext H0.out b1 H0.out.size)
  clear b1 H0
  have q1 := brow H1.out q0
  go_wp2_with fail
  refine (toInt64S_any _ m_g g _ (A_g.out.below H1.out (Nat.le_refl _)) (by omega)).mono ?_
  rintro e w2 ⟨u_s_g, rfl, l_s_g, b2⟩
  have H2 := Lib.hid (bnext H1.out b2 H1.out.size)
  obtain ⟨g_s_g, hg_s_g, k_s_g⟩ := l_s_g.ls
  have g0_s_g : W0.heap.size ≤ g_s_g := Nat.le_trans H1.out.size hg_s_g
  have s_g_2 := Lib.hid k_s_g
  clear l_s_g k_s_g hg_s_g
  clear b2 H1
  have q2 := brow H2.out q0
  go_wp2_with fail
  refine (CS _ _ _ s_g_2.out.list).mono ?_
  rintro e w3 ⟨u_W, rfl, l_W, b3⟩
  have H3 := Lib.hid (bnext H2.out b3 H2.out.size)
  have s_g_3 := Lib.hid (s_g_2.out.below b3 (Nat.le_refl _))
  obtain ⟨g_W, hg_W, k_W⟩ := l_W.ls
  have ne_s_g_W := s_g_2.out.ne hg_W
  have g0_W : W0.heap.size ≤ g_W := Nat.le_trans H2.out.size hg_W
  obtain ⟨a_W, c_W, rfl⟩ := l_W.shape
  have W_3 := Lib.hid k_W
  clear l_W k_W hg_W
  clear b3 H2 s_g_2
  have q3 := brow H3.out q0
  go_wp2_with fail
  refine gen_callsW fun w4 hV => ?_
  have b4 : Below w3.heap.size w3 w4 := by rw [hV]; exact (Below.refl _ _).alloc (Nat.le_refl _) _
  have RW_4 : rowAt w4 w3.heap.size = some X := by rw [hV]; exact rowAt_alloc_at _ _ _ _ rfl
  clear hV
  have ne_s_g_RW : m_g = 0 ∨ g_s_g ≠ w3.heap.size := s_g_3.out.lt.imp id Nat.ne_of_lt
  have ne_W_RW : nn = 0 ∨ g_W ≠ w3.heap.size := W_3.out.lt.imp id Nat.ne_of_lt
  have H4 := Lib.hid (bnext H3.out b4 H3.out.size)
  have s_g_4 := Lib.hid (s_g_3.out.below b4 (Nat.le_refl _))
  have W_4 := Lib.hid (W_3.out.below b4 (Nat.le_refl _))
  clear b4 H3 s_g_3 W_3
  have q4 := brow H4.out q0
  clear s_g_4
  refine (toInt64S_any _ m_g g _ (A_g.out.below H4.out (Nat.le_refl _)) (by omega)).mono ?_
  rintro e w5 ⟨u_x_g, rfl, l_x_g, b5⟩
  have H5 := Lib.hid (bnext H4.out b5 H4.out.size)
  have W_5 := Lib.hid (W_4.out.below b5 (Nat.le_refl _))
  have RW_5 := brow b5 RW_4
  obtain ⟨g_x_g, hg_x_g, k_x_g⟩ := l_x_g.ls
  have ne_W_x_g := W_4.out.ne hg_x_g
  have ne_RW_x_g : w3.heap.size ≠ g_x_g := by have := rowAt_lt RW_4; omega
  have g0_x_g : W0.heap.size ≤ g_x_g := Nat.le_trans H4.out.size hg_x_g
  have x_g_5 := Lib.hid k_x_g
  clear l_x_g k_x_g hg_x_g
  clear b5 H4 W_4 RW_4
  have q5 := brow H5.out q0
  go_wp2_with fail
  refine (toRoof_any c r _ hR).mono ?_
  rintro e w6 ⟨rfl, b6⟩
  have H6 := Lib.hid (bnext H5.out b6 H5.out.size)
  have W_6 := Lib.hid (W_5.out.below b6 (Nat.le_refl _))
  have x_g_6 := Lib.hid (x_g_5.out.below b6 (Nat.le_refl _))
  have RW_6 := brow b6 RW_5
  clear b6 H5 W_5 x_g_5 RW_5
  have q6 := brow H6.out q0
  go_wp2_with fail
  refine (CI _ _ _ x_g_6.out.list).mono ?_
  rintro e w7 ⟨u_G, rfl, l_G, b7⟩
  have H7 := Lib.hid (bnext H6.out b7 H6.out.size)
  have W_7 := Lib.hid (W_6.out.below b7 (Nat.le_refl _))
  have x_g_7 := Lib.hid (x_g_6.out.below b7 (Nat.le_refl _))
  have RW_7 := brow b7 RW_6
  obtain ⟨g_G, hg_G, k_G⟩ := l_G.ls
  have ne_W_G := W_6.out.ne hg_G
  have ne_x_g_G := x_g_6.out.ne hg_G
  have ne_RW_G : w3.heap.size ≠ g_G := by have := rowAt_lt RW_6; omega
  have g0_G : W0.heap.size ≤ g_G := Nat.le_trans H6.out.size hg_G
  obtain ⟨a_G, c_G, rfl⟩ := l_G.shape
  have G_7 := Lib.hid k_G
  clear l_G k_G hg_G
  clear b7 H6 W_6 x_g_6 RW_6
  have q7 := brow H7.out q0
  have lt_RW_7 := rowAt_lt RW_7
  have nn_RW_7 : w3.heap.size ≠ w7.heap.size := Nat.ne_of_lt lt_RW_7
  go_wp2_with fail
  refine gen_callsW fun w8 hV => ?_
  have b8 : Below w7.heap.size w7 w8 := by rw [hV]; exact (Below.refl _ _).alloc (Nat.le_refl _) _
  have RG_8 : rowAt w8 w7.heap.size = some X := by rw [hV]; exact rowAt_alloc_at _ _ _ _ rfl
  clear hV
  have ne_W_RG : nn = 0 ∨ g_W ≠ w7.heap.size := W_7.out.lt.imp id Nat.ne_of_lt
  have ne_x_g_RG : m_g = 0 ∨ g_x_g ≠ w7.heap.size := x_g_7.out.lt.imp id Nat.ne_of_lt
  have ne_G_RG : nn = 0 ∨ g_G ≠ w7.heap.size := G_7.out.lt.imp id Nat.ne_of_lt
  have H8 := Lib.hid (bnext H7.out b8 H7.out.size)
  have W_8 := Lib.hid (W_7.out.below b8 (Nat.le_refl _))
  have x_g_8 := Lib.hid (x_g_7.out.below b8 (Nat.le_refl _))
  have G_8 := Lib.hid (G_7.out.below b8 (Nat.le_refl _))
  have RW_8 := brow b8 RW_7
  clear b8 H7 W_7 x_g_7 G_7 RW_7
  have q8 := brow H8.out q0
  refine (CE _).mono ?_
  rintro e w9 ⟨rfl, b9⟩
  have H9 := Lib.hid (bnext H8.out b9 H8.out.size)
  have W_9 := Lib.hid (W_8.out.below b9 (Nat.le_refl _))
  have x_g_9 := Lib.hid (x_g_8.out.below b9 (Nat.le_refl _))
  have G_9 := Lib.hid (G_8.out.below b9 (Nat.le_refl _))
  have RW_9 := brow b9 RW_8
  have RG_9 := brow b9 RG_8
  clear b9 H8 W_8 x_g_8 G_8 RW_8 RG_8
  have q9 := brow H9.out q0
  go_wp2_with fail
  refine (eqPlaceS_same nn ff _ _ _ _ _ G_9.out.list W_9.out.list (by omega)).mono ?_
  rintro e w10 ⟨rfl, b10⟩
  have H10 := Lib.hid (bnext H9.out b10 H9.out.size)
  have W_10 := Lib.hid (W_9.out.below b10 (Nat.le_refl _))
  have x_g_10 := Lib.hid (x_g_9.out.below b10 (Nat.le_refl _))
  have G_10 := Lib.hid (G_9.out.below b10 (Nat.le_refl _))
  have RW_10 := brow b10 RW_9
  have RG_10 := brow b10 RG_9
  clear b10 H9 W_9 x_g_9 G_9 RW_9 RG_9
  have q10 := brow H10.out q0
  go_wp2_with fail
  refine (toInt64S_any _ m_g g _ (A_g.out.below H10.out (Nat.le_refl _)) (by omega)).mono ?_
  rintro e w11 ⟨u_t_g, rfl, l_t_g, b11⟩
  have H11 := Lib.hid (bnext H10.out b11 H10.out.size)
  have W_11 := Lib.hid (W_10.out.below b11 (Nat.le_refl _))
  have x_g_11 := Lib.hid (x_g_10.out.below b11 (Nat.le_refl _))
  have G_11 := Lib.hid (G_10.out.below b11 (Nat.le_refl _))
  have RW_11 := brow b11 RW_10
  have RG_11 := brow b11 RG_10
  obtain ⟨g_t_g, hg_t_g, k_t_g⟩ := l_t_g.ls
  have ne_W_t_g := W_10.out.ne hg_t_g
  have ne_x_g_t_g := x_g_10.out.ne hg_t_g
  have ne_G_t_g := G_10.out.ne hg_t_g
  have ne_RW_t_g : w3.heap.size ≠ g_t_g := by have := rowAt_lt RW_10; omega
  have ne_RG_t_g : w7.heap.size ≠ g_t_g := by have := rowAt_lt RG_10; omega
  have g0_t_g : W0.heap.size ≤ g_t_g := Nat.le_trans H10.out.size hg_t_g
  have t_g_11 := Lib.hid k_t_g
  clear l_t_g k_t_g hg_t_g
  clear b11 H10 W_10 x_g_10 G_10 RW_10 RG_10
  have q11 := brow H11.out q0
  go_wp2_with fail
  refine (eqI m_g g _ _ _ _ _ x_g_11.out.list t_g_11.out.list (by omega)).mono ?_
  rintro e w12 ⟨rfl, b12⟩
  have H12 := Lib.hid (bnext H11.out b12 H11.out.size)
  have W_12 := Lib.hid (W_11.out.below b12 (Nat.le_refl _))
  have x_g_12 := Lib.hid (x_g_11.out.below b12 (Nat.le_refl _))
  have G_12 := Lib.hid (G_11.out.below b12 (Nat.le_refl _))
  have t_g_12 := Lib.hid (t_g_11.out.below b12 (Nat.le_refl _))
  have RW_12 := brow b12 RW_11
  have RG_12 := brow b12 RG_11
  clear b12 H11 W_11 x_g_11 G_11 t_g_11 RW_11 RG_11
  have q12 := brow H12.out q0
  clear t_g_12
  go_wp2_with fail
  refine (markIK m_g _ _ g_x_g (1) 1 K0 rfl HK0.out _ x_g_12.out (by omega) (by omega)).mono ?_
  rintro e w13 ⟨rfl, kk13, o13, z13⟩
  have H13 := Lib.hid (H12.out.trans (o13.below.mono g0_x_g))
  have W_13 := Lib.hid (W_12.out.only o13 ne_W_x_g)
  have x_g_13 := Lib.hid kk13
  have G_13 := Lib.hid (G_12.out.only_later o13 z13 ne_x_g_G)
  have RW_13 := (o13.row ne_RW_x_g).trans RW_12
  have RG_13 : rowAt w13 (w7.heap.size) = some X := by rcases ne_x_g_RG with h | h; · {rw [z13 h]; exact RG_12}; · exact (o13.row (Ne.symm h)).trans RG_12
  clear kk13 o13 z13 H12 W_12 x_g_12 G_12 RW_12 RG_12
  have q13 := brow H13.out q0
  go_wp2_with fail
  refine (CE _).mono ?_
  rintro e w14 ⟨rfl, b14⟩
  have H14 := Lib.hid (bnext H13.out b14 H13.out.size)
  have W_14 := Lib.hid (W_13.out.below b14 (Nat.le_refl _))
  have x_g_14 := Lib.hid (x_g_13.out.below b14 (Nat.le_refl _))
  have G_14 := Lib.hid (G_13.out.below b14 (Nat.le_refl _))
  have RW_14 := brow b14 RW_13
  have RG_14 := brow b14 RG_13
  clear b14 H13 W_13 x_g_13 G_13 RW_13 RG_13
  have q14 := brow H14.out q0
  go_wp2_with fail
  refine (eqPlaceS_same nn ff _ _ _ _ _ G_14.out.list W_14.out.list (by omega)).mono ?_
  rintro e w15 ⟨rfl, b15⟩
  have H15 := Lib.hid (bnext H14.out b15 H14.out.size)
  have W_15 := Lib.hid (W_14.out.below b15 (Nat.le_refl _))
  have x_g_15 := Lib.hid (x_g_14.out.below b15 (Nat.le_refl _))
  have G_15 := Lib.hid (G_14.out.below b15 (Nat.le_refl _))
  have RW_15 := brow b15 RW_14
  have RG_15 := brow b15 RG_14
  clear b15 H14 W_14 x_g_14 G_14 RW_14 RG_14
  have q15 := brow H15.out q0
  go_wp2_with fail
  clear x_g_15
  refine (markPK nn _ _ g_G (1) 1 M rfl HM.out _ G_15.out (by omega) (by omega)).mono ?_
  rintro e w16 ⟨rfl, kk16, o16, z16⟩
  have H16 := Lib.hid (H15.out.trans (o16.below.mono g0_G))
  have W_16 := Lib.hid (W_15.out.only o16 ne_W_G)
  have G_16 := Lib.hid kk16
  have RW_16 := (o16.row ne_RW_G).trans RW_15
  have RG_16 : rowAt w16 (w7.heap.size) = some X := by rcases ne_G_RG with h | h; · {rw [z16 h]; exact RG_15}; · exact (o16.row (Ne.symm h)).trans RG_15
  clear kk16 o16 z16 H15 W_15 G_15 RW_15 RG_15
  have q16 := brow H16.out q0
  go_wp2_with fail
  refine (heldPK nn _ g_G 1 1 M rfl HM.out _ G_16.out (by omega) (by omega)).mono ?_
  rintro e w16_ ⟨rfl, rfl⟩
  go_wp2_with fail
  refine (toRoof_any c r _ hR).mono ?_
  rintro e w17 ⟨rfl, b17⟩
  have H17 := Lib.hid (bnext H16.out b17 H16.out.size)
  have W_17 := Lib.hid (W_16.out.below b17 (Nat.le_refl _))
  have G_17 := Lib.hid (G_16.out.below b17 (Nat.le_refl _))
  have RW_17 := brow b17 RW_16
  have RG_17 := brow b17 RG_16
  clear b17 H16 W_16 G_16 RW_16 RG_16
  have q17 := brow H17.out q0
  go_wp2_with fail
  refine (toInt64S_any _ m_g g _ (A_g.out.below H17.out (Nat.le_refl _)) (by omega)).mono ?_
  rintro e w18 ⟨u_y_g, rfl, l_y_g, b18⟩
  have H18 := Lib.hid (bnext H17.out b18 H17.out.size)
  have W_18 := Lib.hid (W_17.out.below b18 (Nat.le_refl _))
  have G_18 := Lib.hid (G_17.out.below b18 (Nat.le_refl _))
  have RW_18 := brow b18 RW_17
  have RG_18 := brow b18 RG_17
  obtain ⟨g_y_g, hg_y_g, k_y_g⟩ := l_y_g.ls
  have ne_W_y_g := W_17.out.ne hg_y_g
  have ne_G_y_g := G_17.out.ne hg_y_g
  have ne_RW_y_g : w3.heap.size ≠ g_y_g := by have := rowAt_lt RW_17; omega
  have ne_RG_y_g : w7.heap.size ≠ g_y_g := by have := rowAt_lt RG_17; omega
  have g0_y_g : W0.heap.size ≤ g_y_g := Nat.le_trans H17.out.size hg_y_g
  have y_g_18 := Lib.hid k_y_g
  clear l_y_g k_y_g hg_y_g
  clear b18 H17 W_17 G_17 RW_17 RG_17
  have q18 := brow H18.out q0
  go_wp2_with fail
  refine (CI _ _ _ y_g_18.out.list).mono ?_
  rintro e w19 ⟨u_H, rfl, l_H, b19⟩
  have H19 := Lib.hid (bnext H18.out b19 H18.out.size)
  have W_19 := Lib.hid (W_18.out.below b19 (Nat.le_refl _))
  have G_19 := Lib.hid (G_18.out.below b19 (Nat.le_refl _))
  have y_g_19 := Lib.hid (y_g_18.out.below b19 (Nat.le_refl _))
  have RW_19 := brow b19 RW_18
  have RG_19 := brow b19 RG_18
  obtain ⟨g_H, hg_H, k_H⟩ := l_H.ls
  have ne_W_H := W_18.out.ne hg_H
  have ne_G_H := G_18.out.ne hg_H
  have ne_y_g_H := y_g_18.out.ne hg_H
  have ne_RW_H : w3.heap.size ≠ g_H := by have := rowAt_lt RW_18; omega
  have ne_RG_H : w7.heap.size ≠ g_H := by have := rowAt_lt RG_18; omega
  have g0_H : W0.heap.size ≤ g_H := Nat.le_trans H18.out.size hg_H
  obtain ⟨a_H, c_H, rfl⟩ := l_H.shape
  have H_19 := Lib.hid k_H
  clear l_H k_H hg_H
  clear b19 H18 W_18 G_18 y_g_18 RW_18 RG_18
  have q19 := brow H19.out q0
  have lt_RW_19 := rowAt_lt RW_19
  have nn_RW_19 : w3.heap.size ≠ w19.heap.size := Nat.ne_of_lt lt_RW_19
  have lt_RG_19 := rowAt_lt RG_19
  have nn_RG_19 : w7.heap.size ≠ w19.heap.size := Nat.ne_of_lt lt_RG_19
  go_wp2_with fail
  refine gen_callsW fun w20 hV => ?_
  have b20 : Below w19.heap.size w19 w20 := by rw [hV]; exact (Below.refl _ _).alloc (Nat.le_refl _) _
  have RH_20 : rowAt w20 w19.heap.size = some X := by rw [hV]; exact rowAt_alloc_at _ _ _ _ rfl
  clear hV
  have ne_W_RH : nn = 0 ∨ g_W ≠ w19.heap.size := W_19.out.lt.imp id Nat.ne_of_lt
  have ne_G_RH : nn = 0 ∨ g_G ≠ w19.heap.size := G_19.out.lt.imp id Nat.ne_of_lt
  have ne_y_g_RH : m_g = 0 ∨ g_y_g ≠ w19.heap.size := y_g_19.out.lt.imp id Nat.ne_of_lt
  have ne_H_RH : nn = 0 ∨ g_H ≠ w19.heap.size := H_19.out.lt.imp id Nat.ne_of_lt
  have H20 := Lib.hid (bnext H19.out b20 H19.out.size)
  have W_20 := Lib.hid (W_19.out.below b20 (Nat.le_refl _))
  have G_20 := Lib.hid (G_19.out.below b20 (Nat.le_refl _))
  have y_g_20 := Lib.hid (y_g_19.out.below b20 (Nat.le_refl _))
  have H_20 := Lib.hid (H_19.out.below b20 (Nat.le_refl _))
  have RW_20 := brow b20 RW_19
  have RG_20 := brow b20 RG_19
  clear b20 H19 W_19 G_19 y_g_19 H_19 RW_19 RG_19
  have q20 := brow H20.out q0
  clear y_g_20
  refine (CE _).mono ?_
  rintro e w21 ⟨rfl, b21⟩
  have H21 := Lib.hid (bnext H20.out b21 H20.out.size)
  have W_21 := Lib.hid (W_20.out.below b21 (Nat.le_refl _))
  have G_21 := Lib.hid (G_20.out.below b21 (Nat.le_refl _))
  have H_21 := Lib.hid (H_20.out.below b21 (Nat.le_refl _))
  have RW_21 := brow b21 RW_20
  have RG_21 := brow b21 RG_20
  have RH_21 := brow b21 RH_20
  clear b21 H20 W_20 G_20 H_20 RW_20 RG_20 RH_20
  have q21 := brow H21.out q0
  go_wp2_with fail
  refine (eqPlaceS_same nn ff _ _ _ _ _ H_21.out.list W_21.out.list (by omega)).mono ?_
  rintro e w22 ⟨rfl, b22⟩
  have H22 := Lib.hid (bnext H21.out b22 H21.out.size)
  have W_22 := Lib.hid (W_21.out.below b22 (Nat.le_refl _))
  have G_22 := Lib.hid (G_21.out.below b22 (Nat.le_refl _))
  have H_22 := Lib.hid (H_21.out.below b22 (Nat.le_refl _))
  have RW_22 := brow b22 RW_21
  have RG_22 := brow b22 RG_21
  have RH_22 := brow b22 RH_21
  clear b22 H21 W_21 G_21 H_21 RW_21 RG_21 RH_21
  have q22 := brow H22.out q0
  go_wp2_with fail
  refine (heldPK nn _ g_G 1 1 M rfl HM.out _ G_22.out (by omega) (by omega)).mono ?_
  rintro e w22_ ⟨rfl, rfl⟩
  go_wp2_with fail
  go_ret
  exact ⟨rfl, PB0.out.trans (H22.out.mono PB0.out.size)⟩

namespace LFnExactPushBack
open Go.RowKit Go.ChangeShapes Go.WideShapes Go.ChangeAt
theorem own : ownKnob Try.prog.godebug = none := by kernel_rfl
theorem laidOut : laidOutB Try.prog = true := by kernel_rfl
set_option maxRecDepth 100000 in
theorem lifted (os : Os) (started : os.Started) (H : Type) (enc : TypeId × Value → H) :
    ReturnsInHanded {} Try.checked os 10 .any (Rows.fnExactPushBackSpec.pre6 enc Try.prog Try.f10 Rows.fnExactPushBackRow.domain false) (Rows.fnExactPushBackSpec.post enc Try.prog Try.f10 false true false false) := by
  refine returnsInHanded_of_change (C := Try.checked) own started (by kernel_rfl) Try.func10
    (ChangeSpec.witness6 (enc := enc) (C := Try.checked) false ⟨#[], #[.agg Try.zeroCells26, .slice none 0 0, .int .i64 0], []⟩ 8 (by kernel_rfl) (by kernel_rfl) (by kernel_rfl) (by kernel_rfl)) ?_
  intro W base args ds gs before hval0 hW hcnd _
  have hval : ∀ (j : Nat) t v, Try.f10.params[j]? = some t → args[j]? = some v → Value.okWide Try.prog W .any base t v := hval0
  have hW' := hW
  obtain ⟨p, q, hA0, hV, rfl, hfz, hnd⟩ := hW
  have hA : DataW.TrodAll enc Try.prog W 0 (fun _ => true) true Try.f10.params.toList args.toList ds p := hA0
  rw [Try.params10] at hA hval
  obtain ⟨v0, vs0, d0, ds0, p0, q0, hargs, rfl, rfl, h0, r0⟩ := trodAll_cons hA
  obtain ⟨v1, vs1, d1, ds1, p1, q1, rfl, rfl, rfl, h1, r1⟩ := trodAll_cons r0
  obtain ⟨v2, vs2, d2, ds2, p2, q2, rfl, rfl, rfl, h2, r2⟩ := trodAll_cons r1
  obtain ⟨rfl, rfl, rfl⟩ := trodAll_nil r2
  obtain rfl : args = #[v0, v1, v2] := by cases args; simp_all
  obtain ⟨rfl, rfl⟩ := trodVars_none hV
  have k0 := h0
  have lt0 : ∀ x ∈ p0, x.block < W.heap.size := by obtain ⟨m, hm⟩ := k0; exact DataW.trod_lt m _ _ _ hm
  have k1 := h1
  have lt1 : ∀ x ∈ p1, x.block < W.heap.size := by obtain ⟨m, hm⟩ := k1; exact DataW.trod_lt m _ _ _ hm
  obtain ⟨c0, f0, rfl, wf0⟩ := open_roof (hval 0 26 v0 rfl rfl) h0
  obtain ⟨len1, cells1, hL1, hm1, hb1⟩ := open_nums (hval 1 51 v1 rfl rfl) h1
  obtain ⟨x2, rfl, rfl, rfl, wx2⟩ := open_int Try.underlying2 (hval 2 2 v2 rfl rfl) h2
  clear hA0 hval0
  refine (law_walk_FnExactPushBack wf0 hL1 hm1 hb1 (bounds_i64 wx2)).mono fun e W' ⟨he, bel⟩ => ?_
  subst he
  exact ⟨_, rfl, _, _, _, [], _, [], hW', trodAll_mk1 (shut_bool Try.underlying4 _), (trodAll_cons_mk (Below.trod laidOut (by kernel_rfl) (of_decide_eq_true (by kernel_rfl)) k0 bel lt0) (trodAll_cons_mk (Below.trod laidOut (by kernel_rfl) (of_decide_eq_true (by kernel_rfl)) k1 bel lt1) (trodAll_cons_mk (shut_int Try.underlying2 wx2) trodAll_mk0))), rfl, bel.frame _, fun h => by cases h⟩

theorem over : Rows.fnExactPushBackRow.holds Try.pinned (OpenSpec.ofChange Rows.fnExactPushBackSpec) :=
  OpenClaim.holds_of_wide 10 Try.f10 rfl rfl rfl rfl rfl rfl rfl ⟨rfl, rfl, rfl, rfl, rfl⟩ rfl rfl rfl rfl rfl (by kernel_rfl) Try.func10 (by kernel_rfl)
    (of_decide_eq_true (by kernel_rfl)) (by unfold Func.isWrapper; first | (rw [if_pos (by decide +kernel)]; kernel_rfl) | (rw [if_neg (by decide +kernel)]; exact ⟨rfl, rfl⟩))
    (fun os started H enc _ => lifted os started H enc)

theorem proved : Rows.FnExactPushBackSaid := over
end LFnExactPushBack


end Go.Proofs.Ytoibolmippfcgaa
