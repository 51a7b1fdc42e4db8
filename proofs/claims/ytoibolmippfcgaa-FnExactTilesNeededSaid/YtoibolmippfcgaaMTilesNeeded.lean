import Derived.Test.YtoibolmippfcgaaLadS
import Derived.Test.YtoibolmippfcgaaNumsOf
import Derived.Test.YtoibolmippfcgaaDelP
import Derived.Test.YtoibolmippfcgaaReachI
import Derived.Test.YtoibolmippfcgaaRowT
import Derived.Test.YtoibolmippfcgaaLift
import Derived.Test.YtoibolmippfcgaaPlOf
import Derived.Test.YtoibolmippfcgaaAll
import Derived.Test.YtoibolmippfcgaaHelp
import Derived.Test.YtoibolmippfcgaaOpen
import Derived.Test.YtoibolmippfcgaaNums
import Derived.Test.YtoibolmippfcgaaGive
import Derived.Test.YtoibolmippfcgaaArgN

/- CanReach, LadderFor: the model's two functions. -/
namespace Go.Proofs.Ytoibolmippfcgaa
open Go.RowKit

theorem A_infoI : (Try.prog.info? 2).map (fun i => (i.zero, i.size, i.bytes)) = some (some (.int .i64 0), 1, 8) := by kernel_rfl

end Go.Proofs.Ytoibolmippfcgaa

/- CanReach, LadderFor: the program's side. -/
namespace Go.Proofs.Ytoibolmippfcgaa
open Go.RowKit

set_option maxHeartbeats 1000000 in
theorem indexI_any (x : Int) (v : Value) (n : Nat) (f : Nat → Int) (w : World) (hv : NumsAt w v n f) (hn : n ≤ 2000000) :
    Calls Try.prog 106 #[v, .int .i64 x] w fun e w' => e = .returned (.int .i64 (firstI (fun i => x == f i) n)) ∧ Below w.heap.size w w' := by
  have HV := Lib.hid hv
  obtain ⟨a, cap, rfl⟩ := hv.shape
  clear hv
  go_enter Try.func106, Try.ntmps106
  go_wp2_with fail
  go_loopg [5, 8] n (fun gg _ i W => ∃ k : Nat, k ≤ n ∧ n - k ≤ gg ∧ i = .int .i64 k ∧ Hid (∀ j, j < k → (x == f j) = false) ∧ Below w.heap.size w W)
  case atStart => exact ⟨0, by omega, by omega, rfl, Lib.hid (by omega), Below.refl _ _⟩
  case round =>
    obtain ⟨k, hk, hg, rfl, hF, hB⟩ := hrel
    by_cases hlt : k < n
    · obtain ⟨b, o, rfl, cc⟩ := (HV.out.below hB (Nat.le_refl _)).at hlt
      have hi0 : 0 ≤ (k : Int) := by omega
      have hi1 : (k : Int) < n := by omega
      have HB := Lib.hid hB
      clear hB
      cases hq : (x == f k) with
      | true =>
        have HQ := Lib.hid hq
        go_wp2_with fail
        go_ret
        exact ⟨by rw [firstI_hit hlt hF.out HQ.out]; rfl, HB.out⟩
      | false =>
        have HQ := Lib.hid hq
        go_wp2_with fail
        go_roundg (n - (k + 1))
        case measure => omega
        case rel => exact ⟨k + 1, by omega, by omega, by go_num, Lib.hid (fun j hj => by
          by_cases e : j = k
          · subst e; exact HQ.out
          · exact hF.out j (by omega)), HB.out⟩
    · obtain rfl : k = n := by omega
      go_wp2_with fail
      go_ret
      exact ⟨by rw [firstI_miss hF.out]; rfl, hB⟩
theorem containsI_any (x : Int) (v : Value) (n : Nat) (f : Nat → Int) (w : World) (hv : NumsAt w v n f) (hn : n ≤ 2000000) :
    Calls Try.prog 91 #[v, .int .i64 x] w fun e w' => e = .returned (.bool (anyI (fun i => x == f i) n)) ∧ Below w.heap.size w w' := by
  have hbd := firstI_bd (fun i => x == f i) n
  have CX := indexI_any x v n f w hv hn
  obtain ⟨a, cap, rfl⟩ := hv.shape
  unfold anyI
  generalize firstI (fun i => x == f i) n = z at *
  clear hv
  by_cases hz : 0 ≤ z
  · have hd : decide (0 ≤ z) = true := by simp [hz]
    rw [hd]
    go_enter Try.func91, Try.ntmps91
    go_wp2_with fail
    refine CX.mono ?_
    rintro e w1 ⟨rfl, b1⟩
    go_wp2_with fail
    go_ret
    exact ⟨rfl, b1⟩
  · have hd : decide (0 ≤ z) = false := by simp; omega
    rw [hd]
    go_enter Try.func91, Try.ntmps91
    go_wp2_with fail
    refine CX.mono ?_
    rintro e w1 ⟨rfl, b1⟩
    go_wp2_with fail
    go_ret
    exact ⟨rfl, b1⟩
theorem Rf.any_miss (r : Rf) (y : Int) (g : Nat → Int) (m : Nat) (f : Nat → Int) (n : Nat) : anyI (fun i => (-1 : Int) == r.lad y g m f i) n = anyI (r.miss y g m f) n := by
  unfold anyI
  rw [firstI_congr fun j _ => ?_]
  have := r.lad_bd y g m f j
  unfold Rf.miss
  by_cases h : r.lad y g m f j < 0
  · have e : r.lad y g m f j = -1 := by omega
    rw [e]; rfl
  · have e : ¬ (-1 : Int) = r.lad y g m f j := by omega
    simp [h, e]

end Go.Proofs.Ytoibolmippfcgaa

/- TilesNeeded: the program's side: what is reached of some kinds. -/
namespace Go.Proofs.Ytoibolmippfcgaa
open Go.RowKit

/-- Whether the tile's kind is none of m ones. -/
def Rf.othB (r : Rf) (l : Nat → Int) (m : Nat) (a b : Int) : Bool := !(anyI (fun q => r.t (a.toNat * 8 + b.toNat) == l q) m)

set_option maxRecDepth 100000 in
set_option maxHeartbeats 2000000 in
theorem isOther_pred (n7 n4 m : Nat) (c : Array Value) (r : Rf) (l : Nat → Int) (v : Value) (w : World) (h7 : rowAt w n7 = some #[v]) (h4 : rowAt w n4 = some c) (hR : IsRoof c r) (hv : NumsAt w v m l) (hm : m ≤ 2000000) :
    PredB w.heap.size 90 #[.pointer (some ⟨n7, 0, none⟩), .pointer (some ⟨n4, 0, none⟩)] (r.othB l m) w := by
  intro i j W hi hj hW
  have hc := hR.size
  have H7 := brow hW h7
  have H4 := brow hW h4
  have HV0 := hv.below hW (Nat.le_refl _)
  obtain ⟨a, cp, rfl⟩ := hv.shape
  have e0 : r.othB l m i j = !(anyI (fun q => r.t (i * 8 + j) == l q) m) := by unfold Rf.othB; rw [Int.toNat_natCast, Int.toNat_natCast]
  rw [e0]
  clear hv h7 h4 hW e0
  show Calls Try.prog 90 #[.agg #[.int .i8 i, .int .i8 j], .pointer (some ⟨n7, 0, none⟩), .pointer (some ⟨n4, 0, none⟩)] W _
  have S7 := Lib.hid H7
  have S4 := Lib.hid H4
  have HV := Lib.hid HV0
  clear H7 H4 HV0
  go_enter Try.func90, Try.ntmps90
  go_wp2_with fail
  refine gen_world fun V hV => ?_
  have BV : Hid (Below W.heap.size W V) := Lib.hid (by rw [hV]; exact (Below.refl _ _).alloc (Nat.le_refl _) _)
  have SX : Hid (rowAt V W.heap.size = some #[.int .i8 i, .int .i8 j]) := Lib.hid (by rw [hV]; exact rowAt_alloc_at _ _ _ _ rfl)
  replace S7 := Lib.hid (brow BV.out S7.out)
  replace S4 := Lib.hid (brow BV.out S4.out)
  clear hV
  refine wp_region_held_drew (S := fun w' => Below V.heap.size V w') (by kernel_rfl) ((Below.refl _ _).drew) (fun hH => ?_)
  refine wpAnyH_take (i := 0) (v := .slice a m cp) rfl (by kernel_rfl) (by kernel_rfl) (by kernel_rfl) (fun _ _ _ h => h) (Or.inl ⟨by rfl, ?_⟩) hH ?_
  · intro w1 hS; (try dsimp only at hS); have d := cell_of_rowAt (brow hS S7.out) 0; simp at d; go_simp
  (try simp only [List.getElem_toArray]); (try simp only [List.getElem_cons_succ]); (try simp only [List.getElem_cons_zero]); (try simp only [Act.put]); (try simp only [List.setIfInBounds_toArray]); (try simp only [List.set_cons_succ]); (try simp only [List.set_cons_zero])
  refine wpAnyH_take (i := 1) (v := .agg c) rfl (by kernel_rfl) (by kernel_rfl) (by kernel_rfl) (fun _ _ _ h => h) (Or.inl ⟨by rfl, ?_⟩) hH ?_
  · intro w1 hS; (try dsimp only at hS); have s0 := brow hS S4.out; go_simp
  (try simp only [List.getElem_toArray]); (try simp only [List.getElem_cons_succ]); (try simp only [List.getElem_cons_zero]); (try simp only [Act.put]); (try simp only [List.setIfInBounds_toArray]); (try simp only [List.set_cons_succ]); (try simp only [List.set_cons_zero])
  refine wpAnyH_take (i := 2) (v := .agg #[.int .i8 i, .int .i8 j]) rfl (by kernel_rfl) (by kernel_rfl) (by kernel_rfl) (fun _ _ _ h => h) (Or.inl ⟨by rfl, ?_⟩) hH ?_
  · intro w1 hS; (try dsimp only at hS); have d0 := cell_of_rowAt (brow hS SX.out) 0; have d1 := cell_of_rowAt (brow hS SX.out) 1; simp at d0 d1; go_simp
  (try simp only [List.getElem_toArray]); (try simp only [List.getElem_cons_succ]); (try simp only [List.getElem_cons_zero]); (try simp only [Act.put]); (try simp only [List.setIfInBounds_toArray]); (try simp only [List.set_cons_succ]); (try simp only [List.set_cons_zero])
  refine wpAnyH_ready (rs := [3]) (by kernel_rfl) (by simp) (AllReadyH.cons rfl (fun K hK => ?_) AllReadyH.nil)
  go_simp
  refine (kind_any c r i j _ hR hi hj).mono ?_
  rintro x wx ⟨rfl, bx⟩
  go_simp
  refine hK.out _ _ (bnext hH bx hH.size) (fun hG => ?_)
  clear hK K hH bx
  replace hH := hG
  clear hG
  (try simp only [List.getElem_toArray]); (try simp only [List.getElem_cons_succ]); (try simp only [List.getElem_cons_zero]); (try simp only [Act.put]); (try simp only [List.setIfInBounds_toArray]); (try simp only [List.set_cons_succ]); (try simp only [List.set_cons_zero])
  refine wpAnyH_ready (rs := [4]) (by kernel_rfl) (by simp) (AllReadyH.cons rfl (fun K hK => ?_) AllReadyH.nil)
  go_simp
  refine (containsI_any (r.t (i * 8 + j)) (.slice a m cp) m l _ (HV.out.below (bnext BV.out hH BV.out.size) (Nat.le_refl _)) hm).mono ?_
  rintro x wx ⟨rfl, bx⟩
  go_simp
  refine hK.out _ _ (bnext hH bx hH.size) (fun hG => ?_)
  clear hK K hH bx
  replace hH := hG
  clear hG
  (try simp only [List.getElem_toArray]); (try simp only [List.getElem_cons_succ]); (try simp only [List.getElem_cons_zero]); (try simp only [Act.put]); (try simp only [List.setIfInBounds_toArray]); (try simp only [List.set_cons_succ]); (try simp only [List.set_cons_zero])
  refine wpAnyH_take (i := 5) (v := .bool (!(anyI (fun q => r.t (i * 8 + j) == l q) m))) rfl (by kernel_rfl) (by kernel_rfl) (by kernel_rfl) (fun _ _ _ h => h) (Or.inl ⟨by rfl, ?_⟩) hH ?_
  · intro w1 hS; (try dsimp only at hS); go_simp
  (try simp only [List.getElem_toArray]); (try simp only [List.getElem_cons_succ]); (try simp only [List.getElem_cons_zero]); (try simp only [Act.put]); (try simp only [List.setIfInBounds_toArray]); (try simp only [List.set_cons_succ]); (try simp only [List.set_cons_zero])
  refine wpAnyH_take (i := 6) (v := .bool (!(anyI (fun q => r.t (i * 8 + j) == l q) m))) rfl (by kernel_rfl) (by kernel_rfl) (by kernel_rfl) (fun _ _ _ h => h) (Or.inl ⟨by rfl, ?_⟩) hH ?_
  · intro w1 hS; (try dsimp only at hS); go_simp
  (try simp only [List.getElem_toArray]); (try simp only [List.getElem_cons_succ]); (try simp only [List.getElem_cons_zero]); (try simp only [Act.put]); (try simp only [List.setIfInBounds_toArray]); (try simp only [List.set_cons_succ]); (try simp only [List.set_cons_zero])
  refine wpAnyH_done (by kernel_rfl) ?_ _
  have B2 := Lib.hid (bnext BV.out hH BV.out.size)
  clear hH
  go_wp2_with fail
  go_ret
  exact ⟨rfl, B2.out⟩

theorem inD_pls {H V : Nat} (h8 : H ≤ 8) (w8 : V ≤ 8) (l : List (Pl H V)) : inD (plAt l) l.length := fun k hk => by
  refine ⟨(l[k]).1.1, (l[k]).1.2, by have := (l[k]).2.1; omega, by have := (l[k]).2.2; omega, ?_, ?_⟩
  · unfold plAt
    rw [show k * 2 / 2 = k by omega, List.getElem?_eq_getElem hk]
    simp
  · unfold plAt
    rw [show (k * 2 + 1) / 2 = k by omega, List.getElem?_eq_getElem hk]
    simp

set_option maxRecDepth 100000 in
set_option maxHeartbeats 2000000 in
theorem reachedOf_any (m k : Nat) (c : Array Value) (r : Rf) (y : Int) (g l : Nat → Int) (v1 v3 : Value) (hh ww : Nat) (hhe : r.h = hh) (hwe : r.w = ww) (h8 : hh ≤ 8) (w8 : ww ≤ 8) (w : World) (hR : IsRoof c r) (hv : NumsAt w v1 m g) (hm : m ≤ 2000000) (hv3 : NumsAt w v3 k l) (hk : k ≤ 2000000) (hy : 0 ≤ y ∧ y ≤ 8) :
    Calls Try.prog 66 #[.agg c, v1, .int .i64 y, v3] w fun e w' => ∃ v, e = .returned v ∧ IsList w' w.heap.size v 2 (kpt (r.othB l k) (plAt (fltP (r.canL y g m) (plUpto hh ww (hh * ww)))) (fltP (r.canL y g m) (plUpto hh ww (hh * ww))).length).1 (fun i => .int .i8 ((kpt (r.othB l k) (plAt (fltP (r.canL y g m) (plUpto hh ww (hh * ww)))) (fltP (r.canL y g m) (plUpto hh ww (hh * ww))).length).2 i)) ∧ Below w.heap.size w w' := by
  have hc := hR.size
  have CR := fun W H => reached_own m c r y g v1 hh ww hhe hwe h8 w8 W hR H hm hy
  have hL : (fltP (r.canL y g m) (plUpto hh ww (hh * ww))).length ≤ 2000000 := by
    have h1 := fltP_len (p := r.canL y g m) (plUpto hh ww (hh * ww))
    have h2 := plUpto_len hh ww (hh * ww)
    have : hh * ww ≤ 8 * 8 := Nat.mul_le_mul h8 w8
    omega
  have HD := Lib.hid (inD_pls h8 w8 (fltP (r.canL y g m) (plUpto hh ww (hh * ww))))
  generalize fltP (r.canL y g m) (plUpto hh ww (hh * ww)) = L at *
  have eg : ∀ args w, (callFunc 90 args).run Try.prog w = .ok (.enter 90 args) w := enters_of Try.func90 (by kernel_rfl) rfl
  obtain ⟨a1, c1, rfl⟩ := hv.shape
  obtain ⟨a3, c3, rfl⟩ := hv3.shape
  have p4 : rowAt ((w.alloc (.cells c 29)).alloc (.cells #[.slice a3 k c3] 51)) w.heap.size = some c := (rowAt_alloc_past _ _ _ (by simp)).trans (rowAt_alloc_at w c _ _ rfl)
  have p7 : rowAt ((w.alloc (.cells c 29)).alloc (.cells #[.slice a3 k c3] 51)) (w.heap.size + 1) = some #[.slice a3 k c3] := rowAt_alloc_at _ _ _ _ (by simp)
  have pB : Below w.heap.size w ((w.alloc (.cells c 29)).alloc (.cells #[.slice a3 k c3] 51)) := ((Below.refl _ _).alloc (Nat.le_refl _) _).alloc (by simp) _
  go_enter Try.func66, Try.ntmps66
  go_wp2_with fail
  refine gen_callsC fun W hW => ?_
  rw [← hW] at p4 p7 pB
  clear hW
  have PR := Lib.hid (isOther_pred (w.heap.size + 1) w.heap.size k c r l (.slice a3 k c3) W p7 p4 hR (hv3.below pB (Nat.le_refl _)) hk)
  have PB := Lib.hid pB
  have HV1 := hv.below pB (Nat.le_refl _)
  clear p4 p7 pB hv hv3
  refine (CR W HV1).mono ?_
  rintro e w2 ⟨v, rfl, l2, b2, a2, cap2, rfl, hn2, _⟩
  have PR2 : PredB W.heap.size 90 #[.pointer (some ⟨w.heap.size + 1, 0, none⟩), .pointer (some ⟨w.heap.size, 0, none⟩)] (r.othB l k) w2 := fun i j W' hi hj hW' => PR.out i j W' hi hj (b2.trans hW')
  have CD := deleteP_any 90 #[.pointer (some ⟨w.heap.size + 1, 0, none⟩), .pointer (some ⟨w.heap.size, 0, none⟩)] (r.othB l k) eg W.heap.size L.length cap2 a2 (plAt L) w2 PR2 HD.out b2.size l2 hn2 hL
  have B2 := Lib.hid (bnext PB.out b2 PB.out.size)
  clear b2 l2 PR PR2 CR HV1 eg
  go_wp2_with fail
  refine CD.mono ?_
  rintro e w3 ⟨rfl, l3, b3⟩
  have L3 := Lib.hid (l3.mono PB.out.size)
  have B3 := Lib.hid (B2.out.trans (b3.mono PB.out.size))
  clear l3 b3 CD
  go_wp2_with fail
  go_ret
  exact ⟨_, rfl, L3.out, B3.out⟩
end Go.Proofs.Ytoibolmippfcgaa

/- The places of all tiles that are not whole: both sides. -/
namespace Go.Proofs.Ytoibolmippfcgaa
open Go.RowKit Go.Shelf
attribute [local go_sem] Oper.semAt_some

/-- Of some places those whose tiles are not whole. -/
def Rf.wrongs (r : Rf) {h w : Nat} (l : List (Pl h w)) : List (Pl h w) := l.filter fun x => decide (r.t (x.1.1 * 8 + x.1.2) ≠ 0)
theorem Rf.wrongs_hit {r : Rf} {h w : Nat} {l : List (Pl h w)} {x : Pl h w} (e : r.t (x.1.1 * 8 + x.1.2) ≠ 0) : r.wrongs (l ++ [x]) = r.wrongs l ++ [x] := by simp [Rf.wrongs, e]
theorem Rf.wrongs_miss {r : Rf} {h w : Nat} {l : List (Pl h w)} {x : Pl h w} (e : ¬ r.t (x.1.1 * 8 + x.1.2) ≠ 0) : r.wrongs (l ++ [x]) = r.wrongs l := by simp only [Rf.wrongs, List.filter_append]; simp [e]
theorem Rf.wrongs_len {r : Rf} {h w : Nat} (l : List (Pl h w)) : (r.wrongs l).length ≤ l.length := List.length_filter_le _ _

set_option maxRecDepth 100000 in
set_option maxHeartbeats 1000000 in
theorem l03Wrong_any (n : Nat) (c : Array Value) (r : Rf) (hh ww : Nat) (hhe : r.h = hh) (hwe : r.w = ww) (h8 : hh ≤ 8) (w8 : ww ≤ 8) (w : World) (hr : rowAt w n = some c) (hR : IsRoof c r) :
    Calls Try.prog 68 #[.pointer (some ⟨n, 0, none⟩)] w (GivesP w (r.wrongs (plUpto hh ww (hh * ww)))) := by
  have hn := rowAt_lt hr
  obtain ⟨i0, hi0, hz0, hz1, hz2⟩ := info_parts A_infoPc
  have hsz : hh * ww ≤ 64 := Nat.mul_le_mul h8 w8
  have ow := owns_empty w 68 2
  have hB0 : Below w.heap.size w (w.alloc (.cells #[] 68)) := (Below.refl _ _).alloc (Nat.le_refl _) _
  have r0 := brow hB0 hr
  go_enter Try.func68, Try.ntmps68
  go_wp2_with fail
  refine (l01All_any n c r hh ww hhe hwe h8 w8 _ r0 hR).mono ?_
  rintro e w1 ⟨va, rfl, la, b1⟩
  have ow1 := owns_below ow b1
  have B1 := bnext hB0 b1 hB0.size
  have hs1 : w.heap.size < w1.heap.size := by have := b1.size; simp at this; omega
  rw [plUpto_size (Nat.le_refl _)] at la
  replace la := la.mono (show w.heap.size + 1 ≤ _ by simp)
  obtain ⟨aa, ca, rfl⟩ := la.shape
  have LA := Lib.hid la
  have HR := Lib.hid hr
  have cs := Coll.start B1 0 0
  clear b1 ow hB0 r0 hr la B1
  go_wp2_with fail
  go_loopw [3, 5] (fun v i W => ∃ m : Nat, m ≤ hh * ww ∧ i = .int .i64 m ∧ W.ownsRow w.heap.size 68 2 v (r.wrongs (plUpto hh ww m)).length (plCells (r.wrongs (plUpto hh ww m))) ∧ Coll w w1 W v) (fun _ i _ => hh * ww - (intOf i).toNat)
  case atStart => exact ⟨0, by omega, rfl, ow1, cs⟩
  case round =>
    clear ow1 cs
    obtain ⟨m, hm, rfl, hv, hC⟩ := hrel
    by_cases hlt : m < hh * ww
    · have hp := pl_in hlt
      have i8 : m / ww < 8 := by omega
      have j8 : m % ww < 8 := by omega
      have rW := brow hC.bel HR.out
      obtain ⟨h0, _⟩ | ⟨g, cap, cur, e1, hg, hgr, hgs, hgf⟩ := LA.out.by_rows (fun g h1 h2 => hC.rows g (by omega) h2)
      · omega
      cases e1
      have c0 : wr.cell? ⟨g, m * 2, none⟩ = some (.int .i8 ((m / ww : Nat) : Int)) := (cell_of_rowAt hgr _).trans ((hgf _ (by omega)).trans (congrArg (fun z => some (Value.int .i8 z)) (plAt_even (Nat.le_refl _) hlt)))
      have c1 : wr.cell? ⟨g, m * 2 + 1, none⟩ = some (.int .i8 ((m % ww : Nat) : Int)) := (cell_of_rowAt hgr _).trans ((hgf _ (by omega)).trans (congrArg (fun z => some (Value.int .i8 z)) (plAt_odd (Nat.le_refl _) hlt)))
      have m0 : 0 ≤ (m : Int) := by omega
      have m1 : (m : Int) < ((hh * ww : Nat) : Int) := by omega
      have hpl := r.wrongs_len (plUpto hh ww m)
      have hpl2 := plUpto_len hh ww m
      clear hgf hgs
      obtain ⟨N, hN⟩ : ∃ N, N = hh * ww := ⟨_, rfl⟩
      have HN := Lib.hid hN
      rw [← hN] at m1 hlt hm hsz
      generalize hi : m / ww = i at *
      generalize hj : m % ww = j at *
      have HI := Lib.hid hi
      have HJ := Lib.hid hj
      clear hi hj
      go_wp2_with fail
      refine (l01At_any n c r i j _ rW hR i8 j8).mono ?_
      rintro e w2 ⟨rfl, b2⟩
      have hv2 := owns_below hv b2
      have hC2 := hC.call b2
      have d0 : w2.cell? ⟨g, m * 2, none⟩ = some (.int .i8 (i : Int)) := (b2.cell (p := ⟨g, m * 2, none⟩) (rowAt_lt hgr)).trans c0
      have d1 : w2.cell? ⟨g, m * 2 + 1, none⟩ = some (.int .i8 (j : Int)) := (b2.cell (p := ⟨g, m * 2 + 1, none⟩) (rowAt_lt hgr)).trans c1
      have hgw2 : g < w2.heap.size := Nat.lt_of_lt_of_le (rowAt_lt hgr) b2.size
      clear hv hC b2 c0 c1 hgr rW
      have hsC := hC2.bel.size
      by_cases hx : r.t (i * 8 + j) ≠ 0
      · have hxb : (r.t (i * 8 + j) != 0) = true := by simpa using hx
        clear hx
        go_wp2_with (at_builtin; refine wpList_append_own_at _ rfl _ _ 32 rfl w.heap.size 68 i0 (.agg #[.int .i8 0, .int .i8 0]) 2 2 Try.underlying32 hi0 hz0 hz1 hz2 rfl (by decide) _ _ _ rfl (hv2.alloc _) ⟨w2.heap.size, 0, none⟩ 1 1 [.int .i8 i, .int .i8 j] rfl rfl (cell_two_new _ _ _ _) (by simp [Value.oneCell']) (by unfold maxLen; omega) (by omega) (by simp; omega) ?_; intro v' w3 own3 grow3 _ at3)
        have hC3 := hC2.append hs1 grow3 (at3.imp (fun h => h) (fun h => h.trans (by simp)))
        clear hv2 hC2 d0 d1 grow3 at3
        go_wp2_with fail
        refine ⟨⟨m + 1, by omega, by go_num, ?_, hC3⟩, by simp [intOf]; omega⟩
        rw [plUpto_next (by rw [← HN.out]; exact hlt), Rf.wrongs_hit (by simp only [HI.out, HJ.out]; simpa using hxb), plCells_snoc]
        simp only [HI.out, HJ.out]
        simpa using own3
      · have hxb : (r.t (i * 8 + j) != 0) = false := by simpa using hx
        have HX := Lib.hid hx
        clear hx
        go_wp2_with fail
        refine ⟨⟨m + 1, by omega, by go_num, ?_, hC2⟩, by simp [intOf]; omega⟩
        rw [plUpto_next (by rw [← HN.out]; exact hlt), Rf.wrongs_miss (by simp only [HI.out, HJ.out]; exact HX.out)]
        exact hv2
    · obtain rfl : m = hh * ww := by omega
      go_wp2_with fail
      go_ret
      exact ⟨_, rfl, IsList.of_pls hv, hC.bel⟩
end Go.Proofs.Ytoibolmippfcgaa

/- TilesNeeded: its mathematics; the model's side; the program's contract. -/
namespace Go.Proofs.Ytoibolmippfcgaa
open Go.RowKit

theorem plAt_get {H V : Nat} {l : List (Pl H V)} {k : Nat} (hk : k < l.length) : plAt l (k * 2) = ((l[k]).1.1 : Int) ∧ plAt l (k * 2 + 1) = ((l[k]).1.2 : Int) := by
  unfold plAt
  rw [show k * 2 / 2 = k by omega, show (k * 2 + 1) / 2 = k by omega, List.getElem?_eq_getElem hk]
  simp
theorem take_snoc {α : Type} {l : List α} {k : Nat} (hk : k < l.length) : l.take (k + 1) = l.take k ++ [l[k]] := by
  rw [List.take_add_one, List.getElem?_eq_getElem hk]; rfl
theorem kpt_count {H V : Nat} (p : Int → Int → Bool) (l : List (Pl H V)) : ∀ k, k ≤ l.length → (kpt p (plAt l) k).1 = ((l.take k).filter fun x => !(p x.1.1 x.1.2)).length
  | 0, _ => rfl
  | k + 1, h => by
    have ih := kpt_count p l k (by omega)
    obtain ⟨e0, e1⟩ := plAt_get (l := l) (k := k) (by omega)
    rw [take_snoc (by omega), List.filter_append, List.length_append, ← ih]
    cases hp : p ((l[k]).1.1) ((l[k]).1.2) with
    | true => rw [kpt_del (by rw [e0, e1]; exact hp)]; simp [hp]
    | false => rw [kpt_keep (by rw [e0, e1]; exact hp)]; simp [hp]
/-- Of the first k places those of which q holds. -/
def cntL {H V : Nat} (q : Nat → Nat → Bool) (l : List (Pl H V)) (k : Nat) : Nat := ((l.take k).filter fun x => q x.1.1 x.1.2).length
theorem cntL_succ {H V : Nat} {q : Nat → Nat → Bool} {l : List (Pl H V)} {k : Nat} (hk : k < l.length) : cntL q l (k + 1) = cntL q l k + (if q (l[k]).1.1 (l[k]).1.2 then 1 else 0) := by
  unfold cntL
  rw [take_snoc hk, List.filter_append, List.length_append]
  cases h : q (l[k]).1.1 (l[k]).1.2 <;> simp [h]
theorem cntL_le {H V : Nat} (q : Nat → Nat → Bool) (l : List (Pl H V)) (k : Nat) : cntL q l k ≤ k := by
  unfold cntL
  have h1 := List.length_filter_le (fun x : Pl H V => q x.1.1 x.1.2) (l.take k)
  have h2 : (l.take k).length ≤ k := by simp; omega
  omega
/-- The kinds that need a tile. -/
def kinds2 : Nat → Int := fun q => if q = 0 then 1 else 3
/-- How many tiles are needed: what the model counts, and what the program does. -/
def Rf.needQ (r : Rf) (y : Int) (g : Nat → Int) (m : Nat) (i j : Nat) : Bool := decide (r.t (i * 8 + j) ≠ 2) && decide (0 ≤ firstI (fun q => r.can y i j (g q)) m)
def Rf.needN (r : Rf) (y : Int) (g : Nat → Int) (m : Nat) {H V : Nat} (all : List (Pl H V)) : Nat := cntL (r.needQ y g m) (r.wrongs all) (r.wrongs all).length
theorem Rf.need_eq (r : Rf) (y : Int) (g : Nat → Int) (m : Nat) {H V : Nat} (all : List (Pl H V)) (ht : ∀ i j, i < H → j < V → 0 ≤ r.t (i * 8 + j) ∧ r.t (i * 8 + j) ≤ 3) :
    (kpt (r.othB kinds2 2) (plAt (fltP (r.canL y g m) all)) (fltP (r.canL y g m) all).length).1 = r.needN y g m all := by
  rw [kpt_count _ _ _ (Nat.le_refl _), List.take_length]
  unfold Rf.needN cntL
  rw [List.take_length]
  unfold fltP Rf.wrongs
  rw [List.filter_filter, List.filter_filter]
  congr 1
  refine List.filter_congr fun x _ => ?_
  have h := ht x.1.1 x.1.2 x.2.1 x.2.2
  unfold Rf.othB Rf.needQ Rf.canL
  rw [Int.toNat_natCast, Int.toNat_natCast]
  have e : anyI (fun q => r.t (x.1.1 * 8 + x.1.2) == kinds2 q) 2 = decide (r.t (x.1.1 * 8 + x.1.2) = 1 ∨ r.t (x.1.1 * 8 + x.1.2) = 3) := by
    rw [anyI_succ, anyI_succ, anyI_zero, Bool.false_or]
    unfold kinds2
    rw [Bool.eq_iff_iff]
    simp
  rw [e]
  show _ = (decide (r.t (x.1.1 * 8 + x.1.2) ≠ 2) && anyI (fun q => r.can y x.1.1 x.1.2 (g q)) m && decide (r.t (x.1.1 * 8 + x.1.2) ≠ 0))
  cases anyI (fun q => r.can y x.1.1 x.1.2 (g q)) m
  · simp
  · generalize r.t (x.1.1 * 8 + x.1.2) = z at *
    obtain ⟨z0, z3⟩ := h
    have hz : z = 0 ∨ z = 1 ∨ z = 2 ∨ z = 3 := by omega
    rcases hz with rfl | rfl | rfl | rfl <;> decide
end Go.Proofs.Ytoibolmippfcgaa

/- TilesNeeded: contracts of both sides. -/
namespace Go.Proofs.Ytoibolmippfcgaa
open Go.RowKit

/-- How many tiles are needed, and the code. -/
noncomputable def Rf.needC (r : Rf) (g : Nat → Int) (m : Nat) (y : Int) : Int := r.lcode g m (fun _ => 0) 0 y
noncomputable def Rf.needV (r : Rf) (g : Nat → Int) (m : Nat) (y : Int) : Int := if r.needC g m y = 0 then (r.needN y g m r.all : Int) else 0
theorem IsList.num2 {w : World} {n base cap : Nat} (hr : rowAt w n = some #[.int .i64 1, .int .i64 3]) (hb : base ≤ n) : IsList w base (.slice (some ⟨n, 0, none⟩) 2 cap) 1 2 (fun i => .int .i64 (kinds2 i)) :=
  .inr ⟨n, cap, _, rfl, hb, hr, by simp, fun i hi => by
    have : i = 0 ∨ i = 1 := by omega
    rcases this with rfl | rfl <;> simp [kinds2]⟩

set_option maxRecDepth 100000 in
set_option maxHeartbeats 2000000 in
theorem specTilesNeeded_any (c : Array Value) (r : Rf) (B m : Nat) (g : Nat → Int) (u : Option Addr) (y : Int) (w : World) (hR : IsRoof c r) (hv : IsList w B (.slice u m m) 1 m (fun i => .int .i64 (g i))) (hm : m ≤ 2000000) (_hg : ∀ i, i < m → -9223372036854775808 ≤ g i ∧ g i ≤ 9223372036854775807) :
    Calls Try.prog 37 #[.agg c, .slice u m m, .int .i64 y] w fun e w' => e = .returned (.tuple #[.int .i64 (r.needV g m y), .int .i64 (r.needC g m y)]) ∧ Below w.heap.size w w' := by
  have hc := hR.size
  have HV := Lib.hid hv
  clear hv
  have p0 := rowAt_alloc_at w c 29 w.heap.size rfl
  have LA := fun W k hr H1 => l04Asked_any w.heap.size B 0 m 0 c r g (fun _ => 0) (.slice u m m) (.slice k 0 0) (inB y 0 8) W hr hR H1 hm (IsList.none0 _ _ _ _ _ _) (by omega) (fun i hi => by omega)
  rw [show r.wcode g m (fun _ => 0) 0 (inB y 0 8) = r.needC g m y from rfl] at LA
  by_cases hk : r.needC g m y = 0
  · have hb1 : (r.needC g m y != 0) = false := by simp [hk]
    have hV : r.needV g m y = (r.needN y g m r.all : Int) := by unfold Rf.needV; rw [if_pos hk]
    obtain ⟨ho, hy, _, _, _, _⟩ := Rf.lcode_in hk
    have HK := Lib.hid hk
    have CW := fun W hr => l03Wrong_any w.heap.size c r r.h.toNat r.w.toNat (by have := ho.2.2.1; omega) (by have := ho.1; omega) (by have := ho.2.2.2.1; omega) (by have := ho.2.1; omega) W hr hR
    rw [hV]
    have hle : (r.wrongs r.all).length ≤ 64 := Nat.le_trans (List.length_filter_le _ _) (Rf.all_le ho)
    replace CW : ∀ W (_ : rowAt W w.heap.size = some c), Calls Try.prog 68 #[.pointer (some ⟨w.heap.size, 0, none⟩)] W (GivesP W (r.wrongs r.all)) := CW
    have h8 : r.h.toNat ≤ 8 := by have := ho.2.2.2.1; omega
    have w8 : r.w.toNat ≤ 8 := by have := ho.2.1; omega
    have HN : Hid (r.needN y g m r.all = cntL (r.needQ y g m) (r.wrongs r.all) (r.wrongs r.all).length) := Lib.hid rfl
    generalize r.needN y g m r.all = N at *
    generalize r.wrongs r.all = L at *
    clear hk hV
    go_enter Try.func37, Try.ntmps37
    go_wp2_with fail
    refine gen_callsC fun W hW => ?_
    have P0 : rowAt W w.heap.size = some c := by rw [hW]; exact (rowAt_alloc_past _ _ _ (by simp <;> omega)).trans p0
    have PB : Below w.heap.size w W := by rw [hW]; exact ((Below.refl _ _).alloc (Nat.le_refl _) _).alloc (by simp) _
    clear hW p0
    refine (l04Reach_any y _).mono ?_
    rintro e w1 ⟨rfl, rfl⟩
    go_wp2_with fail
    refine (LA _ _ P0 (HV.out.below PB (Nat.le_refl _))).mono ?_
    rintro e w2 ⟨rfl, b2⟩
    have PB2 := Lib.hid (bnext PB b2 PB.size)
    have P2 := Lib.hid (brow b2 P0)
    clear b2 P0 PB LA
    go_wp2_with fail
    refine (CW _ P2.out).mono ?_
    rintro e w3 ⟨v, rfl, l3, b3⟩
    obtain ⟨av, cv, rfl⟩ := l3.shape
    have PB3 := Lib.hid (bnext PB2.out b3 PB2.out.size)
    have P3 := Lib.hid (brow b3 P2.out)
    have L3 := Lib.hid l3
    clear b3 l3 CW
    go_wp2_with fail
    go_loopw [9, 11] (fun cn i W => ∃ k : Nat, k ≤ L.length ∧ i = .int .i64 k ∧ cn = .int .i64 (cntL (r.needQ y g m) L k : Nat) ∧ Below w3.heap.size w3 W) (fun _ i _ => L.length - (intOf i).toNat)
    case atStart => exact ⟨0, by omega, rfl, rfl, Below.refl _ _⟩
    case round =>
      obtain ⟨k, hk, rfl, rfl, hB⟩ := hrel
      have HB := Lib.hid hB
      clear hB
      have c64 := cntL_le (r.needQ y g m) L k
      by_cases hlt : k < L.length
      · obtain ⟨gg, rfl, c0, c1⟩ := (L3.out.below HB.out (Nat.le_refl _)).pl hlt
        obtain ⟨e0, e1⟩ := plAt_get hlt
        have x1 := (L[k]).2.1
        have x2 := (L[k]).2.2
        have HS := Lib.hid (cntL_succ (q := r.needQ y g m) hlt)
        rw [e0] at c0
        rw [e1] at c1
        generalize (L[k]).1.1 = i at *
        generalize (L[k]).1.2 = j at *
        have i8 : i < 8 := by omega
        have j8 : j < 8 := by omega
        have hi0 : 0 ≤ (k : Int) := by omega
        have hi1 : (k : Int) < L.length := by omega
        have CA := fun W hr => l01At_any w.heap.size c r i j W hr hR i8 j8
        have CF := fun W hr H => l04First_any w.heap.size B m c r g (.slice u m m) y i j W hr hR H hm i8 j8 hy
        have HQ : Hid (r.needQ y g m i j = (decide (r.t (i * 8 + j) ≠ 2) && decide (0 ≤ firstI (fun q => r.can y i j (g q)) m))) := Lib.hid rfl
        have hgg : gg < wr.heap.size := by
          rcases L3.out.below HB.out (Nat.le_refl _) with ⟨h0, _⟩ | ⟨g2, cap2, cur2, e2, _, hr2, _⟩
          · omega
          · cases e2; exact rowAt_lt hr2
        clear e0 e1 x1 x2
        generalize r.needQ y g m i j = qq at *
        generalize firstI (fun q => r.can y i j (g q)) m = z at *
        generalize cntL (r.needQ y g m) L k = cn at *
        have q0 := brow HB.out P3.out
        by_cases ht : r.t (i * 8 + j) = 2
        · have hb2 : (r.t (i * 8 + j) != 2) = false := by simp [ht]
          have HF : Hid (qq = false) := Lib.hid (by rw [HQ.out]; simp [ht])
          clear ht
          go_wp2_with fail
          refine (CA _ q0).mono ?_
          rintro e w4 ⟨rfl, b4⟩
          have B4 := bnext HB.out b4 HB.out.size
          clear b4 q0 CA CF c0 c1
          go_wp2_with fail
          exact ⟨⟨k + 1, by omega, by go_num, by rw [HS.out, HF.out]; simp, B4⟩, by simp [intOf]; omega⟩
        · have hb2 : (r.t (i * 8 + j) != 2) = true := by simp [ht]
          by_cases hz : 0 ≤ z
          · have HF : Hid (qq = true) := Lib.hid (by rw [HQ.out]; simp [ht, hz])
            clear ht
            go_wp2_with fail
            refine (CA _ q0).mono ?_
            rintro e w4 ⟨rfl, b4⟩
            have B4 := bnext HB.out b4 HB.out.size
            have d0 : w4.cell? ⟨gg, k * 2, none⟩ = some (.int .i8 (i : Int)) := (b4.cell (p := ⟨gg, k * 2, none⟩) hgg).trans c0
            have d1 : w4.cell? ⟨gg, k * 2 + 1, none⟩ = some (.int .i8 (j : Int)) := (b4.cell (p := ⟨gg, k * 2 + 1, none⟩) hgg).trans c1
            have q4 := brow b4 q0
            clear b4 q0 CA c0 c1
            go_wp2_with fail
            refine (CF _ q4 (HV.out.below (PB3.out.trans (B4.mono PB3.out.size)) (Nat.le_refl _))).mono ?_
            rintro e w5 ⟨rfl, b5⟩
            have B5 := bnext B4 b5 B4.size
            clear b5 q4 CF d0 d1 B4
            go_wp2_with fail
            exact ⟨⟨k + 1, by omega, by go_num, by rw [HS.out, HF.out]; simp, B5⟩, by simp [intOf]; omega⟩
          · have HF : Hid (qq = false) := Lib.hid (by rw [HQ.out]; simp [hz])
            clear ht
            go_wp2_with fail
            refine (CA _ q0).mono ?_
            rintro e w4 ⟨rfl, b4⟩
            have B4 := bnext HB.out b4 HB.out.size
            have d0 : w4.cell? ⟨gg, k * 2, none⟩ = some (.int .i8 (i : Int)) := (b4.cell (p := ⟨gg, k * 2, none⟩) hgg).trans c0
            have d1 : w4.cell? ⟨gg, k * 2 + 1, none⟩ = some (.int .i8 (j : Int)) := (b4.cell (p := ⟨gg, k * 2 + 1, none⟩) hgg).trans c1
            have q4 := brow b4 q0
            clear b4 q0 CA c0 c1
            go_wp2_with fail
            refine (CF _ q4 (HV.out.below (PB3.out.trans (B4.mono PB3.out.size)) (Nat.le_refl _))).mono ?_
            rintro e w5 ⟨rfl, b5⟩
            have B5 := bnext B4 b5 B4.size
            clear b5 q4 CF d0 d1 B4
            go_wp2_with fail
            exact ⟨⟨k + 1, by omega, by go_num, by rw [HS.out, HF.out]; simp, B5⟩, by simp [intOf]; omega⟩
      · obtain rfl : k = L.length := by omega
        go_wp2_with fail
        go_ret2
        exact ⟨by simp [HK.out, HN.out], PB3.out.trans (HB.out.mono PB3.out.size)⟩
  · have hb1 : (r.needC g m y != 0) = true := by simp [hk]
    have hV : r.needV g m y = 0 := by unfold Rf.needV; rw [if_neg hk]
    rw [hV]
    clear hk hV
    go_enter Try.func37, Try.ntmps37
    go_wp2_with fail
    refine gen_callsC fun W hW => ?_
    have P0 : rowAt W w.heap.size = some c := by rw [hW]; exact (rowAt_alloc_past _ _ _ (by simp <;> omega)).trans p0
    have PB : Below w.heap.size w W := by rw [hW]; exact ((Below.refl _ _).alloc (Nat.le_refl _) _).alloc (by simp) _
    clear hW p0
    refine (l04Reach_any y _).mono ?_
    rintro e w1 ⟨rfl, rfl⟩
    go_wp2_with fail
    refine (LA _ _ P0 (HV.out.below PB (Nat.le_refl _))).mono ?_
    rintro e w2 ⟨rfl, b2⟩
    have PB2 := Lib.hid (bnext PB b2 PB.size)
    clear b2 P0 PB LA
    go_wp2_with fail
    go_ret2
    exact ⟨rfl, PB2.out⟩

set_option maxRecDepth 100000 in
set_option maxHeartbeats 2000000 in
theorem implTilesNeeded_any (c : Array Value) (r : Rf) (B m : Nat) (g : Nat → Int) (u : Option Addr) (y : Int) (w : World) (hR : IsRoof c r) (hv : IsList w B (.slice u m m) 1 m (fun i => .int .i64 (g i))) (hm : m ≤ 2000000) (_hg : ∀ i, i < m → -9223372036854775808 ≤ g i ∧ g i ≤ 9223372036854775807) :
    Calls Try.prog 38 #[.agg c, .slice u m m, .int .i64 y] w fun e w' => e = .returned (.tuple #[.int .i64 (r.needV g m y), .int .i64 (r.needC g m y)]) ∧ Below w.heap.size w w' := by
  have hc := hR.size
  have p0 := rowAt_alloc_at w c 29 w.heap.size rfl
  have pB : Below w.heap.size w (w.alloc (.cells c 29)) := (Below.refl _ _).alloc (Nat.le_refl _) _
  have HV1 := Lib.hid (hv.below pB (Nat.le_refl _)).nums
  have PB := Lib.hid pB
  have CL := fun W H1 => checkLadders_any 0 m 0 c r g (fun _ => 0) (.slice u m m) (.slice none 0 0) y W hR H1 hm (IsList.none0 _ _ _ _ _ _) (by omega)
  rw [show r.wcode g m (fun _ => 0) 0 (inB y 0 8) = r.needC g m y from rfl] at CL
  clear hv pB
  by_cases hk : r.needC g m y = 0
  · have hb1 : (r.needC g m y != 0) = false := by simp [hk]
    obtain ⟨ho, hy, _, _, _, _⟩ := Rf.lcode_in hk
    have HK := Lib.hid hk
    have h8 : r.h.toNat ≤ 8 := by have := ho.2.2.2.1; omega
    have w8 : r.w.toNat ≤ 8 := by have := ho.2.1; omega
    have hV : r.needV g m y = ((kpt (r.othB kinds2 2) (plAt (fltP (r.canL y g m) r.all)) (fltP (r.canL y g m) r.all).length).1 : Nat) := by
      unfold Rf.needV
      rw [if_pos hk, Rf.need_eq r y g m r.all fun i j hi hj => ⟨hR.tiles.lo _ (by omega), (ho.2.2.2.2.2 (i * 8 + j) (by omega)).1⟩]
    have CO := fun W H1 k H3 => reachedOf_any m 2 c r y g kinds2 (.slice u m m) (.slice (some ⟨k, 0, none⟩) 2 2) r.h.toNat r.w.toNat (by have := ho.2.2.1; omega) (by have := ho.1; omega) h8 w8 W hR H1 hm H3 (by omega) hy
    have hle : (kpt (r.othB kinds2 2) (plAt (fltP (r.canL y g m) r.all)) (fltP (r.canL y g m) r.all).length).1 ≤ 64 := Nat.le_trans (kpt_le _) (Nat.le_trans (fltP_len _) (Rf.all_le ho))
    rw [show plUpto r.h.toNat r.w.toNat (r.h.toNat * r.w.toNat) = r.all from rfl] at CO
    rw [hV]
    generalize (kpt (r.othB kinds2 2) (plAt (fltP (r.canL y g m) r.all)) (fltP (r.canL y g m) r.all).length).1 = N at *
    generalize (kpt (r.othB kinds2 2) (plAt (fltP (r.canL y g m) r.all)) (fltP (r.canL y g m) r.all).length).2 = Z at *
    clear hk hV
    have P0 := Lib.hid p0
    go_enter Try.func38, Try.ntmps38
    go_wp2_with fail
    refine (CL _ HV1.out).mono ?_
    rintro e w1 ⟨rfl, b1⟩
    have q0 := brow b1 P0.out
    have q1 := Lib.hid (HV1.out.below b1 (Nat.le_refl _))
    have B1 := Lib.hid (bnext PB.out b1 PB.out.size)
    clear b1 p0 P0 CL HV1
    go_wp2_with fail
    refine gen_callsC fun W hW => ?_
    have b2 : Below w1.heap.size w1 W := by rw [hW]; exact (Below.refl _ _).alloc (Nat.le_refl _) _
    have k2 : rowAt W w1.heap.size = some #[.int .i64 1, .int .i64 3] := by rw [hW]; exact rowAt_alloc_at _ _ _ _ rfl
    have B2 := Lib.hid (bnext B1.out b2 B1.out.size)
    clear hW
    refine (CO W (q1.out.below b2 (Nat.le_refl _)) _ (IsList.num2 (base := 0) (cap := 2) k2 (Nat.zero_le _)).nums).mono ?_
    rintro e w3 ⟨v, rfl, l3, b3⟩
    obtain ⟨av, cv, rfl⟩ := l3.shape
    have B3 := Lib.hid (bnext B2.out b3 B2.out.size)
    clear b2 b3 l3 k2 CO q0
    go_wp2_with fail
    go_ret2
    exact ⟨by simp [HK.out], B3.out⟩
  · have hb1 : (r.needC g m y != 0) = true := by simp [hk]
    have hV : r.needV g m y = 0 := by unfold Rf.needV; rw [if_neg hk]
    rw [hV]
    clear hk hV
    go_enter Try.func38, Try.ntmps38
    go_wp2_with fail
    refine (CL _ HV1.out).mono ?_
    rintro e w1 ⟨rfl, b1⟩
    have B1 := Lib.hid (bnext PB.out b1 PB.out.size)
    clear b1 p0 CL
    go_wp2_with fail
    go_ret2
    exact ⟨rfl, B1.out⟩
end Go.Proofs.Ytoibolmippfcgaa

/- laws.FnExactTilesNeeded returns true for every roof, list of numbers, number, and leaves them as they were. No condition. -/
namespace Go.Proofs.Ytoibolmippfcgaa
open Go.RowKit

set_option maxRecDepth 100000 in
set_option maxHeartbeats 4000000 in
theorem law_walk_FnExactTilesNeeded {w : World} {c : Array Value} {r : Rf} (hR : IsRoof c r) {v_g : Value} {m_g : Nat} {g : Nat → Int} (hv_g : NumsAt w v_g m_g g) (hm_g : m_g ≤ maxLen) (hb_g : ∀ i, i < m_g → -9223372036854775808 ≤ g i ∧ g i ≤ 9223372036854775807) {y : Int} (_hy : -9223372036854775808 ≤ y ∧ y ≤ 9223372036854775807) :
    Calls Try.prog 11 #[.agg c, v_g, .int .i64 y] w fun e w' => e = .returned (.bool true) ∧ Below w.heap.size w w' := by
  have hc := hR.size
  have q0 := rowAt_alloc_at w c 26 w.heap.size rfl
  have PB0 := Lib.hid (show Below w.heap.size w (w.alloc (.cells c 26)) from (Below.refl _ _).alloc (Nat.le_refl _) _)
  have A_g := Lib.hid (hv_g.below PB0.out (Nat.le_refl _))
  have HB_g := Lib.hid hb_g
  have _hmm_g := hm_g
  obtain ⟨av_g, cv_g, rfl⟩ := hv_g.shape
  clear hv_g hb_g
  by_cases hl_g : m_g ≤ 1048576
  rotate_left
  · have hl1_g : (1048576 : Int) < m_g := by omega
    unfold maxLen at hm_g
    go_enter Try.func11, Try.ntmps11
    go_wp2_with fail
    go_ret
    exact ⟨rfl, PB0.out⟩
  have hl1_g : (m_g : Int) ≤ 1048576 := by omega
  have CS := fun (W : World) (B_g : Nat) (U_g : Option Addr) (H_g : IsList W B_g (.slice U_g m_g m_g) 1 m_g (fun i => .int .i64 (g i))) => specTilesNeeded_any c r B_g m_g g U_g y W hR H_g (by omega) HB_g.out
  have CI := fun (W : World) (B_g : Nat) (U_g : Option Addr) (H_g : IsList W B_g (.slice U_g m_g m_g) 1 m_g (fun i => .int .i64 (g i))) => implTilesNeeded_any c r B_g m_g g U_g y W hR H_g (by omega) HB_g.out
  have hne0 : ((r.needV g m_g y) != (r.needV g m_g y)) = false := by simp
  generalize (r.needV g m_g y) = x0 at *
  have hne1 : ((r.needC g m_g y) != (r.needC g m_g y)) = false := by simp
  generalize (r.needC g m_g y) = x1 at *
  go_enter Try.func11, Try.ntmps11
  go_wp2_with fail
  refine gen_callsW fun W0 hW => ?_
  rw [← hW] at q0 PB0 A_g
  clear hW
  have H0 := Lib.hid (Below.refl W0.heap.size W0)
  refine (toRoof_any c r _ hR).mono ?_
  rintro e w1 ⟨rfl, b1⟩
  have H1 := Lib.hid (bnext H0.out b1 H0.out.size)
  clear b1 H0
  have q1 := brow H1.out q0
  go_wp2_with fail
  refine (toInt64S_any _ m_g g _ (A_g.out.below H1.out (Nat.le_refl _)) (by omega)).mono ?_
  rintro e w2 ⟨u_s_g, rfl, l_s_g, b2⟩
  have H2 := Lib.hid (bnext H1.out b2 H1.out.size)
  obtain ⟨g_s_g, hg_s_g, k_s_g⟩ := l_s_g.ls
  have g0_s_g : W0.heap.size ≤ g_s_g := Nat.le_trans H1.out.size hg_s_g
  have s_g_2 := Lib.hid k_s_g
  clear l_s_g k_s_g hg_s_g
  clear b2 H1
  have q2 := brow H2.out q0
  go_wp2_with fail
  refine (CS _ _ _ s_g_2.out.list).mono ?_
  rintro e w3 ⟨rfl, b3⟩
  have H3 := Lib.hid (bnext H2.out b3 H2.out.size)
  have s_g_3 := Lib.hid (s_g_2.out.below b3 (Nat.le_refl _))
  clear b3 H2 s_g_2
  have q3 := brow H3.out q0
  go_wp2_with fail
  clear s_g_3
  refine (toInt64S_any _ m_g g _ (A_g.out.below H3.out (Nat.le_refl _)) (by omega)).mono ?_
  rintro e w4 ⟨u_x_g, rfl, l_x_g, b4⟩
  have H4 := Lib.hid (bnext H3.out b4 H3.out.size)
  obtain ⟨g_x_g, hg_x_g, k_x_g⟩ := l_x_g.ls
  have g0_x_g : W0.heap.size ≤ g_x_g := Nat.le_trans H3.out.size hg_x_g
  have x_g_4 := Lib.hid k_x_g
  clear l_x_g k_x_g hg_x_g
  clear b4 H3
  have q4 := brow H4.out q0
  go_wp2_with fail
  refine (toRoof_any c r _ hR).mono ?_
  rintro e w5 ⟨rfl, b5⟩
  have H5 := Lib.hid (bnext H4.out b5 H4.out.size)
  have x_g_5 := Lib.hid (x_g_4.out.below b5 (Nat.le_refl _))
  clear b5 H4 x_g_4
  have q5 := brow H5.out q0
  go_wp2_with fail
  refine (CI _ _ _ x_g_5.out.list).mono ?_
  rintro e w6 ⟨rfl, b6⟩
  have H6 := Lib.hid (bnext H5.out b6 H5.out.size)
  have x_g_6 := Lib.hid (x_g_5.out.below b6 (Nat.le_refl _))
  clear b6 H5 x_g_5
  have q6 := brow H6.out q0
  go_wp2_with fail
  refine (toInt64S_any _ m_g g _ (A_g.out.below H6.out (Nat.le_refl _)) (by omega)).mono ?_
  rintro e w7 ⟨u_t_g, rfl, l_t_g, b7⟩
  have H7 := Lib.hid (bnext H6.out b7 H6.out.size)
  have x_g_7 := Lib.hid (x_g_6.out.below b7 (Nat.le_refl _))
  obtain ⟨g_t_g, hg_t_g, k_t_g⟩ := l_t_g.ls
  have ne_x_g_t_g := x_g_6.out.ne hg_t_g
  have g0_t_g : W0.heap.size ≤ g_t_g := Nat.le_trans H6.out.size hg_t_g
  have t_g_7 := Lib.hid k_t_g
  clear l_t_g k_t_g hg_t_g
  clear b7 H6 x_g_6
  have q7 := brow H7.out q0
  go_wp2_with fail
  refine (eqI m_g g _ _ _ _ _ x_g_7.out.list t_g_7.out.list (by omega)).mono ?_
  rintro e w8 ⟨rfl, b8⟩
  have H8 := Lib.hid (bnext H7.out b8 H7.out.size)
  have x_g_8 := Lib.hid (x_g_7.out.below b8 (Nat.le_refl _))
  have t_g_8 := Lib.hid (t_g_7.out.below b8 (Nat.le_refl _))
  clear b8 H7 x_g_7 t_g_7
  have q8 := brow H8.out q0
  clear t_g_8
  go_wp2_with fail
  go_ret
  exact ⟨rfl, PB0.out.trans (H8.out.mono PB0.out.size)⟩

namespace LFnExactTilesNeeded
open Go.RowKit Go.ChangeShapes Go.WideShapes Go.ChangeAt
theorem own : ownKnob Try.prog.godebug = none := by kernel_rfl
theorem laidOut : laidOutB Try.prog = true := by kernel_rfl
set_option maxRecDepth 100000 in
theorem lifted (os : Os) (started : os.Started) (H : Type) (enc : TypeId × Value → H) :
    ReturnsInHanded {} Try.checked os 11 .any (Rows.fnExactTilesNeededSpec.pre6 enc Try.prog Try.f11 Rows.fnExactTilesNeededRow.domain false) (Rows.fnExactTilesNeededSpec.post enc Try.prog Try.f11 false true false false) := by
  refine returnsInHanded_of_change (C := Try.checked) own started (by kernel_rfl) Try.func11
    (ChangeSpec.witness6 (enc := enc) (C := Try.checked) false ⟨#[], #[.agg Try.zeroCells26, .slice none 0 0, .int .i64 0], []⟩ 8 (by kernel_rfl) (by kernel_rfl) (by kernel_rfl) (by kernel_rfl)) ?_
  intro W base args ds gs before hval0 hW hcnd _
  have hval : ∀ (j : Nat) t v, Try.f11.params[j]? = some t → args[j]? = some v → Value.okWide Try.prog W .any base t v := hval0
  have hW' := hW
  obtain ⟨p, q, hA0, hV, rfl, hfz, hnd⟩ := hW
  have hA : DataW.TrodAll enc Try.prog W 0 (fun _ => true) true Try.f11.params.toList args.toList ds p := hA0
  rw [Try.params11] at hA hval
  obtain ⟨v0, vs0, d0, ds0, p0, q0, hargs, rfl, rfl, h0, r0⟩ := trodAll_cons hA
  obtain ⟨v1, vs1, d1, ds1, p1, q1, rfl, rfl, rfl, h1, r1⟩ := trodAll_cons r0
  obtain ⟨v2, vs2, d2, ds2, p2, q2, rfl, rfl, rfl, h2, r2⟩ := trodAll_cons r1
  obtain ⟨rfl, rfl, rfl⟩ := trodAll_nil r2
  obtain rfl : args = #[v0, v1, v2] := by cases args; simp_all
  obtain ⟨rfl, rfl⟩ := trodVars_none hV
  have k0 := h0
  have lt0 : ∀ x ∈ p0, x.block < W.heap.size := by obtain ⟨m, hm⟩ := k0; exact DataW.trod_lt m _ _ _ hm
  have k1 := h1
  have lt1 : ∀ x ∈ p1, x.block < W.heap.size := by obtain ⟨m, hm⟩ := k1; exact DataW.trod_lt m _ _ _ hm
  obtain ⟨c0, f0, rfl, wf0⟩ := open_roof (hval 0 26 v0 rfl rfl) h0
  obtain ⟨len1, cells1, hL1, hm1, hb1⟩ := open_nums (hval 1 51 v1 rfl rfl) h1
  obtain ⟨x2, rfl, rfl, rfl, wx2⟩ := open_int Try.underlying2 (hval 2 2 v2 rfl rfl) h2
  clear hA0 hval0
  refine (law_walk_FnExactTilesNeeded wf0 hL1 hm1 hb1 (bounds_i64 wx2)).mono fun e W' ⟨he, bel⟩ => ?_
  subst he
  exact ⟨_, rfl, _, _, _, [], _, [], hW', trodAll_mk1 (shut_bool Try.underlying4 _), (trodAll_cons_mk (Below.trod laidOut (by kernel_rfl) (of_decide_eq_true (by kernel_rfl)) k0 bel lt0) (trodAll_cons_mk (Below.trod laidOut (by kernel_rfl) (of_decide_eq_true (by kernel_rfl)) k1 bel lt1) (trodAll_cons_mk (shut_int Try.underlying2 wx2) trodAll_mk0))), rfl, bel.frame _, fun h => by cases h⟩

theorem over : Rows.fnExactTilesNeededRow.holds Try.pinned (OpenSpec.ofChange Rows.fnExactTilesNeededSpec) :=
  OpenClaim.holds_of_wide 11 Try.f11 rfl rfl rfl rfl rfl rfl rfl ⟨rfl, rfl, rfl, rfl, rfl⟩ rfl rfl rfl rfl rfl (by kernel_rfl) Try.func11 (by kernel_rfl)
    (of_decide_eq_true (by kernel_rfl)) (by unfold Func.isWrapper; first | (rw [if_pos (by decide +kernel)]; kernel_rfl) | (rw [if_neg (by decide +kernel)]; exact ⟨rfl, rfl⟩))
    (fun os started H enc _ => lifted os started H enc)

theorem proved : Rows.FnExactTilesNeededSaid := over
end LFnExactTilesNeeded


end Go.Proofs.Ytoibolmippfcgaa
