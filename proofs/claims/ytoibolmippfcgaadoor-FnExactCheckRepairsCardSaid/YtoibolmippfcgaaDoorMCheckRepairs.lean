import Derived.Test.YtoibolmippfcgaaDoorPlOf
import Derived.Test.YtoibolmippfcgaaDoorSpecB
import Derived.Deep.QuietTactic
import Derived.BigQuiet
import Derived.Test.YtoibolmippfcgaaDoorRowT
import Derived.Test.YtoibolmippfcgaaDoorLift
import Derived.Test.YtoibolmippfcgaaDoorDAfter
import Derived.Test.YtoibolmippfcgaaDoorCards
import Derived.Test.YtoibolmippfcgaaDoorTie
import Derived.Test.YtoibolmippfcgaaDoorLaidN
import Derived.Test.YtoibolmippfcgaaDoorErr
import Derived.Test.YtoibolmippfcgaaDoorArgL
import Derived.Test.YtoibolmippfcgaaDoorBox
import Derived.Test.YtoibolmippfcgaaDoorRain
import Derived.Test.YtoibolmippfcgaaDoorHeld

/- The model's list of all places, and those of a kind. -/
namespace Go.Proofs.YtoibolmippfcgaaDoor
open Go.RowKit

theorem pl_in {h w i : Nat} (hi : i < h * w) : i / w < h ∧ i % w < w := by
  have hw : 0 < w := Nat.pos_of_ne_zero fun e => by subst e; simp at hi
  exact ⟨Nat.div_lt_of_lt_mul (by rw [Nat.mul_comm]; exact hi), Nat.mod_lt _ hw⟩
theorem plUpto_next {h w i : Nat} (hi : i < h * w) : plUpto h w (i + 1) = plUpto h w i ++ [⟨(i / w, i % w), pl_in hi⟩] := by
  simp only [plUpto]
  rw [dif_pos (pl_in hi)]
theorem plUpto_size {h w : Nat} : ∀ {n : Nat}, n ≤ h * w → (plUpto h w n).length = n
  | 0, _ => rfl
  | n + 1, hn => by rw [plUpto_next (by omega), List.length_append, plUpto_size (by omega)]; rfl
theorem plUpto_get {h w : Nat} : ∀ {n i : Nat}, n ≤ h * w → (hi : i < n) → ∃ q, (plUpto h w n)[i]? = some ⟨(i / w, i % w), q⟩
  | 0, _, _, hi => by omega
  | n + 1, i, hn, hi => by
    have hs := plUpto_size (h := h) (w := w) (n := n) (by omega)
    rw [plUpto_next (h := h) (w := w) (i := n) (by omega)]
    by_cases e : i = n
    · subst e
      exact ⟨pl_in (by omega), by rw [List.getElem?_append_right (by rw [hs]; omega), hs, Nat.sub_self]; rfl⟩
    · obtain ⟨q, hq⟩ := plUpto_get (h := h) (w := w) (n := n) (i := i) (by omega) (by omega)
      exact ⟨q, by rw [List.getElem?_append_left (by rw [hs]; omega)]; exact hq⟩
theorem plAt_even {h w n i : Nat} (hn : n ≤ h * w) (hi : i < n) : plAt (plUpto h w n) (i * 2) = ((i / w : Nat) : Int) := by
  obtain ⟨q, hq⟩ := plUpto_get hn hi
  unfold plAt
  rw [show i * 2 / 2 = i from by omega, hq, show i * 2 % 2 = 0 from by omega]
  rfl
theorem plAt_odd {h w n i : Nat} (hn : n ≤ h * w) (hi : i < n) : plAt (plUpto h w n) (i * 2 + 1) = ((i % w : Nat) : Int) := by
  obtain ⟨q, hq⟩ := plUpto_get hn hi
  unfold plAt
  rw [show (i * 2 + 1) / 2 = i from by omega, hq, show (i * 2 + 1) % 2 = 1 from by omega]
  rfl
theorem owns_base {W : World} {base : Nat} {e : TypeId} {size n : Nat} {v : Value} {xs : List Value} (h : W.ownsRow base e size v n xs) : ∀ x, v.ownBlock = some x → base ≤ x := fun x hx => by
  obtain ⟨_, ⟨rfl, _⟩ | ⟨g, cap, cur, rfl, hg, _⟩⟩ := h
  · simp [Value.ownBlock] at hx
  · obtain rfl : g = x := by simpa [Value.ownBlock] using hx
    exact hg
theorem grown_blocks {w w' : World} {row : Option Nat} (h : w.grownBy w' row) {n : Nat} (hn : n < w.heap.size) (hr : ∀ x, row = some x → n ≠ x) : rowAt w' n = rowAt w n := by
  unfold rowAt
  rw [h.block n hn (fun e => hr n e.symm rfl)]
/-- A list v that grows, in a block of its own: the first one or one newer than W1; what lies between stays. -/
structure Coll (w W1 W : World) (v : Value) : Prop where
  blk : ∀ x, v.ownBlock = some x → x = w.heap.size ∨ W1.heap.size ≤ x
  rows : ∀ g, w.heap.size < g → g < W1.heap.size → rowAt W g = rowAt W1 g
  bel : Below w.heap.size w W
  size : W1.heap.size ≤ W.heap.size
theorem Coll.start {w W1 : World} (h : Below w.heap.size w W1) (n cap : Nat) : Coll w W1 W1 (.slice (some ⟨w.heap.size, 0, none⟩) n cap) :=
  ⟨fun x hx => .inl (by simpa [Value.ownBlock] using hx.symm), fun _ _ _ => rfl, h, Nat.le_refl _⟩
theorem Coll.call {w W1 W W' : World} {v : Value} (h : Coll w W1 W v) (b : Below W.heap.size W W') : Coll w W1 W' v :=
  ⟨h.blk, fun g h1 h2 => (rowAt_below b g (Nat.lt_of_lt_of_le h2 h.size)).trans (h.rows g h1 h2), bnext h.bel b h.bel.size, Nat.le_trans h.size b.size⟩
theorem Coll.append {w W1 W W' : World} {v v' : Value} {tmp : Obj} (h : Coll w W1 W v) (hw : w.heap.size < W1.heap.size) (grow : (W.alloc tmp).grownBy W' v.ownBlock) (hat : v'.ownBlock = v.ownBlock ∨ v'.ownBlock = some (W.heap.size + 1)) : Coll w W1 W' v' :=
  have hs := h.size
  have hg := grow.size
  ⟨fun x hx => by
    rcases hat with e | e
    · exact h.blk x (e.symm.trans hx)
    · rw [e] at hx; cases hx; exact .inr (by omega),
   fun g h1 h2 => (grown_blocks grow (by simp; omega) fun x hx => by
     rcases h.blk x hx with rfl | h3 <;> omega).trans ((rowAt_alloc_past _ _ _ (by omega)).trans (h.rows g h1 h2)),
   (h.bel.alloc h.bel.size _).grown grow (by have := h.bel.size; simp; omega) (fun x hx => by
     rcases h.blk x hx with rfl | h3 <;> omega), by simp at hg; omega⟩
theorem IsList.by_rows {W W' : World} {b sz n : Nat} {v : Value} {f : Nat → Value} (h : IsList W b v sz n f) (hb : ∀ g, b ≤ g → g < W.heap.size → rowAt W' g = rowAt W g) : IsList W' b v sz n f := by
  rcases h with h | ⟨g, cap, cur, rfl, hg, hr, hs, hf⟩
  · exact .inl h
  · exact .inr ⟨g, cap, cur, rfl, hg, (hb g hg (rowAt_lt hr)).trans hr, hs, hf⟩
theorem owns_empty (w : World) (e : TypeId) (size : Nat) : (w.alloc (.cells #[] e)).ownsRow w.heap.size e size (.slice (some ⟨w.heap.size, 0, none⟩) 0 0) 0 [] :=
  ⟨by simp, .inr ⟨_, 0, #[], rfl, Nat.le_refl _, heap_alloc_new w _, Nat.le_refl _, Nat.zero_le _, by simp, by simp⟩⟩

set_option maxRecDepth 100000 in
set_option maxHeartbeats 1000000 in
theorem l01All_any (n : Nat) (c : Array Value) (r : Rf) (hh ww : Nat) (hhe : r.h = hh) (hwe : r.w = ww) (h8 : hh ≤ 8) (w8 : ww ≤ 8) (w : World) (hr : rowAt w n = some c) (hR : IsRoof c r) :
    Calls Tryd.prog 52 #[.pointer (some ⟨n, 0, none⟩)] w (GivesP w (plUpto hh ww (hh * ww))) := by
  have hc := hR.size
  have hn := rowAt_lt hr
  have k0 : ∀ W, Below w.heap.size w W → W.cell? ⟨n, 0, none⟩ = some (.int .i8 ww) := fun W h => by
    rw [cell_of_rowAt (brow h hr), Array.getElem?_eq_getElem (by omega), hR.wide (by omega), hwe]
  have k1 : ∀ W, Below w.heap.size w W → W.cell? ⟨n, 1, none⟩ = some (.int .i8 hh) := fun W h => by
    rw [cell_of_rowAt (brow h hr), Array.getElem?_eq_getElem (by omega), hR.high (by omega), hhe]
  have K0 := Lib.hid k0
  have K1 := Lib.hid k1
  clear k0 k1 hhe hwe hr
  obtain ⟨i0, hi0, hz0, hz1, hz2⟩ := info_parts A_infoPc
  have hsz : hh * ww ≤ 64 := Nat.mul_le_mul h8 w8
  go_enter Tryd.func52, Tryd.ntmps52
  go_wp2_with fail
  go_loopw [3, 4] (fun v i W => ∃ k : Nat, k ≤ hh ∧ i = .int .i8 k ∧ W.ownsRow w.heap.size 57 2 v (plUpto hh ww (k * ww)).length (plCells (plUpto hh ww (k * ww))) ∧ Below w.heap.size w W) (fun _ i _ => hh - (intOf i).toNat)
  case atStart => exact ⟨0, by omega, rfl, by rw [Nat.zero_mul]; exact owns_empty w _ 2, (Below.refl _ _).alloc (Nat.le_refl _) _⟩
  case round =>
    obtain ⟨k, hk, rfl, hv, hB⟩ := hrel
    obtain ⟨wo, rfl⟩ : ∃ wo : World, wo = wr := ⟨_, rfl⟩
    have c1 := K1.out _ hB
    by_cases hlt : k < hh
    · go_wp2_with fail
      go_loopw [3, 5] (fun v i W => ∃ m : Nat, m ≤ ww ∧ i = .int .i8 m ∧ W.ownsRow w.heap.size 57 2 v (plUpto hh ww (k * ww + m)).length (plCells (plUpto hh ww (k * ww + m))) ∧ Below w.heap.size w W) (fun _ i _ => ww - (intOf i).toNat)
      case atStart => exact ⟨0, by omega, rfl, hv, hB⟩
      case round =>
        clear c1 hv hB
        obtain ⟨m, hm, rfl, hv, hB⟩ := hrel
        have c0 := K0.out _ hB
        by_cases hml : m < ww
        · have hpl := plUpto_len hh ww (k * ww + m)
          have hmul : (k + 1) * ww ≤ hh * ww := Nat.mul_le_mul_right ww hlt
          rw [Nat.succ_mul] at hmul
          go_wp2_with (at_builtin; refine wpList_append_own _ rfl _ _ 37 rfl w.heap.size 57 i0 (.agg #[.int .i8 0, .int .i8 0]) 2 2 Tryd.underlying37 hi0 hz0 hz1 hz2 rfl (by decide) _ _ _ rfl (hv.alloc _) ⟨wr.heap.size, 0, none⟩ 1 1 [.int .i8 k, .int .i8 m] rfl rfl (cell_two_new _ _ _ _) (by simp [Value.oneCell']) (by unfold maxLen; omega) (by omega) (by have := hB.size; simp; omega) ?_; intro v' w1 own1 grow1 _)
          have hB1 := (hB.alloc hB.size _).grown grow1 (by have := hB.size; simp; omega) (owns_base hv)
          clear hv hB c0 grow1
          go_wp2_with fail
          refine ⟨⟨m + 1, by omega, by go_num, ?_, hB1⟩, by simp [intOf]; omega⟩
          rw [← Nat.add_assoc, plUpto_succ hlt hml, plCells_snoc]
          simpa using own1
        · obtain rfl : m = ww := by omega
          rw [← Nat.succ_mul] at hv
          go_wp2_with fail
          refine ⟨⟨k + 1, by omega, by go_num, hv, hB⟩, by simp [intOf]; omega⟩
    · obtain rfl : k = hh := by omega
      go_wp2_with fail
      go_ret
      exact ⟨_, rfl, IsList.of_pls hv, hB⟩

end Go.Proofs.YtoibolmippfcgaaDoor

/- The places of all tiles that are not whole: both sides. -/
namespace Go.Proofs.YtoibolmippfcgaaDoor
open Go.RowKit Go.Shelf
attribute [local go_sem] Oper.semAt_some

/-- Of some places those whose tiles are not whole. -/
def Rf.wrongs (r : Rf) {h w : Nat} (l : List (Pl h w)) : List (Pl h w) := l.filter fun x => decide (r.t (x.1.1 * 8 + x.1.2) ≠ 0)
theorem Rf.wrongs_hit {r : Rf} {h w : Nat} {l : List (Pl h w)} {x : Pl h w} (e : r.t (x.1.1 * 8 + x.1.2) ≠ 0) : r.wrongs (l ++ [x]) = r.wrongs l ++ [x] := by simp [Rf.wrongs, e]
theorem Rf.wrongs_miss {r : Rf} {h w : Nat} {l : List (Pl h w)} {x : Pl h w} (e : ¬ r.t (x.1.1 * 8 + x.1.2) ≠ 0) : r.wrongs (l ++ [x]) = r.wrongs l := by simp only [Rf.wrongs, List.filter_append]; simp [e]
theorem Rf.wrongs_len {r : Rf} {h w : Nat} (l : List (Pl h w)) : (r.wrongs l).length ≤ l.length := List.length_filter_le _ _

set_option maxRecDepth 100000 in
set_option maxHeartbeats 1000000 in
theorem wrong_pred (B0 : Nat) (c : Array Value) (r : Rf) (w : World) (h0 : rowAt w B0 = some c) (hR : IsRoof c r) :
    PredW 97 #[] #[.pointer (some ⟨B0, 0, none⟩)] (fun i j => decide (r.t (i * 8 + j) ≠ 0)) w := fun i j W hi hj hb => by
  have hc := hR.size
  have CK := fun W => kind_any c r i j W hR hi hj
  show Calls Tryd.prog 97 #[.agg #[.int .i8 (i : Int), .int .i8 (j : Int)], .pointer (some ⟨B0, 0, none⟩)] W _
  obtain ⟨b, hcmp⟩ : ∃ b, (fun i j => decide (r.t (i * 8 + j) ≠ 0)) i j = b := ⟨_, rfl⟩
  rw [hcmp]
  dsimp only at hcmp
  have hcq : (r.t (i * 8 + j) != 0) = b := by rw [← hcmp]; by_cases h : r.t (i * 8 + j) = 0 <;> simp [h]
  have r0 := brow hb h0
  have lt0 := rowAt_lt r0
  clear hcmp
  go_enter Tryd.func97, Tryd.ntmps97
  go_wp2_with fail
  refine (CK _).mono ?_
  rintro e w1 ⟨rfl, b1⟩
  have B1 : Below W.heap.size W w1 := ((Below.refl _ _).alloc (Nat.le_refl _) _).trans (b1.mono (by simp))
  clear b1 r0 CK
  go_wp2_with fail
  go_ret
  exact ⟨rfl, B1⟩
set_option maxRecDepth 100000 in
set_option maxHeartbeats 1000000 in
theorem wrong_any (c : Array Value) (r : Rf) (hh ww : Nat) (hhe : r.h = hh) (hwe : r.w = ww) (h8 : hh ≤ 8) (w8 : ww ≤ 8) (w : World) (hR : IsRoof c r) :
    Calls Tryd.prog 78 #[.agg c] w (GivesP w (r.wrongs (plUpto hh ww (hh * ww)))) := by
  have hc := hR.size
  have CW := fun W h0 => placesWhere_any 97 #[] #[.pointer (some ⟨w.heap.size, 0, none⟩)] (fun i j => decide (r.t (i * 8 + j) ≠ 0)) (enters_of Tryd.func97 (by kernel_rfl) rfl) c r hh ww hhe hwe h8 w8 W hR (wrong_pred w.heap.size c r W h0 hR)
  obtain ⟨p, hp⟩ : ∃ p : Nat → Nat → Bool, p = fun i j => decide (r.t (i * 8 + j) ≠ 0) := ⟨_, rfl⟩
  rw [← hp] at CW
  have HE := Lib.hid (show r.wrongs (plUpto hh ww (hh * ww)) = fltW p (plUpto hh ww (hh * ww)) from by rw [hp]; rfl)
  have HCW := Lib.hid CW
  clear hp
  clear CW hhe hwe
  go_enter Tryd.func78, Tryd.ntmps78
  go_wp2_with fail
  refine gen_callsW fun W hW => ?_
  have r0 : rowAt W w.heap.size = some c := by rw [hW]; exact rowAt_alloc_at _ _ _ _ rfl
  have pB : Below w.heap.size w W := by rw [hW]; exact (Below.refl _ _).alloc (Nat.le_refl _) _
  clear hW
  refine (HCW.out _ r0).mono ?_
  rintro e w1 ⟨v, rfl, l1, b1, cp⟩
  have B1 := bnext pB b1 pB.size
  replace l1 := l1.mono pB.size
  obtain ⟨av, cv, rfl⟩ := l1.shape
  clear b1 r0
  go_wp2_with fail
  go_ret
  exact ⟨_, rfl, by rw [HE.out]; exact l1, B1⟩

set_option maxRecDepth 100000 in
set_option maxHeartbeats 1000000 in
theorem l03Wrong_any (n : Nat) (c : Array Value) (r : Rf) (hh ww : Nat) (hhe : r.h = hh) (hwe : r.w = ww) (h8 : hh ≤ 8) (w8 : ww ≤ 8) (w : World) (hr : rowAt w n = some c) (hR : IsRoof c r) :
    Calls Tryd.prog 33 #[.pointer (some ⟨n, 0, none⟩)] w (GivesP w (r.wrongs (plUpto hh ww (hh * ww)))) := by
  have hn := rowAt_lt hr
  obtain ⟨i0, hi0, hz0, hz1, hz2⟩ := info_parts A_infoPc
  have hsz : hh * ww ≤ 64 := Nat.mul_le_mul h8 w8
  have ow := owns_empty w 57 2
  have hB0 : Below w.heap.size w (w.alloc (.cells #[] 57)) := (Below.refl _ _).alloc (Nat.le_refl _) _
  have r0 := brow hB0 hr
  go_enter Tryd.func33, Tryd.ntmps33
  go_wp2_with fail
  refine (l01All_any n c r hh ww hhe hwe h8 w8 _ r0 hR).mono ?_
  rintro e w1 ⟨va, rfl, la, b1⟩
  have ow1 := owns_below ow b1
  have B1 := bnext hB0 b1 hB0.size
  have hs1 : w.heap.size < w1.heap.size := by have := b1.size; simp at this; omega
  rw [plUpto_size (Nat.le_refl _)] at la
  replace la := la.mono (show w.heap.size + 1 ≤ _ by simp)
  obtain ⟨aa, ca, rfl⟩ := la.shape
  have LA := Lib.hid la
  have HR := Lib.hid hr
  have cs := Coll.start B1 0 0
  clear b1 ow hB0 r0 hr la B1
  go_wp2_with fail
  go_loopw [3, 5] (fun v i W => ∃ m : Nat, m ≤ hh * ww ∧ i = .int .i64 m ∧ W.ownsRow w.heap.size 57 2 v (r.wrongs (plUpto hh ww m)).length (plCells (r.wrongs (plUpto hh ww m))) ∧ Coll w w1 W v) (fun _ i _ => hh * ww - (intOf i).toNat)
  case atStart => exact ⟨0, by omega, rfl, ow1, cs⟩
  case round =>
    clear ow1 cs
    obtain ⟨m, hm, rfl, hv, hC⟩ := hrel
    by_cases hlt : m < hh * ww
    · have hp := pl_in hlt
      have i8 : m / ww < 8 := by omega
      have j8 : m % ww < 8 := by omega
      have rW := brow hC.bel HR.out
      obtain ⟨h0, _⟩ | ⟨g, cap, cur, e1, hg, hgr, hgs, hgf⟩ := LA.out.by_rows (fun g h1 h2 => hC.rows g (by omega) h2)
      · omega
      cases e1
      have c0 : wr.cell? ⟨g, m * 2, none⟩ = some (.int .i8 ((m / ww : Nat) : Int)) := (cell_of_rowAt hgr _).trans ((hgf _ (by omega)).trans (congrArg (fun z => some (Value.int .i8 z)) (plAt_even (Nat.le_refl _) hlt)))
      have c1 : wr.cell? ⟨g, m * 2 + 1, none⟩ = some (.int .i8 ((m % ww : Nat) : Int)) := (cell_of_rowAt hgr _).trans ((hgf _ (by omega)).trans (congrArg (fun z => some (Value.int .i8 z)) (plAt_odd (Nat.le_refl _) hlt)))
      have m0 : 0 ≤ (m : Int) := by omega
      have m1 : (m : Int) < ((hh * ww : Nat) : Int) := by omega
      have hpl := r.wrongs_len (plUpto hh ww m)
      have hpl2 := plUpto_len hh ww m
      clear hgf hgs
      obtain ⟨N, hN⟩ : ∃ N, N = hh * ww := ⟨_, rfl⟩
      have HN := Lib.hid hN
      rw [← hN] at m1 hlt hm hsz
      generalize hi : m / ww = i at *
      generalize hj : m % ww = j at *
      have HI := Lib.hid hi
      have HJ := Lib.hid hj
      clear hi hj
      go_wp2_with fail
      refine (l01At_any n c r i j _ rW hR i8 j8).mono ?_
      rintro e w2 ⟨rfl, b2⟩
      have hv2 := owns_below hv b2
      have hC2 := hC.call b2
      have d0 : w2.cell? ⟨g, m * 2, none⟩ = some (.int .i8 (i : Int)) := (b2.cell (p := ⟨g, m * 2, none⟩) (rowAt_lt hgr)).trans c0
      have d1 : w2.cell? ⟨g, m * 2 + 1, none⟩ = some (.int .i8 (j : Int)) := (b2.cell (p := ⟨g, m * 2 + 1, none⟩) (rowAt_lt hgr)).trans c1
      have hgw2 : g < w2.heap.size := Nat.lt_of_lt_of_le (rowAt_lt hgr) b2.size
      clear hv hC b2 c0 c1 hgr rW
      have hsC := hC2.bel.size
      by_cases hx : r.t (i * 8 + j) ≠ 0
      · have hxb : (r.t (i * 8 + j) != 0) = true := by simpa using hx
        clear hx
        go_wp2_with (at_builtin; refine wpList_append_own_at _ rfl _ _ 37 rfl w.heap.size 57 i0 (.agg #[.int .i8 0, .int .i8 0]) 2 2 Tryd.underlying37 hi0 hz0 hz1 hz2 rfl (by decide) _ _ _ rfl (hv2.alloc _) ⟨w2.heap.size, 0, none⟩ 1 1 [.int .i8 i, .int .i8 j] rfl rfl (cell_two_new _ _ _ _) (by simp [Value.oneCell']) (by unfold maxLen; omega) (by omega) (by simp; omega) ?_; intro v' w3 own3 grow3 _ at3)
        have hC3 := hC2.append hs1 grow3 (at3.imp (fun h => h) (fun h => h.trans (by simp)))
        clear hv2 hC2 d0 d1 grow3 at3
        go_wp2_with fail
        refine ⟨⟨m + 1, by omega, by go_num, ?_, hC3⟩, by simp [intOf]; omega⟩
        rw [plUpto_next (by rw [← HN.out]; exact hlt), Rf.wrongs_hit (by simp only [HI.out, HJ.out]; simpa using hxb), plCells_snoc]
        simp only [HI.out, HJ.out]
        simpa using own3
      · have hxb : (r.t (i * 8 + j) != 0) = false := by simpa using hx
        have HX := Lib.hid hx
        clear hx
        go_wp2_with fail
        refine ⟨⟨m + 1, by omega, by go_num, ?_, hC2⟩, by simp [intOf]; omega⟩
        rw [plUpto_next (by rw [← HN.out]; exact hlt), Rf.wrongs_miss (by simp only [HI.out, HJ.out]; exact HX.out)]
        exact hv2
    · obtain rfl : m = hh * ww := by omega
      go_wp2_with fail
      go_ret
      exact ⟨_, rfl, IsList.of_pls hv, hC.bel⟩
end Go.Proofs.YtoibolmippfcgaaDoor

/- CheckRepairs: contracts of both sides. -/
namespace Go.Proofs.YtoibolmippfcgaaDoor
open Go.RowKit

def cpRes (a : Nat → Addr) (m n : Nat) : Value := if m < n then errV (a 1) else .nilIface

/-- All tiles that are not whole. -/
def Rf.wrs (r : Rf) : List (Pl r.h.toNat r.w.toNat) := r.wrongs (plUpto r.h.toNat r.w.toNat (r.h.toNat * r.w.toNat))
theorem wrong_ok (c : Array Value) (r : Rf) (w : World) (hR : IsRoof c r) (ho : r.Ok) : Calls Tryd.prog 78 #[.agg c] w (GivesP w r.wrs) :=
  wrong_any c r r.h.toNat r.w.toNat (by have := ho.2.2.1; omega) (by have := ho.1; omega) (by have := ho.2.2.2.1; omega) (by have := ho.2.1; omega) w hR
theorem l03Wrong_ok (n : Nat) (c : Array Value) (r : Rf) (w : World) (hr : rowAt w n = some c) (hR : IsRoof c r) (ho : r.Ok) : Calls Tryd.prog 33 #[.pointer (some ⟨n, 0, none⟩)] w (GivesP w r.wrs) :=
  l03Wrong_any n c r r.h.toNat r.w.toNat (by have := ho.2.2.1; omega) (by have := ho.1; omega) (by have := ho.2.2.2.1; omega) (by have := ho.2.1; omega) w hr hR
theorem Rf.wrs_le {r : Rf} (ho : r.Ok) : r.wrs.length ≤ 64 := by
  have h1 := r.wrongs_len (plUpto r.h.toNat r.w.toNat (r.h.toNat * r.w.toNat))
  have h2 := plUpto_len r.h.toNat r.w.toNat (r.h.toNat * r.w.toNat)
  have h3 : r.h.toNat * r.w.toNat ≤ 8 * 8 := Nat.mul_le_mul (by have := ho.2.2.2.1; omega) (by have := ho.2.1; omega)
  have h4 : r.wrs.length ≤ _ := h1
  omega

/-- The code of a roof, rain, places and a bound. -/
noncomputable def Rf.bcode (r : Rf) (t f : Nat → Int) (n : Nat) (b : Int) : Int := if r.pcode t f n (decide (0 ≤ b)) ≠ 0 then r.pcode t f n (decide (0 ≤ b)) else if 10 < r.wrs.length then 3 else 0
noncomputable def Rf.cV (r : Rf) (t f : Nat → Int) (n : Nat) (b : Int) : Bool := if r.bcode t f n b = 0 then decide (r.aft t f n ≤ b) else false
theorem Rf.bcode_zero {r : Rf} {t f : Nat → Int} {n : Nat} {b : Int} (h : r.bcode t f n b = 0) : r.Rains t ∧ r.okP f n ∧ 0 ≤ b ∧ r.wrs.length ≤ 10 := by
  unfold Rf.bcode at h
  split at h
  · rename_i h1; exact absurd h h1
  · rename_i h1
    obtain ⟨a1, a2, a3⟩ := Rf.pcode_zero (Decidable.not_not.1 h1)
    split at h
    · omega
    · exact ⟨a1, a2, of_decide_eq_true a3, by omega⟩
theorem Rf.bcode_p {r : Rf} {t f : Nat → Int} {n : Nat} {b : Int} (h : r.pcode t f n (decide (0 ≤ b)) ≠ 0) : r.bcode t f n b = r.pcode t f n (decide (0 ≤ b)) := if_pos h
theorem Rf.bcode_m {r : Rf} {t f : Nat → Int} {n : Nat} {b : Int} (h : r.pcode t f n (decide (0 ≤ b)) = 0) (hm : 10 < r.wrs.length) : r.bcode t f n b = 3 := by
  unfold Rf.bcode; rw [if_neg (by omega), if_pos hm]

set_option maxRecDepth 100000 in
set_option maxHeartbeats 1000000 in
theorem checkWrong_any (a : Nat → Addr) (c : Array Value) (r : Rf) (w : World) (hE : Errs a w) (hR : IsRoof c r) (ho : r.Ok) :
    Calls Tryd.prog 54 #[.agg c] w fun e w' => e = .returned (cpRes (fun _ => a 2) 10 r.wrs.length) ∧ Below w.heap.size w w' := by
  have hc := hR.size
  have p0 := rowAt_alloc_at w c 33 w.heap.size rfl
  have pB : Below w.heap.size w (w.alloc (.cells c 33)) := (Below.refl _ _).alloc (Nat.le_refl _) _
  have HE := Lib.hid (hE.below pB)
  have CW := fun w => wrong_ok c r w hR ho
  have hle := Rf.wrs_le ho
  obtain ⟨m, hm⟩ : ∃ m, m = r.wrs.length := ⟨_, rfl⟩
  clear hE
  by_cases h : 10 < m
  · have HC : Hid (cpRes (fun _ => a 2) 10 r.wrs.length = errV (a 2)) := Lib.hid (if_pos (by omega))
    go_enter Tryd.func54, Tryd.ntmps54
    go_wp2_with fail
    refine (CW _).mono ?_
    rintro e w1 ⟨v, rfl, l1, b1⟩
    obtain ⟨av, cv, rfl⟩ := l1.shape
    rw [← hm]
    have B1 := bnext pB b1 pB.size
    have k2 := (HE.out.below b1).v2
    have HM := Lib.hid hm
    clear b1 l1 p0 pB hm
    go_wp2_with fail
    go_ret
    exact ⟨by rw [HC.out]; rfl, B1⟩
  · have HC : Hid (cpRes (fun _ => a 2) 10 r.wrs.length = .nilIface) := Lib.hid (if_neg (by omega))
    go_enter Tryd.func54, Tryd.ntmps54
    go_wp2_with fail
    refine (CW _).mono ?_
    rintro e w1 ⟨v, rfl, l1, b1⟩
    obtain ⟨av, cv, rfl⟩ := l1.shape
    rw [← hm]
    have B1 := bnext pB b1 pB.size
    have HM := Lib.hid hm
    clear b1 l1 p0 pB hm
    go_wp2_with fail
    go_ret
    exact ⟨by rw [HC.out]; rfl, B1⟩

set_option maxRecDepth 100000 in
set_option maxHeartbeats 2000000 in
/-- The program's check of a roof, rain, places and a bound. -/
theorem checkBound_err (a : Nat → Addr) (b0 n : Nat) (c d : Array Value) (r : Rf) (t f : Nat → Int) (b : Int) (hR : IsRoof c r) (hT : IsRain d t) (hn : n ≤ 2000000) (hz : r.bcode t f n b ≠ 0) :
    ∃ i, i < 6 ∧ ecode i = r.bcode t f n b ∧ ∀ (v : Value) (w : World), Errs a w → IsList w b0 v 2 n (fun i => .int .i8 (f i)) → Calls Tryd.prog 34 #[.agg c, .agg d, v, .int .i64 b] w fun e w' => e = .returned (errV (a i)) ∧ Below w.heap.size w w' := by
  have hc := hR.size
  have hd := hT.size
  by_cases ho : r.Rains t
  · by_cases hP : r.okP f n
    · by_cases hb : b < 0
      · refine ⟨1, by omega, ?_, fun v w hE hv => ?_⟩
        · have hz := Rf.pcode_out (f := f) (n := n) (fine := decide (0 ≤ b)) ho (by rw [decide_eq_false (by omega)]; rfl)
          rw [Rf.bcode_p (by rw [hz]; decide), hz]; rfl
        · obtain ⟨p0, p1, pB⟩ := two_boxes w c d 33 35
          have HV := Lib.hid (hv.below pB (Nat.le_refl _))
          have HE := Lib.hid (hE.below pB)
          have HP := Lib.hid hP
          have ne0 := neqNil0
          obtain ⟨av, cv, rfl⟩ := hv.shape
          clear hv hE hz hP
          go_enter Tryd.func34, Tryd.ntmps34
          go_wp2_with fail
          refine (checkPlaces_ok a b0 n c d r t f _ _ HE.out hR hT ho HV.out hn HP.out).mono ?_
          rintro e w1 ⟨rfl, b1⟩
          have k1 := (HE.out.below b1).v1
          have B1 := bnext pB b1 pB.size
          clear b1 p0 p1 pB
          go_wp2_with fail
          go_ret
          exact ⟨rfl, B1⟩
      · have hpz : r.pcode t f n (decide (0 ≤ b)) = 0 := by rw [decide_eq_true (by omega)]; exact Rf.pcode_in ho hP
        have hm : 10 < r.wrs.length := by
          unfold Rf.bcode at hz
          rw [if_neg (by omega)] at hz
          by_cases h : 10 < r.wrs.length
          · exact h
          · rw [if_neg h] at hz; exact absurd rfl hz
        refine ⟨2, by omega, by rw [Rf.bcode_m hpz hm]; rfl, fun v w hE hv => ?_⟩
        obtain ⟨p0, p1, pB⟩ := two_boxes w c d 33 35
        have HV := Lib.hid (hv.below pB (Nat.le_refl _))
        have HE := Lib.hid (hE.below pB)
        have HP := Lib.hid hP
        have HC : Hid (cpRes (fun _ => a 2) 10 r.wrs.length = errV (a 2)) := Lib.hid (if_pos hm)
        have ne0 := neqNil0
        obtain ⟨av, cv, rfl⟩ := hv.shape
        clear hv hE hz hP hm hpz
        go_enter Tryd.func34, Tryd.ntmps34
        go_wp2_with fail
        refine (checkPlaces_ok a b0 n c d r t f _ _ HE.out hR hT ho HV.out hn HP.out).mono ?_
        rintro e w1 ⟨rfl, b1⟩
        have s0 := brow b1 p0
        have HE1 := Lib.hid (HE.out.below b1)
        have B1 := bnext pB b1 pB.size
        clear b1 p0 p1 pB
        go_wp2_with fail
        refine (checkWrong_any a c r _ HE1.out hR ho.1).mono ?_
        rw [HC.out]
        rintro e w2 ⟨rfl, b2⟩
        have B2 := bnext B1 b2 B1.size
        clear b2 s0 B1
        go_wp2_with fail
        go_ret
        exact ⟨rfl, B2⟩
    · refine ⟨1, by omega, ?_, fun v w hE hv => ?_⟩
      · have hz := Rf.pcode_out (f := f) (n := n) (fine := decide (0 ≤ b)) ho (by rw [Rf.okB_f hP, Bool.and_false])
        rw [Rf.bcode_p (by rw [hz]; decide), hz]; rfl
      · obtain ⟨p0, p1, pB⟩ := two_boxes w c d 33 35
        have HV := Lib.hid (hv.below pB (Nat.le_refl _))
        have HE := Lib.hid (hE.below pB)
        have HP := Lib.hid hP
        have ne1 := neqNilE
        obtain ⟨av, cv, rfl⟩ := hv.shape
        clear hv hE hz hP
        go_enter Tryd.func34, Tryd.ntmps34
        go_wp2_with fail
        refine (checkPlaces_bad a b0 n c d r t f _ _ HE.out hR hT ho HV.out hn HP.out).mono ?_
        rintro e w1 ⟨rfl, b1⟩
        have B1 := bnext pB b1 pB.size
        clear b1 p0 p1 pB
        go_wp2_with fail
        go_ret
        exact ⟨rfl, B1⟩
  · refine ⟨0, by omega, ?_, fun v w hE hv => ?_⟩
    · have hz := Rf.pcode_no (f := f) (n := n) (fine := decide (0 ≤ b)) ho
      rw [Rf.bcode_p (by rw [hz]; decide), hz]; rfl
    · obtain ⟨p0, p1, pB⟩ := two_boxes w c d 33 35
      have HE := Lib.hid (hE.below pB)
      have ne1 := neqNilE
      obtain ⟨av, cv, rfl⟩ := hv.shape
      clear hv hE hz
      go_enter Tryd.func34, Tryd.ntmps34
      go_wp2_with fail
      refine (checkPlaces_no a c d r t _ _ HE.out hR hT ho).mono ?_
      rintro e w1 ⟨rfl, b1⟩
      have B1 := bnext pB b1 pB.size
      clear b1 p0 p1 pB
      go_wp2_with fail
      go_ret
      exact ⟨rfl, B1⟩

set_option maxRecDepth 100000 in
set_option maxHeartbeats 1000000 in
theorem checkBound_ok (a : Nat → Addr) (b0 n : Nat) (c d : Array Value) (r : Rf) (t f : Nat → Int) (b : Int) (hR : IsRoof c r) (hT : IsRain d t) (hn : n ≤ 2000000) (hz : r.bcode t f n b = 0) (v : Value) (w : World) (hE : Errs a w) (hv : IsList w b0 v 2 n (fun i => .int .i8 (f i))) :
    Calls Tryd.prog 34 #[.agg c, .agg d, v, .int .i64 b] w fun e w' => e = .returned .nilIface ∧ Below w.heap.size w w' := by
  have hc := hR.size
  have hd := hT.size
  obtain ⟨ho, hP, hb, hm⟩ := Rf.bcode_zero hz
  obtain ⟨p0, p1, pB⟩ := two_boxes w c d 33 35
  have HV := Lib.hid (hv.below pB (Nat.le_refl _))
  have HE := Lib.hid (hE.below pB)
  have HP := Lib.hid hP
  have HC : Hid (cpRes (fun _ => a 2) 10 r.wrs.length = .nilIface) := Lib.hid (if_neg (by omega))
  have hb' : ¬ b < 0 := by omega
  have ne0 := neqNil0
  obtain ⟨av, cv, rfl⟩ := hv.shape
  clear hv hE hz hP hm
  go_enter Tryd.func34, Tryd.ntmps34
  go_wp2_with fail
  refine (checkPlaces_ok a b0 n c d r t f _ _ HE.out hR hT ho HV.out hn HP.out).mono ?_
  rintro e w1 ⟨rfl, b1⟩
  have s0 := brow b1 p0
  have HE1 := Lib.hid (HE.out.below b1)
  have B1 := bnext pB b1 pB.size
  clear b1 p0 p1 pB
  go_wp2_with fail
  refine (checkWrong_any a c r _ HE1.out hR ho.1).mono ?_
  rw [HC.out]
  rintro e w2 ⟨rfl, b2⟩
  have B2 := bnext B1 b2 B1.size
  clear b2 s0 B1
  go_wp2_with fail
  go_ret
  exact ⟨rfl, B2⟩

set_option maxRecDepth 100000 in
set_option maxHeartbeats 1000000 in
theorem implCheckRepairs_any (a : Nat → Addr) (b0 n : Nat) (c d : Array Value) (r : Rf) (t f : Nat → Int) (b : Int) (v : Value) (w : World) (hE : Errs a w) (hR : IsRoof c r) (hT : IsRain d t)
    (hv : IsList w b0 v 2 n (fun i => .int .i8 (f i))) (hn : n ≤ 2000000) :
    Calls Tryd.prog 16 #[.agg c, .agg d, v, .int .i64 b] w fun e w' => e = .returned (.tuple #[.bool (r.cV t f n b), .int .i64 (r.bcode t f n b)]) ∧ Below w.heap.size w w' := by
  have hc := hR.size
  have hd := hT.size
  obtain ⟨p0, p1, pB⟩ := two_boxes w c d 33 35
  have HV := Lib.hid (hv.below pB (Nat.le_refl _))
  have HE := Lib.hid (hE.below pB)
  have ne1 := neqNilE
  have ne0 := neqNil0
  obtain ⟨av, cv, rfl⟩ := hv.shape
  clear hv hE
  by_cases hz : r.bcode t f n b = 0
  · obtain ⟨ho, hP, hb, hm⟩ := Rf.bcode_zero hz
    have HP := Lib.hid hP
    have CB := Lib.hid (fun v w hE hv => checkBound_ok a b0 n c d r t f b hR hT hn hz v w hE hv)
    have HD : Hid (r.cV t f n b = decide (r.aft t f n ≤ b)) := Lib.hid (if_pos hz)
    have HZ := Lib.hid hz
    clear hz hP hm
    go_enter Tryd.func16, Tryd.ntmps16
    go_wp2_with fail
    refine (CB.out _ _ HE.out HV.out).mono ?_
    rintro e w1 ⟨rfl, b1⟩
    have s0 := brow b1 p0
    have s1 := brow b1 p1
    have HV1 := Lib.hid (HV.out.below b1 (Nat.le_refl _))
    have B1 := bnext pB b1 pB.size
    clear b1 p0 p1 pB
    go_wp2_with fail
    refine (dripAfter_any b0 n c d r t f _ _ hR hT ho HV1.out hn HP.out).mono ?_
    rintro e w2 ⟨rfl, b2⟩
    have B2 := bnext B1 b2 B1.size
    clear b2 s0 s1 B1
    go_wp2_with fail
    go_ret2
    exact ⟨by rw [HD.out, HZ.out]; rfl, B2⟩
  · obtain ⟨i, hi, he, hcb⟩ := checkBound_err a b0 n c d r t f b hR hT hn hz
    have HD : Hid (r.cV t f n b = false) := Lib.hid (if_neg hz)
    have CB := Lib.hid hcb
    have HI := Lib.hid he
    clear hz he hcb
    go_enter Tryd.func16, Tryd.ntmps16
    go_wp2_with fail
    refine (CB.out _ _ HE.out HV.out).mono ?_
    rintro e w1 ⟨rfl, b1⟩
    have HE1 := Lib.hid (HE.out.below b1)
    have B1 := bnext pB b1 pB.size
    clear b1 p0 p1 pB
    go_wp2_with fail
    refine (leakCode_any a i _ HE1.out hi).mono ?_
    rintro e w2 ⟨rfl, rfl⟩
    go_wp2_with fail
    go_ret2
    exact ⟨by rw [HD.out, ← HI.out]; rfl, B1⟩

set_option maxRecDepth 100000 in
set_option maxHeartbeats 1000000 in
theorem specCheckRepairs_any (b0 n : Nat) (c d : Array Value) (r : Rf) (t f : Nat → Int) (b : Int) (v : Value) (w : World) (hR : IsRoof c r) (hT : IsRain d t)
    (hv : IsList w b0 v 2 n (fun i => .int .i8 (f i))) (hn : n ≤ 2000000) (hf : ∀ i, i < n * 2 → -128 ≤ f i ∧ f i ≤ 127) :
    Calls Tryd.prog 15 #[.agg c, .agg d, v, .int .i64 b] w fun e w' => e = .returned (.tuple #[.bool (r.cV t f n b), .int .i64 (r.bcode t f n b)]) ∧ Below w.heap.size w w' := by
  obtain ⟨p0, p1, pB⟩ := two_boxes w c d 33 35
  have HV := Lib.hid (hv.below pB (Nat.le_refl _))
  have HF := Lib.hid hf
  obtain ⟨av, cv, rfl⟩ := hv.shape
  clear hv hf
  have CP := fun fine W h0 h1 hv => l03Places_any w.heap.size (w.heap.size + 1) b0 n c d r t f (.slice av n cv) fine W h0 hR h1 hT hv hn HF.out
  by_cases hp : r.pcode t f n (decide (0 ≤ b)) = 0
  · obtain ⟨ho, hP, hb'⟩ := Rf.pcode_zero hp
    have hb : 0 ≤ b := of_decide_eq_true hb'
    have hle := Rf.wrs_le ho.1
    obtain ⟨m, hm⟩ : ∃ m, m = r.wrs.length := ⟨_, rfl⟩
    have HP := Lib.hid hP
    have HPC := Lib.hid hp
    have HM := Lib.hid hm
    by_cases hmany : 10 < m
    · have hz := Rf.bcode_m hp (by omega)
      have HD : Hid (r.cV t f n b = false) := Lib.hid (if_neg (by rw [hz]; decide))
      have HZ := Lib.hid hz
      clear hz hP hp hb' hm
      go_enter Tryd.func15, Tryd.ntmps15
      go_wp2_with fail
      refine (CP _ _ p0 p1 HV.out).mono ?_
      rw [show r.pcode t f n true = 0 from by rw [← HPC.out, decide_eq_true hb]]
      rintro e w1 ⟨rfl, b1⟩
      have s0 := brow b1 p0
      have B1 := bnext pB b1 pB.size
      clear b1 p0 p1 pB
      go_wp2_with fail
      refine (l03Wrong_ok w.heap.size c r _ s0 hR ho.1).mono ?_
      rintro e w2 ⟨u, rfl, l2, b2⟩
      obtain ⟨au, cu, rfl⟩ := l2.shape
      rw [← HM.out]
      have B2 := bnext B1 b2 B1.size
      clear b2 l2 s0 B1
      go_wp2_with fail
      go_ret2
      exact ⟨by rw [HD.out, HZ.out]; rfl, B2⟩
    · have hz : r.bcode t f n b = 0 := by unfold Rf.bcode; rw [if_neg (by omega), if_neg (by omega)]
      have HD : Hid (r.cV t f n b = decide (r.aft t f n ≤ b)) := Lib.hid (if_pos hz)
      have HZ := Lib.hid hz
      clear hz hP hp hb' hm
      go_enter Tryd.func15, Tryd.ntmps15
      go_wp2_with fail
      refine (CP _ _ p0 p1 HV.out).mono ?_
      rw [show r.pcode t f n true = 0 from by rw [← HPC.out, decide_eq_true hb]]
      rintro e w1 ⟨rfl, b1⟩
      have s0 := brow b1 p0
      have s1 := brow b1 p1
      have HV1 := Lib.hid (HV.out.below b1 (Nat.le_refl _))
      have B1 := bnext pB b1 pB.size
      clear b1 p0 p1 pB
      go_wp2_with fail
      refine (l03Wrong_ok w.heap.size c r _ s0 hR ho.1).mono ?_
      rintro e w2 ⟨u, rfl, l2, b2⟩
      obtain ⟨au, cu, rfl⟩ := l2.shape
      rw [← HM.out]
      have u0 := brow b2 s0
      have u1 := brow b2 s1
      have HV2 := Lib.hid (HV1.out.below b2 (Nat.le_refl _))
      have B2 := bnext B1 b2 B1.size
      clear b2 l2 s0 s1 B1
      go_wp2_with fail
      refine (l03After_any w.heap.size (w.heap.size + 1) b0 n c d r t f _ _ u0 hR u1 hT ho HV2.out hn HP.out).mono ?_
      rintro e w3 ⟨rfl, b3⟩
      have B3 := bnext B2 b3 B2.size
      clear b3 u0 u1 B2
      go_wp2_with fail
      go_ret2
      exact ⟨by rw [HD.out, HZ.out]; rfl, B3⟩
  · have hz := Rf.bcode_p hp
    have HD : Hid (r.cV t f n b = false) := Lib.hid (if_neg (by rw [hz]; exact hp))
    have HZ := Lib.hid hz
    obtain ⟨q, hq⟩ : ∃ q, q = r.pcode t f n (decide (0 ≤ b)) := ⟨_, rfl⟩
    have hq0 : (q != 0) = true := by rw [hq]; simpa using hp
    have hq1 : (q == 0) = false := by rw [hq]; simpa using hp
    have HQ := Lib.hid hq
    clear hz hp hq
    by_cases hb : 0 ≤ b
    · go_enter Tryd.func15, Tryd.ntmps15
      go_wp2_with fail
      refine (CP _ _ p0 p1 HV.out).mono ?_
      rw [show r.pcode t f n true = q from by rw [HQ.out, decide_eq_true (by omega)]]
      rintro e w1 ⟨rfl, b1⟩
      have B1 := bnext pB b1 pB.size
      clear b1 p0 p1 pB
      go_wp2_with fail
      go_ret2
      exact ⟨by rw [HD.out, HZ.out, ← HQ.out]; rfl, B1⟩
    · go_enter Tryd.func15, Tryd.ntmps15
      go_wp2_with fail
      refine (CP _ _ p0 p1 HV.out).mono ?_
      rw [show r.pcode t f n false = q from by rw [HQ.out, decide_eq_false (by omega)]]
      rintro e w1 ⟨rfl, b1⟩
      have B1 := bnext pB b1 pB.size
      clear b1 p0 p1 pB
      go_wp2_with fail
      go_ret2
      exact ⟨by rw [HD.out, HZ.out, ← HQ.out]; rfl, B1⟩
end Go.Proofs.YtoibolmippfcgaaDoor

/- laws.FnExactCheckRepairs returns true for every roof, rain and list of places, and leaves them as they were. The sentinels stand in package-level variables: they are listed, and tied by the card. -/
namespace Go.Proofs.YtoibolmippfcgaaDoor
open Go.RowKit

set_option maxRecDepth 100000 in
set_option maxHeartbeats 4000000 in
theorem law_walk_FnExactCheckRepairs (a : Nat → Addr) {w : World} {c : Array Value} {r : Rf} (hR : IsRoof c r) {d : Array Value} {t : Nat → Int} (hT : IsRain d t) {v : Value} {n : Nat} {f : Nat → Int} (hv : ArgL w v n f) (hm : n ≤ maxLen) (hf : ∀ i, i < n * 2 → -128 ≤ f i ∧ f i ≤ 127) {b : Int} (_hb : -9223372036854775808 ≤ b ∧ b ≤ 9223372036854775807) (hE : Errs a w) :
    Calls Tryd.prog 4 #[.agg c, .agg d, v, .int .i64 b] w fun e w' => e = .returned (.bool true) ∧ Below w.heap.size w w' := by
  have pb := boxes2 w c d 26 28
  have hc := hR.size
  have hd := hT.size
  have HV := Lib.hid (hv.below pb.bel (Nat.le_refl _))
  have HE := Lib.hid hE
  obtain ⟨av, cv, rfl⟩ := hv.shape
  clear hv hE
  by_cases hl : n ≤ 1048576
  · have hl1 : (n : Int) ≤ 1048576 := by omega
    have CS := fun u B0 w (hu : IsList w B0 u 2 n (fun i => .int .i8 (f i))) => specCheckRepairs_any B0 n c d r t f b u w hR hT hu (by omega) hf
    have CI := fun u B0 w hE (hu : IsList w B0 u 2 n (fun i => .int .i8 (f i))) => implCheckRepairs_any a B0 n c d r t f b u w hE hR hT hu (by omega)
    have hne0 : ((r.cV t f n b) != (r.cV t f n b)) = false := by simp
    generalize (r.cV t f n b) = v0 at *
    have hne1 : ((r.bcode t f n b) != (r.bcode t f n b)) = false := by simp
    generalize (r.bcode t f n b) = v1 at *
    go_enter Tryd.func4, Tryd.ntmps4
    go_wp2_with fail
    refine gen_callsL fun W hW => ?_
    rw [← hW] at pb HV
    clear hW
    refine (szPlaceS_t _ n f _ HV.out hl).mono ?_
    rintro e w1 ⟨rfl, rfl⟩
    go_wp2_with fail
    refine wp_region_held_drew (S := (fun w' => Boxes (w.heap.size + 1 + 1) w [(w.heap.size + 1, d), (w.heap.size, c)] w' ∧ ArgL w' (.slice av n cv) n f)) (by kernel_rfl) (⟨pb.drew, HV.out⟩) (fun hH => ?_)
    refine wpAnyH_take (i := 0) (v := .agg c) rfl (by kernel_rfl) (by kernel_rfl) (by kernel_rfl) (fun _ _ _ h => h) (Or.inl ⟨by rfl, ?_⟩) hH ?_
    · intro w1 hS; (try dsimp only at hS); obtain ⟨hb, _⟩ := hS; have s0 := hb.rows (w.heap.size, c) (by simp); have s1 := hb.rows (w.heap.size + 1, d) (by simp); dsimp only at s0 s1; go_simp
    (try simp only [List.getElem_toArray]); (try simp only [List.getElem_cons_succ]); (try simp only [List.getElem_cons_zero]); (try simp only [Act.put]); (try simp only [List.setIfInBounds_toArray]); (try simp only [List.set_cons_succ]); (try simp only [List.set_cons_zero])
    refine wpAnyH_take (i := 2) (v := .agg d) rfl (by kernel_rfl) (by kernel_rfl) (by kernel_rfl) (fun _ _ _ h => h) (Or.inl ⟨by rfl, ?_⟩) hH ?_
    · intro w1 hS; (try dsimp only at hS); obtain ⟨hb, _⟩ := hS; have s0 := hb.rows (w.heap.size, c) (by simp); have s1 := hb.rows (w.heap.size + 1, d) (by simp); dsimp only at s0 s1; go_simp
    (try simp only [List.getElem_toArray]); (try simp only [List.getElem_cons_succ]); (try simp only [List.getElem_cons_zero]); (try simp only [Act.put]); (try simp only [List.setIfInBounds_toArray]); (try simp only [List.set_cons_succ]); (try simp only [List.set_cons_zero])
    refine wpAnyH_take (i := 4) (v := .slice av n cv) rfl (by kernel_rfl) (by kernel_rfl) (by kernel_rfl) (fun _ _ _ h => h) (Or.inl ⟨by rfl, ?_⟩) hH ?_
    · intro w1 hS; (try dsimp only at hS); obtain ⟨hb, _⟩ := hS; have s0 := hb.rows (w.heap.size, c) (by simp); have s1 := hb.rows (w.heap.size + 1, d) (by simp); dsimp only at s0 s1; go_simp
    (try simp only [List.getElem_toArray]); (try simp only [List.getElem_cons_succ]); (try simp only [List.getElem_cons_zero]); (try simp only [Act.put]); (try simp only [List.setIfInBounds_toArray]); (try simp only [List.set_cons_succ]); (try simp only [List.set_cons_zero])
    refine wpAnyH_take (i := 6) (v := .int .i64 b) rfl (by kernel_rfl) (by kernel_rfl) (by kernel_rfl) (fun _ _ _ h => h) (Or.inl ⟨by rfl, ?_⟩) hH ?_
    · intro w1 hS; (try dsimp only at hS); obtain ⟨hb, _⟩ := hS; have s0 := hb.rows (w.heap.size, c) (by simp); have s1 := hb.rows (w.heap.size + 1, d) (by simp); dsimp only at s0 s1; go_simp
    (try simp only [List.getElem_toArray]); (try simp only [List.getElem_cons_succ]); (try simp only [List.getElem_cons_zero]); (try simp only [Act.put]); (try simp only [List.setIfInBounds_toArray]); (try simp only [List.set_cons_succ]); (try simp only [List.set_cons_zero])
    refine wpAnyH_ready (rs := [1]) (by kernel_rfl) (by simp) (AllReadyH.cons rfl (fun K hK => ?_) AllReadyH.nil)
    go_simp
    refine (toRoof_any c r _ hR).mono ?_
    rintro x wx ⟨rfl, bx⟩
    go_simp
    refine hK.out _ _ (⟨hH.1.call bx, hH.2.below bx (Nat.le_refl _)⟩) (fun hG => ?_)
    clear hK K hH bx
    replace hH := hG
    clear hG
    (try simp only [List.getElem_toArray]); (try simp only [List.getElem_cons_succ]); (try simp only [List.getElem_cons_zero]); (try simp only [Act.put]); (try simp only [List.setIfInBounds_toArray]); (try simp only [List.set_cons_succ]); (try simp only [List.set_cons_zero])
    refine wpAnyH_ready (rs := [3]) (by kernel_rfl) (by simp) (AllReadyH.cons rfl (fun K hK => ?_) AllReadyH.nil)
    go_simp
    refine (toRain_any d t _ hT).mono ?_
    rintro x wx ⟨rfl, bx⟩
    go_simp
    refine hK.out _ _ (⟨hH.1.call bx, hH.2.below bx (Nat.le_refl _)⟩) (fun hG => ?_)
    clear hK K hH bx
    replace hH := hG
    clear hG
    (try simp only [List.getElem_toArray]); (try simp only [List.getElem_cons_succ]); (try simp only [List.getElem_cons_zero]); (try simp only [Act.put]); (try simp only [List.setIfInBounds_toArray]); (try simp only [List.set_cons_succ]); (try simp only [List.set_cons_zero])
    refine wpAnyH_ready (rs := [5]) (by kernel_rfl) (by simp) (AllReadyH.cons rfl (fun K hK => ?_) AllReadyH.nil)
    go_simp
    refine (toPlaceS_any _ n f _ hH.2 hl).mono ?_
    rintro x wx ⟨u, rfl, lx, bx⟩
    go_simp
    refine hK.out _ _ (⟨hH.1.call bx, hH.2.below bx (Nat.le_refl _)⟩) (fun hG => ?_)
    clear hK K hH bx
    replace hH := hG
    clear hG
    (try simp only [List.getElem_toArray]); (try simp only [List.getElem_cons_succ]); (try simp only [List.getElem_cons_zero]); (try simp only [Act.put]); (try simp only [List.setIfInBounds_toArray]); (try simp only [List.set_cons_succ]); (try simp only [List.set_cons_zero])
    refine wpAnyH_ready (rs := [7]) (by kernel_rfl) (by simp) (AllReadyH.cons rfl (fun K hK => ?_) AllReadyH.nil)
    go_simp
    refine (CS _ _ _ lx).mono ?_
    rintro x wx ⟨rfl, bx⟩
    go_simp
    refine hK.out _ _ (⟨hH.1.call bx, hH.2.below bx (Nat.le_refl _)⟩) (fun hG => ?_)
    clear hK K hH bx
    replace hH := hG
    clear hG
    (try simp only [List.getElem_toArray]); (try simp only [List.getElem_cons_succ]); (try simp only [List.getElem_cons_zero]); (try simp only [Act.put]); (try simp only [List.setIfInBounds_toArray]); (try simp only [List.set_cons_succ]); (try simp only [List.set_cons_zero])
    refine wpAnyH_take (i := 8) (v := .tuple #[.bool v0, .int .i64 v1]) rfl (by kernel_rfl) (by kernel_rfl) (by kernel_rfl) (fun _ _ _ h => h) (Or.inl ⟨by rfl, ?_⟩) hH ?_
    · intro w1 hS; (try dsimp only at hS); go_simp
    (try simp only [List.getElem_toArray]); (try simp only [List.getElem_cons_succ]); (try simp only [List.getElem_cons_zero]); (try simp only [Act.put]); (try simp only [List.setIfInBounds_toArray]); (try simp only [List.set_cons_succ]); (try simp only [List.set_cons_zero])
    refine wpAnyH_take (i := 9) (v := .bool v0) rfl (by kernel_rfl) (by kernel_rfl) (by kernel_rfl) (fun _ _ _ h => h) (Or.inl ⟨by rfl, ?_⟩) hH ?_
    · intro w1 hS; (try dsimp only at hS); go_simp
    (try simp only [List.getElem_toArray]); (try simp only [List.getElem_cons_succ]); (try simp only [List.getElem_cons_zero]); (try simp only [Act.put]); (try simp only [List.setIfInBounds_toArray]); (try simp only [List.set_cons_succ]); (try simp only [List.set_cons_zero])
    refine wpAnyH_take (i := 10) (v := .int .i64 v1) rfl (by kernel_rfl) (by kernel_rfl) (by kernel_rfl) (fun _ _ _ h => h) (Or.inl ⟨by rfl, ?_⟩) hH ?_
    · intro w1 hS; (try dsimp only at hS); go_simp
    (try simp only [List.getElem_toArray]); (try simp only [List.getElem_cons_succ]); (try simp only [List.getElem_cons_zero]); (try simp only [Act.put]); (try simp only [List.setIfInBounds_toArray]); (try simp only [List.set_cons_succ]); (try simp only [List.set_cons_zero])
    refine wpAnyH_take (i := 11) (v := .bool v0) rfl (by kernel_rfl) (by kernel_rfl) (by kernel_rfl) (fun _ _ _ h => h) (Or.inl ⟨by rfl, ?_⟩) hH ?_
    · intro w1 hS; (try dsimp only at hS); go_simp
    (try simp only [List.getElem_toArray]); (try simp only [List.getElem_cons_succ]); (try simp only [List.getElem_cons_zero]); (try simp only [Act.put]); (try simp only [List.setIfInBounds_toArray]); (try simp only [List.set_cons_succ]); (try simp only [List.set_cons_zero])
    refine wpAnyH_take (i := 12) (v := .int .i64 v1) rfl (by kernel_rfl) (by kernel_rfl) (by kernel_rfl) (fun _ _ _ h => h) (Or.inl ⟨by rfl, ?_⟩) hH ?_
    · intro w1 hS; (try dsimp only at hS); go_simp
    (try simp only [List.getElem_toArray]); (try simp only [List.getElem_cons_succ]); (try simp only [List.getElem_cons_zero]); (try simp only [Act.put]); (try simp only [List.setIfInBounds_toArray]); (try simp only [List.set_cons_succ]); (try simp only [List.set_cons_zero])
    refine wpAnyH_done (by kernel_rfl) ?_ _
    have HH := Lib.hid hH
    clear hH lx pb HV CS
    go_wp2_with fail
    refine (toPlaceS_any _ n f _ HH.out.2 hl).mono ?_
    rintro e w2 ⟨x2, rfl, l2, b2⟩
    have HB2 := Lib.hid (HH.out.1.call b2)
    have HV2 := Lib.hid (HH.out.2.below b2 (Nat.le_refl _))
    obtain ⟨ax, cx, rfl⟩ := l2.shape
    have HL2 := Lib.hid l2
    obtain ⟨bx2, hbx2⟩ : ∃ B, IsList w2 B (.slice ax n cx) 2 n (fun i => .int .i8 (f i)) := ⟨_, HL2.out⟩
    replace HL2 := Lib.hid hbx2
    clear b2 l2 hbx2
    go_wp2_with fail
    refine wp_region_held_drew (S := (fun w' => (Boxes (w.heap.size + 1 + 1) w [(w.heap.size + 1, d), (w.heap.size, c)] w' ∧ ArgL w' (.slice av n cv) n f) ∧ IsList w' bx2 (.slice ax n cx) 2 n (fun i => .int .i8 (f i)))) (by kernel_rfl) (⟨⟨HB2.out.drew, HV2.out⟩, HL2.out⟩) (fun hH => ?_)
    refine wpAnyH_take (i := 0) (v := .agg c) rfl (by kernel_rfl) (by kernel_rfl) (by kernel_rfl) (fun _ _ _ h => h) (Or.inl ⟨by rfl, ?_⟩) hH ?_
    · intro w1 hS; (try dsimp only at hS); obtain ⟨⟨hb, _⟩, _⟩ := hS; have s0 := hb.rows (w.heap.size, c) (by simp); have s1 := hb.rows (w.heap.size + 1, d) (by simp); dsimp only at s0 s1; go_simp
    (try simp only [List.getElem_toArray]); (try simp only [List.getElem_cons_succ]); (try simp only [List.getElem_cons_zero]); (try simp only [Act.put]); (try simp only [List.setIfInBounds_toArray]); (try simp only [List.set_cons_succ]); (try simp only [List.set_cons_zero])
    refine wpAnyH_take (i := 2) (v := .agg d) rfl (by kernel_rfl) (by kernel_rfl) (by kernel_rfl) (fun _ _ _ h => h) (Or.inl ⟨by rfl, ?_⟩) hH ?_
    · intro w1 hS; (try dsimp only at hS); obtain ⟨⟨hb, _⟩, _⟩ := hS; have s0 := hb.rows (w.heap.size, c) (by simp); have s1 := hb.rows (w.heap.size + 1, d) (by simp); dsimp only at s0 s1; go_simp
    (try simp only [List.getElem_toArray]); (try simp only [List.getElem_cons_succ]); (try simp only [List.getElem_cons_zero]); (try simp only [Act.put]); (try simp only [List.setIfInBounds_toArray]); (try simp only [List.set_cons_succ]); (try simp only [List.set_cons_zero])
    refine wpAnyH_take (i := 4) (v := .slice ax n cx) rfl (by kernel_rfl) (by kernel_rfl) (by kernel_rfl) (fun _ _ _ h => h) (Or.inl ⟨by rfl, ?_⟩) hH ?_
    · intro w1 hS; (try dsimp only at hS); obtain ⟨⟨hb, _⟩, _⟩ := hS; have s0 := hb.rows (w.heap.size, c) (by simp); have s1 := hb.rows (w.heap.size + 1, d) (by simp); dsimp only at s0 s1; go_simp
    (try simp only [List.getElem_toArray]); (try simp only [List.getElem_cons_succ]); (try simp only [List.getElem_cons_zero]); (try simp only [Act.put]); (try simp only [List.setIfInBounds_toArray]); (try simp only [List.set_cons_succ]); (try simp only [List.set_cons_zero])
    refine wpAnyH_take (i := 5) (v := .int .i64 b) rfl (by kernel_rfl) (by kernel_rfl) (by kernel_rfl) (fun _ _ _ h => h) (Or.inl ⟨by rfl, ?_⟩) hH ?_
    · intro w1 hS; (try dsimp only at hS); obtain ⟨⟨hb, _⟩, _⟩ := hS; have s0 := hb.rows (w.heap.size, c) (by simp); have s1 := hb.rows (w.heap.size + 1, d) (by simp); dsimp only at s0 s1; go_simp
    (try simp only [List.getElem_toArray]); (try simp only [List.getElem_cons_succ]); (try simp only [List.getElem_cons_zero]); (try simp only [Act.put]); (try simp only [List.setIfInBounds_toArray]); (try simp only [List.set_cons_succ]); (try simp only [List.set_cons_zero])
    refine wpAnyH_ready (rs := [1]) (by kernel_rfl) (by simp) (AllReadyH.cons rfl (fun K hK => ?_) AllReadyH.nil)
    go_simp
    refine (toRoof_any c r _ hR).mono ?_
    rintro x wy ⟨rfl, bx⟩
    go_simp
    refine hK.out _ _ (⟨⟨hH.1.1.call bx, hH.1.2.below bx (Nat.le_refl _)⟩, hH.2.below bx (Nat.le_refl _)⟩) (fun hG => ?_)
    clear hK K hH bx
    replace hH := hG
    clear hG
    (try simp only [List.getElem_toArray]); (try simp only [List.getElem_cons_succ]); (try simp only [List.getElem_cons_zero]); (try simp only [Act.put]); (try simp only [List.setIfInBounds_toArray]); (try simp only [List.set_cons_succ]); (try simp only [List.set_cons_zero])
    refine wpAnyH_ready (rs := [3]) (by kernel_rfl) (by simp) (AllReadyH.cons rfl (fun K hK => ?_) AllReadyH.nil)
    go_simp
    refine (toRain_any d t _ hT).mono ?_
    rintro x wy ⟨rfl, bx⟩
    go_simp
    refine hK.out _ _ (⟨⟨hH.1.1.call bx, hH.1.2.below bx (Nat.le_refl _)⟩, hH.2.below bx (Nat.le_refl _)⟩) (fun hG => ?_)
    clear hK K hH bx
    replace hH := hG
    clear hG
    (try simp only [List.getElem_toArray]); (try simp only [List.getElem_cons_succ]); (try simp only [List.getElem_cons_zero]); (try simp only [Act.put]); (try simp only [List.setIfInBounds_toArray]); (try simp only [List.set_cons_succ]); (try simp only [List.set_cons_zero])
    refine wpAnyH_ready (rs := [6]) (by kernel_rfl) (by simp) (AllReadyH.cons rfl (fun K hK => ?_) AllReadyH.nil)
    go_simp
    refine (CI _ _ _ (HE.out.below hH.1.1.bel) hH.2).mono ?_
    rintro x wy ⟨rfl, bx⟩
    go_simp
    refine hK.out _ _ (⟨⟨hH.1.1.call bx, hH.1.2.below bx (Nat.le_refl _)⟩, hH.2.below bx (Nat.le_refl _)⟩) (fun hG => ?_)
    clear hK K hH bx
    replace hH := hG
    clear hG
    (try simp only [List.getElem_toArray]); (try simp only [List.getElem_cons_succ]); (try simp only [List.getElem_cons_zero]); (try simp only [Act.put]); (try simp only [List.setIfInBounds_toArray]); (try simp only [List.set_cons_succ]); (try simp only [List.set_cons_zero])
    refine wpAnyH_take (i := 7) (v := .tuple #[.bool v0, .int .i64 v1]) rfl (by kernel_rfl) (by kernel_rfl) (by kernel_rfl) (fun _ _ _ h => h) (Or.inl ⟨by rfl, ?_⟩) hH ?_
    · intro w1 hS; (try dsimp only at hS); go_simp
    (try simp only [List.getElem_toArray]); (try simp only [List.getElem_cons_succ]); (try simp only [List.getElem_cons_zero]); (try simp only [Act.put]); (try simp only [List.setIfInBounds_toArray]); (try simp only [List.set_cons_succ]); (try simp only [List.set_cons_zero])
    refine wpAnyH_take (i := 8) (v := .bool v0) rfl (by kernel_rfl) (by kernel_rfl) (by kernel_rfl) (fun _ _ _ h => h) (Or.inl ⟨by rfl, ?_⟩) hH ?_
    · intro w1 hS; (try dsimp only at hS); go_simp
    (try simp only [List.getElem_toArray]); (try simp only [List.getElem_cons_succ]); (try simp only [List.getElem_cons_zero]); (try simp only [Act.put]); (try simp only [List.setIfInBounds_toArray]); (try simp only [List.set_cons_succ]); (try simp only [List.set_cons_zero])
    refine wpAnyH_take (i := 9) (v := .int .i64 v1) rfl (by kernel_rfl) (by kernel_rfl) (by kernel_rfl) (fun _ _ _ h => h) (Or.inl ⟨by rfl, ?_⟩) hH ?_
    · intro w1 hS; (try dsimp only at hS); go_simp
    (try simp only [List.getElem_toArray]); (try simp only [List.getElem_cons_succ]); (try simp only [List.getElem_cons_zero]); (try simp only [Act.put]); (try simp only [List.setIfInBounds_toArray]); (try simp only [List.set_cons_succ]); (try simp only [List.set_cons_zero])
    refine wpAnyH_take (i := 10) (v := .bool v0) rfl (by kernel_rfl) (by kernel_rfl) (by kernel_rfl) (fun _ _ _ h => h) (Or.inl ⟨by rfl, ?_⟩) hH ?_
    · intro w1 hS; (try dsimp only at hS); go_simp
    (try simp only [List.getElem_toArray]); (try simp only [List.getElem_cons_succ]); (try simp only [List.getElem_cons_zero]); (try simp only [Act.put]); (try simp only [List.setIfInBounds_toArray]); (try simp only [List.set_cons_succ]); (try simp only [List.set_cons_zero])
    refine wpAnyH_take (i := 11) (v := .int .i64 v1) rfl (by kernel_rfl) (by kernel_rfl) (by kernel_rfl) (fun _ _ _ h => h) (Or.inl ⟨by rfl, ?_⟩) hH ?_
    · intro w1 hS; (try dsimp only at hS); go_simp
    (try simp only [List.getElem_toArray]); (try simp only [List.getElem_cons_succ]); (try simp only [List.getElem_cons_zero]); (try simp only [Act.put]); (try simp only [List.setIfInBounds_toArray]); (try simp only [List.set_cons_succ]); (try simp only [List.set_cons_zero])
    refine wpAnyH_done (by kernel_rfl) ?_ _
    have HH2 := Lib.hid hH
    clear hH HH HB2 HV2 HL2 CI
    go_wp2_with fail
    refine (toPlaceS_any _ n f _ HH2.out.1.2 hl).mono ?_
    rintro e w5 ⟨x3, rfl, l3, b3⟩
    have HL3 := Lib.hid (HH2.out.2.below b3 (Nat.le_refl _))
    have HB3 := Lib.hid (HH2.out.1.1.call b3)
    have HL4 := Lib.hid l3
    clear b3 l3
    go_wp2_with fail
    refine (eqPlaceS_same n f _ _ _ _ _ HL3.out HL4.out (by omega)).mono ?_
    rintro e w6 ⟨rfl, b6⟩
    have HB6 := Lib.hid (HB3.out.call b6)
    clear b6
    go_wp2_with fail
    go_ret
    exact ⟨rfl, HB6.out.bel⟩
  · have hl1 : (1048576 : Int) < n := by omega
    go_enter Tryd.func4, Tryd.ntmps4
    go_wp2_with fail
    refine gen_callsL fun W hW => ?_
    rw [← hW] at pb HV
    clear hW
    refine (szPlaceS_f _ n f _ HV.out (by omega) hm).mono ?_
    rintro e w1 ⟨rfl, rfl⟩
    go_wp2_with fail
    go_ret
    exact ⟨rfl, pb.bel⟩

namespace LFnExactCheckRepairs
open Go.RowKit Go.ChangeShapes Go.WideShapes Go.ChangeAt
theorem own : ownKnob Tryd.prog.godebug = none := by kernel_rfl
theorem laidOut : laidOutB Tryd.prog = true := by kernel_rfl
theorem door_met (os : Os) (args : Array Value) : laidMetH Tryd.prog Rows.fnExactCheckRepairsRow.laid ((World.doorLaid Tryd.prog 400 os).forCall (fun _ _ => 0) ⟨#[], args, []⟩).memory :=
  laidMetH_of_parts3 (fuel := 8) (laidMet_of_run' 8 (by kernel_rfl) (by kernel_rfl)) (by kernel_rfl) (by kernel_rfl)
set_option maxRecDepth 100000 in
theorem lifted (os : Os) (started : os.Started) (H : Type) (enc : TypeId × Value → H) :
    ReturnsInHanded {} Tryd.checked os 4 .any (fun w args => (Rows.fnExactCheckRepairsSpec.pre enc Tryd.prog Tryd.f4 [] false w args ∧ laidMetH Tryd.prog Rows.fnExactCheckRepairsRow.laid w) ∧ sizedMet enc Tryd.prog Tryd.f4 (OpenSpec.ofChange Rows.fnExactCheckRepairsSpec) false w args)
      (Rows.fnExactCheckRepairsSpec.post enc Tryd.prog Tryd.f4 false true false false) := by
  refine returnsInHanded_of_change_and (C := Tryd.checked) (X := fun w _ => laidMetH Tryd.prog Rows.fnExactCheckRepairsRow.laid w) (fun _ _ _ hh h => h.of_heap hh) own started (by kernel_rfl) Tryd.func4
    (ChangeSpec.witness_shaped (enc := enc) (C := Tryd.checked) (os := os) (X := fun w _ => laidMetH Tryd.prog Rows.fnExactCheckRepairsRow.laid w) false (World.doorLaid Tryd.prog 400 os) #[.agg Tryd.zeroCells26, .agg (Array.replicate 17 (.int .i16 0)), .slice none 0 0, .int .i64 0] 8 rfl (World.shaped_of_RefB (by kernel_rfl) (by kernel_rfl)) (by kernel_rfl) (by kernel_rfl) (by kernel_rfl) (door_met os _)) ?_
  intro W base args ds gs before hval0 hW _ _ hL _
  have hval : ∀ (j : Nat) t v, Tryd.f4.params[j]? = some t → args[j]? = some v → Value.okWide Tryd.prog W .any base t v := hval0
  have hW' := hW
  obtain ⟨p, q, hA0, hV, rfl, hfz, hnd⟩ := hW
  have hA : DataW.TrodAll enc Tryd.prog W 0 (fun _ => true) true Tryd.f4.params.toList args.toList ds p := hA0
  rw [Tryd.params4] at hA hval
  obtain ⟨v0, vs0, d0, ds0, p0, q0, hargs, rfl, rfl, h0, r0⟩ := trodAll_cons hA
  obtain ⟨v1, vs1, d1, ds1, p1, q1, rfl, rfl, rfl, h1, r1⟩ := trodAll_cons r0
  obtain ⟨v2, vs2, d2, ds2, p2, q2, rfl, rfl, rfl, h2, r2⟩ := trodAll_cons r1
  obtain ⟨v3, vs3, d3, ds3, p3, q3, rfl, rfl, rfl, h3, r3⟩ := trodAll_cons r2
  obtain ⟨rfl, rfl, rfl⟩ := trodAll_nil r3
  obtain rfl : args = #[v0, v1, v2, v3] := by cases args; simp_all
  obtain ⟨g0, g1, g2, g3, g4, g5, rfl⟩ := len6 (trodVars_len hV)
  have k0 := h0
  have lt0 : ∀ x ∈ p0, x.block < W.heap.size := by obtain ⟨m, hm⟩ := k0; exact DataW.trod_lt m _ _ _ hm
  have k1 := h1
  have lt1 : ∀ x ∈ p1, x.block < W.heap.size := by obtain ⟨m, hm⟩ := k1; exact DataW.trod_lt m _ _ _ hm
  have k2 := h2
  have lt2 : ∀ x ∈ p2, x.block < W.heap.size := by obtain ⟨m, hm⟩ := k2; exact DataW.trod_lt m _ _ _ hm
  obtain ⟨c0, f0, rfl, wf0⟩ := open_roof (hval 0 26 v0 rfl rfl) h0
  obtain ⟨c1, f1, rfl, wf1⟩ := open_rain (hval 1 28 v1 rfl rfl) h1
  obtain ⟨len2, cells2, hL2, hm2, hb2⟩ := open_pls (hval 2 29 v2 rfl rfl) h2
  obtain ⟨n3, rfl, rfl, rfl, wf3⟩ := open_int Tryd.underlying2 (hval 3 2 v3 rfl rfl) h3
  clear hA0 hval0
  obtain ⟨a, hE⟩ := errs_of hL
  refine ((law_walk_FnExactCheckRepairs a wf0 wf1 hL2 hm2 hb2 (bounds_i64 wf3) hE)).mono fun e W' ⟨he, bel⟩ => ?_
  subst he
  exact ⟨_, rfl, _, _, _, [], _, _, hW', trodAll_mk1 (shut_bool Tryd.underlying4 _), (trodAll_cons_mk (Below.trod laidOut (by kernel_rfl) (of_decide_eq_true (by kernel_rfl)) k0 bel lt0) (trodAll_cons_mk (Below.trod laidOut (by kernel_rfl) (of_decide_eq_true (by kernel_rfl)) k1 bel lt1) (trodAll_cons_mk (Below.trod laidOut (by kernel_rfl) (of_decide_eq_true (by kernel_rfl)) k2 bel lt2) (trodAll_cons_mk (shut_int Tryd.underlying2 wf3) trodAll_mk0)))), Below.trodVars laidOut bel (by kernel_rfl) hV, bel.frame _, fun h => by cases h⟩

theorem over : Rows.FnExactCheckRepairsSaid :=
  OpenClaim.holds_of_wide 4 Tryd.f4 rfl rfl rfl rfl rfl rfl rfl ⟨rfl, rfl, rfl, rfl, rfl⟩ rfl rfl rfl rfl rfl (by kernel_rfl) Tryd.func4 (by kernel_rfl)
    (of_decide_eq_true (by kernel_rfl)) (by unfold Func.isWrapper; first | (rw [if_pos (by decide +kernel)]; kernel_rfl) | (rw [if_neg (by decide +kernel)]; exact ⟨rfl, rfl⟩))
    (fun os started H enc _ => lifted os started H enc)

theorem proved : Rows.FnExactCheckRepairsCardSaid :=
  Claim7.holds_tied_plain_at .later [] Rows.fnExactCheckRepairsCard.laidKinds true Rows.fnExactCheckRepairsCard.stood.harness Rows.fnExactCheckRepairsCard.stood.looks
    over (fun _ h => by cases h) (by kernel_rfl) (fun _ h => by cases h) fnExactCheckRepairs_row_tie rfl ⟨rfl, rfl⟩ (by kernel_rfl) rfl
    (fun f fn hf hfn => by
      obtain rfl : f = 4 := Option.some.inj ((show Tryd.prog.funcNamed "loop.example/g01376/laws.FnExactCheckRepairs" = some 4 by kernel_rfl).symm.trans hf) |>.symm
      obtain rfl : fn = Tryd.f4 := (Option.some.inj (Tryd.func4.symm.trans hfn)).symm
      exact ⟨by kernel_rfl, fun j t ht => by
        rw [Tryd.params4] at ht
        have hm : t ∈ [26, 28, 29, 2] := by simpa using Array.mem_of_getElem? ht
        have hall : ([26, 28, 29, 2].all fun u => !Tryd.prog.wantsStandIn u) = true := by kernel_rfl
        exact (show Tryd.prog.wantsStandIn t = false by simpa using List.all_eq_true.1 hall t hm)⟩)
    (by kernel_rfl)
end LFnExactCheckRepairs

end Go.Proofs.YtoibolmippfcgaaDoor
