/- The model's list of all places, and those of a kind. -/
import Derived.Test.YtppohghejhcilaaDoorPlOf
import Derived.Test.YtppohghejhcilaaDoorSpecB
import Derived.Deep.QuietTactic
import Derived.BigQuiet
namespace Go.Proofs.YtppohghejhcilaaDoor
open Go.RowKit

theorem pl_in {h w i : Nat} (hi : i < h * w) : i / w < h ∧ i % w < w := by
  have hw : 0 < w := Nat.pos_of_ne_zero fun e => by subst e; simp at hi
  exact ⟨Nat.div_lt_of_lt_mul (by rw [Nat.mul_comm]; exact hi), Nat.mod_lt _ hw⟩
theorem plUpto_next {h w i : Nat} (hi : i < h * w) : plUpto h w (i + 1) = plUpto h w i ++ [⟨(i / w, i % w), pl_in hi⟩] := by
  simp only [plUpto]
  rw [dif_pos (pl_in hi)]
theorem plUpto_size {h w : Nat} : ∀ {n : Nat}, n ≤ h * w → (plUpto h w n).length = n
  | 0, _ => rfl
  | n + 1, hn => by rw [plUpto_next (by omega), List.length_append, plUpto_size (by omega)]; rfl
theorem plUpto_get {h w : Nat} : ∀ {n i : Nat}, n ≤ h * w → (hi : i < n) → ∃ q, (plUpto h w n)[i]? = some ⟨(i / w, i % w), q⟩
  | 0, _, _, hi => by omega
  | n + 1, i, hn, hi => by
    have hs := plUpto_size (h := h) (w := w) (n := n) (by omega)
    rw [plUpto_next (h := h) (w := w) (i := n) (by omega)]
    by_cases e : i = n
    · subst e
      exact ⟨pl_in (by omega), by rw [List.getElem?_append_right (by rw [hs]; omega), hs, Nat.sub_self]; rfl⟩
    · obtain ⟨q, hq⟩ := plUpto_get (h := h) (w := w) (n := n) (i := i) (by omega) (by omega)
      exact ⟨q, by rw [List.getElem?_append_left (by rw [hs]; omega)]; exact hq⟩
theorem plAt_even {h w n i : Nat} (hn : n ≤ h * w) (hi : i < n) : plAt (plUpto h w n) (i * 2) = ((i / w : Nat) : Int) := by
  obtain ⟨q, hq⟩ := plUpto_get hn hi
  unfold plAt
  rw [show i * 2 / 2 = i from by omega, hq, show i * 2 % 2 = 0 from by omega]
  rfl
theorem plAt_odd {h w n i : Nat} (hn : n ≤ h * w) (hi : i < n) : plAt (plUpto h w n) (i * 2 + 1) = ((i % w : Nat) : Int) := by
  obtain ⟨q, hq⟩ := plUpto_get hn hi
  unfold plAt
  rw [show (i * 2 + 1) / 2 = i from by omega, hq, show (i * 2 + 1) % 2 = 1 from by omega]
  rfl
theorem owns_base {W : World} {base : Nat} {e : TypeId} {size n : Nat} {v : Value} {xs : List Value} (h : W.ownsRow base e size v n xs) : ∀ x, v.ownBlock = some x → base ≤ x := fun x hx => by
  obtain ⟨_, ⟨rfl, _⟩ | ⟨g, cap, cur, rfl, hg, _⟩⟩ := h
  · simp [Value.ownBlock] at hx
  · obtain rfl : g = x := by simpa [Value.ownBlock] using hx
    exact hg
theorem grown_blocks {w w' : World} {row : Option Nat} (h : w.grownBy w' row) {n : Nat} (hn : n < w.heap.size) (hr : ∀ x, row = some x → n ≠ x) : rowAt w' n = rowAt w n := by
  unfold rowAt
  rw [h.block n hn (fun e => hr n e.symm rfl)]
/-- A list v that grows, in a block of its own: the first one or one newer than W1; what lies between stays. -/
structure Coll (w W1 W : World) (v : Value) : Prop where
  blk : ∀ x, v.ownBlock = some x → x = w.heap.size ∨ W1.heap.size ≤ x
  rows : ∀ g, w.heap.size < g → g < W1.heap.size → rowAt W g = rowAt W1 g
  bel : Below w.heap.size w W
  size : W1.heap.size ≤ W.heap.size
theorem Coll.start {w W1 : World} (h : Below w.heap.size w W1) (n cap : Nat) : Coll w W1 W1 (.slice (some ⟨w.heap.size, 0, none⟩) n cap) :=
  ⟨fun x hx => .inl (by simpa [Value.ownBlock] using hx.symm), fun _ _ _ => rfl, h, Nat.le_refl _⟩
theorem Coll.call {w W1 W W' : World} {v : Value} (h : Coll w W1 W v) (b : Below W.heap.size W W') : Coll w W1 W' v :=
  ⟨h.blk, fun g h1 h2 => (rowAt_below b g (Nat.lt_of_lt_of_le h2 h.size)).trans (h.rows g h1 h2), bnext h.bel b h.bel.size, Nat.le_trans h.size b.size⟩
theorem Coll.append {w W1 W W' : World} {v v' : Value} {tmp : Obj} (h : Coll w W1 W v) (hw : w.heap.size < W1.heap.size) (grow : (W.alloc tmp).grownBy W' v.ownBlock) (hat : v'.ownBlock = v.ownBlock ∨ v'.ownBlock = some (W.heap.size + 1)) : Coll w W1 W' v' :=
  have hs := h.size
  have hg := grow.size
  ⟨fun x hx => by
    rcases hat with e | e
    · exact h.blk x (e.symm.trans hx)
    · rw [e] at hx; cases hx; exact .inr (by omega),
   fun g h1 h2 => (grown_blocks grow (by simp; omega) fun x hx => by
     rcases h.blk x hx with rfl | h3 <;> omega).trans ((rowAt_alloc_past _ _ _ (by omega)).trans (h.rows g h1 h2)),
   (h.bel.alloc h.bel.size _).grown grow (by have := h.bel.size; simp; omega) (fun x hx => by
     rcases h.blk x hx with rfl | h3 <;> omega), by simp at hg; omega⟩
theorem IsList.by_rows {W W' : World} {b sz n : Nat} {v : Value} {f : Nat → Value} (h : IsList W b v sz n f) (hb : ∀ g, b ≤ g → g < W.heap.size → rowAt W' g = rowAt W g) : IsList W' b v sz n f := by
  rcases h with h | ⟨g, cap, cur, rfl, hg, hr, hs, hf⟩
  · exact .inl h
  · exact .inr ⟨g, cap, cur, rfl, hg, (hb g hg (rowAt_lt hr)).trans hr, hs, hf⟩
theorem owns_empty (w : World) (e : TypeId) (size : Nat) : (w.alloc (.cells #[] e)).ownsRow w.heap.size e size (.slice (some ⟨w.heap.size, 0, none⟩) 0 0) 0 [] :=
  ⟨by simp, .inr ⟨_, 0, #[], rfl, Nat.le_refl _, heap_alloc_new w _, Nat.le_refl _, Nat.zero_le _, by simp, by simp⟩⟩

set_option maxRecDepth 100000 in
set_option maxHeartbeats 1000000 in
theorem l01All_any (n : Nat) (c : Array Value) (r : Rf) (hh ww : Nat) (hhe : r.h = hh) (hwe : r.w = ww) (h8 : hh ≤ 8) (w8 : ww ≤ 8) (w : World) (hr : rowAt w n = some c) (hR : IsRoof c r) :
    Calls Tryd.prog 48 #[.pointer (some ⟨n, 0, none⟩)] w (GivesP w (plUpto hh ww (hh * ww))) := by
  have hc := hR.size
  have hn := rowAt_lt hr
  have k0 : ∀ W, Below w.heap.size w W → W.cell? ⟨n, 0, none⟩ = some (.int .i8 ww) := fun W h => by
    rw [cell_of_rowAt (brow h hr), Array.getElem?_eq_getElem (by omega), hR.wide (by omega), hwe]
  have k1 : ∀ W, Below w.heap.size w W → W.cell? ⟨n, 1, none⟩ = some (.int .i8 hh) := fun W h => by
    rw [cell_of_rowAt (brow h hr), Array.getElem?_eq_getElem (by omega), hR.high (by omega), hhe]
  have K0 := Lib.hid k0
  have K1 := Lib.hid k1
  clear k0 k1 hhe hwe hr
  obtain ⟨i0, hi0, hz0, hz1, hz2⟩ := info_parts A_infoPc
  have hsz : hh * ww ≤ 64 := Nat.mul_le_mul h8 w8
  go_enter Tryd.func48, Tryd.ntmps48
  go_wp2_with fail
  go_loopw [3, 4] (fun v i W => ∃ k : Nat, k ≤ hh ∧ i = .int .i8 k ∧ W.ownsRow w.heap.size 37 2 v (plUpto hh ww (k * ww)).length (plCells (plUpto hh ww (k * ww))) ∧ Below w.heap.size w W) (fun _ i _ => hh - (intOf i).toNat)
  case atStart => exact ⟨0, by omega, rfl, by rw [Nat.zero_mul]; exact owns_empty w _ 2, (Below.refl _ _).alloc (Nat.le_refl _) _⟩
  case round =>
    obtain ⟨k, hk, rfl, hv, hB⟩ := hrel
    obtain ⟨wo, rfl⟩ : ∃ wo : World, wo = wr := ⟨_, rfl⟩
    have c1 := K1.out _ hB
    by_cases hlt : k < hh
    · go_wp2_with fail
      go_loopw [3, 5] (fun v i W => ∃ m : Nat, m ≤ ww ∧ i = .int .i8 m ∧ W.ownsRow w.heap.size 37 2 v (plUpto hh ww (k * ww + m)).length (plCells (plUpto hh ww (k * ww + m))) ∧ Below w.heap.size w W) (fun _ i _ => ww - (intOf i).toNat)
      case atStart => exact ⟨0, by omega, rfl, hv, hB⟩
      case round =>
        clear c1 hv hB
        obtain ⟨m, hm, rfl, hv, hB⟩ := hrel
        have c0 := K0.out _ hB
        by_cases hml : m < ww
        · have hpl := plUpto_len hh ww (k * ww + m)
          have hmul : (k + 1) * ww ≤ hh * ww := Nat.mul_le_mul_right ww hlt
          rw [Nat.succ_mul] at hmul
          go_wp2_with (at_builtin; refine wpList_append_own _ rfl _ _ 42 rfl w.heap.size 37 i0 (.agg #[.int .i8 0, .int .i8 0]) 2 2 Tryd.underlying42 hi0 hz0 hz1 hz2 rfl (by decide) _ _ _ rfl (hv.alloc _) ⟨wr.heap.size, 0, none⟩ 1 1 [.int .i8 k, .int .i8 m] rfl rfl (cell_two_new _ _ _ _) (by simp [Value.oneCell']) (by unfold maxLen; omega) (by omega) (by have := hB.size; simp; omega) ?_; intro v' w1 own1 grow1 _)
          have hB1 := (hB.alloc hB.size _).grown grow1 (by have := hB.size; simp; omega) (owns_base hv)
          clear hv hB c0 grow1
          go_wp2_with fail
          refine ⟨⟨m + 1, by omega, by go_num, ?_, hB1⟩, by simp [intOf]; omega⟩
          rw [← Nat.add_assoc, plUpto_succ hlt hml, plCells_snoc]
          simpa using own1
        · obtain rfl : m = ww := by omega
          rw [← Nat.succ_mul] at hv
          go_wp2_with fail
          refine ⟨⟨k + 1, by omega, by go_num, hv, hB⟩, by simp [intOf]; omega⟩
    · obtain rfl : k = hh := by omega
      go_wp2_with fail
      go_ret
      exact ⟨_, rfl, IsList.of_pls hv, hB⟩

end Go.Proofs.YtppohghejhcilaaDoor
