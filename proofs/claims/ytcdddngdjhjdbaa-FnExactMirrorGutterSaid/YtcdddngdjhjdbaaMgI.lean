/- MirrorGutter: the program's side. -/
import Derived.Test.YtcdddngdjhjdbaaMgP
import Derived.Test.YtcdddngdjhjdbaaRevI
import Derived.Test.YtcdddngdjhjdbaaBkw
import Derived.Test.YtcdddngdjhjdbaaGutV
namespace Go.Proofs.Ytcdddngdjhjdbaa
open Go.RowKit Go.Shelf

theorem fillRowM (off : Nat) : ∀ (l : List Value) (k : Nat) (cs : Array Value), off + k + l.length ≤ cs.size → (l.zipIdx k).foldl (fun cs p => cs.setIfInBounds (off + p.2) p.1) cs = splice cs (off + k) l.toArray
  | [], k, cs, _ => by
    apply Array.ext_getElem?; intro i
    simp [splice]
  | a :: l, k, cs, h => by
    simp only [List.length_cons] at h
    rw [List.zipIdx_cons, List.foldl_cons, fillRowM off l (k + 1) _ (by simp; omega)]
    apply Array.ext_getElem?; intro i
    rw [get_splice _ _ _ (by simp; omega), get_splice _ _ _ (by simp; omega)]
    simp only [List.size_toArray, List.length_cons]
    by_cases h1 : i < off + k
    · rw [if_pos (by omega), if_pos h1, Array.getElem?_setIfInBounds_ne (by omega)]
    · rw [if_neg h1]
      by_cases h2 : i = off + k
      · subst h2
        rw [if_pos (by omega), if_pos (by omega), Array.getElem?_setIfInBounds_self_of_lt (by omega)]
        simp
      · rw [if_neg (by omega)]
        by_cases h3 : i < off + k + (l.length + 1)
        · rw [if_pos (by omega), if_pos h3]
          rw [show i - (off + k) = (i - (off + (k + 1))) + 1 from by omega]
          simp
        · rw [if_neg (by omega), if_neg h3, Array.getElem?_setIfInBounds_ne (by omega)]
/-- An array part laid into a struct's cells. -/
theorem fill_h {A H : Array Value} (hA : A.size = 21) (hH : H.size = 17) : Array.foldl (fun cs (x : Value × Nat) => cs.setIfInBounds (2 + x.snd) x.fst) A H.zipIdx 0 17 = splice A 2 H := by
  have h2 := fillRowM 2 H.toList 0 A (by simp; omega)
  have h3 : Array.foldl (fun cs (x : Value × Nat) => cs.setIfInBounds (2 + x.snd) x.fst) A H.zipIdx 0 H.zipIdx.size = splice A 2 H := by
    rw [← Array.foldl_toList, Array.toList_zipIdx, h2]
  rw [show H.zipIdx.size = 17 by simpa using hH] at h3
  exact h3
/-- The gutter with its heights alone. -/
def Gt.st0 (g : Gt) : Gt := ⟨g.n, g.d, g.h, 0, 0, fun _ => 0⟩
theorem IsGut.st0 {c : Array Value} {g : Gt} {v : Value} (h : IsGut c g v) : IsGut (splice (hdG g.n g.d) 2 (c.extract 2 19)) g.st0 (.slice none 0 0) := by
  have hc := h.size
  have hs : (hdG g.n g.d).size = 21 := rfl
  have he : (c.extract 2 19).size = 17 := by simp; omega
  have gs := fun i => get_splice (hdG g.n g.d) 2 (c.extract 2 19) (by omega) i
  refine IsGut.of_get (by rw [size_splice _ _ _ (by omega)]; rfl) ?_ ?_ (fun i hi => ?_) ?_ ?_ ⟨h.n0, h.n1⟩ ⟨h.d0, h.d1⟩ (fun i hi => ⟨h.h0 i hi, h.h1 i hi⟩) (show (0 : Int) ≤ 0 ∧ (0 : Int) ≤ 4294967295 by omega) (fun i hi => absurd hi (Nat.not_lt_zero i)) ⟨_, _, rfl⟩
  · rw [gs, if_pos (by omega)]; rfl
  · rw [gs, if_pos (by omega)]; rfl
  · rw [gs, if_neg (by omega), if_pos (by omega), show 2 + i - 2 = i by omega, get_extract _ _ _ _ (by omega) (by omega)]
    exact h.getH hi
  · rw [gs, if_neg (by omega), if_neg (by omega)]; rfl
  · rw [gs, if_neg (by omega), if_neg (by omega)]; rfl
/-- The heights exchanged. -/
def Gt.st1 (g : Gt) : Gt := { g.st0 with h := g.mir.h }
theorem IsGut.st1 {X Y : Array Value} {g : Gt} {v : Value} {N : Nat} (h : IsGut X g.st0 v) (hO : g.Ok) (hN : g.n = N) (hs : Y.size = X.size) (hr : ∀ q, q < N → Y[2 + q]? = some (.int .i8 (g.h (N - 1 - q)))) (ho : ∀ j, (j < 2 ∨ 2 + N ≤ j) → Y[j]? = X[j]?) : IsGut Y g.st1 v := by
  have hx := h.size
  have n1 := hO.n1
  have n17 := hO.n17
  have hn : g.n.toNat = N := by omega
  have hb : ∀ i, i < 17 → g.mir.h i = if i < N then g.h (N - 1 - i) else 0 := fun i hi => by
    show (if (i : Int) < g.n then g.h (g.n.toNat - 1 - i) else 0) = _
    rw [hn]
    by_cases q : i < N
    · rw [if_pos (by omega), if_pos q]
    · rw [if_neg (by omega), if_neg q]
  refine IsGut.of_get (by omega) ?_ ?_ (fun i hi => ?_) ?_ ?_ ⟨h.n0, h.n1⟩ ⟨h.d0, h.d1⟩ (fun i hi => ?_) ⟨h.l0, h.l1⟩ (fun i hi => absurd hi (Nat.not_lt_zero i)) h.vs
  · rw [ho 0 (by omega)]; exact h.get0
  · rw [ho 1 (by omega)]; exact h.get1
  · show _ = some (Value.int .i8 (g.mir.h i))
    rw [hb i hi]
    by_cases q : i < N
    · rw [if_pos q, hr i q]
    · rw [if_neg q, ho _ (by omega), h.getH hi]
      have := (hO.hs i hi).2.2
      show some (Value.int .i8 (g.h i)) = _
      rw [show g.h i = 0 by omega]
  · rw [ho 19 (by omega)]; exact h.getL
  · rw [ho 20 (by omega)]; exact h.getP
  · show -128 ≤ g.mir.h i ∧ g.mir.h i ≤ 127
    rw [hb i hi]
    by_cases q : i < N
    · rw [if_pos q]; exact ⟨h.h0 _ (by omega), h.h1 _ (by omega)⟩
    · rw [if_neg q]; omega
def OnlyNM (Q : Exit → Act → World → Prop) : Exit → Act → World → Prop
  | .normal, a, w => Q .normal a w
  | _, _, _ => False
theorem onlyN_outM {Q : Exit → Act → World → Prop} : ∀ e a w, OnlyNM Q e a w → Q e a w
  | .normal, _, _, h => h
  | .ret, _, _, h => h.elim
  | .panic _, _, _, h => h.elim
  | .exit _, _, _, h => h.elim
  | .goto _, _, _, h => h.elim
theorem keeps_grownG {w w' : World} {base size n : Nat} {e : TypeId} {v : Value} {xs : List Value} (h : w.grownBy w' v.ownBlock) (ho : w.ownsRow base e size v n xs) : KeepsOthers w w' :=
  ⟨h.size, fun k o hk hc => (h.block k (Array.getElem?_eq_some_iff.1 hk).1 (fun e' => by
    rcases ho.2 with ⟨rfl, _⟩ | ⟨g, cap, cur, rfl, _, hg, _⟩
    · simp [Value.ownBlock] at e'
    · obtain rfl : k = g := by simpa [Value.ownBlock] using e'
      rw [hg] at hk
      cases hk
      cases hc)).trans hk⟩
theorem owns_setRowG {w : World} {base : Nat} {e : TypeId} {size : Nat} {v : Value} {n : Nat} {xs : List Value} (h : w.ownsRow base e size v n xs) {m : Nat} (hm : m < base) (c : Array Value) : (w.setRow m c).ownsRow base e size v n xs := by
  obtain ⟨hl, h | ⟨g, cap, cur, rfl, hg, hh, hr⟩⟩ := h
  · exact ⟨hl, .inl h⟩
  · exact ⟨hl, .inr ⟨g, cap, cur, rfl, hg, (setRow_other w m g c (by omega)).trans hh, hr⟩⟩
attribute [local go_sem] Oper.semAt_some
set_option maxRecDepth 100000 in
set_option maxHeartbeats 4000000 in
theorem implMirrorGutter_any (b : Nat) (c : Array Value) (g : Gt) (v : Value) (w : World) (hG : IsGut c g v) (hv : IsList w b v 2 g.m (pipeV g.p)) (hm : g.m ≤ 2000000) :
    Calls Try.prog 24 #[.agg c] w (GivesGutT w g.mrG [.int .i64 g.mrC]) := by
  have hc := hG.size
  obtain ⟨i0, hi0, hz0, hz1, hz2⟩ := info_parts A_infoPp
  obtain ⟨av, cv, rfl⟩ := hG.vs
  have hozl := isGut_zero.ones
  unfold zeroG at hozl
  have hzs : zeroG.size = 21 := rfl
  have CK := fun W H => implValidGutter_any b c g (.slice av g.m cv) W hG H hm
  have HV := Lib.hid hv
  have HG := Lib.hid hG
  clear hv
  cases ho : g.ok with
  | false =>
    obtain ⟨e1, e2⟩ := Gt.mr_f ho
    have E1 := Lib.hid e1
    have E2 := Lib.hid e2
    rw [ho] at CK
    clear e1 e2 ho hG
    go_enter Try.func24, Try.ntmps24
    go_wp2_with fail
    refine gen_callsW fun W0 hW0 => ?_
    have B0 : Below w.heap.size w W0 := by rw [hW0]; exact ((Below.refl _ _).alloc (Nat.le_refl _) _).alloc (by simp) _
    have r0 : rowAt W0 (w.heap.size + 1) = some zeroG := by rw [hW0]; exact rowAt_alloc_at _ _ _ _ (by simp)
    clear hW0
    refine (CK _ (HV.out.below B0 (Nat.le_refl _))).mono ?_
    rintro e w1 ⟨rfl, b1⟩
    have s1 := brow b1 r0
    have B1 := bnext B0 b1 B0.size
    have lt1 := rowAt_lt s1
    have B9 := Lib.hid B1
    clear b1 r0 B0 CK B1
    go_wp2_with fail
    exact bodyPost_ret (v := .tuple #[.agg zeroG, .int .i64 1]) (results_row2 (m := 21) rfl _ _ (w.heap.size + 1) _ _ rfl rfl (rowAt_setRow_at _ _ _ (by rw [s1]; rfl)) Try.underlying54 rfl (by kernel_rfl) rfl) rfl ⟨zeroG, .slice none 0 0, by rw [E2.out], by rw [E1.out]; exact isGut_zero, by rw [E1.out]; exact .inl ⟨rfl, none, 0, rfl⟩, below_setRow B9.out (by omega) _⟩
  | true =>
    obtain ⟨e1, e2⟩ := Gt.mr_t ho
    have E1 := Lib.hid e1
    have E2 := Lib.hid e2
    have hO := Lib.hid (Gt.Ok_of ho)
    rw [ho] at CK
    clear e1 e2 ho hG
    refine (callsIn_wide (n := 3)).1 ?_
    refine callsIn_of_wp_marks Try.func24 rfl trivial ?_ rfl
    simp only [Try.ntmps24, List.size_toArray, List.length_cons, List.length_nil, Nat.reduceAdd, Nat.reduceSub, Array.replicate_succ, Array.replicate_zero, List.push_toArray, List.append_toArray, List.nil_append, List.cons_append]
    gi_wp2
    obtain ⟨W0, hW0⟩ : ∃ W0, W0 = (w.alloc (.cells c 54)).alloc (.cells zeroG 54) := ⟨_, rfl⟩
    have B0 : Below w.heap.size w W0 := by rw [hW0]; exact ((Below.refl _ _).alloc (Nat.le_refl _) _).alloc (by simp) _
    have r0 : rowAt W0 (w.heap.size + 1) = some zeroG := by rw [hW0]; exact rowAt_alloc_at _ _ _ _ (by simp)
    have q0 : rowAt W0 w.heap.size = some c := by rw [hW0]; exact (rowAt_alloc_past _ _ _ (by simp)).trans (rowAt_alloc_at _ _ _ _ rfl)
    unfold zeroG at hW0
    rw [← hW0]
    clear hW0
    refine ⟨trivial, (callsIn_wide.2 (CK _ (HV.out.below B0 (Nat.le_refl _)))).mono ?_⟩
    rintro e w1 ⟨rfl, b1⟩
    have s1 := brow b1 r0
    have s0 := brow b1 q0
    have B1 := bnext B0 b1 B0.size
    have lt1 := rowAt_lt s1
    have lt0 := rowAt_lt s0
    have B9 := Lib.hid B1
    have c0 := (cell_of_rowAt s0 0).trans HG.out.get0
    have c1 := (cell_of_rowAt s0 1).trans HG.out.get1
    obtain ⟨N, hN⟩ := Int.eq_ofNat_of_zero_le (show 0 ≤ g.n by have := hO.out.n1; omega)
    have n1 := hO.out.n1
    have n17 := hO.out.n17
    have N1 : 1 ≤ N := by omega
    have N17 : N ≤ 17 := by omega
    have hfl := fill_h (A := hdG g.n g.d) (H := c.extract 2 19) rfl (by simp; omega)
    obtain ⟨X, hX⟩ : ∃ X, splice (hdG g.n g.d) 2 (c.extract 2 19) = X := ⟨_, rfl⟩
    have hIX := HG.out.st0
    rw [hX] at hfl hIX
    have HIX := Lib.hid hIX
    have hXs : X.size = 21 := hIX.size
    have hXo : Ones X := hIX.ones
    unfold hdG at hfl
    have HN := Lib.hid hN
    rw [hN] at hfl c0
    clear b1 r0 q0 B0 CK B1 hIX hX n1 n17 hN
    have S1 := Lib.hid s1
    have S0 := Lib.hid s0
    have CR := fun W h => revI8_any w1.heap.size 2 N 17 X g.h W h (by omega) (fun q hq => HIX.out.getH (by omega)) (by omega) (by omega)
    have fz : (w1.alloc (.cells X 54)).heap.size = w1.heap.size + 1 := by simp
    have RX := Lib.hid (show rowAt (w1.alloc (.cells X 54)) w1.heap.size = some X from rowAt_alloc_at _ _ _ _ rfl)
    have n0 : 0 ≤ (N : Int) := by omega
    have n17 : (N : Int) ≤ 17 := by omega
    clear s1
    gi_wp2
    refine ⟨trivial, (callsIn_wide.2 (CR _ RX.out)).mono ?_⟩
    rintro e w2 ⟨rfl, ⟨Y, ry, ysz, yh, yo⟩, lk⟩
    have HIY := Lib.hid (HIX.out.st1 hO.out HN.out ysz yh yo)
    have lc := lk.other w.heap.size (by omega) (by omega)
    have lz := lk.other (w.heap.size + 1) (by omega) (by omega)
    have LK := Lib.hid lk
    have lsz := lk.size
    rw [fz] at lsz
    have sc : rowAt w2 w.heap.size = some c := lc.trans ((rowAt_alloc_past _ _ _ lt0).trans S0.out)
    have sz : rowAt w2 (w.heap.size + 1) = some zeroG := lz.trans ((rowAt_alloc_past _ _ _ lt1).trans S1.out)
    have RY := Lib.hid ry
    clear lk lc lz ry yh yo ysz CR
    gi_wp2
    obtain ⟨L, hL⟩ := Int.eq_ofNat_of_zero_le HG.out.l0
    have L32 : L < 2 ^ 32 := by have := HG.out.l1; omega
    have z0 : ∀ W, rowAt W w.heap.size = some c → W.cell? ⟨w.heap.size, 0, none⟩ = some (.int .i8 N) := fun W h => (cell_of_rowAt h 0).trans (HG.out.get0.trans (by rw [HN.out]))
    have z19 : ∀ W, rowAt W w.heap.size = some c → W.cell? ⟨w.heap.size, 19, none⟩ = some (.int .u32 ((L : Nat) : Int)) := fun W h => (cell_of_rowAt h 19).trans (HG.out.getL.trans (by rw [hL]))
    have e32 : IntKind.i8.wrap (32 - (N : Int)) = 32 - N := IntWalk.i8_in _ (by omega)
    have e32t : (32 - (N : Int)).toNat = 32 - N := by omega
    have e320 : (0 : Int) ≤ 32 - N := by omega
    have HLE := Lib.hid (Gt.mirL_rev hL L32 (show N ≤ 32 by omega))
    have CV := fun W => rev32_any L W L32
    refine wpIn_wide.2 ?_
    refine Code.wp_mono onlyN_outM ?_
    refine wp_region_held_drew (S := fun w' => rowAt w' w.heap.size = some c) (by kernel_rfl) (sc) (fun hH => ?_)
    refine wpAnyH_take (i := 0) (v := .pointer (some ⟨w.heap.size, 19, none⟩)) rfl (by kernel_rfl) (by kernel_rfl) (by kernel_rfl) (fun _ _ _ h => h) (Or.inl ⟨by rfl, ?_⟩) hH ?_
    · intro w1' hS; (try dsimp only at hS); go_simp
    (try simp only [List.getElem_toArray]); (try simp only [List.getElem_cons_succ]); (try simp only [List.getElem_cons_zero]); (try simp only [Act.put]); (try simp only [List.setIfInBounds_toArray]); (try simp only [List.set_cons_succ]); (try simp only [List.set_cons_zero])
    refine wpAnyH_take (i := 1) (v := .int .u32 ((L : Nat) : Int)) rfl (by kernel_rfl) (by kernel_rfl) (by kernel_rfl) (fun _ _ _ h => h) (Or.inl ⟨by rfl, ?_⟩) hH ?_
    · intro w1' hS; (try dsimp only at hS); have u := z19 _ hS; go_simp
    (try simp only [List.getElem_toArray]); (try simp only [List.getElem_cons_succ]); (try simp only [List.getElem_cons_zero]); (try simp only [Act.put]); (try simp only [List.setIfInBounds_toArray]); (try simp only [List.set_cons_succ]); (try simp only [List.set_cons_zero])
    refine wpAnyH_take (i := 3) (v := .pointer (some ⟨w.heap.size, 0, none⟩)) rfl (by kernel_rfl) (by kernel_rfl) (by kernel_rfl) (fun _ _ _ h => h) (Or.inl ⟨by rfl, ?_⟩) hH ?_
    · intro w1' hS; (try dsimp only at hS); go_simp
    (try simp only [List.getElem_toArray]); (try simp only [List.getElem_cons_succ]); (try simp only [List.getElem_cons_zero]); (try simp only [Act.put]); (try simp only [List.setIfInBounds_toArray]); (try simp only [List.set_cons_succ]); (try simp only [List.set_cons_zero])
    refine wpAnyH_take (i := 4) (v := .int .i8 N) rfl (by kernel_rfl) (by kernel_rfl) (by kernel_rfl) (fun _ _ _ h => h) (Or.inl ⟨by rfl, ?_⟩) hH ?_
    · intro w1' hS; (try dsimp only at hS); have u := z0 _ hS; go_simp
    (try simp only [List.getElem_toArray]); (try simp only [List.getElem_cons_succ]); (try simp only [List.getElem_cons_zero]); (try simp only [Act.put]); (try simp only [List.setIfInBounds_toArray]); (try simp only [List.set_cons_succ]); (try simp only [List.set_cons_zero])
    refine wpAnyH_take (i := 5) (v := .int .i8 (32 - N)) rfl (by kernel_rfl) (by kernel_rfl) (by kernel_rfl) (fun _ _ _ h => h) (Or.inl ⟨by rfl, ?_⟩) hH ?_
    · intro w1' hS; (try dsimp only at hS); go_simp
    (try simp only [List.getElem_toArray]); (try simp only [List.getElem_cons_succ]); (try simp only [List.getElem_cons_zero]); (try simp only [Act.put]); (try simp only [List.setIfInBounds_toArray]); (try simp only [List.set_cons_succ]); (try simp only [List.set_cons_zero])
    refine wpAnyH_ready (rs := [2]) (by kernel_rfl) (by simp) (AllReadyH.cons rfl (fun K hK => ?_) AllReadyH.nil)
    go_simp
    refine (CV _).mono ?_
    rintro z wx ⟨rfl, rfl⟩
    go_simp
    refine hK.out _ _ hH (fun hG => ?_)
    clear hK K hH
    replace hH := hG
    clear hG
    (try simp only [List.getElem_toArray]); (try simp only [List.getElem_cons_succ]); (try simp only [List.getElem_cons_zero]); (try simp only [Act.put]); (try simp only [List.setIfInBounds_toArray]); (try simp only [List.set_cons_succ]); (try simp only [List.set_cons_zero])
    refine wpAnyH_ready (rs := [6]) (by kernel_rfl) (by simp) (AllReadyH.cons rfl (fun K hK => ?_) AllReadyH.nil)
    go_simp
    refine hK.out _ _ hH (fun hG => ?_)
    clear hK K hH
    replace hH := hG
    clear hG
    (try simp only [List.getElem_toArray]); (try simp only [List.getElem_cons_succ]); (try simp only [List.getElem_cons_zero]); (try simp only [Act.put]); (try simp only [List.setIfInBounds_toArray]); (try simp only [List.set_cons_succ]); (try simp only [List.set_cons_zero])
    refine wpAnyH_take (i := 7) (v := .pointer (some ⟨w1.heap.size, 19, none⟩)) rfl (by kernel_rfl) (by kernel_rfl) (by kernel_rfl) (fun _ _ _ h => h) (Or.inl ⟨by rfl, ?_⟩) hH ?_
    · intro w1' hS; (try dsimp only at hS); go_simp
    (try simp only [List.getElem_toArray]); (try simp only [List.getElem_cons_succ]); (try simp only [List.getElem_cons_zero]); (try simp only [Act.put]); (try simp only [List.setIfInBounds_toArray]); (try simp only [List.set_cons_succ]); (try simp only [List.set_cons_zero])
    refine wpAnyH_ready (rs := [8]) (by kernel_rfl) (by simp) (AllReadyH.cons rfl (fun K hK => ?_) AllReadyH.nil)
    have rY := RY.out
    have ys := HIY.out.size
    have y19 : w2.cell? ⟨w1.heap.size, 19, none⟩ = some (Y[19]'(by omega)) := (cell_of_rowAt rY 19).trans (Array.getElem?_eq_getElem (by omega))
    have f19 := frozen_of_rowAt rY 19
    have l19 := rowAt_lt rY
    go_simp
    refine hK.out _ _ ((rowAt_setCell_ne _ _ _ _ _ (by omega)).trans hH) (fun hG => ?_)
    clear hK K hH
    replace hH := hG
    clear hG
    (try simp only [List.getElem_toArray]); (try simp only [List.getElem_cons_succ]); (try simp only [List.getElem_cons_zero]); (try simp only [Act.put]); (try simp only [List.setIfInBounds_toArray]); (try simp only [List.set_cons_succ]); (try simp only [List.set_cons_zero])
    refine wpAnyH_done (by kernel_rfl) ?_ _
    dsimp only [OnlyNM]
    have elr : ((rev32 L : Nat) : Int) / 2 ^ (32 - N) = ((g.mirL N N : Nat) : Int) := by
      rw [← HLE.out, Int.natCast_ediv, Int.natCast_pow]; rfl
    rw [elr]
    have HI3 := Lib.hid (HIY.out.setL (Gt.mirL_lt (g := g) (N := N) (by omega) N (Nat.le_refl _)))
    obtain ⟨W3, hW3⟩ : ∃ W3, (w2.setCell ⟨w1.heap.size, 19, none⟩ (.int .u32 ((g.mirL N N : Nat) : Int))).drew = W3 := ⟨_, rfl⟩
    have r3 : rowAt W3 w1.heap.size = some (Y.setIfInBounds 19 (.int .u32 ((g.mirL N N : Nat) : Int))) := by
      rw [← hW3]
      have := rowAt_setCell_at w2 w1.heap.size 19 (.int .u32 ((g.mirL N N : Nat) : Int)) (by rw [RY.out]; rfl)
      rw [RY.out, Option.getD_some] at this
      exact this
    have rc3 : rowAt W3 w.heap.size = some c := by rw [← hW3]; exact (rowAt_setCell_ne w2 _ _ _ _ (by omega)).trans sc
    have rz3 : rowAt W3 (w.heap.size + 1) = some zeroG := by rw [← hW3]; exact (rowAt_setCell_ne w2 _ _ _ _ (by omega)).trans sz
    have B3 : Below w1.heap.size w1 W3 := by rw [← hW3]; exact ((((Below.refl _ _).alloc (Nat.le_refl _) _).trans (LK.out.bel w1.heap.size (Nat.le_refl _) (by rw [fz]; omega))).setCell (p := ⟨w1.heap.size, 19, none⟩) (Nat.le_refl _) _).drew
    rw [hW3]
    have c20 : W3.cell? ⟨w.heap.size, 20, none⟩ = some (.slice av g.m cv) := (cell_of_rowAt rc3 _).trans HG.out.getP
    clear hW3 sc sz RY LK lsz elr hH CV z19 y19 f19 l19 rY ys RX hfl hXs hXo HIX HIY
    gi_wp2
    refine ⟨trivial, (callsIn_wide.2 (backward_any _ _ _ _)).mono ?_⟩
    rintro e' w' ⟨rfl, rfl⟩
    gi_wp2
    obtain ⟨W4, hW4⟩ : ∃ W4, W3.alloc (.cells #[.slice av g.m cv] 52) = W4 := ⟨_, rfl⟩
    have s4 : W4.heap.size = W3.heap.size + 1 := by rw [← hW4]; simp
    have rb4 : rowAt W4 W3.heap.size = some #[.slice av g.m cv] := by rw [← hW4]; exact rowAt_alloc_at _ _ _ _ rfl
    have r4 : rowAt W4 w1.heap.size = some (Y.setIfInBounds 19 (.int .u32 ((g.mirL N N : Nat) : Int))) := by rw [← hW4]; exact (rowAt_alloc_past _ _ _ (rowAt_lt r3)).trans r3
    have rc4 : rowAt W4 w.heap.size = some c := by rw [← hW4]; exact (rowAt_alloc_past _ _ _ (rowAt_lt rc3)).trans rc3
    have rz4 : rowAt W4 (w.heap.size + 1) = some zeroG := by rw [← hW4]; exact (rowAt_alloc_past _ _ _ (rowAt_lt rz3)).trans rz3
    have B4 : Below w1.heap.size w1 W4 := by rw [← hW4]; exact B3.alloc B3.size _
    have b34 := B3.size
    have k3 := rowAt_lt r3
    have HV1 := HV.out.below B9.out (Nat.le_refl _)
    have eml : g.mir.l = ((g.mirL N N : Nat) : Int) := by
      show ((g.mirL g.n.toNat g.n.toNat : Nat) : Int) = _
      rw [show g.n.toNat = N by have := HN.out; omega]
    have HI4 := Lib.hid (show IsGut (Y.setIfInBounds 19 (.int .u32 ((g.mirL N N : Nat) : Int))) { g.st2 with m := 0, p := pfB g [] } (.slice none 0 0) from by
      have h := HI3.out.p_any rfl (pfB g [])
      show IsGut _ (Gt.mk g.n g.d g.mir.h g.mir.l 0 (pfB g [])) _
      rw [eml]
      exact h)
    rw [hW4]
    clear hW4 r3 rc3 rz3 c20 B3 HI3 eml
    refine wpIn_rangeFunc_ownH rfl (by omega) (gf := 96) (lb := #[.pointer (some ⟨W3.heap.size, 0, none⟩)]) rfl trivial (enters_of Try.func96 (by kernel_rfl) rfl)
      (backward_stops 2 (by omega) W3.heap.size w1.heap.size b g.m cv g.p av w1 HV1 (Nat.le_refl _) hm W4 rb4 B4 B4.size) KpB.trans (KpB.put B4.size (by omega)) (Below.refl _ _) (fun _ => rfl)
      (fun (pre : List (Bk g.m)) W => (rowAt W w.heap.size = some c ∧ rowAt W (w.heap.size + 1) = some zeroG) ∧ (∃ (cu : Array Value) (a : Option Addr) (cp : Nat), rowAt W w1.heap.size = some cu ∧ W.ownsRow W4.heap.size 90 2 (.slice a pre.length cp) pre.length (pipesV (pfB g pre) pre.length) ∧ IsGut cu { g.st2 with m := pre.length, p := pfB g pre } (.slice a pre.length cp)) ∧ (Below w1.heap.size w1 W ∧ W4.heap.size ≤ W.heap.size))
      (fun _ _ _ => False)
      (fun s W W' row h hg hr => ⟨⟨rowAt_ownG h.1.1 hg (fun r e => (hr r e).2), rowAt_ownG h.1.2 hg (fun r e => (hr r e).2)⟩, (by
        obtain ⟨cu, a, cp, h1, h2, h3⟩ := h.2.1
        exact ⟨cu, a, cp, rowAt_ownG h1 hg (fun r e => (hr r e).2), owns_ownG h2 hg (fun r e => (hr r e).2), h3⟩), h.2.2.1.grown hg h.2.2.1.size (fun r e => by have := (hr r e).1; omega), Nat.le_trans h.2.2.2 hg.size⟩)
      (fun _ _ _ _ _ hs _ _ => hs)
      ⟨⟨rc4, rz4⟩, ⟨_, none, 0, r4, World.ownsRow_nil _ _ _ _, HI4.out⟩, B4, Nat.le_refl _⟩
      (fun x a' W => ∃ Bx, W4.heap.size ≤ Bx ∧ rowAt W Bx = some #[.int .i8 (g.p ((g.m - 1 - x.1) * 2)), .int .i16 (g.p ((g.m - 1 - x.1) * 2 + 1))] ∧ a' = { tmps := #[.agg c, .pointer (some ⟨w.heap.size, 0, none⟩), .pointer (some ⟨w.heap.size + 1, 0, none⟩), .int .i64 0, .pointer (some ⟨w1.heap.size, 0, none⟩), undef, .pointer (some ⟨Bx, 0, none⟩), .agg c, .bool true, .bool false, undef, .pointer (some ⟨w.heap.size, 0, none⟩), .int .i8 N, .pointer (some ⟨w.heap.size, 1, none⟩), .int .i16 g.d, .pointer (some ⟨w.heap.size, 2, none⟩), .agg (c.extract 2 19), .agg X, .pointer (some ⟨w1.heap.size, 2, none⟩), .pointer (some ⟨w.heap.size, 0, none⟩), .int .i8 N, .slice (some ⟨w1.heap.size, 2, none⟩) N 17, .tuple #[], .pointer (some ⟨w.heap.size, 19, none⟩), .int .u32 ((L : Nat) : Int), .int .u32 ((rev32 L : Nat) : Int), .pointer (some ⟨w.heap.size, 0, none⟩), .int .i8 N, .int .i8 (32 - N), .int .u32 ((g.mirL N N : Nat) : Int), .pointer (some ⟨w1.heap.size, 19, none⟩), .pointer (some ⟨w.heap.size, 20, none⟩), .slice av g.m cv, .func (.func 96) #[] #[.pointer (some ⟨W3.heap.size, 0, none⟩)], .int .i64 ((g.m - 1 - x.1 : Nat) : Int), .agg #[.int .i8 (g.p ((g.m - 1 - x.1) * 2)), .int .i16 (g.p ((g.m - 1 - x.1) * 2 + 1))], undef, undef, undef, undef, undef, undef, undef, undef, undef, undef, undef, undef, undef, undef, undef], defers := [] })
      (fun x a' _ X Y row hs hg hr => by obtain ⟨Bx, h1, h2, h3⟩ := hs; exact ⟨Bx, h1, rowAt_ownG h2 hg (fun r e => (hr r e).2), h3⟩)
      ?assign ?body ?done ?stop
    case assign =>
      rintro l pre x W K ⟨⟨gA, gZ⟩, ⟨cu, a, cp, g1, g2, g3⟩, hB1, hs1⟩ hK
      dsimp only [Bk.enc]
      gi_wp2
      refine hK _ _ ((KeepsOthers.alloc _ _).from _) ⟨(Below.refl _ W).alloc hB1.size _, fun c' h => (rowAt_alloc_past _ _ _ (rowAt_lt h)).trans h⟩ ⟨⟨(rowAt_alloc_past _ _ _ (rowAt_lt gA)).trans gA, (rowAt_alloc_past _ _ _ (rowAt_lt gZ)).trans gZ⟩, ⟨cu, a, cp, (rowAt_alloc_past _ _ _ (rowAt_lt g1)).trans g1, g2.alloc _, g3⟩, hB1.alloc hB1.size _, by simp; omega⟩ ⟨W.heap.size, hs1, rowAt_alloc_at _ _ _ _ rfl, rfl⟩
    case body =>
      rintro l pre x a' W hl ⟨rr, hrr⟩ ⟨⟨gA, gZ⟩, ⟨cu, a, cp, g1, g2, g3⟩, hB1, hs1⟩ ⟨Bx, hBx, gX, rfl⟩ hlt
      have hO4 := hO.out.m4
      have hn := HN.out
      have hpx := hO.out.ps (g.m - 1 - x.1) (by have := x.2; omega)
      have hq0 := hpx.1
      have hq1 := hpx.2.1
      rw [hn] at hq1
      have c0 : W.cell? ⟨w.heap.size, 0, none⟩ = some (.int .i8 N) := (cell_of_rowAt gA 0).trans (HG.out.get0.trans (by rw [hn]))
      have x0 := cell_of_rowAt gX 0
      have x1 := cell_of_rowAt gX 1
      simp only [List.getElem?_toArray, List.getElem?_cons_zero, List.getElem?_cons_succ] at x0 x1
      have k20 : W.cell? ⟨w1.heap.size, 20, none⟩ = some (.slice a pre.length cp) := (cell_of_rowAt g1 _).trans g3.getP
      have HSN := Lib.hid (pfB_snoc g pre x)
      have HPB := Lib.hid (pfB_bd hO.out (pre ++ [x]))
      rw [hn] at HSN
      clear hpx hn
      generalize g.p ((g.m - 1 - x.1) * 2) = px at *
      generalize g.p ((g.m - 1 - x.1) * 2 + 1) = pz at *
      have e8 : IntKind.i8.wrap ((N : Int) - 1) = N - 1 := IntWalk.i8_in _ (by omega)
      have e9 : IntKind.i8.wrap ((N : Int) - 1 - px) = N - 1 - px := IntWalk.i8_in _ (by omega)
      have hll : (pre ++ [x]).length = pre.length + 1 := by simp
      gi_wp2_with (gi_at_builtin; refine wpListIn_append_own _ rfl _ _ 52 rfl W4.heap.size 90 i0 (.agg #[.int .i8 0, .int .i16 0]) 2 4 Try.underlying52 hi0 hz0 hz1 hz2 rfl (by decide) _ _ _ rfl (g2.alloc _) ⟨W.heap.size, 0, none⟩ 1 1 [.int .i8 (N - 1 - px), .int .i16 pz] rfl rfl (cell_two_new _ _ _ _) (by simp [Value.oneCell']) (by unfold maxLen; omega) (by omega) (by simp; omega) ?_; intro v5 w5 own5 grow5 _; obtain ⟨a5, c5, rfl⟩ := owns_shape own5; have t5 : rowAt w5 w1.heap.size = some cu := rowAt_grown grow5 ((rowAt_alloc_past _ _ _ (rowAt_lt g1)).trans g1) (fun e => by have := (g2.lt _ e).1; omega); have f5 := frozen_of_rowAt t5 20; have q5 : w5.cell? ⟨w1.heap.size, 20, none⟩ = some (.slice a pre.length cp) := (cell_of_rowAt t5 _).trans g3.getP; have l5 := rowAt_lt t5)
      have R6 := rowAt_setCell_at w5 w1.heap.size 20 (.slice a5 (pre.length + 1) c5) (by rw [t5]; rfl)
      rw [t5, Option.getD_some] at R6
      have D6 := owns_cellV own5 (show w1.heap.size < W4.heap.size by omega) 20 (.slice a5 (pre.length + 1) c5)
      have I6 := g3.newP (pfB g (pre ++ [x])) (pre ++ [x]).length a5 c5 HPB.out
      rw [hll] at I6
      have gr := fun k c' (h : rowAt W k = some c') (hk : k < W4.heap.size) (hk2 : k ≠ w1.heap.size) => (show rowAt (w5.setCell ⟨w1.heap.size, 20, none⟩ (.slice a5 (pre.length + 1) c5)) k = some c' from (rowAt_setCell_ne w5 _ _ _ _ (by omega)).trans <| rowAt_grown grow5 ((rowAt_alloc_past _ _ _ (rowAt_lt h)).trans h) (fun e => by have := (g2.lt _ e).1; omega))
      have BW := (((Below.refl w1.heap.size W).alloc hB1.size (.cells #[.int .i8 (N - 1 - px), .int .i16 pz] 90)).grown grow5 (by have := hB1.size; simp; omega) (fun y hy => by have := (g2.lt y hy).1; omega)).setCell (p := ⟨w1.heap.size, 20, none⟩) (Nat.le_refl _) (.slice a5 (pre.length + 1) c5)
      refine ⟨((KeepsOthers.alloc W _).trans ((keeps_grownG grow5 (g2.alloc _)).trans (KeepsOthers.setCell _ _ _))).from _, ⟨BW, fun c' h' => gr _ _ h' (by omega) (by omega)⟩, ⟨gr _ _ gA (by omega) (by omega), gr _ _ gZ (by omega) (by omega)⟩, ?_, hB1.trans BW, ?_⟩
      · rw [HSN.out, hll]
        exact ⟨_, R6, a5, c5, s4 ▸ D6, I6⟩
      · have := BW.size
        omega
    case done =>
      rintro D ys W hD rfl ⟨⟨gA, gZ⟩, ⟨cu, a, cp, g1, g2, g3⟩, hB1, hs1⟩ hK
      rw [bkUpto_len g.m g.m (Nat.le_refl _)] at g2 g3
      rw [pipesV_congr (pfB_end g)] at g2
      have hso : Ones cu := g3.ones
      have hss : cu.size = 21 := g3.size
      have G2 := Lib.hid g2
      have G3 := Lib.hid (g3.p_new g.mir.p (Gt.mir_p hO.out g.m (Nat.le_refl _)))
      have hDn : D ≠ w.heap.size + 1 := by omega
      have hK2 := fun c' => (setRow_other W (w.heap.size + 1) D c' hDn).trans hK
      have lz := rowAt_lt gZ
      have HB1 := Lib.hid hB1
      clear g2 g3 hB1
      gi_wp2
      refine ⟨by simp, .inl ⟨_, _, rfl, run_takeDeferred (hK2 _), ?_⟩⟩
      refine ⟨.tuple #[.agg cu, .int .i64 0], results_row2 (m := 21) rfl _ _ (w.heap.size + 1) _ _ rfl rfl ?_ Try.underlying54 rfl (by kernel_rfl) hss, cu, .slice a g.m cp, by rw [E2.out], ?_, ?_, ?_⟩
      · obtain ⟨t, ht⟩ := rowAt_some (rowAt_setRow_at W (w.heap.size + 1) cu (by rw [gZ]; rfl))
        exact rowAt_of_heap ((World.putObj_heap_other (fun e => hDn e.symm)).trans ht)
      · rw [E1.out]; exact G3.out
      · rw [E1.out]
        exact (IsList.of_pipesV (ownsRow_putObj (owns_setRowG G2.out (by omega) _) _ (hK2 _) rfl)).mono (by omega)
      · exact (below_setRow (bnext B9.out HB1.out B9.out.size) (by omega) _).trans (belowK_sB (w := w) (Nat.le_refl _) _ D _ _ (by omega) (hK2 _) rfl rfl)
    case stop =>
      rintro D c pre W _ _ h _
      exact h.elim
end Go.Proofs.Ytcdddngdjhjdbaa
