/- AllPieces: contracts of both sides. -/
import Derived.Test.YtdegfcgknppcoaaPcIn
import Derived.Test.YtdegfcgknppcoaaGrowX
namespace Go.Proofs.Ytdegfcgknppcoaa
open Go.RowKit Go.Shelf

theorem pcCells_one (l : List (Int × Int)) : ∀ u ∈ pcCells l, u.oneCell' = true := by
  intro u hu
  simp only [pcCells, List.mem_flatMap] at hu
  obtain ⟨p, _, h⟩ := hu
  simp at h
  rcases h with rfl | rfl <;> simp [Value.oneCell']
theorem IsList.pcs_cells {w : World} {b : Nat} {v : Value} {l : List (Int × Int)} (h : IsList w b v 2 l.length (fun i => .int .i8 (pcAt l i))) : IsList w b v 2 l.length (fun j => (pcCells l).getD j undef) := by
  rcases h with h | ⟨g, cap, cur, rfl, hg, hr, hs, hf⟩
  · exact .inl h
  · refine .inr ⟨g, cap, cur, rfl, hg, hr, hs, fun i hi => ?_⟩
    rw [hf i hi]
    dsimp only
    rw [List.getD_eq_getElem?_getD, pcCells_at l i hi]
    rfl
theorem keeps_grown {w w' : World} {base size n : Nat} {e : TypeId} {v : Value} {xs : List Value} (h : w.grownBy w' v.ownBlock) (ho : w.ownsRow base e size v n xs) : KeepsOthers w w' :=
  ⟨h.size, fun k o hk hc => (h.block k (Array.getElem?_eq_some_iff.1 hk).1 (fun e' => by
    rcases ho.2 with ⟨rfl, _⟩ | ⟨g, cap, cur, rfl, _, hg, _⟩
    · simp [Value.ownBlock] at e'
    · obtain rfl : k = g := by simpa [Value.ownBlock] using e'
      rw [hg] at hk
      cases hk
      cases hc)).trans hk⟩
theorem owns_setOther {w : World} {base size n m : Nat} {e : TypeId} {v : Value} {xs : List Value} (hne : some m ≠ v.ownBlock) (h : w.ownsRow base e size v n xs) {o : Nat} (x : Value) : (w.setCell ⟨m, o, none⟩ x).ownsRow base e size v n xs := by
  obtain ⟨hl, h | ⟨g, cap, cur, rfl, hg, hh, hr⟩⟩ := h
  · exact ⟨hl, .inl h⟩
  · exact ⟨hl, .inr ⟨g, cap, cur, rfl, hg, (heap_setCell_other w ⟨m, o, none⟩ g x (fun e' => hne (by rw [e']; rfl))).trans hh, hr⟩⟩

/-- The pieces of the first k courses; those of some courses. -/
def allTo (s : Int) (f : Nat → Int) : Nat → List (Int × Int)
  | 0 => []
  | k + 1 => allTo s f k ++ crPcs s f k
def allL (s : Int) (f : Nat → Int) {m : Nat} (l : List (Co m)) : List (Int × Int) := l.flatMap fun x => crPcs s f x.1
theorem allL_snoc (s : Int) (f : Nat → Int) {m : Nat} (l : List (Co m)) (x : Co m) : allL s f (l ++ [x]) = allL s f l ++ crPcs s f x.1 := by simp [allL]
theorem allL_up {m : Nat} (s : Int) (f : Nat → Int) : ∀ k, k ≤ m → allL s f (coUpto m k) = allTo s f k
  | 0, _ => rfl
  | k + 1, hk => by rw [coUpto_succ (show k < m by omega), allL_snoc, allL_up s f k (by omega)]; rfl
theorem allL_len {m : Nat} {s : Int} {f : Nat → Int} (h : ∀ k, k < m → LaidOk (f (k * 2)) (f (k * 2 + 1)) (crS s k)) : ∀ l : List (Co m), (allL s f l).length ≤ 26 * l.length
  | [] => by simp [allL]
  | x :: l => by
    have h1 := allL_len h l
    have h2 := crPcs_len s f x.1 (h x.1 x.2)
    simp only [allL, List.flatMap_cons, List.length_append, List.length_cons] at *
    omega
theorem allTo_len {m : Nat} {s : Int} {f : Nat → Int} (h : ∀ k, k < m → LaidOk (f (k * 2)) (f (k * 2 + 1)) (crS s k)) : ∀ k, k ≤ m → (allTo s f k).length ≤ 26 * k
  | 0, _ => by simp [allTo]
  | k + 1, hk => by
    have h1 := allTo_len h k (by omega)
    have h2 := crPcs_len s f k (h k (by omega))
    simp only [allTo, List.length_append]
    omega

set_option maxRecDepth 100000 in
set_option maxHeartbeats 4000000 in
theorem l05All_any (kb : Nat) (s : Int) (B n cp : Nat) (f : Nat → Int) (u : Option Addr) (w : World) (hs : 0 ≤ s ∧ s ≤ 255) (hr : rowAt w kb = some #[.int .u8 s, .slice u n cp]) (hv : IsList w B (.slice u n cp) 2 n (fun i => .int .i16 (f i))) (hn : n ≤ 12) (ok : ∀ k, k < n → LaidOk (f (k * 2)) (f (k * 2 + 1)) (crS s k)) :
    Calls Try.prog 66 #[.pointer (some ⟨kb, 0, none⟩)] w (GivesPcs w (allTo s f n)) := by
  obtain ⟨i0, hi0, hz0, hz1, hz2⟩ := info_parts A_infoPcs
  have HR := Lib.hid hr
  have HV := Lib.hid hv
  have HO := Lib.hid ok
  have b0 : Below w.heap.size w (w.alloc (.cells #[] 92)) := (Below.refl _ _).alloc (Nat.le_refl _) _
  have o0 := owns_zero w 92 2
  clear hr hv ok
  go_enter Try.func66, Try.ntmps66
  go_wp2_with fail
  go_loopw [3, 4] (fun v i W => ∃ k : Nat, k ≤ n ∧ i = .int .i64 k ∧ W.ownsRow w.heap.size 92 2 v (allTo s f k).length (pcCells (allTo s f k)) ∧ Below w.heap.size w W) (fun _ i _ => n - (intOf i).toNat)
  case atStart => exact ⟨0, by omega, rfl, o0, b0⟩
  case round =>
    clear o0 b0
    obtain ⟨k, hk, rfl, ho, hB⟩ := hrel
    have x0 := cell_of_rowAt (brow hB HR.out)
    have r0 := brow hB HR.out
    have HB := Lib.hid hB
    have hal := allTo_len HO.out k hk
    clear hB
    by_cases hlt : k < n
    · have hk1 : (k : Int) < n := by omega
      have hcl := crPcs_len s f k (HO.out k hlt)
      have CC := l05Course_any kb s B n cp f u k wr r0 (HV.out.below HB.out (Nat.le_refl _)) hn hlt hs (HO.out k hlt)
      have HS : Hid (allTo s f (k + 1) = allTo s f k ++ crPcs s f k) := Lib.hid rfl
      go_wp2_with fail
      refine CC.mono ?_
      rintro e w2 ⟨v2, rfl, l2, b2⟩
      have ho2 := owns_kept ho b2 (Nat.le_refl _)
      have B2 := Lib.hid (bnext HB.out b2 HB.out.size)
      have hsz := B2.out.size
      obtain ⟨av, cv, rfl⟩ := l2.shape
      clear CC ho b2 r0 x0
      go_wp2_with (at_builtin; refine wpList_append_list rfl _ _ 45 rfl w.heap.size wr.heap.size 92 i0 (.agg #[.int .i8 0, .int .i8 0]) 2 2 Try.underlying45 hi0 hz0 hz1 hz2 rfl (by decide) _ _ _ rfl ho2 _ (crPcs s f k).length (pcCells (crPcs s f k)) rfl (IsList.pcs_cells l2) (pcCells_len _) (pcCells_one _) (by unfold maxLen; omega) (by omega) (by omega) ?_; intro v' w3 own3 grow3)
      refine ⟨⟨k + 1, by omega, by go_num, by rw [HS.out, pcCells_app, List.length_append]; exact own3, B2.out.grown grow3 (by omega) (owns_base' ho2)⟩, by simp [intOf]; omega⟩
    · obtain rfl : k = n := by omega
      go_wp2_with fail
      go_ret
      exact ⟨_, rfl, IsList.of_pcs ho, HB.out⟩

attribute [local go_sem] Oper.semAt_some

set_option maxRecDepth 100000 in
set_option maxHeartbeats 4000000 in
theorem shapePieces_any (s : Int) (B m cp : Nat) (f : Nat → Int) (u : Option Addr) (w : World) (hs : 0 ≤ s ∧ s ≤ 255) (hv : IsList w B (.slice u m cp) 2 m (fun i => .int .i16 (f i))) (hm : m ≤ 12) (hb : ∀ i, i < m * 2 → -32768 ≤ f i ∧ f i ≤ 32767) (ok : ∀ k, k < m → LaidOk (f (k * 2)) (f (k * 2 + 1)) (crS s k)) :
    Calls Try.prog 67 #[.agg #[.int .u8 s, .slice u m cp]] w (GivesPcs w (allTo s f m)) := by
  have OK := Lib.hid ok
  obtain ⟨i0, hi0, hz0, hz1, hz2⟩ := info_parts A_infoPcs
  refine (callsIn_wide (n := 3)).1 ?_
  refine callsIn_of_wp_marks Try.func67 rfl trivial ?_ rfl
  simp only [Try.ntmps67, List.size_toArray, List.length_cons, List.length_nil, Nat.reduceAdd, Nat.reduceSub, Array.replicate_succ, Array.replicate_zero, List.push_toArray, List.append_toArray, List.nil_append, List.cons_append]
  gi_wp2
  refine ⟨trivial, (callsIn_wide.2 (courses_any _ _)).mono ?_⟩
  rintro e' w' ⟨rfl, rfl⟩
  gi_wp2
  obtain ⟨W0, hW0⟩ : ∃ W0, ((w.alloc (.cells #[.int .u8 s, .slice u m cp] 29)).alloc (.cells #[.slice none 0 0] 45)).alloc (.cells #[.int .u8 s, .slice u m cp] 29) = W0 := ⟨_, rfl⟩
  have rC0 : RowT W0 (w.heap.size + 1) 45 #[.slice none 0 0] := by
    have := (RowT.new (w.alloc (.cells #[.int .u8 s, .slice u m cp] 29)) 45 #[.slice none 0 0]).alloc (.cells #[.int .u8 s, .slice u m cp] 29)
    rw [hW0] at this; simpa using this
  have rC : Boxed W0 (w.heap.size + 1) 45 (.slice none 0 0) := rC0
  have rD : RowT W0 (w.heap.size + 1 + 1) 29 #[.int .u8 s, .slice u m cp] := by
    have := RowT.new ((w.alloc (.cells #[.int .u8 s, .slice u m cp] 29)).alloc (.cells #[.slice none 0 0] 45)) 29 #[.int .u8 s, .slice u m cp]
    rw [hW0] at this; simpa using this
  have hB0 : Below w.heap.size w W0 := by rw [← hW0]; exact (((Below.refl _ _).alloc (Nat.le_refl _) _).alloc (by simp) _).alloc (by simp; omega) _
  have hsz : W0.heap.size = w.heap.size + 1 + 1 + 1 := by rw [← hW0]; simp
  rw [hW0]
  clear hW0 rC0
  refine wpIn_rangeFunc_ownH rfl (by omega) (gf := 96) (lb := #[.pointer (some ⟨w.heap.size + 1 + 1, 0, none⟩)]) rfl trivial (enters_of Try.func96 (by kernel_rfl) rfl)
    (courses_stops 2 (by omega) (w.heap.size + 1 + 1) w.heap.size s B m cp f u w hs hv (Nat.le_refl _) (by omega) hb W0 rD.row hB0 (by omega)) KpS.trans (KpS.put (by omega) (by omega)) (Below.refl _ _) (fun _ => rfl)
    (fun pre W => (RowT W (w.heap.size + 1 + 1) 29 #[.int .u8 s, .slice u m cp] ∧ (∃ v, Boxed W (w.heap.size + 1) 45 v ∧ W.ownsRow w.heap.size 92 2 v (allL s f pre).length (pcCells (allL s f pre)) ∧ True)) ∧ Below w.heap.size w W)
    (fun _ _ _ => False)
    (OwnFrom.and (OwnFrom.and (Own.from (RowT.own _ _ _) _) (Own.from (holdsRow_own w.heap.size (w.heap.size + 1) 45 92 2 (fun pre => (allL s f pre).length) (fun pre => pcCells (allL s f pre)) (fun _ _ => True)) _)) (ownFrom_below (Nat.le_refl _) (by omega)))
    (fun _ _ _ _ _ hs _ _ => hs)
    ⟨⟨rD, ⟨_, rC, World.ownsRow_nil _ _ _ _, trivial⟩⟩, hB0⟩
    (fun x a' W => ∃ Bx, w.heap.size + 1 + 1 < Bx ∧ RowT W Bx 86 #[.int .i64 (f (x.1 * 2)), .int .i64 (f (x.1 * 2 + 1)), .int .i64 (crS s x.1)] ∧ a' = { tmps := #[.agg #[.int .u8 s, .slice u m cp], .pointer (some ⟨w.heap.size, 0, none⟩), .slice none 0 0, .pointer (some ⟨w.heap.size + 1, 0, none⟩), .pointer (some ⟨Bx, 0, none⟩), .agg #[.int .u8 s, .slice u m cp], .func (.func 96) #[] #[.pointer (some ⟨w.heap.size + 1 + 1, 0, none⟩)], x.enc f s, undef, undef, undef, undef, undef], defers := [] })
    (fun x a' _ X Y row hs hg hr => by obtain ⟨Bx, h1, h2, h3⟩ := hs; exact ⟨Bx, h1, RowT.own Bx 86 (fun (_ : Unit) => #[Value.int .i64 (f (x.1 * 2)), .int .i64 (f (x.1 * 2 + 1)), .int .i64 (crS s x.1)]) () X Y row h2 hg (fun r e => (hr r e).2), h3⟩)
    ?assign ?body ?done ?stop
  case assign =>
    rintro l pre x W K ⟨⟨gD, v, gv, gl, _⟩, hB1⟩ hK
    dsimp only [Co.enc, crV]
    gi_wp2
    refine hK _ _ ((KeepsOthers.alloc _ _).from _) ⟨(Below.refl _ W).alloc hB1.size _, fun c' h => (rowAt_alloc_past _ _ _ (rowAt_lt h)).trans h⟩ ⟨⟨gD.alloc _, v, gv.alloc _, gl.alloc _, trivial⟩, hB1.alloc hB1.size _⟩ ⟨W.heap.size, gD.lt, RowT.new W 86 _, rfl⟩
  case body =>
    rintro l pre x a' W hl ⟨rr, hrr⟩ ⟨⟨gD, v, gv, gl, _⟩, hB1⟩ ⟨Bx, hBx, gX, rfl⟩ hlt
    have hx := x.2
    have CP := fun W => laidPieces_any _ _ _ (OK.out x.1 hx) W
    have hl1 := allL_len OK.out pre
    have hl2 := crPcs_len s f x.1 (OK.out x.1 hx)
    have HX2 : Hid (allL s f (pre ++ [x]) = allL s f pre ++ crPcs s f x.1) := Lib.hid (allL_snoc s f pre x)
    rw [show pcsTo (f (x.1 * 2)) (f (x.1 * 2 + 1)) (crS s x.1) (tlN (f (x.1 * 2 + 1)) (crS s x.1)) = crPcs s f x.1 from rfl] at CP
    gi_wp2
    refine wpIn_region_held (S := fun w' => RowT w' Bx 86 #[.int .i64 (f (x.1 * 2)), .int .i64 (f (x.1 * 2 + 1)), .int .i64 (crS s x.1)]) (by kernel_rfl) (by kernel_rfl) gX.drew (fun hH => ?_)
    refine wpAnyH_take (i := 1) (v := .agg #[.int .i64 (f (x.1 * 2)), .int .i64 (f (x.1 * 2 + 1)), .int .i64 (crS s x.1)]) rfl (by kernel_rfl) (by kernel_rfl) (by kernel_rfl) (fun _ _ _ h => h) (Or.inl ⟨by rfl, ?_⟩) hH ?_
    · intro w1 hS; (try dsimp only at hS); have s0 := cell_of_rowAt hS.row; go_simp
    (try simp only [List.getElem_toArray]); (try simp only [List.getElem_cons_succ]); (try simp only [List.getElem_cons_zero]); (try simp only [Act.put]); (try simp only [List.setIfInBounds_toArray]); (try simp only [List.set_cons_succ]); (try simp only [List.set_cons_zero])
    generalize hV : W.drew = V at *
    have kV : Below W.heap.size W V := by rw [← hV]; exact (Below.refl _ _).drew
    have vv : Boxed V (w.heap.size + 1) 45 v := by rw [← hV]; exact gv
    have vl : V.ownsRow w.heap.size 92 2 v (allL s f pre).length (pcCells (allL s f pre)) := by rw [← hV]; exact gl
    have vD : RowT V (w.heap.size + 1 + 1) 29 #[.int .u8 s, .slice u m cp] := by rw [← hV]; exact gD.drew
    have cv := vv.cell
    clear hV
    refine wpAnyH_ready (rs := [0, 2]) (by kernel_rfl) (by simp) (AllReadyH.cons rfl (fun K hK => ?_) (AllReadyH.cons rfl (fun K hK => ?_) AllReadyH.nil))
    · go_simp
      refine hK.out _ _ (hH) (fun hG => ?_)
      clear hK K hH
      replace hH := hG
      clear hG
      (try simp only [List.getElem_toArray]); (try simp only [List.getElem_cons_succ]); (try simp only [List.getElem_cons_zero]); (try simp only [Act.put]); (try simp only [List.setIfInBounds_toArray]); (try simp only [List.set_cons_succ]); (try simp only [List.set_cons_zero])
      refine wpAnyH_ready (rs := [2]) (by kernel_rfl) (by simp) (AllReadyH.cons rfl (fun K hK => ?_) AllReadyH.nil)
      go_simp
      refine (CP _).mono ?_
      rintro z wx ⟨vp, rfl, lp, bx⟩
      have wv : Boxed wx (w.heap.size + 1) 45 v := RowT.below vv bx
      have wl := owns_kept vl bx (Nat.le_refl _)
      have wD := vD.below bx
      have kx := kV.trans (bx.mono kV.size)
      have cv2 := wv.cell
      have fv2 := wv.frozen
      have hs5 := kx.size
      have hs6 := hB1.size
      obtain ⟨ap, cp', rfl⟩ := lp.shape
      go_simp
      refine hK.out _ _ (hH.below bx) (fun hG => ?_)
      clear hK K hH
      replace hH := hG
      clear hG
      (try simp only [List.getElem_toArray]); (try simp only [List.getElem_cons_succ]); (try simp only [List.getElem_cons_zero]); (try simp only [Act.put]); (try simp only [List.setIfInBounds_toArray]); (try simp only [List.set_cons_succ]); (try simp only [List.set_cons_zero])
      have wX := hH
      refine wpAnyH_ready (rs := [3]) (by kernel_rfl) (by simp) (AllReadyH.cons rfl (fun K hK => ?_) AllReadyH.nil)
      refine step_append_list rfl (.tmp 8) (.tmp 10) 45 rfl w.heap.size V.heap.size 92 i0 (.agg #[.int .i8 0, .int .i8 0]) 2 2 Try.underlying45 hi0 hz0 hz1 hz2 rfl (by decide) _ _ _ rfl wl (.slice ap (crPcs s f x.1).length cp') (crPcs s f x.1).length (pcCells (crPcs s f x.1)) rfl (IsList.pcs_cells lp) (pcCells_len _) (pcCells_one _) (by unfold maxLen; omega) (by omega) (by omega) ?_
      intro v' w1 hown' hgrow
      obtain ⟨va', vc', rfl⟩ := owns_shape hown'
      have ne1 : w.heap.size + 1 ≠ 0 := by omega
      have hv1 : Boxed w1 (w.heap.size + 1) 45 v := (RowT.kept wv hgrow (RowT.not_row (show RowT wx _ _ #[v] from wv) (by decide) wl))
      have hc1 := hv1.cell
      have hf1 := hv1.frozen
      have zD := (RowT.kept wD hgrow (wD.not_row (by decide) wl)).other (B' := w.heap.size + 1) (o := 0) (by omega) (.slice va' ((allL s f pre).length + (crPcs s f x.1).length) vc')
      refine hK.out _ _ (RowT.kept wX hgrow (wX.not_row (by decide) wl)) (fun hG => ?_)
      clear hK K hH
      replace hH := hG
      clear hG
      (try simp only [List.getElem_toArray]); (try simp only [List.getElem_cons_succ]); (try simp only [List.getElem_cons_zero]); (try simp only [Act.put]); (try simp only [List.setIfInBounds_toArray]); (try simp only [List.set_cons_succ]); (try simp only [List.set_cons_zero])
      refine wpAnyH_ready (rs := [4]) (by kernel_rfl) (by simp) (AllReadyH.cons rfl (fun K hK => ?_) AllReadyH.nil)
      go_simp
      refine hK.out _ _ (hH.other (by omega) _) (fun hG => ?_)
      clear hK K hH
      replace hH := hG
      clear hG
      (try simp only [List.getElem_toArray]); (try simp only [List.getElem_cons_succ]); (try simp only [List.getElem_cons_zero]); (try simp only [Act.put]); (try simp only [List.setIfInBounds_toArray]); (try simp only [List.set_cons_succ]); (try simp only [List.set_cons_zero])
      refine wpAnyH_done (by kernel_rfl) ?_ _
      dsimp only [OnlyN]
      gi_wp2
      refine ⟨((keeps_of_below kx).trans ((keeps_grown hgrow wl).trans (KeepsOthers.setCell _ _ _))).from _, ⟨((kx.mono (by omega)).grown hgrow (by omega) (owns_base' wl)).setCell (p := ⟨_, _, none⟩) (by simp) _, fun c' h' => ?_⟩, ⟨⟨zD, _, hv1.set _, by rw [HX2.out, pcCells_app, List.length_append]; exact owns_setOther (RowT.not_row (show RowT w1 _ _ #[v] from hv1) (by decide) hown') hown' _, trivial⟩, ((bnext hB1 kx hB1.size).grown hgrow (by omega) (owns_base' wl)).setCell (p := ⟨_, _, none⟩) (by simp) _⟩⟩
      rw [zD.row, ← gD.row]
      exact h'
    · go_simp
      refine (CP _).mono ?_
      rintro z wx ⟨vp, rfl, lp, bx⟩
      have wv : Boxed wx (w.heap.size + 1) 45 v := RowT.below vv bx
      have wl := owns_kept vl bx (Nat.le_refl _)
      have wD := vD.below bx
      have kx := kV.trans (bx.mono kV.size)
      have cv2 := wv.cell
      have fv2 := wv.frozen
      have hs5 := kx.size
      have hs6 := hB1.size
      obtain ⟨ap, cp', rfl⟩ := lp.shape
      go_simp
      refine hK.out _ _ (hH.below bx) (fun hG => ?_)
      clear hK K hH
      replace hH := hG
      clear hG
      (try simp only [List.getElem_toArray]); (try simp only [List.getElem_cons_succ]); (try simp only [List.getElem_cons_zero]); (try simp only [Act.put]); (try simp only [List.setIfInBounds_toArray]); (try simp only [List.set_cons_succ]); (try simp only [List.set_cons_zero])
      have wX := hH
      refine wpAnyH_ready (rs := [0]) (by kernel_rfl) (by simp) (AllReadyH.cons rfl (fun K hK => ?_) AllReadyH.nil)
      go_simp
      refine hK.out _ _ (hH) (fun hG => ?_)
      clear hK K hH
      replace hH := hG
      clear hG
      (try simp only [List.getElem_toArray]); (try simp only [List.getElem_cons_succ]); (try simp only [List.getElem_cons_zero]); (try simp only [Act.put]); (try simp only [List.setIfInBounds_toArray]); (try simp only [List.set_cons_succ]); (try simp only [List.set_cons_zero])
      refine wpAnyH_ready (rs := [3]) (by kernel_rfl) (by simp) (AllReadyH.cons rfl (fun K hK => ?_) AllReadyH.nil)
      refine step_append_list rfl (.tmp 8) (.tmp 10) 45 rfl w.heap.size V.heap.size 92 i0 (.agg #[.int .i8 0, .int .i8 0]) 2 2 Try.underlying45 hi0 hz0 hz1 hz2 rfl (by decide) _ _ _ rfl wl (.slice ap (crPcs s f x.1).length cp') (crPcs s f x.1).length (pcCells (crPcs s f x.1)) rfl (IsList.pcs_cells lp) (pcCells_len _) (pcCells_one _) (by unfold maxLen; omega) (by omega) (by omega) ?_
      intro v' w1 hown' hgrow
      obtain ⟨va', vc', rfl⟩ := owns_shape hown'
      have ne1 : w.heap.size + 1 ≠ 0 := by omega
      have hv1 : Boxed w1 (w.heap.size + 1) 45 v := (RowT.kept wv hgrow (RowT.not_row (show RowT wx _ _ #[v] from wv) (by decide) wl))
      have hc1 := hv1.cell
      have hf1 := hv1.frozen
      have zD := (RowT.kept wD hgrow (wD.not_row (by decide) wl)).other (B' := w.heap.size + 1) (o := 0) (by omega) (.slice va' ((allL s f pre).length + (crPcs s f x.1).length) vc')
      refine hK.out _ _ (RowT.kept wX hgrow (wX.not_row (by decide) wl)) (fun hG => ?_)
      clear hK K hH
      replace hH := hG
      clear hG
      (try simp only [List.getElem_toArray]); (try simp only [List.getElem_cons_succ]); (try simp only [List.getElem_cons_zero]); (try simp only [Act.put]); (try simp only [List.setIfInBounds_toArray]); (try simp only [List.set_cons_succ]); (try simp only [List.set_cons_zero])
      refine wpAnyH_ready (rs := [4]) (by kernel_rfl) (by simp) (AllReadyH.cons rfl (fun K hK => ?_) AllReadyH.nil)
      go_simp
      refine hK.out _ _ (hH.other (by omega) _) (fun hG => ?_)
      clear hK K hH
      replace hH := hG
      clear hG
      (try simp only [List.getElem_toArray]); (try simp only [List.getElem_cons_succ]); (try simp only [List.getElem_cons_zero]); (try simp only [Act.put]); (try simp only [List.setIfInBounds_toArray]); (try simp only [List.set_cons_succ]); (try simp only [List.set_cons_zero])
      refine wpAnyH_done (by kernel_rfl) ?_ _
      dsimp only [OnlyN]
      gi_wp2
      refine ⟨((keeps_of_below kx).trans ((keeps_grown hgrow wl).trans (KeepsOthers.setCell _ _ _))).from _, ⟨((kx.mono (by omega)).grown hgrow (by omega) (owns_base' wl)).setCell (p := ⟨_, _, none⟩) (by simp) _, fun c' h' => ?_⟩, ⟨⟨zD, _, hv1.set _, by rw [HX2.out, pcCells_app, List.length_append]; exact owns_setOther (RowT.not_row (show RowT w1 _ _ #[v] from hv1) (by decide) hown') hown' _, trivial⟩, ((bnext hB1 kx hB1.size).grown hgrow (by omega) (owns_base' wl)).setCell (p := ⟨_, _, none⟩) (by simp) _⟩⟩
      rw [zD.row, ← gD.row]
      exact h'
  case done =>
    rintro D ys W hD rfl ⟨⟨gD, v, gv, gl, _⟩, hB1⟩ hK
    have hc := gv.cell
    gi_wp2
    refine ⟨by simp, .inl ⟨_, _, rfl, run_takeDeferred hK, ?_⟩⟩
    rw [allL_up s f m (Nat.le_refl _)] at gl
    exact ⟨_, results_tmp rfl _ _ _, v, rfl, IsList.of_pcs (ownsRow_putObj gl _ hK rfl), hB1.trans (belowK_s (w := w) (Nat.le_refl _) W D _ _ (by omega) hK rfl rfl)⟩
  case stop =>
    rintro D c pre W _ _ h _
    exact h.elim

/-- The pieces of a shape. -/
def apL (s : Int) (n : Nat) (f : Nat → Int) : List (Int × Int) := if shOk s n f then allTo s f n else []
theorem apL_len (s : Int) (n : Nat) (f : Nat → Int) : (apL s n f).length ≤ 2000000 := by
  unfold apL
  split
  · rename_i hk
    have := allTo_len (fun k hkn => laidOk_of hk hkn) n (Nat.le_refl _)
    have := (shOk_in hk).2.1.2
    omega
  · simp

set_option maxRecDepth 100000 in
set_option maxHeartbeats 2000000 in
theorem specAllPieces_any (s : Int) (B n : Nat) (f : Nat → Int) (u : Option Addr) (w : World) (hs : 0 ≤ s ∧ s ≤ 255) (hv : IsList w B (.slice u n n) 2 n (fun i => .int .i16 (f i))) (hn : n ≤ 2000000) (_hb : ∀ i, i < n * 2 → -32768 ≤ f i ∧ f i ≤ 32767) :
    Calls Try.prog 34 #[.agg #[.int .u8 s, .slice u n n]] w (GivesT w 2 .i8 (apL s n f).length (pcAt (apL s n f)) [.int .i64 (codeOk (shOk s n f))]) := by
  have HV := Lib.hid hv
  clear hv
  go_enter Try.func34, Try.ntmps34
  go_wp2_with fail
  refine gen_callsW fun W hW => ?_
  have B0 := Lib.hid (show Below w.heap.size w W from by rw [hW]; exact (Below.refl _ _).alloc (Nat.le_refl _) _)
  have p0 : rowAt W w.heap.size = some #[.int .u8 s, .slice u n n] := by rw [hW]; exact rowAt_alloc_at _ _ _ _ (by simp)
  clear hW
  have CV := l05Ok_any w.heap.size s B n f u W p0 (HV.out.below B0.out (Nat.le_refl _)) hn
  cases hk : shOk s n f with
  | true =>
    rw [hk] at CV
    have hn12 := (shOk_in hk).2.1.2
    have ok : ∀ k, k < n → LaidOk (f (k * 2)) (f (k * 2 + 1)) (crS s k) := fun k hkn => laidOk_of hk hkn
    have HL : Hid (apL s n f = allTo s f n) := Lib.hid (by simp [apL, hk])
    have HK := Lib.hid hk
    clear hk
    refine CV.mono ?_
    rintro e w1 ⟨rfl, b1⟩
    have B1 := Lib.hid (bnext B0.out b1 B0.out.size)
    have q0 := brow b1 p0
    
    clear b1 p0 CV
    go_wp2_with fail
    refine (l05All_any w.heap.size s B n n f u _ hs q0 (HV.out.below B1.out (Nat.le_refl _)) hn12 ok).mono ?_
    rintro e w2 ⟨v, rfl, l2, b2⟩
    have B2 := bnext B1.out b2 B1.out.size
    obtain ⟨av, cv, rfl⟩ := l2.shape
    clear b2 q0
    go_wp2_with fail
    go_ret2
    rw [HL.out, HK.out]
    exact ⟨_, rfl, l2.mono B1.out.size, B2⟩
  | false =>
    rw [hk] at CV
    have HL : Hid (apL s n f = []) := Lib.hid (by simp [apL, hk])
    have HK := Lib.hid hk
    clear hk
    refine CV.mono ?_
    rintro e w1 ⟨rfl, b1⟩
    have B1 := Lib.hid (bnext B0.out b1 B0.out.size)
    clear b1 p0 CV
    go_wp2_with fail
    go_ret2
    rw [HL.out, HK.out]
    exact ⟨_, rfl, .inl ⟨rfl, _, _, rfl⟩, B1.out.alloc B1.out.size _⟩

set_option maxRecDepth 100000 in
set_option maxHeartbeats 2000000 in
theorem implAllPieces_any (s : Int) (B n : Nat) (f : Nat → Int) (u : Option Addr) (w : World) (hs : 0 ≤ s ∧ s ≤ 255) (hv : IsList w B (.slice u n n) 2 n (fun i => .int .i16 (f i))) (hn : n ≤ 2000000) (hb : ∀ i, i < n * 2 → -32768 ≤ f i ∧ f i ≤ 32767) :
    Calls Try.prog 35 #[.agg #[.int .u8 s, .slice u n n]] w (GivesT w 2 .i8 (apL s n f).length (pcAt (apL s n f)) [.int .i64 (codeOk (shOk s n f))]) := by
  have HV := Lib.hid hv
  clear hv
  go_enter Try.func35, Try.ntmps35
  go_wp2_with fail
  refine gen_callsW fun W hW => ?_
  have B0 := Lib.hid (show Below w.heap.size w W from by rw [hW]; exact (Below.refl _ _).alloc (Nat.le_refl _) _)
  have p0 : rowAt W w.heap.size = some #[.int .u8 s, .slice u n n] := by rw [hW]; exact rowAt_alloc_at _ _ _ _ (by simp)
  clear hW
  have CV := implValidShape_any s B n f u W hs (HV.out.below B0.out (Nat.le_refl _)) hn hb
  cases hk : shOk s n f with
  | true =>
    rw [hk] at CV
    have hn12 := (shOk_in hk).2.1.2
    have ok : ∀ k, k < n → LaidOk (f (k * 2)) (f (k * 2 + 1)) (crS s k) := fun k hkn => laidOk_of hk hkn
    have HL : Hid (apL s n f = allTo s f n) := Lib.hid (by simp [apL, hk])
    have HK := Lib.hid hk
    clear hk
    refine CV.mono ?_
    rintro e w1 ⟨rfl, b1⟩
    have B1 := Lib.hid (bnext B0.out b1 B0.out.size)
    have q0 := brow b1 p0
    have x0 := cell_of_rowAt q0
    clear b1 p0 CV
    go_wp2_with fail
    refine (shapePieces_any s B n n f u _ hs (HV.out.below B1.out (Nat.le_refl _)) hn12 hb ok).mono ?_
    rintro e w2 ⟨v, rfl, l2, b2⟩
    have B2 := bnext B1.out b2 B1.out.size
    obtain ⟨av, cv, rfl⟩ := l2.shape
    clear b2 q0
    go_wp2_with fail
    go_ret2
    rw [HL.out, HK.out]
    exact ⟨_, rfl, l2.mono B1.out.size, B2⟩
  | false =>
    rw [hk] at CV
    have HL : Hid (apL s n f = []) := Lib.hid (by simp [apL, hk])
    have HK := Lib.hid hk
    clear hk
    refine CV.mono ?_
    rintro e w1 ⟨rfl, b1⟩
    have B1 := Lib.hid (bnext B0.out b1 B0.out.size)
    clear b1 p0 CV
    go_wp2_with fail
    go_ret2
    rw [HL.out, HK.out]
    exact ⟨_, rfl, .inl ⟨rfl, _, _, rfl⟩, B1.out⟩
end Go.Proofs.Ytdegfcgknppcoaa
