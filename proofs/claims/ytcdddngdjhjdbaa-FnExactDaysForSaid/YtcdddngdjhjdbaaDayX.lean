/- Plans: a job on the first day on which it fits; the plan with one job more. -/
import Derived.Test.YtcdddngdjhjdbaaDayW
import Derived.Test.YtcdddngdjhjdbaaAgg
namespace Go.Proofs.Ytcdddngdjhjdbaa
open Go.RowKit
@[go_sem ↓] theorem loadAt_plan (v : Value) : Instr.loadAt 73 v = loadWhole 73 v := rfl
@[go_sem ↓] theorem storeAt_plan (a v : Value) : Instr.storeAt 73 a v = storeWhole 73 a v := rfl
@[go_sem] theorem load_plan (w : World) (n o : Nat) : (loadWhole 73 (.pointer (some ⟨n, o, none⟩))).run Try.prog w = rowLoad Try.prog 73 2 n o w (rowAt w n) := run_load_by Try.underlying73 rfl (by kernel_rfl) w n o
@[go_sem] theorem store_plan (vs : Array Value) (w : World) (n o : Nat) : (storeWhole 73 (.pointer (some ⟨n, o, none⟩)) (.agg vs)).run Try.prog w = rowStore Try.prog 73 2 n o vs w (rowAt w n) := run_store_by (by kernel_rfl) vs w n o
@[go_sem] theorem ones_slice2 (a d : Option Addr) (b c e f : Nat) : Ones #[.slice a b c, .slice d e f] := by
  intro v hv
  simp at hv
  rcases hv with rfl | rfl <;> rfl
theorem owns_setRowD {w : World} {base : Nat} {e : TypeId} {size : Nat} {v : Value} {n : Nat} {xs : List Value} (h : w.ownsRow base e size v n xs) {m : Nat} (hm : m < base) (c : Array Value) : (w.setRow m c).ownsRow base e size v n xs := by
  obtain ⟨hl, h | ⟨g, cap, cur, rfl, hg, hh, hr⟩⟩ := h
  · exact ⟨hl, .inl h⟩
  · exact ⟨hl, .inr ⟨g, cap, cur, rfl, hg, (setRow_other w m g c (by omega)).trans hh, hr⟩⟩
theorem IsList.setRowD {w : World} {b sz n : Nat} {v : Value} {f : Nat → Value} (h : IsList w b v sz n f) {k : Nat} (hk : k < b) (c : Array Value) : IsList (w.setRow k c) b v sz n f := by
  rcases h with h | ⟨g, cap, cur, rfl, hg, hr, hs, hf⟩
  · exact .inl h
  · exact .inr ⟨g, cap, cur, rfl, hg, (rowAt_setRow_ne _ _ _ _ (by omega)).trans hr, hs, hf⟩
theorem cells_newD {w : World} {n : Nat} (hn : n = w.heap.size) (a : Value) (t : TypeId) : ∀ j u, ([a] : List Value)[j]? = some u → (w.alloc (.cells #[a] t)).cell? ((⟨n, 0, none⟩ : Addr).add j) = some u := by
  subst hn
  exact cell_one_new _ _ _
theorem IsList.setI {w : World} {g n cap : Nat} {cur : Array Value} {L : Nat → Int} (hr : rowAt w g = some cur) (hs : n * 1 ≤ cur.size) (hf : ∀ i, i < n * 1 → cur[i]? = some (.int .i64 (L i))) (a : Nat) (z : Int) {b : Nat} (hb : b ≤ g) : IsList (w.setCell ⟨g, a, none⟩ (.int .i64 z)) b (.slice (some ⟨g, 0, none⟩) n cap) 1 n (fun i => .int .i64 (upd L a z i)) := by
  have R := rowAt_setCell_at w g a (.int .i64 z) (by rw [hr]; rfl)
  rw [hr, Option.getD_some] at R
  refine .inr ⟨g, cap, _, rfl, hb, R, by simpa using hs, fun i hi => ?_⟩
  by_cases e : i = a
  · subst e; show (cur.setIfInBounds i _)[i]? = some (.int .i64 (upd L i z i)); rw [Array.getElem?_setIfInBounds_self_of_lt (by omega), upd_at]
  · show (cur.setIfInBounds a _)[i]? = some (.int .i64 (upd L a z i)); rw [Array.getElem?_setIfInBounds_ne (Ne.symm e), upd_ne _ _ e]; exact hf i hi
theorem IsList.setC {w : World} {b sz n : Nat} {v : Value} {f : Nat → Value} (h : IsList w b v sz n f) {k : Nat} (hk : k < b) (o : Nat) (x : Value) : IsList (w.setCell ⟨k, o, none⟩ x) b v sz n f := by
  rcases h with h | ⟨g, cap, cur, rfl, hg, hr, hs, hf⟩
  · exact .inl h
  · exact .inr ⟨g, cap, cur, rfl, hg, (rowAt_setCell_ne _ _ _ _ _ (by omega)).trans hr, hs, hf⟩
theorem owns_lowerD {w : World} {b b' : Nat} {e : TypeId} {size : Nat} {v : Value} {n : Nat} {xs : List Value} (h : w.ownsRow b e size v n xs) (hb : b' ≤ b) : w.ownsRow b' e size v n xs := by
  obtain ⟨hl, h | ⟨g, cap, cur, rfl, hg, hh, hr⟩⟩ := h
  · exact ⟨hl, .inl h⟩
  · exact ⟨hl, .inr ⟨g, cap, cur, rfl, Nat.le_trans hb hg, hh, hr⟩⟩
theorem grown_rowD {w w' : World} {row : Option Nat} (h : w.grownBy w' row) {n : Nat} (hn : n < w.heap.size) (hr : ∀ x, row = some x → n ≠ x) : rowAt w' n = rowAt w n := by
  simp [rowAt, h.block n hn (fun e => hr n e.symm rfl)]
theorem owns_parts {w : World} {b : Nat} {e : TypeId} {v : Value} {m : Nat} {xs : List Value} (h : w.ownsRow b e 1 v m xs) :
    ∃ ad cd, v = .slice ad m cd ∧ m ≤ cd ∧ (ad = none → m = 0 ∧ cd = 0) ∧ ∀ a, ad = some a → ∃ g, a = ⟨g, 0, none⟩ ∧ g < w.heap.size ∧ ∀ j u, xs[j]? = some u → w.cell? ⟨g, j, none⟩ = some u := by
  have hc := h
  obtain ⟨hl, h | ⟨g, cap, cur, rfl, hg, hh, hn, hm, hs, ht⟩⟩ := h
  · exact ⟨none, 0, by rw [h.1, h.2], by omega, fun _ => ⟨h.2, rfl⟩, fun a ha => by cases ha⟩
  · refine ⟨some ⟨g, 0, none⟩, cap, rfl, hn, (fun h => by cases h), fun a ha => ?_⟩
    cases ha
    refine ⟨g, rfl, rowAt_lt (rowAt_of_heap hh), fun j u hj => ?_⟩
    have := hc.cells (g := g) rfl j u hj
    rwa [Addr.add_lit, Nat.zero_add] at this
set_option maxRecDepth 100000 in
set_option maxHeartbeats 2000000 in
theorem with_new (bd bl m n : Nat) (vd vl : Value) (D L : Nat → Int) (t : Int) (w : World) (hd : w.ownsRow bd 2 1 vd m (intsV D m)) (hl : IsList w bl vl 1 n (fun i => .int .i64 (L i))) (hm : m ≤ 8) (hn : n ≤ 8) (hz : L n = 0) (_hL : 0 ≤ L n ∧ L n ≤ 1000) (ht : 0 ≤ t ∧ t ≤ 1000) :
    Calls Try.prog 78 #[.agg #[vd, vl], .int .i64 t, .int .i64 n] w fun e w' => ∃ ud ul, e = .returned (.agg #[ud, ul]) ∧ (w'.ownsRow w.heap.size 2 1 ud (m + 1) (intsV D m ++ [.int .i64 n]) ∧ IsList w' w.heap.size ul 1 (n + 1) (fun i => .int .i64 (upd L n (L n + t) i))) ∧ Below w.heap.size w w' := by
  obtain ⟨i0, hi0, hz0, hz1, hz2⟩ := info_parts A_infoIw
  obtain ⟨ad, cd, rfl, hmc, hnone, hcell⟩ := owns_parts hd
  obtain ⟨al, cl, rfl⟩ := hl.shape
  have HL := Lib.hid hl
  have HC := Lib.hid hcell
  have HNO := Lib.hid hnone
  have ey : IntKind.i64.wrap (L n + t) = L n + t := IntWalk.i64_in _ (by omega)
  have hnn : ((n : Int) == n) = true := by simp
  have HZ := Lib.hid hz
  clear hd hl hcell hnone hz
  go_enter Try.func78, Try.ntmps78
  go_wp2_with fail
  refine gen_callsW fun W hW => ?_
  have p0 : rowAt W w.heap.size = some #[.slice ad m cd, .slice al n cl] := by rw [hW]; exact (rowAt_alloc_past _ _ _ (by simp)).trans (rowAt_alloc_at _ _ _ _ rfl)
  have p1 : rowAt W (w.heap.size + 1) = some #[.slice none 0 0, .slice none 0 0] := by rw [hW]; exact rowAt_alloc_at _ _ _ _ (by simp)
  have pB : Below w.heap.size w W := by rw [hW]; exact ((Below.refl _ _).alloc (Nat.le_refl _) _).alloc (by simp) _
  clear hW
  refine (cloneI_own bl n (.slice al n cl) L W (HL.out.below pB (Nat.le_refl _)) (by omega)).mono ?_
  rintro e w1 ⟨u, rfl, ow, b1⟩
  obtain ⟨au, cu, rfl⟩ := owns_shape ow
  have s0 := brow b1 p0
  have t0 := brow b1 p1
  have B1 := bnext pB b1 pB.size
  go_wp2_with (at_builtin; refine Go.wpList_append_own_at _ rfl _ _ 22 rfl W.heap.size 2 i0 (.int .i64 0) 1 8 Try.underlying22 hi0 hz0 hz1 hz2 rfl (by decide) _ _ _ rfl (ow.alloc _) ⟨w1.heap.size, 0, none⟩ 1 1 [.int .i64 0] rfl rfl (cell_one_new _ _ _) (by simp [Value.oneCell']) (by unfold maxLen; omega) (by omega) (by have := b1.size; simp; omega) ?_; intro v3 w3 own3 grow3 _ _)
  have B3 := (B1.alloc B1.size _).grown grow3 (by have := B1.size; simp; omega) (fun x hx => by have := owns_base' ow x hx; have := pB.size; omega)
  have s3 := (grown_rowD grow3 (by have := rowAt_lt s0; simp; omega) (fun z hz => by have := owns_base' ow z hz; have := rowAt_lt p0; omega)).trans ((rowAt_alloc_past _ _ _ (rowAt_lt s0)).trans s0)
  have t3 := (grown_rowD grow3 (by have := rowAt_lt t0; simp; omega) (fun z hz => by have := owns_base' ow z hz; have := rowAt_lt p1; omega)).trans ((rowAt_alloc_past _ _ _ (rowAt_lt t0)).trans t0)
  rw [show (Value.int .i64 0) = .int .i64 (L n) by rw [HZ.out], intsV_succ] at own3
  have l3 := (IsList.of_intsV own3)
  have hs3 : W.heap.size ≤ w3.heap.size := by have := grow3.size; have := b1.size; simp at *; omega
  clear grow3 ow own3 s0 t0 B1 b1
  obtain ⟨h0, _⟩ | ⟨g3, c3, cur3, e3, hg3, hr3, hs4, hf3⟩ := l3
  · omega
  cases e3
  have ca : w3.cell? ⟨g3, n, none⟩ = some (.int .i64 (L n)) := (cell_of_rowAt hr3 _).trans (hf3 n (by omega))
  have fa := frozen_of_rowAt hr3 n
  have lg := rowAt_lt hr3
  have hp0 := rowAt_lt p0
  have hp1 := rowAt_lt p1
  have n0 : w.heap.size ≠ g3 := by omega
  have n1 : w.heap.size + 1 ≠ g3 := by omega
  have k0 : w3.cell? ⟨w.heap.size, 0, none⟩ = some (.slice ad m cd) := by rw [cell_of_rowAt s3]; rfl
  have HR3 := Lib.hid hr3
  have HF3 := Lib.hid hf3
  have HS4 := Lib.hid hs4
  have S3 := Lib.hid s3
  have T3 := Lib.hid t3
  have ls := rowAt_lt s3
  have hD : ∀ b, ad = some b → ∀ (j : Nat) u, (intsV D m)[j]? = some u → ∀ o z, ((w3.setCell ⟨g3, n, none⟩ z).alloc o).cell? (b.add j) = some u := fun b hb j u hj o z => by
    obtain ⟨gd, rfl, hgd, hcd⟩ := HC.out b hb
    rw [Addr.add_lit, Nat.zero_add]
    have c1 : w3.cell? ⟨gd, j, none⟩ = some u := (B3.cell (p := ⟨gd, j, none⟩) hgd).trans (hcd j u hj)
    have c2 : (w3.setCell ⟨g3, n, none⟩ z).cell? ⟨gd, j, none⟩ = some u := (World.cell?_setCell_far _ _ _ _ (show g3 ≠ gd by omega)).trans c1
    exact (World.cell?_alloc_some _ _ _ (by rw [c2]; rfl)).trans c2
  have HD := Lib.hid hD
  have HB3 := Lib.hid B3
  clear hr3 hf3 hs4 s3 t3 p0 p1 hD
  go_wp2_with (at_builtin; refine wpList_append_grows _ rfl _ _ 22 rfl 2 i0 (.int .i64 0) 1 8 Try.underlying22 hi0 hz0 hz1 hz2 rfl (by decide) ad m m (intsV D m) rfl (fun h => ⟨(HNO.out h).1, (HNO.out h).1⟩) ((intsV_len D m).trans (Nat.mul_one m).symm) (fun b hb j u hj => HD.out b hb j u hj _ _) ⟨w3.heap.size, 0, none⟩ 1 1 [.int .i64 n] rfl rfl (cells_newD (by simp) _ _) (by simp [Value.oneCell']) (by omega) (by unfold maxLen; omega) (by omega) ?_; intro v5 w5 own5 grow5; obtain ⟨a5, c5, rfl⟩ := owns_shape own5; have t5 : rowAt w5 (w.heap.size + 1) = some #[.slice none 0 0, .slice none 0 0] := (grown_rowD grow5 (by simp; omega) (fun x hx => by cases hx)).trans ((rowAt_alloc_past _ _ _ (by simp; omega)).trans ((rowAt_setCell_ne _ _ _ _ _ n1).trans T3.out)); have f0 := frozen_of_rowAt t5 0; have l5 := rowAt_lt t5)
  have LL := Lib.hid ((IsList.setI (cap := c3) HR3.out HS4.out HF3.out n (L n + t) hg3).below (show Below (w3.setCell ⟨g3, n, none⟩ (.int .i64 (L n + t))).heap.size _ w5 from ((Below.refl _ _).alloc (Nat.le_refl _) _).grown grow5 (by simp) (fun x hx => by cases hx)) (Nat.le_refl _))
  have B5 : Below w.heap.size w w5 := (((HB3.out.setCell (p := ⟨g3, n, none⟩) (by have := pB.size; simp; omega) _).alloc (by have := pB.size; simp; omega) _)).grown grow5 (by have := pB.size; simp; omega) (fun x hx => by cases hx)
  have OW := Lib.hid (owns_lowerD own5 (show W.heap.size ≤ _ by simp; omega))
  have hWs : w.heap.size + 1 < W.heap.size := hp1
  have HW0 : w.heap.size ≤ W.heap.size := pB.size
  have T5 := Lib.hid t5
  clear grow5 own5 t5 ca fa k0 lg ls hp0 hp1
  go_wp2_with fail
  refine bodyPost_ret (v := .agg #[.slice a5 (m + 1) c5, .slice (some ⟨g3, 0, none⟩) (n + 1) c3]) (results_row1 (m := 2) rfl _ _ (w.heap.size + 1) _ rfl (by simp [go_sem, T5.out]) Try.underlying73 rfl (by kernel_rfl) rfl) rfl ?_
  exact ⟨_, _, rfl, ⟨owns_lowerD (owns_setRowD OW.out hWs _) HW0, (LL.out.setRowD hWs _).mono HW0⟩, below_setRow B5 (by omega) _⟩
set_option maxRecDepth 100000 in
set_option maxHeartbeats 2000000 in
theorem with_in (bd bl m n a : Nat) (vd vl : Value) (D L : Nat → Int) (t : Int) (w : World) (hd : w.ownsRow bd 2 1 vd m (intsV D m)) (hl : IsList w bl vl 1 n (fun i => .int .i64 (L i))) (hm : m ≤ 8) (hn : n ≤ 8) (ha : a < n) (hL : 0 ≤ L a ∧ L a ≤ 1000) (ht : 0 ≤ t ∧ t ≤ 1000) :
    Calls Try.prog 78 #[.agg #[vd, vl], .int .i64 t, .int .i64 a] w fun e w' => ∃ ud ul, e = .returned (.agg #[ud, ul]) ∧ (w'.ownsRow w.heap.size 2 1 ud (m + 1) (intsV D m ++ [.int .i64 a]) ∧ IsList w' w.heap.size ul 1 n (fun i => .int .i64 (upd L a (L a + t) i))) ∧ Below w.heap.size w w' := by
  obtain ⟨i0, hi0, hz0, hz1, hz2⟩ := info_parts A_infoIw
  obtain ⟨ad, cd, rfl, hmc, hnone, hcell⟩ := owns_parts hd
  obtain ⟨al, cl, rfl⟩ := hl.shape
  have HL := Lib.hid hl
  have HC := Lib.hid hcell
  have HNO := Lib.hid hnone
  have ey : IntKind.i64.wrap (L a + t) = L a + t := IntWalk.i64_in _ (by omega)
  have hnn : ((n : Int) == n) = true := by simp
  have hna : ((a : Int) == n) = false := by simp; omega
  have a0 : (0 : Int) ≤ a := by omega
  have a1 : (a : Int) < n := by omega
  clear hd hl hcell hnone
  go_enter Try.func78, Try.ntmps78
  go_wp2_with fail
  refine gen_callsW fun W hW => ?_
  have p0 : rowAt W w.heap.size = some #[.slice ad m cd, .slice al n cl] := by rw [hW]; exact (rowAt_alloc_past _ _ _ (by simp)).trans (rowAt_alloc_at _ _ _ _ rfl)
  have p1 : rowAt W (w.heap.size + 1) = some #[.slice none 0 0, .slice none 0 0] := by rw [hW]; exact rowAt_alloc_at _ _ _ _ (by simp)
  have pB : Below w.heap.size w W := by rw [hW]; exact ((Below.refl _ _).alloc (Nat.le_refl _) _).alloc (by simp) _
  clear hW
  refine (cloneI_own bl n (.slice al n cl) L W (HL.out.below pB (Nat.le_refl _)) (by omega)).mono ?_
  rintro e w1 ⟨u, rfl, ow, b1⟩
  obtain ⟨au, cu, rfl⟩ := owns_shape ow
  have s0 := brow b1 p0
  have t0 := brow b1 p1
  have B1 := bnext pB b1 pB.size
  have l3 := (IsList.of_intsV ow)
  have B3 := B1
  have s3 := s0
  have t3 := t0
  have hs3 : W.heap.size ≤ w1.heap.size := b1.size
  clear ow s0 t0 B1 b1
  obtain ⟨h0, _⟩ | ⟨g3, c3, cur3, e3, hg3, hr3, hs4, hf3⟩ := l3
  · omega
  cases e3
  have ca : w1.cell? ⟨g3, a, none⟩ = some (.int .i64 (L a)) := (cell_of_rowAt hr3 _).trans (hf3 a (by omega))
  have fa := frozen_of_rowAt hr3 a
  have lg := rowAt_lt hr3
  have hp0 := rowAt_lt p0
  have hp1 := rowAt_lt p1
  have n0 : w.heap.size ≠ g3 := by omega
  have n1 : w.heap.size + 1 ≠ g3 := by omega
  have k0 : w1.cell? ⟨w.heap.size, 0, none⟩ = some (.slice ad m cd) := by rw [cell_of_rowAt s3]; rfl
  have HR3 := Lib.hid hr3
  have HF3 := Lib.hid hf3
  have HS4 := Lib.hid hs4
  have S3 := Lib.hid s3
  have T3 := Lib.hid t3
  have ls := rowAt_lt s3
  have hD : ∀ b, ad = some b → ∀ (j : Nat) u, (intsV D m)[j]? = some u → ∀ o z, ((w1.setCell ⟨g3, a, none⟩ z).alloc o).cell? (b.add j) = some u := fun b hb j u hj o z => by
    obtain ⟨gd, rfl, hgd, hcd⟩ := HC.out b hb
    rw [Addr.add_lit, Nat.zero_add]
    have c1 : w1.cell? ⟨gd, j, none⟩ = some u := (B3.cell (p := ⟨gd, j, none⟩) hgd).trans (hcd j u hj)
    have c2 : (w1.setCell ⟨g3, a, none⟩ z).cell? ⟨gd, j, none⟩ = some u := (World.cell?_setCell_far _ _ _ _ (show g3 ≠ gd by omega)).trans c1
    exact (World.cell?_alloc_some _ _ _ (by rw [c2]; rfl)).trans c2
  have HD := Lib.hid hD
  have HB3 := Lib.hid B3
  clear hr3 hf3 hs4 s3 t3 p0 p1 hD
  go_wp2_with (at_builtin; refine wpList_append_grows _ rfl _ _ 22 rfl 2 i0 (.int .i64 0) 1 8 Try.underlying22 hi0 hz0 hz1 hz2 rfl (by decide) ad m m (intsV D m) rfl (fun h => ⟨(HNO.out h).1, (HNO.out h).1⟩) ((intsV_len D m).trans (Nat.mul_one m).symm) (fun b hb j u hj => HD.out b hb j u hj _ _) ⟨w1.heap.size, 0, none⟩ 1 1 [.int .i64 a] rfl rfl (cells_newD (by simp) _ _) (by simp [Value.oneCell']) (by omega) (by unfold maxLen; omega) (by omega) ?_; intro v5 w5 own5 grow5; obtain ⟨a5, c5, rfl⟩ := owns_shape own5; have t5 : rowAt w5 (w.heap.size + 1) = some #[.slice none 0 0, .slice none 0 0] := (grown_rowD grow5 (by simp; omega) (fun x hx => by cases hx)).trans ((rowAt_alloc_past _ _ _ (by simp; omega)).trans ((rowAt_setCell_ne _ _ _ _ _ n1).trans T3.out)); have f0 := frozen_of_rowAt t5 0; have l5 := rowAt_lt t5)
  have LL := Lib.hid ((IsList.setI (cap := cu) HR3.out HS4.out HF3.out a (L a + t) hg3).below (show Below (w1.setCell ⟨g3, a, none⟩ (.int .i64 (L a + t))).heap.size _ w5 from ((Below.refl _ _).alloc (Nat.le_refl _) _).grown grow5 (by simp) (fun x hx => by cases hx)) (Nat.le_refl _))
  have B5 : Below w.heap.size w w5 := (((HB3.out.setCell (p := ⟨g3, a, none⟩) (by have := pB.size; simp; omega) _).alloc (by have := pB.size; simp; omega) _)).grown grow5 (by have := pB.size; simp; omega) (fun x hx => by cases hx)
  have OW := Lib.hid (owns_lowerD own5 (show W.heap.size ≤ _ by simp; omega))
  have hWs : w.heap.size + 1 < W.heap.size := hp1
  have HW0 : w.heap.size ≤ W.heap.size := pB.size
  have T5 := Lib.hid t5
  clear grow5 own5 t5 ca fa k0 lg ls hp0 hp1
  go_wp2_with fail
  refine bodyPost_ret (v := .agg #[.slice a5 (m + 1) c5, .slice (some ⟨g3, 0, none⟩) n cu]) (results_row1 (m := 2) rfl _ _ (w.heap.size + 1) _ rfl (by simp [go_sem, T5.out]) Try.underlying73 rfl (by kernel_rfl) rfl) rfl ?_
  exact ⟨_, _, rfl, ⟨owns_lowerD (owns_setRowD OW.out hWs _) HW0, (LL.out.setRowD hWs _).mono HW0⟩, below_setRow B5 (by omega) _⟩
end Go.Proofs.Ytcdddngdjhjdbaa
