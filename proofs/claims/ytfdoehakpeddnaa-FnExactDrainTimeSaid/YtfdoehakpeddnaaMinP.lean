/- The program's minute. -/
import Derived.Test.YtfdoehakpeddnaaSpl
import Derived.Deep.RegionHeld3
namespace Go.Proofs.Ytfdoehakpeddnaa
open Go.RowKit

@[go_sem] theorem makeFn (fn : Fn) (first cap : Array Value) (w : World) : (Instr.makeFunc fn first cap).run Try.prog w = .ok (.func fn first cap) w := rfl
theorem Gt.minN_bd {g : Gt} {t r : Nat → Int} {n : Nat} (hok : g.Ok) (ht : ∀ i, i < 17 → 0 ≤ t i ∧ t i ≤ 1000) (hr : ∀ i, i < n → 0 ≤ r i ∧ r i ≤ 1000) : ∀ i, 0 ≤ g.minN t r n i ∧ g.minN t r n i ≤ 34000 := by
  intro i
  have h17 := hok.n17
  have h1 := hok.n1
  have a := Gt.nT_bd (g := g) (t := pT g.p (rnT t r n) g.m) (B := 2000) (pT_bd (fun i hi => by
    have a := ht i hi
    unfold rnT
    split
    · rename_i h; have b := hr i h; omega
    · omega) g.m (fun x hx => (hok.ps x hx).2.2.1)) g.n.toNat (by omega) i
  have : ((g.n.toNat : Nat) : Int) * 2000 ≤ 34000 := by omega
  unfold Gt.minN
  omega
theorem Gt.minT_bd {g : Gt} {t r : Nat → Int} {n : Nat} (hok : g.Ok) (ht : ∀ i, i < 17 → 0 ≤ t i ∧ t i ≤ 1000) (hr : ∀ i, i < n → 0 ≤ r i ∧ r i ≤ 1000) : ∀ i, i < 17 → 0 ≤ g.minT t r n i ∧ g.minT t r n i ≤ 1000 := by
  intro i hi
  have h17 := hok.n17
  have h1 := hok.n1
  have d0 := hok.d0
  have d1 := hok.d1
  have a := Gt.minN_bd hok ht hr i
  unfold Gt.minT oT
  split
  · split <;> omega
  · have z : g.minN t r n i = 0 := Gt.nT_zero _ (by omega) i (by omega)
    omega
theorem Gt.minO_bd {g : Gt} {t r : Nat → Int} {n : Nat} (hok : g.Ok) (ht : ∀ i, i < 17 → 0 ≤ t i ∧ t i ≤ 1000) (hr : ∀ i, i < n → 0 ≤ r i ∧ r i ≤ 1000) : 0 ≤ g.minO t r n ∧ g.minO t r n ≤ 578000 := by
  have h17 := hok.n17
  have h1 := hok.n1
  have a := oS_bd (dp := g.d) (t := g.minN t r n) (B := 34000) hok.d0 (fun i _ => Gt.minN_bd hok ht hr i) g.n.toNat (by omega)
  have : ((g.n.toNat : Nat) : Int) * 34000 ≤ 578000 := by omega
  unfold Gt.minO
  omega
theorem Gt.minS_bd {g : Gt} {t r : Nat → Int} {n : Nat} (hok : g.Ok) (ht : ∀ i, i < 17 → 0 ≤ t i ∧ t i ≤ 1000) (hr : ∀ i, i < n → 0 ≤ r i ∧ r i ≤ 1000) : 0 ≤ g.minS t r n ∧ g.minS t r n ≤ 8000 := by
  have m4 := hok.m4
  have a := pS_bd (p := g.p) (t := rnT t r n) (B := 2000) (fun i hi => by
    have a := ht i hi
    unfold rnT
    split
    · rename_i h; have b := hr i h; omega
    · omega) g.m (fun x hx => ⟨(hok.ps x hx).2.2.1, (hok.ps x hx).1, by have := (hok.ps x hx).2.1; have := hok.n17; omega⟩)
  have : (g.m : Int) * 2000 ≤ 8000 := by omega
  unfold Gt.minS
  omega

theorem loadVar_wat (w : World) (n : Nat) (c : Array Value) (hr : rowAt w n = some c) (hs : c.size = 17) : (loadVar 32 ⟨n, 0, none⟩).run Try.prog w = .ok (.agg c) w := by
  have h := load_wat w n 0
  rw [hr] at h
  have e : (rowLoad Try.prog 32 17 n 0 w (some c)) = .ok (.agg c) w := by
    simp [rowLoad, hs]
  rw [e] at h
  exact h

theorem results_ctc {P : Program} {fn : Func} {p u q : Tmp} {ty ty2 : TypeId} (h : fn.results = #[.cell p ty, .tmp u, .cell q ty2]) (tmps : Array Value) (w : World) (a a2 : Addr) (x y : Value)
    (h1 : tmps.getD p undef = .pointer (some a)) (h2 : tmps.getD q undef = .pointer (some a2)) (k1 : (loadVar ty a).run P w = .ok x w) (k2 : (loadVar ty2 a2).run P w = .ok y w) : (results fn tmps).run P w = .ok (.tuple #[x, tmps.getD u undef, y]) w := by
  have e1 : (asAddr (tmps.getD p undef)).run P w = .ok a w := by rw [h1]; rfl
  have e2 : (asAddr (tmps.getD q undef)).run P w = .ok a2 w := by rw [h2]; rfl
  simp only [results, h]
  rw [Array.getD_eq_getD_getElem?] at e1 e2
  simp [Sem.run_bind, Result.andThen, e1, e2, k1, k2]

def OnlyN6 (Q : Exit → Act → World → Prop) : Exit → Act → World → Prop
  | .normal, a, w => Q .normal a w
  | _, _, _ => False
theorem onlyN_out6 {Q : Exit → Act → World → Prop} : ∀ e a w, OnlyN6 Q e a w → Q e a w
  | .normal, _, _, h => h
  | .ret, _, _, h => h.elim
  | .panic _, _, _, h => h.elim
  | .exit _, _, _, h => h.elim
  | .goto _, _, _, h => h.elim
  | .outgrown, _, _, h => h.elim

set_option maxRecDepth 100000 in
set_option maxHeartbeats 4000000 in
theorem minute_any (b N n : Nat) (g : Gt) (vo vf vr : Value) (r t : Nat → Int) (d : Array Value) (w : World) (hO : IsList w b vo 2 g.m (outC g.p)) (hF : IsList w b vf 1 N (fun i => .int .i64 (g.to i))) (hr : IsList w b vr 1 n (fun i => .int .i64 (r i)))
    (hN : g.n = N) (hn : n ≤ N) (hok : g.Ok) (hD : IsK .i32 d 17 t) (ht : ∀ i, i < 17 → 0 ≤ t i ∧ t i ≤ 1000) (hrb : ∀ i, i < n → 0 ≤ r i ∧ r i ≤ 1000) :
    Calls Try.prog 59 #[.agg #[.int .i32 g.d, vo, vf, vr], .agg d] w fun e w' => ∃ cur, e = .returned (.tuple #[.agg cur, .int .i64 (g.minS t r n), .int .i64 (g.minO t r n)]) ∧ IsK .i32 cur 17 (g.minT t r n) ∧ Below w.heap.size w w' := by
  have hN17 : N ≤ 17 := by have := hok.n17; omega
  have hN0 : 0 < N := by have := hok.n1; omega
  have d0 := hok.d0
  have d1 := hok.d1
  have m4 := hok.m4
  obtain ⟨ao, co, rfl⟩ := hO.shape
  obtain ⟨af, cf, rfl⟩ := hF.shape
  obtain ⟨ar, cr, rfl⟩ := hr.shape
  have HO := Lib.hid hO
  have HF := Lib.hid hF
  have HL := Lib.hid hr
  have HT := Lib.hid ht
  have HRB := Lib.hid hrb
  have HD := Lib.hid hD
  have HOK := Lib.hid hok
  have HN := Lib.hid hN
  have hds := hD.size
  clear hO hF hr ht hrb hD hok hN
  have hzo := zeroW_is.ones
  unfold zeroW at hzo
  go_enter_defers Try.func59, Try.ntmps59
  go_wp2_with fail
  refine gen_world fun W hW => ?_
  have q0 : rowAt W w.heap.size = some #[.int .i32 g.d, .slice ao g.m co, .slice af N cf, .slice ar n cr] := by rw [hW]; exact (rowAt_alloc_past _ _ _ (by simp; try omega)).trans ((rowAt_alloc_past _ _ _ (by simp; try omega)).trans ((rowAt_alloc_past _ _ _ (by simp; try omega)).trans (rowAt_alloc_at _ _ _ _ (by simp))))
  have q1 : rowAt W (w.heap.size + 1) = some d := by rw [hW]; exact (rowAt_alloc_past _ _ _ (by simp; try omega)).trans ((rowAt_alloc_past _ _ _ (by simp; try omega)).trans (rowAt_alloc_at _ _ _ _ (by simp)))
  have q2 : rowAt W (w.heap.size + 1 + 1) = some zeroW := by rw [hW]; exact (rowAt_alloc_past _ _ _ (by simp; try omega)).trans (rowAt_alloc_at _ _ _ _ (by simp))
  have q3 : rowAt W (w.heap.size + 1 + 1 + 1) = some #[.int .i64 0] := by rw [hW]; exact rowAt_alloc_at _ _ _ _ (by simp)
  have BW : Below w.heap.size w W := by rw [hW]; exact ((((Below.refl _ _).alloc (Nat.le_refl _) _).alloc (by simp) _).alloc (by simp; omega) _).alloc (by simp; omega) _
  have k01 : w.heap.size ≠ w.heap.size + 1 := by omega
  have k12 : w.heap.size + 1 ≠ w.heap.size + 1 + 1 := by omega
  have k02 : w.heap.size ≠ w.heap.size + 1 + 1 := by omega
  have k13 : w.heap.size + 1 ≠ w.heap.size + 1 + 1 + 1 := by omega
  have k23 : w.heap.size + 1 + 1 ≠ w.heap.size + 1 + 1 + 1 := by omega
  have k03 : w.heap.size ≠ w.heap.size + 1 + 1 + 1 := by omega
  have b1 : w.heap.size ≤ w.heap.size + 1 := by omega
  have b2 : w.heap.size ≤ w.heap.size + 1 + 1 := by omega
  have b3 : w.heap.size ≤ w.heap.size + 1 + 1 + 1 := by omega
  clear hW
  generalize w.heap.size + 1 + 1 + 1 = K3 at *
  generalize w.heap.size + 1 + 1 = K2 at *
  generalize w.heap.size + 1 = K1 at *
  obtain ⟨x, hx⟩ : ∃ x : Array Value, x = #[.int .i32 g.d, .slice ao g.m co, .slice af N cf, .slice ar n cr] := ⟨_, rfl⟩
  have x1 : x[1]? = some (.slice ao g.m co) := by rw [hx]; rfl
  have x2 : x[2]? = some (.slice af N cf) := by rw [hx]; rfl
  rw [← hx] at q0
  have HX := Lib.hid hx
  clear hx
  go_loopw [7, 8, 18] (fun _ _ i V => ∃ (j : Nat) (cur : Array Value), j ≤ n ∧ i = .int .i64 j ∧ rowAt V K1 = some cur ∧ Hid (IsK .i32 cur 17 (rnT t r j)) ∧ rowAt V w.heap.size = some x ∧ rowAt V K2 = some zeroW ∧ rowAt V K3 = some #[.int .i64 0] ∧ Below w.heap.size w V) (fun _ _ i _ => n - (intOf i).toNat)
  case atStart => exact ⟨0, d, by omega, rfl, q1, Lib.hid (show IsK .i32 d 17 (rnT t r 0) from HD.out), q0, q2, q3, BW⟩
  case round =>
    clear q0 q1 q2 q3 BW
    obtain ⟨j, cur, hj, rfl, q1, hI, q0, q2, q3, hB⟩ := hrel
    by_cases hlt : j < n
    · obtain ⟨g', rfl, c0⟩ : ∃ g', ar = some ⟨g', 0, none⟩ ∧ wr.cell? ⟨g', j, none⟩ = some (.int .i64 (r j)) := by
        rcases (HL.out.below hB (Nat.le_refl _)) with ⟨h0, _⟩ | ⟨g', cap', cur', e, hg, hr', hs', hf'⟩
        · omega
        · cases e
          exact ⟨g', rfl, by rw [cell_of_rowAt hr']; exact hf' _ (by omega)⟩
      have j0 : 0 ≤ (j : Int) := by omega
      have j1 : (j : Int) < n := by omega
      have j17 : (j : Int) < 17 := by omega
      have c1 : wr.cell? ⟨K1, j, none⟩ = some (.int .i32 (rnT t r j j)) := by rw [cell_of_rowAt q1]; exact hI.out.get (by omega)
      have fr := frozen_of_rowAt q1
      have lk := rowAt_lt q1
      have tb := HT.out j (by omega)
      have rb := HRB.out j hlt
      have e0 : rnT t r j j = t j := if_neg (by omega)
      have y0 : IntKind.i32.wrap (r j) = r j := IntWalk.i32_in _ (by omega)
      have y1 : IntKind.i32.wrap (rnT t r j j + r j) = rnT t r j j + r j := IntWalk.i32_in _ (by omega)
      have nx := Lib.hid (show IsK .i32 (cur.setIfInBounds j (.int .i32 (rnT t r j j + r j))) 17 (rnT t r (j + 1)) by rw [← rnT_succ]; exact hI.out.set j _)
      have HRR := Lib.hid q1
      have HB := Lib.hid hB
      have Q0 := Lib.hid q0
      have Q2 := Lib.hid q2
      have Q3 := Lib.hid q3
      clear e0 hB q0 q1 q2 q3
      generalize rnT t r j j = tj at *
      generalize r j = rj at *
      go_wp2_with fail
      have R3 := rowAt_setCell_at wr K1 j (.int .i32 (tj + rj)) (by rw [HRR.out]; rfl)
      rw [HRR.out, Option.getD_some] at R3
      refine ⟨⟨j + 1, _, by omega, by go_num, R3, nx, (rowAt_setCell_ne _ _ _ _ _ k01).trans Q0.out, (rowAt_setCell_ne _ _ _ _ _ (Ne.symm k12)).trans Q2.out, (rowAt_setCell_ne _ _ _ _ _ (Ne.symm k13)).trans Q3.out, HB.out.setCell (by simpa using b1) _⟩, by simp [intOf]; omega⟩
    · obtain rfl : j = n := by omega
      have HT2 := Lib.hid (show ∀ i, i < 17 → 0 ≤ rnT t r j i ∧ rnT t r j i ≤ 2000 from fun i hi => by
        have a := HT.out i hi
        unfold rnT
        split
        · rename_i h; have b := HRB.out i h; omega
        · omega)
      have c0 : wr.cell? ⟨w.heap.size, 1, none⟩ = some (.slice ao g.m co) := by rw [cell_of_rowAt q0]; exact x1
      have lk := rowAt_lt q0
      go_wp2_with fail
      clear c0 lk
      obtain ⟨T, hTT⟩ : ∃ T, T = rnT t r j := ⟨_, rfl⟩
      rw [← hTT] at hI HT2
      replace hTT := Lib.hid hTT
      go_loopw [5, 10, 11, 34] (fun tk _ _ i V => ∃ (q : Nat) (cur : Array Value), q ≤ g.m ∧ i = .int .i64 q ∧ tk = .int .i64 (pS g.p T q) ∧ rowAt V K1 = some cur ∧ Hid (IsK .i32 cur 17 (pT g.p T q)) ∧ rowAt V w.heap.size = some x ∧ rowAt V K2 = some zeroW ∧ rowAt V K3 = some #[.int .i64 0] ∧ Below w.heap.size w V) (fun _ _ _ i _ => g.m - (intOf i).toNat)
      case atStart => exact ⟨0, cur, by omega, rfl, rfl, q1, hI, q0, q2, q3, hB⟩
      case round =>
        clear q0 q1 q2 q3 hB hI
        obtain ⟨q, cur, hq, rfl, rfl, q1, hI, q0, q2, q3, hB⟩ := hrel
        by_cases hlt : q < g.m
        · obtain ⟨g2, rfl, c0, c1⟩ : ∃ g2, ao = some ⟨g2, 0, none⟩ ∧ wr.cell? ⟨g2, q * 2, none⟩ = some (.int .i64 (g.p (q * 2))) ∧ wr.cell? ⟨g2, q * 2 + 1, none⟩ = some (.int .i32 (g.p (q * 2 + 1))) := by
            rcases (HO.out.below hB (Nat.le_refl _)) with ⟨h0, _⟩ | ⟨g', cap', cur', e, hg, hr', hs', hf'⟩
            · omega
            · cases e
              exact ⟨g', rfl, by rw [cell_of_rowAt hr', hf' _ (by omega), outC_0], by rw [cell_of_rowAt hr', hf' _ (by omega), outC_1]⟩
          have hp := HOK.out.ps q hlt
          have hp0 := hp.1
          have hp1 := hp.2.1
          have hp2 := hp.2.2.1
          have hp3 := hp.2.2.2.1
          have h17 := HOK.out.n17
          have q0' : 0 ≤ (q : Int) := by omega
          have q1' : (q : Int) < g.m := by omega
          obtain ⟨P, hP⟩ := Int.eq_ofNat_of_zero_le hp0
          have hP17 : P < 17 := by omega
          have hPt : (g.p (q * 2)).toNat = P := by omega
          have tb := pT_bd HT2.out q (fun x hx => (HOK.out.ps x (by omega)).2.2.1) P hP17
          have X1 := Lib.hid (show pT g.p T (q + 1) = upd (pT g.p T q) P (pT g.p T q P - minC (pT g.p T q P) (g.p (q * 2 + 1))) by
            funext i
            show (if i = (g.p (q * 2)).toNat then _ else _) = _
            rw [hPt]; unfold upd
            by_cases e : i = P
            · rw [if_pos e, if_pos e, e]
            · rw [if_neg e, if_neg e])
          have X2 := Lib.hid (show pS g.p T (q + 1) = pS g.p T q + minC (pT g.p T q P) (g.p (q * 2 + 1)) by rw [pS, hPt])
          have sb := pS_bd HT2.out q (fun x hx => ⟨(HOK.out.ps x (by omega)).2.2.1, (HOK.out.ps x (by omega)).1, by have := (HOK.out.ps x (by omega)).2.1; omega⟩)
          have cP := hI.out.get hP17
          have nx := Lib.hid (show IsK .i32 (cur.setIfInBounds P (.int .i32 (pT g.p T q P - minC (pT g.p T q P) (g.p (q * 2 + 1))))) 17 (pT g.p T (q + 1)) by rw [X1.out]; exact hI.out.set P _)
          have HB := Lib.hid hB
          have Q0 := Lib.hid q0
          have Q1 := Lib.hid q1
          have Q2 := Lib.hid q2
          have Q3 := Lib.hid q3
          have hcs := hI.out.size
          rw [hP] at c0
          generalize g.p (q * 2 + 1) = takes at *
          generalize pT g.p T q P = tP at *
          clear hp hP hp0 hp1 hPt hB q0 q1 q2 q3
          go_wp2_with fail
          refine gen_world fun V hV => ?_
          have NBe : wr.heap.size ≠ K1 := by have := rowAt_lt Q1.out; omega
          have rV : rowAt V wr.heap.size = some #[.int .i64 (P : Int), .int .i32 takes] := by rw [hV]; simpa using rowAt_alloc_at wr #[.int .i64 (P : Int), .int .i32 takes] 139 _ rfl
          have rV0 : rowAt V w.heap.size = some x := by rw [hV]; simpa using (rowAt_alloc_past _ _ _ (rowAt_lt Q0.out)).trans Q0.out
          have rV1 : rowAt V K1 = some cur := by rw [hV]; simpa using (rowAt_alloc_past _ _ _ (rowAt_lt Q1.out)).trans Q1.out
          have rV2 : rowAt V K2 = some zeroW := by rw [hV]; simpa using (rowAt_alloc_past _ _ _ (rowAt_lt Q2.out)).trans Q2.out
          have rV3 : rowAt V K3 = some #[.int .i64 0] := by rw [hV]; simpa using (rowAt_alloc_past _ _ _ (rowAt_lt Q3.out)).trans Q3.out
          have BV := Lib.hid (show Below w.heap.size w V by rw [hV]; simpa using HB.out.alloc HB.out.size _)
          clear hV Q0 Q1 Q2 Q3 HB c0 c1
          generalize wr.heap.size = NB at *
          have P0 : 0 ≤ (P : Int) := by omega
          have P17 : (P : Int) < 17 := by omega
          have sb' : 0 ≤ pS g.p T q ∧ pS g.p T q ≤ 8000 := by
            have : (q : Int) * 2000 ≤ 8000 := by omega
            omega
          by_cases hmn : takes < tP
          · have hmk : minC tP takes = takes := if_pos hmn
            rw [hmk] at X1 X2 nx
            clear hmk
            refine Code.wp_mono onlyN_out6 ?_
            refine wp_region_held_drew (S := fun w' => Below V.heap.size V w') (by kernel_rfl) ((Below.refl _ _).drew) (fun hH => ?_)
            refine wpAnyH_take (i := 0) (v := .pointer (some ⟨NB, 0, none⟩)) rfl (by kernel_rfl) (by kernel_rfl) (by kernel_rfl) (fun _ _ _ h => h) (Or.inl ⟨by rfl, ?_⟩) hH ?_
            · intro w1 hS; (try dsimp only at hS); go_simp
            (try simp only [List.getElem_toArray]); (try simp only [List.getElem_cons_succ]); (try simp only [List.getElem_cons_zero]); (try simp only [Act.put]); (try simp only [List.setIfInBounds_toArray]); (try simp only [List.set_cons_succ]); (try simp only [List.set_cons_zero])
            refine wpAnyH_take (i := 1) (v := .agg #[.int .i64 (P : Int)]) rfl (by kernel_rfl) (by kernel_rfl) (by kernel_rfl) (fun _ _ _ h => h) (Or.inl ⟨by rfl, ?_⟩) hH ?_
            · intro w1 hS; (try dsimp only at hS); have s0 : w1.cell? ⟨NB, 0, none⟩ = some (.int .i64 (P : Int)) := (by rw [cell_of_rowAt (brow hS rV)]; rfl); go_simp
            (try simp only [List.getElem_toArray]); (try simp only [List.getElem_cons_succ]); (try simp only [List.getElem_cons_zero]); (try simp only [Act.put]); (try simp only [List.setIfInBounds_toArray]); (try simp only [List.set_cons_succ]); (try simp only [List.set_cons_zero])
            refine wpAnyH_take (i := 5) (v := .pointer (some ⟨NB, 1, none⟩)) rfl (by kernel_rfl) (by kernel_rfl) (by kernel_rfl) (fun _ _ _ h => h) (Or.inl ⟨by rfl, ?_⟩) hH ?_
            · intro w1 hS; (try dsimp only at hS); go_simp
            (try simp only [List.getElem_toArray]); (try simp only [List.getElem_cons_succ]); (try simp only [List.getElem_cons_zero]); (try simp only [Act.put]); (try simp only [List.setIfInBounds_toArray]); (try simp only [List.set_cons_succ]); (try simp only [List.set_cons_zero])
            refine wpAnyH_take (i := 6) (v := .int .i32 takes) rfl (by kernel_rfl) (by kernel_rfl) (by kernel_rfl) (fun _ _ _ h => h) (Or.inl ⟨by rfl, ?_⟩) hH ?_
            · intro w1 hS; (try dsimp only at hS); have s0 : w1.cell? ⟨NB, 1, none⟩ = some (.int .i32 takes) := (by rw [cell_of_rowAt (brow hS rV)]; rfl); go_simp
            (try simp only [List.getElem_toArray]); (try simp only [List.getElem_cons_succ]); (try simp only [List.getElem_cons_zero]); (try simp only [Act.put]); (try simp only [List.setIfInBounds_toArray]); (try simp only [List.set_cons_succ]); (try simp only [List.set_cons_zero])
            refine wpAnyH_ready (rs := [2]) (by kernel_rfl) (by simp) (AllReadyH.cons rfl (fun K hK => ?_) AllReadyH.nil)
            go_simp
            refine (spotAt_any (P : Int) _).mono ?_
            rintro x wx ⟨rfl, bx⟩
            go_simp
            refine hK.out _ _ (bnext hH bx hH.size) (fun hG => ?_)
            clear hK K hH bx
            replace hH := hG
            clear hG
            (try simp only [List.getElem_toArray]); (try simp only [List.getElem_cons_succ]); (try simp only [List.getElem_cons_zero]); (try simp only [Act.put]); (try simp only [List.setIfInBounds_toArray]); (try simp only [List.set_cons_succ]); (try simp only [List.set_cons_zero])
            refine wpAnyH_take (i := 3) (v := .pointer (some ⟨K1, P, none⟩)) rfl (by kernel_rfl) (by kernel_rfl) (by kernel_rfl) (fun _ _ _ h => h) (Or.inl ⟨by rfl, ?_⟩) hH ?_
            · intro w1 hS; (try dsimp only at hS); go_simp
            (try simp only [List.getElem_toArray]); (try simp only [List.getElem_cons_succ]); (try simp only [List.getElem_cons_zero]); (try simp only [Act.put]); (try simp only [List.setIfInBounds_toArray]); (try simp only [List.set_cons_succ]); (try simp only [List.set_cons_zero])
            refine wpAnyH_take (i := 4) (v := .int .i32 tP) rfl (by kernel_rfl) (by kernel_rfl) (by kernel_rfl) (fun _ _ _ h => h) (Or.inl ⟨by rfl, ?_⟩) hH ?_
            · intro w1 hS; (try dsimp only at hS); have s0 : w1.cell? ⟨K1, P, none⟩ = some (.int .i32 tP) := (by rw [cell_of_rowAt (brow hS rV1)]; exact cP); go_simp
            (try simp only [List.getElem_toArray]); (try simp only [List.getElem_cons_succ]); (try simp only [List.getElem_cons_zero]); (try simp only [Act.put]); (try simp only [List.setIfInBounds_toArray]); (try simp only [List.set_cons_succ]); (try simp only [List.set_cons_zero])
            refine wpAnyH_take (i := 7) (v := .int .i32 takes) rfl (by kernel_rfl) (by kernel_rfl) (by kernel_rfl) (fun _ _ _ h => h) (Or.inl ⟨by rfl, ?_⟩) hH ?_
            · intro w1 hS; (try dsimp only at hS); go_simp
            (try simp only [List.getElem_toArray]); (try simp only [List.getElem_cons_succ]); (try simp only [List.getElem_cons_zero]); (try simp only [Act.put]); (try simp only [List.setIfInBounds_toArray]); (try simp only [List.set_cons_succ]); (try simp only [List.set_cons_zero])
            refine wpAnyH_take (i := 8) (v := .int .i32 takes) rfl (by kernel_rfl) (by kernel_rfl) (by kernel_rfl) (fun _ _ _ h => h) (Or.inl ⟨by rfl, ?_⟩) hH ?_
            · intro w1 hS; (try dsimp only at hS); go_simp
            (try simp only [List.getElem_toArray]); (try simp only [List.getElem_cons_succ]); (try simp only [List.getElem_cons_zero]); (try simp only [Act.put]); (try simp only [List.setIfInBounds_toArray]); (try simp only [List.set_cons_succ]); (try simp only [List.set_cons_zero])
            refine wpAnyH_done (by kernel_rfl) ?_ _
            dsimp only [OnlyN6]
            have r1 := brow hH rV1
            have r0 := brow hH rV0
            have r2 := brow hH rV2
            have r3 := brow hH rV3
            have rn := brow hH rV
            have BB := Lib.hid (bnext BV.out hH BV.out.size)
            clear hH rV rV0 rV1 rV2 rV3 BV
            have e0 : wx.cell? ⟨NB, 0, none⟩ = some (.int .i64 (P : Int)) := by rw [cell_of_rowAt rn]; rfl
            have ln := rowAt_lt rn
            clear rn
            have R0 := Lib.hid r0
            have R2 := Lib.hid r2
            have R3 := Lib.hid r3
            clear r0 r2 r3
            go_wp2_with fail
            refine (spotAt_any (P : Int) _).mono ?_
            rintro e w5 ⟨rfl, b5⟩
            have s1 := brow b5 r1
            have s0 := brow b5 R0.out
            have s2 := brow b5 R2.out
            have s3 := brow b5 R3.out
            have B5 := bnext BB.out b5 BB.out.size
            have c4 : w5.cell? ⟨K1, P, none⟩ = some (.int .i32 tP) := by rw [cell_of_rowAt s1]; exact cP
            have fr := frozen_of_rowAt s1
            have lk := rowAt_lt s1
            have S1 := Lib.hid s1
            have S0 := Lib.hid s0
            have S2 := Lib.hid s2
            have S3 := Lib.hid s3
            have BB5 := Lib.hid B5
            clear b5 e0 ln r1 s0 s1 s2 s3 B5
            have y2 : IntKind.i32.wrap (tP - takes) = tP - takes := IntWalk.i32_in _ (by omega)
            generalize pS g.p T q = s0 at *
            go_wp2_with fail
            have R9 := rowAt_setCell_at w5 K1 P (.int .i32 (tP - takes)) (by rw [S1.out]; rfl)
            rw [S1.out, Option.getD_some] at R9
            refine ⟨⟨q + 1, _, by omega, by go_num, by rw [X2.out], R9, nx, (rowAt_setCell_ne _ _ _ _ _ k01).trans S0.out, (rowAt_setCell_ne _ _ _ _ _ (Ne.symm k12)).trans S2.out, (rowAt_setCell_ne _ _ _ _ _ (Ne.symm k13)).trans S3.out, BB5.out.setCell (by simpa using b1) _⟩, by simp [intOf]; omega⟩
          · have hmk : minC tP takes = tP := if_neg hmn
            rw [hmk] at X1 X2 nx
            clear hmk
            refine Code.wp_mono onlyN_out6 ?_
            refine wp_region_held_drew (S := fun w' => Below V.heap.size V w') (by kernel_rfl) ((Below.refl _ _).drew) (fun hH => ?_)
            refine wpAnyH_take (i := 0) (v := .pointer (some ⟨NB, 0, none⟩)) rfl (by kernel_rfl) (by kernel_rfl) (by kernel_rfl) (fun _ _ _ h => h) (Or.inl ⟨by rfl, ?_⟩) hH ?_
            · intro w1 hS; (try dsimp only at hS); go_simp
            (try simp only [List.getElem_toArray]); (try simp only [List.getElem_cons_succ]); (try simp only [List.getElem_cons_zero]); (try simp only [Act.put]); (try simp only [List.setIfInBounds_toArray]); (try simp only [List.set_cons_succ]); (try simp only [List.set_cons_zero])
            refine wpAnyH_take (i := 1) (v := .agg #[.int .i64 (P : Int)]) rfl (by kernel_rfl) (by kernel_rfl) (by kernel_rfl) (fun _ _ _ h => h) (Or.inl ⟨by rfl, ?_⟩) hH ?_
            · intro w1 hS; (try dsimp only at hS); have s0 : w1.cell? ⟨NB, 0, none⟩ = some (.int .i64 (P : Int)) := (by rw [cell_of_rowAt (brow hS rV)]; rfl); go_simp
            (try simp only [List.getElem_toArray]); (try simp only [List.getElem_cons_succ]); (try simp only [List.getElem_cons_zero]); (try simp only [Act.put]); (try simp only [List.setIfInBounds_toArray]); (try simp only [List.set_cons_succ]); (try simp only [List.set_cons_zero])
            refine wpAnyH_take (i := 5) (v := .pointer (some ⟨NB, 1, none⟩)) rfl (by kernel_rfl) (by kernel_rfl) (by kernel_rfl) (fun _ _ _ h => h) (Or.inl ⟨by rfl, ?_⟩) hH ?_
            · intro w1 hS; (try dsimp only at hS); go_simp
            (try simp only [List.getElem_toArray]); (try simp only [List.getElem_cons_succ]); (try simp only [List.getElem_cons_zero]); (try simp only [Act.put]); (try simp only [List.setIfInBounds_toArray]); (try simp only [List.set_cons_succ]); (try simp only [List.set_cons_zero])
            refine wpAnyH_take (i := 6) (v := .int .i32 takes) rfl (by kernel_rfl) (by kernel_rfl) (by kernel_rfl) (fun _ _ _ h => h) (Or.inl ⟨by rfl, ?_⟩) hH ?_
            · intro w1 hS; (try dsimp only at hS); have s0 : w1.cell? ⟨NB, 1, none⟩ = some (.int .i32 takes) := (by rw [cell_of_rowAt (brow hS rV)]; rfl); go_simp
            (try simp only [List.getElem_toArray]); (try simp only [List.getElem_cons_succ]); (try simp only [List.getElem_cons_zero]); (try simp only [Act.put]); (try simp only [List.setIfInBounds_toArray]); (try simp only [List.set_cons_succ]); (try simp only [List.set_cons_zero])
            refine wpAnyH_ready (rs := [2]) (by kernel_rfl) (by simp) (AllReadyH.cons rfl (fun K hK => ?_) AllReadyH.nil)
            go_simp
            refine (spotAt_any (P : Int) _).mono ?_
            rintro x wx ⟨rfl, bx⟩
            go_simp
            refine hK.out _ _ (bnext hH bx hH.size) (fun hG => ?_)
            clear hK K hH bx
            replace hH := hG
            clear hG
            (try simp only [List.getElem_toArray]); (try simp only [List.getElem_cons_succ]); (try simp only [List.getElem_cons_zero]); (try simp only [Act.put]); (try simp only [List.setIfInBounds_toArray]); (try simp only [List.set_cons_succ]); (try simp only [List.set_cons_zero])
            refine wpAnyH_take (i := 3) (v := .pointer (some ⟨K1, P, none⟩)) rfl (by kernel_rfl) (by kernel_rfl) (by kernel_rfl) (fun _ _ _ h => h) (Or.inl ⟨by rfl, ?_⟩) hH ?_
            · intro w1 hS; (try dsimp only at hS); go_simp
            (try simp only [List.getElem_toArray]); (try simp only [List.getElem_cons_succ]); (try simp only [List.getElem_cons_zero]); (try simp only [Act.put]); (try simp only [List.setIfInBounds_toArray]); (try simp only [List.set_cons_succ]); (try simp only [List.set_cons_zero])
            refine wpAnyH_take (i := 4) (v := .int .i32 tP) rfl (by kernel_rfl) (by kernel_rfl) (by kernel_rfl) (fun _ _ _ h => h) (Or.inl ⟨by rfl, ?_⟩) hH ?_
            · intro w1 hS; (try dsimp only at hS); have s0 : w1.cell? ⟨K1, P, none⟩ = some (.int .i32 tP) := (by rw [cell_of_rowAt (brow hS rV1)]; exact cP); go_simp
            (try simp only [List.getElem_toArray]); (try simp only [List.getElem_cons_succ]); (try simp only [List.getElem_cons_zero]); (try simp only [Act.put]); (try simp only [List.setIfInBounds_toArray]); (try simp only [List.set_cons_succ]); (try simp only [List.set_cons_zero])
            refine wpAnyH_take (i := 7) (v := .int .i32 tP) rfl (by kernel_rfl) (by kernel_rfl) (by kernel_rfl) (fun _ _ _ h => h) (Or.inl ⟨by rfl, ?_⟩) hH ?_
            · intro w1 hS; (try dsimp only at hS); go_simp
            (try simp only [List.getElem_toArray]); (try simp only [List.getElem_cons_succ]); (try simp only [List.getElem_cons_zero]); (try simp only [Act.put]); (try simp only [List.setIfInBounds_toArray]); (try simp only [List.set_cons_succ]); (try simp only [List.set_cons_zero])
            refine wpAnyH_take (i := 8) (v := .int .i32 tP) rfl (by kernel_rfl) (by kernel_rfl) (by kernel_rfl) (fun _ _ _ h => h) (Or.inl ⟨by rfl, ?_⟩) hH ?_
            · intro w1 hS; (try dsimp only at hS); go_simp
            (try simp only [List.getElem_toArray]); (try simp only [List.getElem_cons_succ]); (try simp only [List.getElem_cons_zero]); (try simp only [Act.put]); (try simp only [List.setIfInBounds_toArray]); (try simp only [List.set_cons_succ]); (try simp only [List.set_cons_zero])
            refine wpAnyH_done (by kernel_rfl) ?_ _
            dsimp only [OnlyN6]
            have r1 := brow hH rV1
            have r0 := brow hH rV0
            have r2 := brow hH rV2
            have r3 := brow hH rV3
            have rn := brow hH rV
            have BB := Lib.hid (bnext BV.out hH BV.out.size)
            clear hH rV rV0 rV1 rV2 rV3 BV
            have e0 : wx.cell? ⟨NB, 0, none⟩ = some (.int .i64 (P : Int)) := by rw [cell_of_rowAt rn]; rfl
            have ln := rowAt_lt rn
            clear rn
            have R0 := Lib.hid r0
            have R2 := Lib.hid r2
            have R3 := Lib.hid r3
            clear r0 r2 r3
            go_wp2_with fail
            refine (spotAt_any (P : Int) _).mono ?_
            rintro e w5 ⟨rfl, b5⟩
            have s1 := brow b5 r1
            have s0 := brow b5 R0.out
            have s2 := brow b5 R2.out
            have s3 := brow b5 R3.out
            have B5 := bnext BB.out b5 BB.out.size
            have c4 : w5.cell? ⟨K1, P, none⟩ = some (.int .i32 tP) := by rw [cell_of_rowAt s1]; exact cP
            have fr := frozen_of_rowAt s1
            have lk := rowAt_lt s1
            have S1 := Lib.hid s1
            have S0 := Lib.hid s0
            have S2 := Lib.hid s2
            have S3 := Lib.hid s3
            have BB5 := Lib.hid B5
            clear b5 e0 ln r1 s0 s1 s2 s3 B5
            have y2 : IntKind.i32.wrap (tP - tP) = tP - tP := IntWalk.i32_in _ (by omega)
            generalize pS g.p T q = s0 at *
            go_wp2_with fail
            have R9 := rowAt_setCell_at w5 K1 P (.int .i32 (tP - tP)) (by rw [S1.out]; rfl)
            rw [S1.out, Option.getD_some] at R9
            rw [Int.sub_self] at R9 nx
            refine ⟨⟨q + 1, _, by omega, by go_num, by rw [X2.out], R9, nx, (rowAt_setCell_ne _ _ _ _ _ k01).trans S0.out, (rowAt_setCell_ne _ _ _ _ _ (Ne.symm k12)).trans S2.out, (rowAt_setCell_ne _ _ _ _ _ (Ne.symm k13)).trans S3.out, BB5.out.setCell (by simpa using b1) _⟩, by simp [intOf]; omega⟩
        · obtain rfl : q = g.m := by omega
          have HT3 := Lib.hid (pT_bd HT2.out g.m (fun x hx => (HOK.out.ps x (by omega)).2.2.1))
          have c0 : wr.cell? ⟨w.heap.size, 2, none⟩ = some (.slice af N cf) := by rw [cell_of_rowAt q0]; exact x2
          have lk := rowAt_lt q0
          generalize hT3e : pT g.p T g.m = T3 at *
          generalize hS3e : pS g.p T g.m = s3 at *
          replace hT3e := Lib.hid hT3e
          replace hS3e := Lib.hid hS3e
          have HI := Lib.hid hI.out
          clear hI
          go_wp2_with fail
          clear c0 lk
          go_loopw [12, 13, 62] (fun _ _ i V => ∃ (y : Nat) (nx : Array Value), y ≤ N ∧ i = .int .i64 y ∧ rowAt V K2 = some nx ∧ Hid (IsK .i32 nx 17 (g.nT T3 y)) ∧ rowAt V w.heap.size = some x ∧ rowAt V K1 = some cur ∧ rowAt V K3 = some #[.int .i64 0] ∧ Below w.heap.size w V) (fun _ _ i _ => N - (intOf i).toNat)
          case atStart => exact ⟨0, zeroW, by omega, rfl, q2, Lib.hid zeroW_is, q0, q1, q3, hB⟩
          case round =>
            clear q0 q1 q2 q3 hB
            obtain ⟨y, nx, hy, rfl, q2, hX, q0, q1, q3, hB⟩ := hrel
            by_cases hlt : y < N
            · obtain ⟨g2, rfl, c0⟩ : ∃ g2, af = some ⟨g2, 0, none⟩ ∧ wr.cell? ⟨g2, y, none⟩ = some (.int .i64 (g.to y)) := by
                rcases (HF.out.below hB (Nat.le_refl _)) with ⟨h0, _⟩ | ⟨g', cap', cur', e, hg, hr', hs', hf'⟩
                · omega
                · cases e
                  exact ⟨g', rfl, by rw [cell_of_rowAt hr', hf' _ (by omega)]⟩
              have hgn := HN.out
              have y0 : 0 ≤ (y : Int) := by omega
              have y1 : (y : Int) < N := by omega
              have y17 : (y : Int) < 17 := by omega
              have ny := Gt.nx_lt (g := g) (j := y) (by omega)
              have nyN : g.nx y < 17 := by omega
              have nb := Gt.nT_bd (g := g) (t := T3) HT3.out y (by omega) (g.nx y)
              have tb := HT3.out y (by omega)
              have HXX := Lib.hid (show IsK .i32 (nx.setIfInBounds (g.nx y) (.int .i32 (g.nT T3 y (g.nx y) + T3 y))) 17 (g.nT T3 (y + 1)) from hX.out.set _ _)
              have hc2 := hX.out.get nyN
              have hc3 := HI.out.get (show y < 17 by omega)
              have nb17 : g.nT T3 y (g.nx y) ≤ 34000 := by
                have : (y : Int) * 2000 ≤ 34000 := by omega
                omega
              have nb0 := nb.1
              have c2 : wr.cell? ⟨K1, y, none⟩ = some (.int .i32 (T3 y)) := by rw [cell_of_rowAt q1]; exact hc3
              have c3 : wr.cell? ⟨K2, g.nx y, none⟩ = some (.int .i32 (g.nT T3 y (g.nx y))) := by rw [cell_of_rowAt q2]; exact hc2
              have fr := frozen_of_rowAt q2
              have l1 := rowAt_lt q1
              have l2 := rowAt_lt q2
              have Q0 := Lib.hid q0
              have Q1 := Lib.hid q1
              have Q2 := Lib.hid q2
              have Q3 := Lib.hid q3
              have HB := Lib.hid hB
              have wr1 : IntKind.i32.wrap (g.nT T3 y (g.nx y) + T3 y) = g.nT T3 y (g.nx y) + T3 y := IntWalk.i32_in _ (by omega)
              by_cases hto : g.to y < 0
              · have hYx : g.nx y = y := if_pos hto
                have hm1 : g.to y = -1 := by
                  rcases Gt.to_cases (g := g) (j := y) (by omega) with h | ⟨q, hq, _, _⟩
                  · exact h
                  · omega
                rw [hYx] at HXX c3 nb17 nb0 nyN wr1
                rw [hm1] at c0
                clear nb hYx ny hto hm1 hB q0 q1 q2 q3 hX hgn hc2 hc3
                generalize g.nT T3 y y = nv at *
                generalize T3 y = tv at *
                go_wp2_with fail
                go_still_tail 8, (by kernel_rfl)
                change wpList _ _ _ _ _ wr.drew
                repeat go_step
                have R9 := rowAt_setCell_at wr K2 y (.int .i32 (nv + tv)) (by rw [Q2.out]; rfl)
                rw [Q2.out, Option.getD_some] at R9
                refine ⟨⟨y + 1, _, by omega, by go_num, R9, HXX, (rowAt_setCell_ne _ _ _ _ _ k02).trans Q0.out, (rowAt_setCell_ne _ _ _ _ _ k12).trans Q1.out, (rowAt_setCell_ne _ _ _ _ _ (Ne.symm k23)).trans Q3.out, HB.out.drew.setCell (by simpa using b2) _⟩, by simp [intOf]; omega⟩
              · obtain ⟨Y, hY⟩ := Int.eq_ofNat_of_zero_le (show 0 ≤ g.to y by omega)
                have hYx : g.nx y = Y := by unfold Gt.nx; rw [if_neg hto, hY]; rfl
                rw [hYx] at HXX c3 nb17 nb0 nyN wr1
                rw [hY] at c0
                have hne : ((Y : Int) == -1) = false := by first | (simp; done) | (simp; omega)
                have Y0 : 0 ≤ (Y : Int) := by omega
                have Y17 : (Y : Int) < 17 := by omega
                clear nb hYx ny hto hB q0 q1 q2 q3 hX hgn hc2 hc3 hY
                generalize g.nT T3 y Y = nv at *
                generalize T3 y = tv at *
                go_wp2_with fail
                go_still_tail 8, (by kernel_rfl)
                change wpList _ _ _ _ _ wr.drew
                repeat go_step
                have R9 := rowAt_setCell_at wr K2 Y (.int .i32 (nv + tv)) (by rw [Q2.out]; rfl)
                rw [Q2.out, Option.getD_some] at R9
                refine ⟨⟨y + 1, _, by omega, by go_num, R9, HXX, (rowAt_setCell_ne _ _ _ _ _ k02).trans Q0.out, (rowAt_setCell_ne _ _ _ _ _ k12).trans Q1.out, (rowAt_setCell_ne _ _ _ _ _ (Ne.symm k23)).trans Q3.out, HB.out.drew.setCell (by simpa using b2) _⟩, by simp [intOf]; omega⟩
            · obtain rfl : y = N := by omega
              have HT5 := Lib.hid (show ∀ i, i < 17 → 0 ≤ g.nT T3 y i ∧ g.nT T3 y i ≤ 34000 from fun i hi => by
                have a := Gt.nT_bd (g := g) (t := T3) HT3.out y (by omega) i
                have : (y : Int) * 2000 ≤ 34000 := by omega
                omega)
              obtain ⟨T4, hT4⟩ : ∃ T4, T4 = g.nT T3 y := ⟨_, rfl⟩
              rw [← hT4] at hX HT5
              have xs := hX.out.size
              have xo := hX.out.ones
              have c3 : wr.cell? ⟨K3, 0, none⟩ = some (.int .i64 0) := by rw [cell_of_rowAt q3]; rfl
              have f3 := frozen_of_rowAt q3
              have f2 := frozen_of_rowAt q2
              have l0 := rowAt_lt q0
              have l2 := rowAt_lt q2
              have l3 := rowAt_lt q3
              go_wp2_with fail
              refine Code.wp_mono onlyN_out6 ?_
              refine wp_region_held_drew (S := fun w' => rowAt w' K2 = some nx ∧ rowAt w' K3 = some #[.int .i64 0] ∧ rowAt w' w.heap.size = some x ∧ Below w.heap.size w w') (by kernel_rfl) ⟨q2, q3, q0, hB.drew⟩ (fun hH => ?_)
              refine wpAnyH_take (i := 0) (v := .agg nx) rfl (by kernel_rfl) (by kernel_rfl) (by kernel_rfl) (fun _ _ _ h => h) (Or.inl ⟨by rfl, ?_⟩) hH ?_
              · intro w1 hS; (try dsimp only at hS); obtain ⟨g2, g3, g0, gb⟩ := hS; go_simp
              (try simp only [List.getElem_toArray]); (try simp only [List.getElem_cons_succ]); (try simp only [List.getElem_cons_zero]); (try simp only [Act.put]); (try simp only [List.setIfInBounds_toArray]); (try simp only [List.set_cons_succ]); (try simp only [List.set_cons_zero])
              refine wpAnyH_take (i := 1) (v := .int .i64 s3) rfl (by kernel_rfl) (by kernel_rfl) (by kernel_rfl) (fun _ _ _ h => h) (Or.inl ⟨by rfl, ?_⟩) hH ?_
              · intro w1 hS; (try dsimp only at hS); obtain ⟨g2, g3, g0, gb⟩ := hS; go_simp
              (try simp only [List.getElem_toArray]); (try simp only [List.getElem_cons_succ]); (try simp only [List.getElem_cons_zero]); (try simp only [Act.put]); (try simp only [List.setIfInBounds_toArray]); (try simp only [List.set_cons_succ]); (try simp only [List.set_cons_zero])
              refine wpAnyH_take (i := 2) (v := .int .i64 0) rfl (by kernel_rfl) (by kernel_rfl) (by kernel_rfl) (fun _ _ _ h => h) (Or.inl ⟨by rfl, ?_⟩) hH ?_
              · intro w1 hS; (try dsimp only at hS); obtain ⟨g2, g3, g0, gb⟩ := hS; have c3 : w1.cell? ⟨K3, 0, none⟩ = some (.int .i64 0) := (by rw [cell_of_rowAt g3]; rfl); go_simp
              (try simp only [List.getElem_toArray]); (try simp only [List.getElem_cons_succ]); (try simp only [List.getElem_cons_zero]); (try simp only [Act.put]); (try simp only [List.setIfInBounds_toArray]); (try simp only [List.set_cons_succ]); (try simp only [List.set_cons_zero])
              refine wpAnyH_ready (rs := [3]) (by kernel_rfl) (by simp) (AllReadyH.cons rfl (fun K hK => ?_) AllReadyH.nil)
              obtain ⟨g2, g3, g0, gb⟩ := hH
              go_simp
              refine hK.out _ _ (⟨(rowAt_setRow_at _ _ _ (congrArg Option.isSome g2)), (rowAt_setRow_ne _ _ _ _ (Ne.symm k23)).trans g3, (rowAt_setRow_ne _ _ _ _ k02).trans g0, below_setRow gb b2 _⟩) (fun hG => ?_)
              clear hK K g2 g3 g0 gb
              have hH := hG
              clear hG
              (try simp only [List.getElem_toArray]); (try simp only [List.getElem_cons_succ]); (try simp only [List.getElem_cons_zero]); (try simp only [Act.put]); (try simp only [List.setIfInBounds_toArray]); (try simp only [List.set_cons_succ]); (try simp only [List.set_cons_zero])
              refine wpAnyH_take (i := 4) (v := .int .i64 s3) rfl (by kernel_rfl) (by kernel_rfl) (by kernel_rfl) (fun _ _ _ h => h) (Or.inl ⟨by rfl, ?_⟩) hH ?_
              · intro w1 hS; (try dsimp only at hS); obtain ⟨g2, g3, g0, gb⟩ := hS; go_simp
              (try simp only [List.getElem_toArray]); (try simp only [List.getElem_cons_succ]); (try simp only [List.getElem_cons_zero]); (try simp only [Act.put]); (try simp only [List.setIfInBounds_toArray]); (try simp only [List.set_cons_succ]); (try simp only [List.set_cons_zero])
              refine wpAnyH_ready (rs := [5]) (by kernel_rfl) (by simp) (AllReadyH.cons rfl (fun K hK => ?_) AllReadyH.nil)
              obtain ⟨g2, g3, g0, gb⟩ := hH
              have c3 := cell_of_rowAt g3 (i := 0)
              have f3 := frozen_of_rowAt g3
              have l3 := rowAt_lt g3
              go_simp
              refine hK.out _ _ (⟨(rowAt_setCell_ne _ _ _ _ _ k23).trans g2, (rowAt_setCell_at _ K3 0 (.int .i64 0) (congrArg Option.isSome g3)).trans (by rw [g3]; rfl), (rowAt_setCell_ne _ _ _ _ _ k03).trans g0, gb.setCell (by simpa using b3) _⟩) (fun hG => ?_)
              clear hK K g2 g3 g0 gb
              have hH := hG
              clear hG
              (try simp only [List.getElem_toArray]); (try simp only [List.getElem_cons_succ]); (try simp only [List.getElem_cons_zero]); (try simp only [Act.put]); (try simp only [List.setIfInBounds_toArray]); (try simp only [List.set_cons_succ]); (try simp only [List.set_cons_zero])
              refine wpAnyH_done (by kernel_rfl) ?_ _
              dsimp only [OnlyN6]
              obtain ⟨g2, g3, g0, gb⟩ := hH
              have hgn : g.n.toNat = y := by rw [HN.out]; rfl
              have es : g.minS t r j = s3 := by unfold Gt.minS; rw [← hTT.out]; exact hS3e.out
              have eT4 : g.minN t r j = T4 := by unfold Gt.minN; rw [← hTT.out, hT3e.out, hgn]; exact hT4.symm
              have hz : ∀ i, y ≤ i → T4 i = 0 := fun i hi => by rw [hT4]; exact Gt.nT_zero y (by rw [HN.out]; exact Int.le_refl _) i (by rw [HN.out]; omega)
              have ES := Lib.hid es
              have EO := Lib.hid (show g.minO t r j = oS g.d T4 17 by unfold Gt.minO; rw [eT4, hgn]; exact (oS_all d0 hN17 hz).symm)
              have ET := Lib.hid (show g.minT t r j = oT g.d T4 17 by unfold Gt.minT; rw [eT4, hgn]; exact (oT_all d0 hN17 hz).symm)
              have G2 := Lib.hid g2
              have G3 := Lib.hid g3
              have G0 := Lib.hid (g0.trans (congrArg some HX.out))
              have GB := Lib.hid gb
              clear es eT4 hz g2 g3 g0 gb q0 q1 q2 q3 l0 l2 l3 f2 f3 c3
              go_wp2_with fail
              refine leaves_cons (f := 92) (args := #[.pointer (some ⟨K2, 0, none⟩), .pointer (some ⟨w.heap.size, 0, none⟩), .pointer (some ⟨K3, 0, none⟩)]) (by simp) (by simp [go_sem]) ?_
              refine (after_deferred K2 w.heap.size K3 nx g.d _ _ _ 0 T4 _ G2.out hX.out d0 d1 HT5.out G0.out G3.out k23 _).mono ?_
              rintro e u' w9 ⟨rfl, rfl, ⟨cur9, r2, i2⟩, r3, hb⟩
              have B9 := Lib.hid (GB.out.trans (hb w.heap.size b2 b3))
              have s9 := i2.size
              have c9 : w9.cell? ⟨K3, 0, none⟩ = some (.int .i64 (oS g.d T4 17)) := by rw [cell_of_rowAt r3]; rfl
              have l2 := rowAt_lt r2
              have l3 := rowAt_lt r3
              show Leaves _ _ _ _ [] (settle .returning) w9
              simp only [Leaves, settle]
              refine ⟨.tuple #[.agg cur9, .int .i64 s3, .int .i64 (oS g.d T4 17)], ?_, cur9, ?_, ?_, ?_⟩
              · have kk : (loadVar 2 ⟨K3, 0, none⟩).run Try.prog w9 = .ok (.int .i64 (oS g.d T4 17)) w9 := by simp [go_sem, c9]
                exact results_ctc (fn := Try.f59) (p := 4) (u := 5) (q := 6) (ty := 32) (ty2 := 2) rfl _ w9 ⟨K2, 0, none⟩ ⟨K3, 0, none⟩ (.agg cur9) (.int .i64 (oS g.d T4 17)) rfl rfl (loadVar_wat w9 K2 cur9 r2 s9) kk
              · rw [ES.out, EO.out]
              · rw [ET.out]; exact i2
              · exact B9.out
end Go.Proofs.Ytfdoehakpeddnaa
