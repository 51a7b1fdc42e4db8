/- Roofs read from texts: the model's side. -/
import Derived.Test.YtgdhfcpmeaeioaaDoorRrL
import Derived.Test.YtgdhfcpmeaeioaaDoorCourse
import Derived.Test.YtgdhfcpmeaeioaaDoorEnd
import Derived.Test.YtgdhfcpmeaeioaaDoorGive
namespace Go.Proofs.YtgdhfcpmeaeioaaDoor
open Go.RowKit

set_option maxRecDepth 100000 in
set_option maxHeartbeats 20000000 in
theorem specReadRoof_B (s : ByteArray) (w : World) (hs : s.size ≤ 2000000) (hx : rSh (splitL 10 s.data.toList).1 = 1) (F : Array Value) (hF : rrA s.data.toList = F) :
    Calls Tryd.prog 8 #[.string s] w fun e w' => e = .returned (.tuple #[.agg F, .int .i64 (rrC s.data.toList)]) ∧ Below w.heap.size w w' := by
  obtain ⟨V, hV⟩ : ∃ V, rrC s.data.toList = V := ⟨_, rfl⟩
  rw [hV]
  obtain ⟨T, hT⟩ : ∃ T, s.data.toList = T := ⟨_, rfl⟩
  have hlT : T.length = s.size := by rw [← hT]; exact str_len s
  have CS := fun W => l01Split_any s 10 W hs
  rw [hT] at hF hV CS hx
  have HQ0 := Lib.hid hx
  clear hx
  have hFI : IsRoof F (rrQ T) := by rw [← hF]; exact rrA_is T
  have hFs := hFI.size
  have hFo := hFI.ones
  have hzr : Tryd.zeroCells26 = mkR 0 0 0 (fun _ => 0) := IsRoof.uniqR zroof_is (mkR_is (by omega) (by omega) (by omega) (fun _ _ => by omega))
  have hbad : ¬ goodRT T → V = 5 ∧ Hid (F = mkR 0 0 0 (fun _ => 0)) := fun h => ⟨by rw [← hV]; exact rrC_no h, Lib.hid (by rw [← hF]; exact rrA_no h)⟩
  have HF := Lib.hid hF
  have HV := Lib.hid hV
  have HZ := Lib.hid hzr
  have HB := Lib.hid hbad
  have zs := size_mkR 0 0 0 (fun _ => 0)
  have hzs := zroof_size
  have hzo := zroof_ones
  clear hF hV hzr hbad hT hFI
  go_enter Tryd.func8, Tryd.ntmps8
  go_wp2_with fail
  refine gen_callsW fun W0 hW => ?_
  have p0 : rowAt W0 w.heap.size = some (mkR 0 0 0 (fun _ => 0)) := by rw [hW, ← HZ.out]; exact rowAt_alloc_at _ _ _ _ rfl
  have pB : Below w.heap.size w W0 := by rw [hW]; exact (Below.refl _ _).alloc (Nat.le_refl _) _
  clear hW
  refine (CS _).mono ?_
  rintro e w1 ⟨v, A, last, rfl, hS, own, b1⟩
  obtain ⟨g, cap, cur, rfl, hcap, hg, hrow, hcell⟩ := strs_row own
  have q0 := brow b1 p0
  have qB := bnext pB b1 pB.size
  have l0 := rowAt_lt p0
  have hsp : splitL 10 T = (A, last) := by
    obtain ⟨e1, e2⟩ := (splitL_is 10 T).uniq hS
    exact Prod.ext e1 e2
  have hgood : goodRT T ↔ last = [] ∧ GoodR A := by unfold goodRT; rw [hsp]
  have hrA : goodRT T → rrA T = mkR (rWi A) A.length (rSh A) (tR A A.length 0) := fun h => by rw [rrA_ok h, hsp]
  have hAl := hS.len
  obtain ⟨b0, hb0⟩ : ∃ b0, (A ++ [last]).getD 0 [] = b0 := ⟨_, rfl⟩
  have hb0l : b0.length ≤ 2000000 := by
    have hj : ∀ l ∈ A ++ [last], l.length ≤ (joinL 10 A last).length := fun l hl => by
      rcases List.mem_append.1 hl with hl | hl
      · obtain ⟨x, y, e⟩ := List.append_of_mem hl
        rw [e]; simp [joinL]; omega
      · rw [List.mem_singleton.1 hl]; simp [joinL]
    rw [hS.eq] at hj
    have hm : b0 ∈ A ++ [last] := by
      rw [← hb0, List.getD_eq_getElem?_getD, List.getElem?_eq_getElem (by simp), Option.getD_some]
      exact List.getElem_mem _
    have := hj b0 hm
    omega
  have c0 : w1.cell? ⟨g, 0, none⟩ = some (.string ⟨b0.toArray⟩) := (cell_of_rowAt hrow 0).trans (by rw [hcell 0 (by simp), hb0])
  have cl : w1.cell? ⟨g, A.length, none⟩ = some (.string ⟨last.toArray⟩) := (cell_of_rowAt hrow _).trans (by
    rw [hcell A.length (by simp)]
    simp [List.getD_eq_getElem?_getD])
  have hgl : w.heap.size < g := by omega
  have i2 : (A.length : Int) ≤ 2000000 := by omega
  have i1 : (A.length : Int) < A.length + 1 := by omega
  have i0 : (0 : Int) ≤ A.length := by omega
  have i3 : (0 : Int) < A.length + 1 := by omega
  have b0i : (b0.length : Int) ≤ 2000000 := by omega
  have HC := Lib.hid hcell
  have HS := Lib.hid hS
  have HrA := Lib.hid hrA
  have HGood := Lib.hid hgood
  have HSP := Lib.hid hsp
  have HB0 := Lib.hid hb0
  have HTL := Lib.hid hlT
  clear hcell hS hrA hgood hsp hb0 own b1 p0 pB CS hAl hlT
  by_cases hl : last = []
  · subst hl
    by_cases hh : 1 ≤ A.length ∧ A.length ≤ 8
    · have hin : inB (A.length : Int) 1 8 = true := by simp [inB]; omega
      have hA0 : A.getD 0 [] = b0 := by
        rw [← HB0.out, List.getD_eq_getElem?_getD, List.getD_eq_getElem?_getD, List.getElem?_append_left (by omega)]
      have HB5 : Hid (¬ GoodR A → V = 5 ∧ Hid (F = mkR 0 0 0 (fun _ => 0))) := Lib.hid fun h => HB.out fun g => h (HGood.out.1 g).2
      have a1 := hh.1
      have h9 := hh.2
      have a8 : (A.length : Int) ≤ 8 := by omega
      by_cases hw : 2 ≤ b0.length ∧ b0.length ≤ 9
      · obtain ⟨wi, hwi⟩ : ∃ wi : Nat, b0.length = wi + 1 := ⟨b0.length - 1, by omega⟩
        have hbs1 : (b0.length : Int) = wi + 1 := by omega
        have hinw : inB (wi : Int) 1 8 = true := by simp [inB]; omega
        have hrw : rWi A = wi := by unfold rWi; rw [hA0, hwi]; rfl
        have wi1 : 1 ≤ wi := by omega
        have wi8 : wi ≤ 8 := by omega
        have z1 : (1 : Int) ≤ wi := by omega
        have z8 : (wi : Int) ≤ 8 := by omega
        have HRW := Lib.hid hrw
        obtain ⟨sh, hsh⟩ : ∃ sh, rSh A = sh := ⟨_, rfl⟩
        have sh1 : sh ≤ 1 := by rw [← hsh]; exact rSh_bd A
        have HG2 : Hid (GoodR A → ∀ i, i < A.length → lineR wi (rBy A i) (A.getD i [])) := Lib.hid fun g i hi => by
          have := g.ok i hi; rwa [hrw] at this
        have HG3 : Hid ((∀ i, i < A.length → lineR wi (rBy A i) (A.getD i [])) → GoodR A) := Lib.hid fun h => ⟨a1, h9, by rw [hA0]; omega, by rw [hA0]; omega, fun i hi => by rw [hrw]; exact h i hi⟩
        have HX0 : Hid (mkR wi A.length 0 (fun _ => 0) = mkR wi A.length 0 (tR A 0 0)) := Lib.hid (mkR_congr fun i _ => by unfold tR; rw [if_neg (by omega)])
        have HXE : Hid (GoodR A → F = mkR wi A.length sh (tR A A.length 0)) := Lib.hid fun g => by rw [← HF.out, HrA.out (HGood.out.2 ⟨rfl, g⟩), hrw, hsh]
        have HV0 : Hid (GoodR A → V = 0) := Lib.hid fun g => by rw [← HV.out]; exact rrC_ok (HGood.out.2 ⟨rfl, g⟩)
        have HXI : Hid (∀ n, IsRoof (mkR wi A.length sh (tR A n 0)) ⟨wi, A.length, sh, tR A n 0⟩) := Lib.hid fun n => mkR_is (by omega) (by omega) (by omega) (fun i _ => tR_bd _ _ _ _)
        have hX1 : (Tryd.zeroCells26.setIfInBounds 0 (.int .i8 wi)).setIfInBounds 1 (.int .i8 (A.length : Int)) = mkR wi A.length 0 (tR A 0 0) := by rw [HZ.out, mkR_wide, mkR_high, HX0.out]
        have hX1s : ((Tryd.zeroCells26.setIfInBounds 0 (.int .i8 wi)).setIfInBounds 1 (.int .i8 (A.length : Int))).size = 67 := by rw [hX1, size_mkR]
        have hX1o : Ones ((Tryd.zeroCells26.setIfInBounds 0 (.int .i8 wi)).setIfInBounds 1 (.int .i8 (A.length : Int))) := by rw [hX1]; exact mkR_ones _ _ _ _
        have HX1 := Lib.hid hX1
        have hline : Hid (∀ j, j < A.length → cur[j]? = some (.string ⟨(A.getD j []).toArray⟩)) := Lib.hid fun j hj => by
          have := HC.out j (by simp; omega)
          rw [this]
          congr 4
          simp [List.getD_eq_getElem?_getD, List.getElem?_append_left hj]
        have hAl2 : Hid (∀ n, n < A.length → (A.getD n []).length ≤ 2000000) := Lib.hid fun n hn => by
          have hm : A.getD n [] ∈ A := by rw [List.getD_eq_getElem?_getD, List.getElem?_eq_getElem hn, Option.getD_some]; exact List.getElem_mem _
          have hall : ∀ l ∈ A, l.length ≤ (joinL 10 A []).length := fun l hl => by
            obtain ⟨x, y, e⟩ := List.append_of_mem hl
            rw [e]; simp [joinL]; omega
          have hj := hall _ hm
          rw [HS.out.eq, HTL.out] at hj
          omega
        have hb0s : 0 < (⟨b0.toArray⟩ : ByteArray).size := by rw [txt_size]; omega
        have hb0x : (⟨b0.toArray⟩ : ByteArray)[0]'hb0s = b0.getD 0 0 := by
          have e : (⟨b0.toArray⟩ : ByteArray)[0]'hb0s = b0[0]'(by omega) := rfl
          rw [e, List.getD_eq_getElem?_getD, List.getElem?_eq_getElem (by omega), Option.getD_some]
        have hcases : ((((⟨b0.toArray⟩ : ByteArray)[0]'hb0s).toNat : Int) == 45) = false ∧ Hid (sh = 0) ∨ ((((⟨b0.toArray⟩ : ByteArray)[0]'hb0s).toNat : Int) == 45) = true ∧ Hid (sh = 1) := by
          unfold rSh at hsh
          rw [hA0] at hsh
          by_cases e : b0.getD 0 0 = 45
          · rw [if_pos e] at hsh
            exact .inr ⟨by rw [hb0x, e]; rfl, Lib.hid hsh.symm⟩
          · rw [if_neg e] at hsh
            exact .inl ⟨by rw [hb0x, beq_eq_false_iff_ne]; exact fun h => e (UInt8.toNat_inj.1 (by rw [show (45 : UInt8).toNat = 45 from rfl]; omega)), Lib.hid hsh.symm⟩
        have lg := rowAt_lt hrow
        have ca := fun o => (cell_of_rowAt ((rowAt_alloc_past w1 o g lg).trans hrow) 0).trans ((cell_of_rowAt hrow 0).symm.trans c0)
        have HSh := Lib.hid hsh
        clear hrw hsh hwi hw hb0l hX1 hA0 hb0x HC
        go_wp2_with fail
        refine (l00In_any _ _ _ _).mono ?_
        rintro e w2 ⟨rfl, rfl⟩
        rw [hin]
        go_wp2_with fail
        refine (l00In_any _ _ _ _).mono ?_
        rintro e w2 ⟨rfl, rfl⟩
        rw [hinw]
        have lq := rowAt_lt q0
        have p8a : rowAt (w1.alloc (.cells ((Tryd.zeroCells26.setIfInBounds 0 (.int .i8 wi)).setIfInBounds 1 (.int .i8 (A.length : Int))) 26)) w1.heap.size = some (mkR wi A.length 0 (tR A 0 0)) := by rw [HX1.out]; exact rowAt_alloc_at _ _ _ _ rfl
        have e2 : ((w1.alloc (.cells ((Tryd.zeroCells26.setIfInBounds 0 (.int .i8 wi)).setIfInBounds 1 (.int .i8 (A.length : Int))) 26)).cell? ⟨w1.heap.size, 2, none⟩).isSome = true := by rw [cell_of_rowAt p8a, (mkR_hd _ _ _ _).2.2]; rfl
        obtain ⟨y2, hy2⟩ := Option.isSome_iff_exists.1 e2
        have f2 := frozen_of_rowAt p8a 2
        have n0 : w1.heap.size ≠ w.heap.size := by omega
        have n1 : w1.heap.size ≠ g := by omega
        have n8b : w.heap.size ≤ w1.heap.size := by omega
        clear e2
        rcases hcases with ⟨hb1, hsv⟩ | ⟨hb1, hsv⟩
        · exfalso
          have e0 := HQ0.out
          rw [HSP.out] at e0
          have e1 := HSh.out
          have e2 := hsv.out
          have e3 : rSh A = 1 := e0
          omega
        all_goals
          go_wp2_with fail
          refine gen_world fun W5 hW => ?_
          have t0 : rowAt W5 w.heap.size = some (mkR 0 0 0 (fun _ => 0)) := by
            rw [hW]
            first
            | exact (rowAt_alloc_past _ _ _ lq).trans q0
            | exact (rowAt_setCell_ne _ _ _ _ _ n0.symm).trans ((rowAt_alloc_past _ _ _ lq).trans q0)
          have t1 : rowAt W5 g = some cur := by
            rw [hW]
            first
            | exact (rowAt_alloc_past _ _ _ lg).trans hrow
            | exact (rowAt_setCell_ne _ _ _ _ _ n1.symm).trans ((rowAt_alloc_past _ _ _ lg).trans hrow)
          have t7 : rowAt W5 w1.heap.size = some (mkR wi A.length sh (tR A 0 0)) := by
            rw [hW, hsv.out]
            first
            | exact p8a
            | (rw [rowAt_setCell_at _ _ _ _ (by rw [p8a]; rfl), p8a, Option.getD_some, mkR_shift]; rfl)
            | (refine (rowAt_alloc_at _ _ _ _ rfl).trans ?_; rw [HX1.out, mkR_shift]; rfl)
          have tB : Below w.heap.size w W5 := by
            rw [hW]
            first
            | exact qB.alloc qB.size _
            | exact (qB.alloc qB.size _).setCell (p := ⟨w1.heap.size, 2, none⟩) n8b _
          have PK := Lib.hid (And.intro HB5 (And.intro HG2 (And.intro HG3 (And.intro HXE (And.intro HV0 (And.intro HXI (And.intro hline (And.intro hAl2 (And.intro HRW HSh)))))))))
          clear hW q0 hrow qB p8a f2 hy2 c0 cl ca hX1s hX1o hb1 hcap lg lq HB5 HG2 HG3 HXE HV0 HXI hline hAl2 HRW HSh HF HV HB HS HrA HGood HSP HB0 HTL HX0 HX1
          iterate 3 (try clear hs; try clear i0; try clear i1; try clear i2; try clear i3; try clear b0i; try clear hbs1; try clear hin; try clear hinw; try clear hh; try clear hg; try clear l0; try clear hgl)
          go_loopw [8] (fun i W' => ∃ n : Nat, n ≤ A.length ∧ i = .int .i64 n ∧ Hid (∀ i, i < n → lineR wi (rBy A i) (A.getD i [])) ∧ rowAt W' w.heap.size = some (mkR 0 0 0 (fun _ => 0)) ∧ rowAt W' g = some cur ∧ rowAt W' w1.heap.size = some (mkR wi A.length sh (tR A n 0)) ∧ Below w.heap.size w W') (fun i _ => A.length - (intOf i).toNat)
          case atStart => exact ⟨0, by omega, rfl, Lib.hid (fun i hi => by omega), t0, t1, t7, tB⟩
          case round =>
            clear t0 t1 t7 tB
            obtain ⟨n, hn, rfl, hok, r0, r1, r7, rB⟩ := hrel
            by_cases hlt : n < A.length
            · obtain ⟨l, hl⟩ : ∃ l, A.getD n [] = l := ⟨_, rfl⟩
              have cn : wr.cell? ⟨g, n, none⟩ = some (.string ⟨l.toArray⟩) := (cell_of_rowAt r1 n).trans (by rw [← hl]; exact PK.out.2.2.2.2.2.2.1.out n hlt)
              have HL := Lib.hid hl
              have y0 : (0 : Int) ≤ n := by omega
              have y1 : (n : Int) < A.length := by omega
              have y8 : (n : Int) < 8 := by omega
              have y9 : (n : Int) < A.length + 1 := by omega
              have hll0 : l.length ≤ 2000000 := by rw [← hl]; exact PK.out.2.2.2.2.2.2.2.1.out n hlt
              obtain ⟨X, hX⟩ : ∃ X, mkR wi A.length sh (tR A n 0) = X := ⟨_, rfl⟩
              have CB := fun W (hW : rowAt W w1.heap.size = some X) => l01By_any w1.heap.size X ⟨wi, A.length, sh, tR A n 0⟩ n W hW (by rw [← hX]; exact PK.out.2.2.2.2.2.1.out n) (by omega)
              have hbn : rBy A n = (n + sh) % 2 := by unfold rBy; rw [PK.out.2.2.2.2.2.2.2.2.2.out]
              have hby : (⟨wi, A.length, sh, tR A n 0⟩ : Rf).by n = (((n + sh) % 2 : Nat) : Int) := by show ((n : Int) + (sh : Int)) % 2 = _; omega
              have hXZ : X.size = 67 := by rw [← hX]; exact size_mkR _ _ _ _
              rw [hX] at r7
              have HXX := Lib.hid hX
              clear hX hl
              obtain ⟨b, hb⟩ : ∃ b, (n + sh) % 2 = b := ⟨_, rfl⟩
              have b1 : b ≤ 1 := by omega
              rw [hb] at hby hbn
              obtain ⟨c, hc⟩ : ∃ c, 1 - b = c := ⟨_, rfl⟩
              obtain ⟨ix, hixe⟩ : ∃ ix, (1 - b) * wi = ix := ⟨_, rfl⟩
              have HIX := Lib.hid hixe
              have hixw : ix ≤ wi := by
                rw [← hixe]
                exact Nat.le_trans (Nat.mul_le_mul_right wi (show 1 - b ≤ 1 by omega)) (by omega)
              have hsub : (1 : Int) - b = c := by omega
              have c0' : (0 : Int) ≤ c := by omega
              have c1' : (c : Int) ≤ 1 := by omega
              have hmul : (c : Int) * wi = ix := by rw [← hixe, hc]; push_cast; rfl
              have b0' : (0 : Int) ≤ b := by omega
              have b1' : (b : Int) ≤ 1 := by omega
              clear hb hc hixe
              have CB2 : ∀ W, rowAt W w1.heap.size = some X → Calls Tryd.prog 28 #[.pointer (some ⟨w1.heap.size, 0, none⟩), .int .i64 n] W fun e w' => e = .returned (.int .i64 b) ∧ W = w' := fun W hW => by
                have := CB W hW; rw [hby] at this; exact this
              clear CB hby
              by_cases hlen : l.length = wi + 1
              · have hsz1 : ((l.length : Int) != wi + 1) = false := by rw [hlen]; simp
                have hix : ix < (⟨l.toArray⟩ : ByteArray).size := by rw [txt_size]; omega
                have hixI : ((ix : Nat) : Int) < (wi : Int) + 1 := by omega
                have hixJ : (0 : Int) ≤ ((ix : Nat) : Int) := by omega
                have hgx : (⟨l.toArray⟩ : ByteArray)[ix]'hix = l.getD ix 0 := by
                  have e : (⟨l.toArray⟩ : ByteArray)[ix]'hix = l[ix]'(by omega) := rfl
                  rw [e, List.getD_eq_getElem?_getD, List.getElem?_eq_getElem (by omega), Option.getD_some]
                by_cases h45 : l.getD ix 0 = 45
                · have e45 : ((((⟨l.toArray⟩ : ByteArray)[ix]'hix).toNat : Int) != 45) = false := by rw [hgx, h45]; rfl
                  have H45 := Lib.hid h45
                  clear hgx h45
                  go_wp2_with fail
                  refine (CB2 _ r7).mono ?_
                  rintro e w5 ⟨rfl, rfl⟩
                  clear CB2
                  go_wp2_with fail
                  clear cn
                  have HBN := Lib.hid hbn
                  clear hbn
                  rw [← HXX.out] at r7
                  clear hXZ
                  go_loopw [10] (fun i W' => ∃ k : Nat, k ≤ wi ∧ i = .int .i64 k ∧ Hid (∀ j, j < k → kl (l.getD (j + b) 0) < 4) ∧ rowAt W' w.heap.size = some (mkR 0 0 0 (fun _ => 0)) ∧ rowAt W' g = some cur ∧ rowAt W' w1.heap.size = some (mkR wi A.length sh (tR A n k)) ∧ Below w.heap.size w W') (fun i _ => wi - (intOf i).toNat)
                  case atStart => exact ⟨0, by omega, rfl, Lib.hid (fun j hj => by omega), r0, r1, r7, rB⟩
                  case round =>
                    clear r0 r1 r7 rB
                    obtain ⟨k, hk, rfl, hkk, r0, r1, r7, rB⟩ := hrel
                    have cn : wr.cell? ⟨g, n, none⟩ = some (.string ⟨l.toArray⟩) := (cell_of_rowAt r1 n).trans (by rw [← HL.out]; exact PK.out.2.2.2.2.2.2.1.out n hlt)
                    by_cases hkl : k < wi
                    · have k0 : (0 : Int) ≤ k := by omega
                      have k1 : (k : Int) < wi := by omega
                      have k8 : (k : Int) < 8 := by omega
                      have hks : k + b < (⟨l.toArray⟩ : ByteArray).size := by rw [txt_size]; omega
                      have hk0I : (0 : Int) ≤ (k : Int) + b := by omega
                      have k9 : (k : Int) + b < (wi : Int) + 1 := by omega
                      have hkx : (⟨l.toArray⟩ : ByteArray)[k + b]'hks = l.getD (k + b) 0 := by
                        show _ = l.getD (k + b) 0
                        have e : (⟨l.toArray⟩ : ByteArray)[k + b]'hks = l[k + b]'(by rw [hlen]; omega) := rfl
                        rw [e, List.getD_eq_getElem?_getD, List.getElem?_eq_getElem (by omega), Option.getD_some]
                      have CL : ∀ W, Calls Tryd.prog 29 #[.int .u8 ((⟨l.toArray⟩ : ByteArray)[k + b]'hks).toNat] W fun e w' => e = .returned (.int .i64 (if kl (l.getD (k + b) 0) < 4 then (kl (l.getD (k + b) 0) : Int) else -1)) ∧ w' = W := fun W => by
                        rw [hkx]; exact l01Letter_any _ W
                      by_cases h4 : kl (l.getD (k + b) 0) < 4
                      · rw [if_pos h4] at CL
                        have hj64 : n * 8 + k < 64 := by omega
                        have HS : Hid ((mkR wi A.length sh (tR A n k)).setIfInBounds (3 + n * 8 + k) (.int .u8 (kl (l.getD (k + b) 0) : Int)) = mkR wi A.length sh (tR A n (k + 1))) := Lib.hid (by
                          rw [Nat.add_assoc, mkR_set hj64]
                          refine mkR_congr fun j _ => ?_
                          have := tR_one (A := A) (n := n) (k := k) (by rw [PK.out.2.2.2.2.2.2.2.2.1.out]; exact hkl) (by rw [PK.out.2.2.2.2.2.2.2.2.1.out]; omega) (j := j)
                          rw [HL.out, HBN.out] at this
                          exact this)
                        have HOK : Hid (∀ j, j < k + 1 → kl (l.getD (j + b) 0) < 4) := Lib.hid fun j hj => by
                          by_cases e : j = k
                          · subst e; exact h4
                          · exact hkk.out j (by omega)
                        obtain ⟨Q, hQ⟩ : ∃ Q, mkR wi A.length sh (tR A n k) = Q := ⟨_, rfl⟩
                        rw [hQ] at r7 HS
                        have hQs : Q.size = 67 := by rw [← hQ]; exact size_mkR _ _ _ _
                        have gcell := cell_of_rowAt r7
                        have gfro := frozen_of_rowAt r7
                        have hcx : 3 + n * 8 + k < 67 := by omega
                        have hcx2 : 3 + (n * 8 + k) < 67 := by omega
                        have HQ := Lib.hid r7
                        clear hQ
                        obtain ⟨x, hx⟩ : ∃ x, kl (l.getD (k + b) 0) = x := ⟨_, rfl⟩
                        rw [hx] at CL h4 HS
                        have x0 : (0 : Int) ≤ x := by omega
                        have x4 : (x : Int) < 4 := by omega
                        have xn : ¬ (x : Int) < 0 := by omega
                        clear h4 hkk hkx r7 hx
                        go_wp2_with fail
                        refine (CL _).mono ?_
                        rintro e w6 ⟨rfl, rfl⟩
                        clear CL
                        go_wp2_with fail
                        refine ⟨⟨k + 1, by omega, by go_num, HOK, (rowAt_setCell_ne _ _ _ _ _ n0.symm).trans r0, (rowAt_setCell_ne _ _ _ _ _ n1.symm).trans r1, ?_, rB.setCell (p := ⟨w1.heap.size, _, none⟩) n8b _⟩, by simp [intOf]; omega⟩
                        rw [rowAt_setCell_at _ _ _ _ (by rw [HQ.out]; rfl), HQ.out, Option.getD_some]
                        first
                        | exact congrArg some HS.out
                        | (rw [← Nat.add_assoc]; exact congrArg some HS.out)
                      · rw [if_neg h4] at CL
                        obtain ⟨rfl, hF⟩ := PK.out.1.out fun g => h4 (by have := (PK.out.2.1.out g n hlt).2.2 k hkl; rwa [HBN.out, HL.out] at this)
                        clear h4 hkk hkx r7
                        go_wp2_with fail
                        refine (CL _).mono ?_
                        rintro e w6 ⟨rfl, rfl⟩
                        clear CL
                        go_wp2_with fail
                        rw [HZ.out, ← hF.out]
                        refine bodyPost_ret (v := .tuple #[.agg F, .int .i64 5]) (results_row2 (m := 67) rfl _ _ w.heap.size _ _ rfl rfl (rowAt_setRow_at _ _ _ (Option.isSome_iff_exists.2 ⟨_, r0⟩)) Tryd.underlying26 rfl (by kernel_rfl) hFs) rfl ⟨rfl, ?_⟩
                        exact below_setRow rB (Nat.le_refl _) _
                    · obtain rfl : k = wi := by omega
                      have hok2 : Hid (∀ i, i < n + 1 → lineR k (rBy A i) (A.getD i [])) := Lib.hid fun i hi => by
                        by_cases e : i = n
                        · subst e; rw [HBN.out, HL.out]; exact ⟨hlen, by rw [HIX.out]; exact H45.out, hkk.out⟩
                        · exact hok.out i (by omega)
                      have hnx : mkR k A.length sh (tR A n k) = mkR k A.length sh (tR A (n + 1) 0) := mkR_congr fun j _ => by
                        have := tR_next (A := A) (n := n) (j := j); rwa [PK.out.2.2.2.2.2.2.2.2.1.out] at this
                      rw [hnx] at r7
                      clear hnx hkk
                      go_wp2_with fail
                      refine ⟨⟨n + 1, by omega, by go_num, hok2, r0, r1, r7, rB⟩, by simp [intOf]; omega⟩
                · have e45 : ((((⟨l.toArray⟩ : ByteArray)[ix]'hix).toNat : Int) != 45) = true := by
                    rw [hgx, bne_iff_ne]; exact fun e => h45 (UInt8.toNat_inj.1 (by rw [show (45 : UInt8).toNat = 45 from rfl]; omega))
                  obtain ⟨rfl, hF⟩ := PK.out.1.out fun g => h45 (by have := (PK.out.2.1.out g n hlt).2.1; rw [hbn, HL.out, HIX.out] at this; exact this)
                  clear hgx h45
                  go_wp2_with fail
                  refine (CB2 _ r7).mono ?_
                  rintro e w5 ⟨rfl, rfl⟩
                  clear CB2
                  go_wp2_with fail
                  rw [HZ.out, ← hF.out]
                  refine bodyPost_ret (v := .tuple #[.agg F, .int .i64 5]) (results_row2 (m := 67) rfl _ _ w.heap.size _ _ rfl rfl (rowAt_setRow_at _ _ _ (Option.isSome_iff_exists.2 ⟨_, r0⟩)) Tryd.underlying26 rfl (by kernel_rfl) hFs) rfl ⟨rfl, ?_⟩
                  exact below_setRow rB (Nat.le_refl _) _
              · have hsz1 : ((l.length : Int) != wi + 1) = true := by rw [bne_iff_ne]; omega
                obtain ⟨rfl, hF⟩ := PK.out.1.out fun g => hlen (by have := (PK.out.2.1.out g n hlt).1; rwa [HL.out] at this)
                have hll : (l.length : Int) ≤ 2000000 := by omega
                clear hlen
                go_wp2_with fail
                refine (CB2 _ r7).mono ?_
                rintro e w5 ⟨rfl, rfl⟩
                clear CB2
                go_wp2_with fail
                rw [HZ.out, ← hF.out]
                refine bodyPost_ret (v := .tuple #[.agg F, .int .i64 5]) (results_row2 (m := 67) rfl _ _ w.heap.size _ _ rfl rfl (rowAt_setRow_at _ _ _ (Option.isSome_iff_exists.2 ⟨_, r0⟩)) Tryd.underlying26 rfl (by kernel_rfl) hFs) rfl ⟨rfl, ?_⟩
                exact below_setRow rB (Nat.le_refl _) _
            · obtain rfl : n = A.length := by omega
              have hG := PK.out.2.2.1.out hok.out
              obtain rfl := PK.out.2.2.2.2.1.out hG
              have hFe := PK.out.2.2.2.1.out hG
              rw [← hFe] at r7
              clear hFe hG
              go_wp2_with fail
              refine bodyPost_ret (v := .tuple #[.agg F, .int .i64 0]) (results_row2 (m := 67) rfl _ _ w.heap.size _ _ rfl rfl (rowAt_setRow_at _ _ _ (Option.isSome_iff_exists.2 ⟨_, r0⟩)) Tryd.underlying26 rfl (by kernel_rfl) hFs) rfl ⟨rfl, ?_⟩
              exact below_setRow rB (Nat.le_refl _) _
      · have hng : ¬ GoodR A := fun g => hw ⟨by have := g.w1; rwa [hA0] at this, by have := g.w8; rwa [hA0] at this⟩
        obtain ⟨rfl, hF⟩ := HB5.out hng
        have hinw : inB ((b0.length : Int) - 1) 1 8 = false := by simp [inB]; omega
        clear hw hng hA0
        go_wp2_with fail
        refine (l00In_any _ _ _ _).mono ?_
        rintro e w2 ⟨rfl, rfl⟩
        rw [hin]
        go_wp2_with fail
        refine (l00In_any _ _ _ _).mono ?_
        rintro e w2 ⟨rfl, rfl⟩
        rw [hinw]
        go_wp2_with fail
        rw [HZ.out, ← hF.out]
        refine bodyPost_ret (v := .tuple #[.agg F, .int .i64 5]) (results_row2 (m := 67) rfl _ _ w.heap.size _ _ rfl rfl (rowAt_setRow_at _ _ _ (Option.isSome_iff_exists.2 ⟨_, q0⟩)) Tryd.underlying26 rfl (by kernel_rfl) hFs) rfl ⟨rfl, ?_⟩
        exact below_setRow qB (Nat.le_refl _) _
    · have hin : inB (A.length : Int) 1 8 = false := by simp [inB]; omega
      obtain ⟨rfl, hF⟩ := HB.out fun g => hh ⟨(HGood.out.1 g).2.h1, (HGood.out.1 g).2.h8⟩
      clear hh
      go_wp2_with fail
      refine (l00In_any _ _ _ _).mono ?_
      rintro e w2 ⟨rfl, rfl⟩
      rw [hin]
      go_wp2_with fail
      rw [HZ.out, ← hF.out]
      refine bodyPost_ret (v := .tuple #[.agg F, .int .i64 5]) (results_row2 (m := 67) rfl _ _ w.heap.size _ _ rfl rfl (rowAt_setRow_at _ _ _ (Option.isSome_iff_exists.2 ⟨_, q0⟩)) Tryd.underlying26 rfl (by kernel_rfl) hFs) rfl ⟨rfl, ?_⟩
      exact below_setRow qB (Nat.le_refl _) _
  · obtain ⟨rfl, hF⟩ := HB.out fun g => hl (HGood.out.1 g).1
    have hle : last.isEmpty = false := by cases last with | nil => exact absurd rfl hl | cons x y => rfl
    clear hl
    go_wp2_with fail
    rw [HZ.out, ← hF.out]
    refine bodyPost_ret (v := .tuple #[.agg F, .int .i64 5]) (results_row2 (m := 67) rfl _ _ w.heap.size _ _ rfl rfl (rowAt_setRow_at _ _ _ (Option.isSome_iff_exists.2 ⟨_, q0⟩)) Tryd.underlying26 rfl (by kernel_rfl) hFs) rfl ⟨rfl, ?_⟩
    exact below_setRow qB (Nat.le_refl _) _
end Go.Proofs.YtgdhfcpmeaeioaaDoor
