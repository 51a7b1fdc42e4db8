/- Roofs read from texts: the program's side. -/
import Derived.Test.YtgdhfcpmeaeioaaDoorRrI
import Derived.Test.YtgdhfcpmeaeioaaDoorCourse
import Derived.Deep.RegionHeld3
namespace Go.Proofs.YtgdhfcpmeaeioaaDoor
open Go.RowKit

theorem ends_yes (m : List UInt8) : Lib.hasSuffix (m ++ [10]) [10] = true ∧ Lib.trimSuffix (m ++ [10]) [10] = m := by
  have h : Lib.hasSuffix (m ++ [10]) [10] = true := by unfold Lib.hasSuffix; rw [List.isSuffixOf_iff_suffix]; exact List.suffix_append _ _
  refine ⟨h, ?_⟩
  unfold Lib.trimSuffix
  rw [if_pos h]
  simp
theorem ends_no {l : List UInt8} (h : ¬ ∃ m, l = m ++ [10]) : Lib.hasSuffix l [10] = false := by
  cases e : Lib.hasSuffix l [10] with
  | false => rfl
  | true =>
    unfold Lib.hasSuffix at e
    rw [List.isSuffixOf_iff_suffix] at e
    obtain ⟨m, hm⟩ := e
    exact absurd ⟨m, hm.symm⟩ h
theorem pre_sh (A : List (List UInt8)) (l : List UInt8) (h : A.getD 0 [] = l) : Lib.hasPrefix l [45] = (rSh A == 1) := by
  unfold rSh
  rw [h]
  cases l with
  | nil => rfl
  | cons x m =>
    by_cases e : x = 45
    · subst e; rw [(prefix_yes m).1]; rfl
    · rw [prefix_no (fun ⟨m2, h2⟩ => e (List.cons.inj h2).1), if_neg (by simpa using e)]; rfl

set_option maxRecDepth 100000 in
set_option maxHeartbeats 20000000 in
theorem implReadRoof_any (s : ByteArray) (w : World) (mx : Int) (hmx : w.cell? ⟨4, 0, none⟩ = some (.int .i64 mx)) (hs : s.size ≤ 2000000) (F : Array Value) (hF : rrA s.data.toList = F) :
    Calls Tryd.prog 9 #[.string s] w fun e w' => e = .returned (.tuple #[.agg F, .int .i64 (rrC s.data.toList)]) ∧ Below w.heap.size w w' := by
  obtain ⟨V, hV⟩ : ∃ V, rrC s.data.toList = V := ⟨_, rfl⟩
  rw [hV]
  obtain ⟨T, hT⟩ : ∃ T, s.data.toList = T := ⟨_, rfl⟩
  have hlT : T.length = s.size := by rw [← hT]; exact str_len s
  have CC : ∀ W, Calls Tryd.prog 30 #[.string s, .string ⟨#[10]⟩] W fun e w' => e = .returned (.tuple #[.string ⟨(Lib.trimSuffix T [10]).toArray⟩, .bool (Lib.hasSuffix T [10])]) ∧ w' = W := fun W => by
    have := Any.strings_CutSuffix Tryd.lays104 s ⟨#[10]⟩ W (by omega)
    rw [hT] at this
    exact this
  rw [hT] at hF hV
  have hFI : IsRoof F (rrQ T) := by rw [← hF]; exact rrA_is T
  have hFs := hFI.size
  have hFo := hFI.ones
  have hzr : Tryd.zeroCells26 = mkR 0 0 0 (fun _ => 0) := IsRoof.uniqR zroof_is (mkR_is (by omega) (by omega) (by omega) (fun _ _ => by omega))
  have hbad : ¬ goodRT T → V = 5 ∧ Hid (F = mkR 0 0 0 (fun _ => 0)) := fun h => ⟨by rw [← hV]; exact rrC_no h, Lib.hid (by rw [← hF]; exact rrA_no h)⟩
  have HF := Lib.hid hF
  have HV := Lib.hid hV
  have HZ := Lib.hid hzr
  have HB := Lib.hid hbad
  have zs := size_mkR 0 0 0 (fun _ => 0)
  have hzs := zroof_size
  have hzo := zroof_ones
  clear hF hV hzr hbad hT
  by_cases he : ∃ body, T = body ++ [10]
  · obtain ⟨body, rfl⟩ := he
    rw [(ends_yes body).1, (ends_yes body).2] at CC
    have hbl : body.length + 1 = s.size := by rw [← hlT]; simp
    have hsp := split_body (T := body ++ [10]) (body := body) rfl
    have hIS := splitL_is 10 body
    obtain ⟨ls, hls⟩ : ∃ ls, (splitL 10 body).1 = ls := ⟨_, rfl⟩
    obtain ⟨last, hlast⟩ : ∃ last, (splitL 10 body).2 = last := ⟨_, rfl⟩
    rw [hls, hlast] at hsp hIS
    obtain ⟨A, hA⟩ : ∃ A, ls ++ [last] = A := ⟨_, rfl⟩
    have hAl : A.length = ls.length + 1 := by rw [← hA]; simp
    rw [hA] at hsp
    have hgood : goodRT (body ++ [10]) ↔ GoodR A := by unfold goodRT; rw [hsp]; exact ⟨fun h => h.2, fun h => ⟨rfl, h⟩⟩
    have hrA : goodRT (body ++ [10]) → rrA (body ++ [10]) = mkR (rWi A) A.length (rSh A) (tR A A.length 0) := fun h => by rw [rrA_ok h, hsp]
    have hbsz : (⟨body.toArray⟩ : ByteArray).size = body.length := txt_size body
    have hISb : IsSplit 10 (⟨body.toArray⟩ : ByteArray).data.toList ls last := by simpa using hIS
    have hlsb := hIS.len
    obtain ⟨N, hN⟩ : ∃ N, min 9 (body.length + 1) = N := ⟨_, rfl⟩
    obtain ⟨P, hP⟩ : ∃ P, Lib.splitB ⟨#[10]⟩ 0 (N - 1) ⟨body.toArray⟩ = P := ⟨_, rfl⟩
    have CS0 : ∀ W, W.cell? ⟨4, 0, none⟩ = some (.int .i64 mx) → Calls Tryd.prog 31 #[.string ⟨body.toArray⟩, .string ⟨#[10]⟩, .int .i64 9] W fun e w' => e = .returned (.slice (some ⟨W.heap.size, 0, none⟩) P.length N) ∧ w' = W.alloc (.cells (Lib.cellsOf P N) 9) := fun W hW => by
      have := Any.strings_SplitN Tryd.lays147 (by kernel_rfl) ⟨body.toArray⟩ ⟨#[10]⟩ 9 mx W (by rw [hbsz]; omega) hW (by decide) (by decide) (by decide)
      rw [hbsz, hN, hP] at this
      exact this
    obtain ⟨b0, hb0⟩ : ∃ b0, A.getD 0 [] = b0 := ⟨_, rfl⟩
    have hAl2 : ∀ n, n < A.length → (A.getD n []).length ≤ 2000000 := by
      have : ∀ l ∈ A, l.length ≤ (joinL 10 A []).length := fun l hl => by
        obtain ⟨x, y, e⟩ := List.append_of_mem hl
        rw [e]; simp [joinL]; omega
      have k := splitL_is 10 (body ++ [10])
      have e := k.eq
      rw [hsp] at e
      rw [e] at this
      intro n hn
      have := this _ (show A.getD n [] ∈ A by rw [List.getD_eq_getElem?_getD, List.getElem?_eq_getElem hn, Option.getD_some]; exact List.getElem_mem _)
      omega
    have hb0l : b0.length ≤ 2000000 := by rw [← hb0]; exact hAl2 0 (by omega)
    have hbs : (⟨b0.toArray⟩ : ByteArray).size = b0.length := txt_size b0
    by_cases h9 : A.length ≤ 8
    · have hNl : ls.length ≤ N - 1 := by omega
      have hPA : P = A.map fun l => ⟨l.toArray⟩ := by rw [← hP, (splitB_of hISb).1 hNl, hA]
      have hPl : P.length = A.length := by rw [hPA]; simp
      have hcell : ∀ j, j < A.length → (Lib.cellsOf P N)[j]? = some (.string ⟨(A.getD j []).toArray⟩) := fun j hj => by
        unfold Lib.cellsOf
        rw [hPA, List.getElem?_toArray, List.getElem?_append_left (by simpa using hj)]
        simp [hj]
      have h0 : (Lib.cellsOf P N)[0]? = some (.string ⟨b0.toArray⟩) := by rw [hcell 0 (by omega), hb0]
      rw [hPl] at CS0
      have HCell := Lib.hid hcell
      have HrA := Lib.hid hrA
      have HGood := Lib.hid hgood
      have HIS := Lib.hid hIS
      have hAN : A.length ≤ N := by omega
      have a1 : 1 ≤ A.length := by omega
      have a0 : (0 : Int) < A.length := by omega
      have a8 : (A.length : Int) ≤ 8 := by omega
      have HPA := Lib.hid hPA
      clear hP hPA hcell hrA hgood hIS hISb hsp hls hlast hA hPl hNl hlsb hN hlT hbl hAl
      have HB5 : Hid (¬ GoodR A → V = 5 ∧ Hid (F = mkR 0 0 0 (fun _ => 0))) := Lib.hid fun h => HB.out fun g => h (HGood.out.1 g)
      by_cases hw : 2 ≤ b0.length ∧ b0.length ≤ 9
      · obtain ⟨wi, hwi⟩ : ∃ wi : Nat, b0.length = wi + 1 := ⟨b0.length - 1, by omega⟩
        have hrw : rWi A = wi := by unfold rWi; rw [hb0, hwi]; rfl
        have wi1 : 1 ≤ wi := by omega
        have wi8 : wi ≤ 8 := by omega
        have z1 : (1 : Int) ≤ wi := by omega
        have z8 : (wi : Int) ≤ 8 := by omega
        have hbs1 : (b0.length : Int) = wi + 1 := by omega
        have CH : ∀ W, Calls Tryd.prog 32 #[.string ⟨b0.toArray⟩, .string ⟨#[45]⟩] W fun e w' => e = .returned (.bool (rSh A == 1)) ∧ w' = W := fun W => by
          have := Any.strings_HasPrefix Tryd.lays99 ⟨b0.toArray⟩ ⟨#[45]⟩ W
          have e : Lib.hasPrefix (⟨b0.toArray⟩ : ByteArray).data.toList (⟨#[45]⟩ : ByteArray).data.toList = (rSh A == 1) := pre_sh A b0 hb0
          rw [e] at this
          exact this
        obtain ⟨sh, hsh⟩ : ∃ sh, rSh A = sh := ⟨_, rfl⟩
        have sh1 : sh ≤ 1 := by rw [← hsh]; exact rSh_bd A
        have hby : ∀ i, rBy A i = (i + sh) % 2 := fun i => by unfold rBy; rw [hsh]
        rw [hsh] at CH
        have HBy := Lib.hid hby
        have HG2 : Hid (GoodR A → ∀ i, i < A.length → lineR wi ((i + sh) % 2) (A.getD i [])) := Lib.hid fun g i hi => by
          have := g.ok i hi; rwa [hrw, hby] at this
        have HG3 : Hid ((∀ i, i < A.length → lineR wi ((i + sh) % 2) (A.getD i [])) → GoodR A) := Lib.hid fun h => ⟨a1, h9, by rw [hb0]; omega, by rw [hb0]; omega, fun i hi => by rw [hrw, hby]; exact h i hi⟩
        have HTR : Hid (∀ n, (fun j => if j / 8 = n then (if j % 8 < wi then (kl ((A.getD n []).getD (j % 8 + (n + sh) % 2) 0) : Int) else 0) else tR A n 0 j) = tR A (n + 1) 0) := Lib.hid fun n => by
          funext j
          have := tR_row (A := A) (n := n) (j := j)
          rwa [hrw, hby] at this
        have HX0 : Hid (mkR wi A.length 0 (fun _ => 0) = mkR wi A.length 0 (tR A 0 0)) := Lib.hid (mkR_congr fun i _ => by unfold tR; rw [if_neg (by omega)])
        have HXE : Hid (GoodR A → F = mkR wi A.length sh (tR A A.length 0)) := Lib.hid fun g => by rw [← HF.out, HrA.out (HGood.out.2 g), hrw, hsh]
        have HV0 : Hid (GoodR A → V = 0) := Lib.hid fun g => by rw [← HV.out]; exact rrC_ok (HGood.out.2 g)
        have HXI : Hid (∀ x y : Nat, x ≤ 1 → ∀ n, IsRoof (mkR wi A.length x (tR A n 0)) ⟨wi, A.length, x, tR A n 0⟩) := Lib.hid fun x _ hx n => mkR_is (by omega) (by omega) (by omega) (fun i _ => tR_bd _ _ _ _)
        have hX1 : (Tryd.zeroCells26.setIfInBounds 0 (.int .i8 wi)).setIfInBounds 1 (.int .i8 (A.length : Int)) = mkR wi A.length 0 (tR A 0 0) := by rw [HZ.out, mkR_wide, mkR_high, HX0.out]
        have hX1s : ((Tryd.zeroCells26.setIfInBounds 0 (.int .i8 wi)).setIfInBounds 1 (.int .i8 (A.length : Int))).size = 67 := by rw [hX1, size_mkR]
        have hX1o : Ones ((Tryd.zeroCells26.setIfInBounds 0 (.int .i8 wi)).setIfInBounds 1 (.int .i8 (A.length : Int))) := by rw [hX1]; exact mkR_ones _ _ _ _
        have HX1 := Lib.hid hX1
        clear hX1
        clear hrw hsh hby hb0 hwi hw hb0l
        go_enter Tryd.func9, Tryd.ntmps9
        go_wp2_with fail
        refine gen_callsW fun W0 hW => ?_
        have p0 : rowAt W0 w.heap.size = some (mkR 0 0 0 (fun _ => 0)) := by rw [hW, ← HZ.out]; exact rowAt_alloc_at _ _ _ _ rfl
        have pB : Below w.heap.size w W0 := by rw [hW]; exact (Below.refl _ _).alloc (Nat.le_refl _) _
        clear hW
        refine (CC _).mono ?_
        rintro e w1 ⟨rfl, rfl⟩
        clear CC
        have CS := CS0 w1 (by rw [← hmx]; exact World.cell?_of_block (a := ⟨4, 0, none⟩) (pB.block _ (World.block_lt_of_cell? _ _ hmx)))
        clear CS0 hmx
        go_wp2_with fail
        refine CS.mono ?_
        rintro e w2 ⟨rfl, rfl⟩
        clear CS
        have l1 := rowAt_lt p0
        have q0 : rowAt (w1.alloc (.cells (Lib.cellsOf P N) 9)) w.heap.size = some (mkR 0 0 0 (fun _ => 0)) := (rowAt_alloc_past _ _ _ l1).trans p0
        have q1 : rowAt (w1.alloc (.cells (Lib.cellsOf P N) 9)) w1.heap.size = some (Lib.cellsOf P N) := rowAt_alloc_at _ _ _ _ rfl
        have qB : Below w.heap.size w (w1.alloc (.cells (Lib.cellsOf P N) 9)) := pB.alloc pB.size _
        generalize w1.alloc (.cells (Lib.cellsOf P N) 9) = w2 at *
        have c0 : w2.cell? ⟨w1.heap.size, 0, none⟩ = some (.string ⟨b0.toArray⟩) := (cell_of_rowAt q1 0).trans h0
        clear p0 pB
        have l2 := rowAt_lt q1
        have ca := fun o => (cell_of_rowAt ((rowAt_alloc_past w2 o w1.heap.size l2).trans q1) 0).trans h0
        go_wp2_with fail
        refine gen_callsW fun W3 hW => ?_
        have p0 : rowAt W3 w.heap.size = some (mkR 0 0 0 (fun _ => 0)) := by rw [hW]; exact (rowAt_alloc_past _ _ _ (rowAt_lt q0)).trans q0
        have p1 : rowAt W3 w1.heap.size = some (Lib.cellsOf P N) := by rw [hW]; exact (rowAt_alloc_past _ _ _ l2).trans q1
        have p8 : rowAt W3 w2.heap.size = some (mkR wi A.length 0 (tR A 0 0)) := by rw [hW, HX1.out]; exact rowAt_alloc_at _ _ _ _ rfl
        have pB : Below w.heap.size w W3 := by rw [hW]; exact qB.alloc qB.size _
        have n0 : w2.heap.size ≠ w.heap.size := by have := rowAt_lt q0; omega
        have n1 : w2.heap.size ≠ w1.heap.size := by omega
        clear hW ca q0 q1 qB c0 hX1s hX1o
        have e2 : (W3.cell? ⟨w2.heap.size, 2, none⟩).isSome = true := by rw [cell_of_rowAt p8, (mkR_hd _ _ _ _).2.2]; rfl
        obtain ⟨y2, hy2⟩ := Option.isSome_iff_exists.1 e2
        have f2 := frozen_of_rowAt p8 2
        refine (CH _).mono ?_
        rintro e w4 ⟨rfl, rfl⟩
        clear CH e2
        have lw8 := rowAt_lt p8
        have hcases : (sh == 1) = false ∧ Hid (sh = 0) ∨ (sh == 1) = true ∧ Hid (sh = 1) := by
          rcases (show sh = 0 ∨ sh = 1 by omega) with e | e
          · exact .inl ⟨by rw [e]; rfl, Lib.hid e⟩
          · exact .inr ⟨by rw [e]; rfl, Lib.hid e⟩
        rcases hcases with ⟨hb1, hsv⟩ | ⟨hb1, hsv⟩
        all_goals
          go_wp2_with fail
          refine gen_world fun W5 hW => ?_
          have q0 : rowAt W5 w.heap.size = some (mkR 0 0 0 (fun _ => 0)) := by rw [hW]; first | exact p0 | exact (rowAt_setCell_ne _ _ _ _ _ n0.symm).trans p0
          have q1 : rowAt W5 w1.heap.size = some (Lib.cellsOf P N) := by rw [hW]; first | exact p1 | exact (rowAt_setCell_ne _ _ _ _ _ n1.symm).trans p1
          have q8 : rowAt W5 w2.heap.size = some (mkR wi A.length sh (tR A 0 0)) := by
            rw [hW, hsv.out]
            first
            | exact p8
            | (rw [rowAt_setCell_at _ _ _ _ (by rw [p8]; rfl), p8, Option.getD_some, mkR_shift]; rfl)
          have qB : Below w.heap.size w W5 := by rw [hW]; first | exact pB | exact pB.setCell (p := ⟨w2.heap.size, 2, none⟩) (by simp; omega) _
          clear hW p0 p1 p8 pB f2 hy2
          go_loopw [53] (fun i W' => ∃ n : Nat, n ≤ A.length ∧ i = .int .i64 n ∧ Hid (∀ i, i < n → lineR wi ((i + sh) % 2) (A.getD i [])) ∧ rowAt W' w.heap.size = some (mkR 0 0 0 (fun _ => 0)) ∧ rowAt W' w1.heap.size = some (Lib.cellsOf P N) ∧ rowAt W' w2.heap.size = some (mkR wi A.length sh (tR A n 0)) ∧ Below w.heap.size w W') (fun i _ => A.length - (intOf i).toNat)
          case atStart => exact ⟨0, by omega, rfl, Lib.hid (fun i hi => by omega), q0, q1, q8, qB⟩
          case round =>
            clear q0 q1 q8 qB
            obtain ⟨n, hn, rfl, hok, r0, r1, r8, rB⟩ := hrel
            by_cases hlt : n < A.length
            · obtain ⟨l, hl⟩ : ∃ l, A.getD n [] = l := ⟨_, rfl⟩
              have cn : wr.cell? ⟨w1.heap.size, n, none⟩ = some (.string ⟨l.toArray⟩) := (cell_of_rowAt r1 n).trans (by rw [← hl]; exact HCell.out n hlt)
              have y0 : (0 : Int) ≤ n := by omega
              have y1 : (n : Int) < A.length := by omega
              have y8 : (n : Int) < 8 := by omega
              have hrl : l.length ≤ 2000000 := by rw [← hl]; exact hAl2 n hlt
              have CS := fun W => shifted_any (mkR wi A.length sh (tR A n 0)) ⟨wi, A.length, sh, tR A n 0⟩ n W (HXI.out sh 0 sh1 n) (by omega)
              have hby : ((⟨wi, A.length, sh, tR A n 0⟩ : Rf).by n == 1) = ((n + sh) % 2 == 1) := by
                rw [Bool.eq_iff_iff, beq_iff_eq, beq_iff_eq]; show ((n : Int) + (sh : Int)) % 2 = 1 ↔ _; omega
              have hT := HTR.out n
              rw [hl] at hT
              have HL := Lib.hid hl
              clear hl
              have hXZ0 := size_mkR wi A.length sh (tR A n 0)
              rcases (show (n + sh) % 2 = 0 ∨ (n + sh) % 2 = 1 by omega) with h2 | h2
              · have CR := fun W => readRow0 l wi W hrl wi1 wi8
                rw [h2] at hby hT
                have HT := Lib.hid hT
                have hby2 : ((⟨wi, A.length, sh, tR A n 0⟩ : Rf).by n == 1) = false := hby
                rw [hby2] at CS
                clear hT hby hby2
                obtain ⟨X, hX⟩ : ∃ X, mkR wi A.length sh (tR A n 0) = X := ⟨_, rfl⟩
                rw [hX] at r8 CS hXZ0
                have HXX := Lib.hid hX
                clear hX
                go_wp2_with fail
                refine (CS _).mono ?_
                rintro e w5 ⟨rfl, b5⟩
                have u0 := brow b5 r0
                have u1 := brow b5 r1
                have u8 := brow b5 r8
                have uB := bnext rB b5 rB.size
                clear b5 r0 r1 r8 rB CS cn
                go_wp2_with fail
                refine (CR _).mono ?_
                rintro e w6 ⟨⟨hline, rfl⟩ | ⟨hline, rfl⟩, b6⟩
                · have s0 := brow b6 u0
                  have s1 := brow b6 u1
                  have s8 := brow b6 u8
                  have sB := bnext uB b6 uB.size
                  have hok2 : Hid (∀ i, i < n + 1 → lineR wi ((i + sh) % 2) (A.getD i [])) := Lib.hid fun i hi => by
                    by_cases e : i = n
                    · subst e; rw [h2, HL.out]; exact hline
                    · exact hok.out i (by omega)
                  have l6 := rowAt_lt s8
                  have l60 := rowAt_lt s0
                  have l61 := rowAt_lt s1
                  obtain ⟨Y, hY⟩ : ∃ Y, mkI .u8 8 (fun k => if k < wi then (kl (l.getD (k + 0) 0) : Int) else 0) = Y := ⟨_, rfl⟩
                  have hYs : Y.size = 8 := by rw [← hY]; exact size_mkI _ _ _
                  have hYo : Ones Y := by rw [← hY]; exact (isK_mkI _ _ _).ones
                  have HY : Hid (splice X (3 + n * 8) Y = mkR wi A.length sh (tR A (n + 1) 0)) := Lib.hid (by rw [← HXX.out, ← hY, mkR_splice (by omega)]; rw [HT.out])
                  have n8b : w.heap.size ≤ w2.heap.size := by omega
                  have e8 := fun o => (rowAt_alloc_past w6 o w2.heap.size l6).trans s8
                  have hYv : (mkI .u8 8 (fun k => if k < wi then (kl (l.getD (k + 0) 0) : Int) else 0)) = Y := hY
                  rw [hYv]
                  have hXr : 3 + n * 8 + 8 ≤ X.size := by omega
                  clear b6 u0 u1 u8 uB CR hY hYv hline hXZ0
                  go_wp2_with fail
                  refine ⟨⟨n + 1, by omega, by go_num, hok2, ?_, ?_, ?_, ?_⟩, by simp [intOf]; omega⟩
                  · first
                    | exact (rowAt_setRow_ne _ _ _ _ n0.symm).trans ((rowAt_alloc_past _ _ _ l60).trans s0)
                    | exact (rowAt_alloc_past _ _ _ (by simpa using l60)).trans ((rowAt_setRow_ne _ _ _ _ n0.symm).trans s0)
                  · first
                    | exact (rowAt_setRow_ne _ _ _ _ n1.symm).trans ((rowAt_alloc_past _ _ _ l61).trans s1)
                    | exact (rowAt_alloc_past _ _ _ (by simpa using l61)).trans ((rowAt_setRow_ne _ _ _ _ n1.symm).trans s1)
                  · rw [← HY.out]
                    first
                    | exact rowAt_setRow_at _ _ _ (Option.isSome_iff_exists.2 ⟨_, e8 _⟩)
                    | exact (rowAt_alloc_past _ _ _ (by simpa using l6)).trans (rowAt_setRow_at _ _ _ (Option.isSome_iff_exists.2 ⟨_, s8⟩))
                  · first
                    | exact below_setRow (sB.alloc sB.size _) n8b _
                    | exact (below_setRow sB n8b _).alloc (by simpa using sB.size) _
                · obtain ⟨rfl, hF⟩ := HB5.out fun g => hline (by have := HG2.out g n hlt; rwa [h2, HL.out] at this)
                  have s0 := brow b6 u0
                  have sB := bnext uB b6 uB.size
                  have a0' := fun o => (rowAt_alloc_past w6 o w.heap.size (rowAt_lt s0)).trans s0
                  have z8s : (mkI .u8 8 (fun _ => 0)).size = 8 := size_mkI _ _ _
                  have z8o : Ones (mkI .u8 8 (fun _ => 0)) := (isK_mkI _ _ _).ones
                  clear b6 u0 u1 u8 uB CR hline
                  go_wp2_with fail
                  rw [HZ.out, ← hF.out]
                  refine bodyPost_ret (v := .tuple #[.agg F, .int .i64 5]) (results_row2 (m := 67) rfl _ _ w.heap.size _ _ rfl rfl (rowAt_setRow_at _ _ _ (Option.isSome_iff_exists.2 ⟨_, a0' _⟩)) Tryd.underlying26 rfl (by kernel_rfl) hFs) rfl ⟨rfl, ?_⟩
                  exact below_setRow (sB.alloc sB.size _) (Nat.le_refl _) _
              · have CR := fun W => readRow1 l wi W hrl wi1 wi8
                rw [h2] at hby hT
                have HT := Lib.hid hT
                have hby2 : ((⟨wi, A.length, sh, tR A n 0⟩ : Rf).by n == 1) = true := hby
                rw [hby2] at CS
                clear hT hby hby2
                obtain ⟨X, hX⟩ : ∃ X, mkR wi A.length sh (tR A n 0) = X := ⟨_, rfl⟩
                rw [hX] at r8 CS hXZ0
                have HXX := Lib.hid hX
                clear hX
                go_wp2_with fail
                refine (CS _).mono ?_
                rintro e w5 ⟨rfl, b5⟩
                have u0 := brow b5 r0
                have u1 := brow b5 r1
                have u8 := brow b5 r8
                have uB := bnext rB b5 rB.size
                clear b5 r0 r1 r8 rB CS cn
                go_wp2_with fail
                refine (CR _).mono ?_
                rintro e w6 ⟨⟨hline, rfl⟩ | ⟨hline, rfl⟩, b6⟩
                · have s0 := brow b6 u0
                  have s1 := brow b6 u1
                  have s8 := brow b6 u8
                  have sB := bnext uB b6 uB.size
                  have hok2 : Hid (∀ i, i < n + 1 → lineR wi ((i + sh) % 2) (A.getD i [])) := Lib.hid fun i hi => by
                    by_cases e : i = n
                    · subst e; rw [h2, HL.out]; exact hline
                    · exact hok.out i (by omega)
                  have l6 := rowAt_lt s8
                  have l60 := rowAt_lt s0
                  have l61 := rowAt_lt s1
                  obtain ⟨Y, hY⟩ : ∃ Y, mkI .u8 8 (fun k => if k < wi then (kl (l.getD (k + 1) 0) : Int) else 0) = Y := ⟨_, rfl⟩
                  have hYs : Y.size = 8 := by rw [← hY]; exact size_mkI _ _ _
                  have hYo : Ones Y := by rw [← hY]; exact (isK_mkI _ _ _).ones
                  have HY : Hid (splice X (3 + n * 8) Y = mkR wi A.length sh (tR A (n + 1) 0)) := Lib.hid (by rw [← HXX.out, ← hY, mkR_splice (by omega)]; rw [HT.out])
                  have n8b : w.heap.size ≤ w2.heap.size := by omega
                  have e8 := fun o => (rowAt_alloc_past w6 o w2.heap.size l6).trans s8
                  have hYv : (mkI .u8 8 (fun k => if k < wi then (kl (l.getD (k + 1) 0) : Int) else 0)) = Y := hY
                  rw [hYv]
                  have hXr : 3 + n * 8 + 8 ≤ X.size := by omega
                  clear b6 u0 u1 u8 uB CR hY hYv hline hXZ0
                  go_wp2_with fail
                  refine ⟨⟨n + 1, by omega, by go_num, hok2, ?_, ?_, ?_, ?_⟩, by simp [intOf]; omega⟩
                  · first
                    | exact (rowAt_setRow_ne _ _ _ _ n0.symm).trans ((rowAt_alloc_past _ _ _ l60).trans s0)
                    | exact (rowAt_alloc_past _ _ _ (by simpa using l60)).trans ((rowAt_setRow_ne _ _ _ _ n0.symm).trans s0)
                  · first
                    | exact (rowAt_setRow_ne _ _ _ _ n1.symm).trans ((rowAt_alloc_past _ _ _ l61).trans s1)
                    | exact (rowAt_alloc_past _ _ _ (by simpa using l61)).trans ((rowAt_setRow_ne _ _ _ _ n1.symm).trans s1)
                  · rw [← HY.out]
                    first
                    | exact rowAt_setRow_at _ _ _ (Option.isSome_iff_exists.2 ⟨_, e8 _⟩)
                    | exact (rowAt_alloc_past _ _ _ (by simpa using l6)).trans (rowAt_setRow_at _ _ _ (Option.isSome_iff_exists.2 ⟨_, s8⟩))
                  · first
                    | exact below_setRow (sB.alloc sB.size _) n8b _
                    | exact (below_setRow sB n8b _).alloc (by simpa using sB.size) _
                · obtain ⟨rfl, hF⟩ := HB5.out fun g => hline (by have := HG2.out g n hlt; rwa [h2, HL.out] at this)
                  have s0 := brow b6 u0
                  have sB := bnext uB b6 uB.size
                  have a0' := fun o => (rowAt_alloc_past w6 o w.heap.size (rowAt_lt s0)).trans s0
                  have z8s : (mkI .u8 8 (fun _ => 0)).size = 8 := size_mkI _ _ _
                  have z8o : Ones (mkI .u8 8 (fun _ => 0)) := (isK_mkI _ _ _).ones
                  clear b6 u0 u1 u8 uB CR hline
                  go_wp2_with fail
                  rw [HZ.out, ← hF.out]
                  refine bodyPost_ret (v := .tuple #[.agg F, .int .i64 5]) (results_row2 (m := 67) rfl _ _ w.heap.size _ _ rfl rfl (rowAt_setRow_at _ _ _ (Option.isSome_iff_exists.2 ⟨_, a0' _⟩)) Tryd.underlying26 rfl (by kernel_rfl) hFs) rfl ⟨rfl, ?_⟩
                  exact below_setRow (sB.alloc sB.size _) (Nat.le_refl _) _
            · obtain rfl : n = A.length := by omega
              have hG := HG3.out hok.out
              obtain rfl := HV0.out hG
              have hFe := HXE.out hG
              rw [← hFe] at r8
              clear hFe hG
              go_wp2_with fail
              refine bodyPost_ret (v := .tuple #[.agg F, .int .i64 0]) (results_row2 (m := 67) rfl _ _ w.heap.size _ _ rfl rfl (rowAt_setRow_at _ _ _ (Option.isSome_iff_exists.2 ⟨_, r0⟩)) Tryd.underlying26 rfl (by kernel_rfl) hFs) rfl ⟨rfl, ?_⟩
              exact below_setRow rB (Nat.le_refl _) _
      · have hng : ¬ GoodR A := fun g => hw ⟨by have := g.w1; rwa [hb0] at this, by have := g.w8; rwa [hb0] at this⟩
        obtain ⟨rfl, hF⟩ := HB5.out hng
        have b0i : (b0.length : Int) ≤ 2000000 := by omega
        rcases (show (b0.length : Int) - 1 < 1 ∨ ¬ (b0.length : Int) - 1 < 1 ∧ 8 < (b0.length : Int) - 1 by omega) with d1 | ⟨d1, d2⟩
        all_goals
          clear hw hng hb0 hbs hb0l
          go_enter Tryd.func9, Tryd.ntmps9
          go_wp2_with fail
          refine gen_callsW fun W0 hW => ?_
          have p0 : rowAt W0 w.heap.size = some (mkR 0 0 0 (fun _ => 0)) := by rw [hW, ← HZ.out]; exact rowAt_alloc_at _ _ _ _ rfl
          have pB : Below w.heap.size w W0 := by rw [hW]; exact (Below.refl _ _).alloc (Nat.le_refl _) _
          clear hW
          refine (CC _).mono ?_
          rintro e w1 ⟨rfl, rfl⟩
          clear CC
          have CS := CS0 w1 (by rw [← hmx]; exact World.cell?_of_block (a := ⟨4, 0, none⟩) (pB.block _ (World.block_lt_of_cell? _ _ hmx)))
          clear CS0 hmx
          go_wp2_with fail
          refine CS.mono ?_
          rintro e w2 ⟨rfl, rfl⟩
          clear CS
          have l1 := rowAt_lt p0
          have q0 : rowAt (w1.alloc (.cells (Lib.cellsOf P N) 9)) w.heap.size = some (mkR 0 0 0 (fun _ => 0)) := (rowAt_alloc_past _ _ _ l1).trans p0
          have q1 : rowAt (w1.alloc (.cells (Lib.cellsOf P N) 9)) w1.heap.size = some (Lib.cellsOf P N) := rowAt_alloc_at _ _ _ _ rfl
          have qB : Below w.heap.size w (w1.alloc (.cells (Lib.cellsOf P N) 9)) := pB.alloc pB.size _
          generalize w1.alloc (.cells (Lib.cellsOf P N) 9) = w2 at *
          have c0 : w2.cell? ⟨w1.heap.size, 0, none⟩ = some (.string ⟨b0.toArray⟩) := (cell_of_rowAt q1 0).trans h0
          clear p0 pB
          go_wp2_with fail
          rw [HZ.out, ← hF.out]
          refine bodyPost_ret (v := .tuple #[.agg F, .int .i64 5]) (results_row2 (m := 67) rfl _ _ w.heap.size _ _ rfl rfl (rowAt_setRow_at _ _ _ (Option.isSome_iff_exists.2 ⟨_, q0⟩)) Tryd.underlying26 rfl (by kernel_rfl) hFs) rfl ⟨rfl, ?_⟩
          exact below_setRow qB (Nat.le_refl _) _
    · have hng : ¬ GoodR A := fun g => h9 g.h8
      obtain ⟨rfl, hF⟩ := HB.out fun g => hng (hgood.1 g)
      have hN9 : N = 9 := by omega
      subst hN9
      have hPl : P.length = 9 := by
        rw [← hP]
        rcases Nat.lt_or_ge 8 ls.length with h | h
        · exact (splitB_of hISb).2 h
        · rw [(splitB_of hISb).1 h, hA]; simp; omega
      have h0 : (Lib.cellsOf P 9)[0]? = some (.string ⟨b0.toArray⟩) := by
        obtain ⟨t, ht⟩ := splitB_head (k := 7) hISb
        rw [hA, hb0] at ht
        rw [← hP, ht]
        rfl
      rw [hPl] at CS0
      have b0i : (b0.length : Int) ≤ 2000000 := by omega
      clear hP hPl hrA hgood hIS hISb hsp hls hlast hA hlsb hlT hbl hAl hng h9 hb0 hbs hb0l hAl2 hN
      go_enter Tryd.func9, Tryd.ntmps9
      go_wp2_with fail
      refine gen_callsW fun W0 hW => ?_
      have p0 : rowAt W0 w.heap.size = some (mkR 0 0 0 (fun _ => 0)) := by rw [hW, ← HZ.out]; exact rowAt_alloc_at _ _ _ _ rfl
      have pB : Below w.heap.size w W0 := by rw [hW]; exact (Below.refl _ _).alloc (Nat.le_refl _) _
      clear hW
      refine (CC _).mono ?_
      rintro e w1 ⟨rfl, rfl⟩
      clear CC
      have CS := CS0 w1 (by rw [← hmx]; exact World.cell?_of_block (a := ⟨4, 0, none⟩) (pB.block _ (World.block_lt_of_cell? _ _ hmx)))
      clear CS0 hmx
      go_wp2_with fail
      refine CS.mono ?_
      rintro e w2 ⟨rfl, rfl⟩
      clear CS
      have l1 := rowAt_lt p0
      have q0 : rowAt (w1.alloc (.cells (Lib.cellsOf P 9) 9)) w.heap.size = some (mkR 0 0 0 (fun _ => 0)) := (rowAt_alloc_past _ _ _ l1).trans p0
      have q1 : rowAt (w1.alloc (.cells (Lib.cellsOf P 9) 9)) w1.heap.size = some (Lib.cellsOf P 9) := rowAt_alloc_at _ _ _ _ rfl
      have qB : Below w.heap.size w (w1.alloc (.cells (Lib.cellsOf P 9) 9)) := pB.alloc pB.size _
      generalize w1.alloc (.cells (Lib.cellsOf P 9) 9) = w2 at *
      have c0 : w2.cell? ⟨w1.heap.size, 0, none⟩ = some (.string ⟨b0.toArray⟩) := (cell_of_rowAt q1 0).trans h0
      clear p0 pB
      go_wp2_with fail
      rw [HZ.out, ← hF.out]
      refine bodyPost_ret (v := .tuple #[.agg F, .int .i64 5]) (results_row2 (m := 67) rfl _ _ w.heap.size _ _ rfl rfl (rowAt_setRow_at _ _ _ (Option.isSome_iff_exists.2 ⟨_, q0⟩)) Tryd.underlying26 rfl (by kernel_rfl) hFs) rfl ⟨rfl, ?_⟩
      exact below_setRow qB (Nat.le_refl _) _
  · rw [ends_no he] at CC
    obtain ⟨rfl, hF⟩ := HB.out fun g => he (good_ends g)
    clear he
    go_enter Tryd.func9, Tryd.ntmps9
    go_wp2_with fail
    refine gen_callsW fun W0 hW => ?_
    have p0 : rowAt W0 w.heap.size = some (mkR 0 0 0 (fun _ => 0)) := by rw [hW, ← HZ.out]; exact rowAt_alloc_at _ _ _ _ rfl
    have pB : Below w.heap.size w W0 := by rw [hW]; exact (Below.refl _ _).alloc (Nat.le_refl _) _
    clear hW
    refine (CC _).mono ?_
    rintro e w1 ⟨rfl, rfl⟩
    clear CC
    go_wp2_with fail
    rw [HZ.out, ← hF.out]
    refine bodyPost_ret (v := .tuple #[.agg F, .int .i64 5]) (results_row2 (m := 67) rfl _ _ w.heap.size _ _ rfl rfl (rowAt_setRow_at _ _ _ (Option.isSome_iff_exists.2 ⟨_, p0⟩)) Tryd.underlying26 rfl (by kernel_rfl) hFs) rfl ⟨rfl, ?_⟩
    exact below_setRow pB (Nat.le_refl _) _
end Go.Proofs.YtgdhfcpmeaeioaaDoor
