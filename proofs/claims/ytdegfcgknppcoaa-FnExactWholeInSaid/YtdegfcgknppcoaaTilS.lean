/- The model's pieces of a course: l05Course. -/
import Derived.Test.YtdegfcgknppcoaaTilM
import Derived.Test.YtdegfcgknppcoaaCrs
import Derived.Test.YtdegfcgknppcoaaGrow
import Derived.Test.YtdegfcgknppcoaaNums
import Derived.Maps.AppendAt
namespace Go.Proofs.Ytdegfcgknppcoaa
open Go.RowKit

theorem l00MaxT_any (a L : Int) (w : World) :
    Calls Try.prog 84 #[.int .i64 a, .int .i64 L] w fun e w' => e = .returned (.int .i64 (if a < L then L else a)) ∧ w = w' := by
  by_cases h : a < L
  · rw [if_pos h]
    have hd : decide (L < a) = false := by simp; omega
    clear h
    go_enter Try.func84, Try.ntmps84
    go_wp2_with fail
    go_ret
    exact ⟨rfl, rfl⟩
  · rw [if_neg h]
    by_cases e : a = L
    · subst e
      have hd : decide (a < a) = false := by simp
      clear h
      go_enter Try.func84, Try.ntmps84
      go_wp2_with fail
      go_ret
      exact ⟨rfl, rfl⟩
    · have hd : decide (L < a) = true := by simp; omega
      clear h e
      go_enter Try.func84, Try.ntmps84
      go_wp2_with fail
      go_ret
      exact ⟨rfl, rfl⟩
theorem l00MinT_any (a R : Int) (w : World) :
    Calls Try.prog 85 #[.int .i64 a, .int .i64 R] w fun e w' => e = .returned (.int .i64 (if R < a then R else a)) ∧ w = w' := by
  by_cases h : R < a
  · rw [if_pos h]
    have hd : decide (a < R) = false := by simp; omega
    clear h
    go_enter Try.func85, Try.ntmps85
    go_wp2_with fail
    go_ret
    exact ⟨rfl, rfl⟩
  · rw [if_neg h]
    by_cases e : a = R
    · subst e
      have hd : decide (a < a) = false := by simp
      clear h
      go_enter Try.func85, Try.ntmps85
      go_wp2_with fail
      go_ret
      exact ⟨rfl, rfl⟩
    · have hd : decide (a < R) = true := by simp; omega
      clear h e
      go_enter Try.func85, Try.ntmps85
      go_wp2_with fail
      go_ret
      exact ⟨rfl, rfl⟩


/-- The tiles laid whole, and the pieces. -/
def GivesCo (w : World) (m : Int) (l : List (Int × Int)) (e : Ending) (w' : World) : Prop :=
  ∃ v, e = .returned (.tuple #[.int .i64 m, v]) ∧ IsList w' w.heap.size v 2 l.length (fun i => .int .i8 (pcAt l i)) ∧ Below w.heap.size w w'

set_option maxRecDepth 100000 in
set_option maxHeartbeats 4000000 in
theorem l05Course_any (kb : Nat) (s : Int) (B n cp : Nat) (f : Nat → Int) (u : Option Addr) (k : Nat) (w : World) (hr : rowAt w kb = some #[.int .u8 s, .slice u n cp]) (hv : IsList w B (.slice u n cp) 2 n (fun i => .int .i16 (f i))) (hn : n ≤ 12) (hk : k < n) (hs : 0 ≤ s ∧ s ≤ 255) (ok : LaidOk (f (k * 2)) (f (k * 2 + 1)) (crS s k)) :
    Calls Try.prog 61 #[.pointer (some ⟨kb, 0, none⟩), .int .i64 k] w (GivesCo w (whoTo (f (k * 2)) (f (k * 2 + 1)) (crS s k) (tlN (f (k * 2 + 1)) (crS s k))) (pcsTo (f (k * 2)) (f (k * 2 + 1)) (crS s k) (tlN (f (k * 2 + 1)) (crS s k)))) := by
  obtain ⟨i0, hi0, hz0, hz1, hz2⟩ := info_parts A_infoPcs
  have c := cell_of_rowAt hr
  obtain ⟨gg, e, c0, c1⟩ := hv.sp hk
  cases e
  have hk0 : 0 ≤ (k : Int) := by omega
  have hk1 : (k : Int) < n := by omega
  have hw : IntKind.i64.wrap ((k : Int) + s) = (k : Int) + s := IntWalk.i64_in _ (by omega)
  obtain ⟨q, hq⟩ : ∃ q, ((k : Int) + s) % 2 = q := ⟨_, rfl⟩
  have hq01 : q = 0 ∨ q = 1 := by omega
  have hcr : crS s k = 4 * q := by unfold crS; rw [hq]; rcases hq01 with rfl | rfl <;> simp
  rw [hcr] at ok ⊢
  obtain ⟨h, hh⟩ : ∃ h, h = 4 * q := ⟨_, rfl⟩
  rw [← hh] at ok ⊢
  have hw2 : IntKind.i64.wrap (4 * q) = h := by rw [← hh]; exact IntWalk.i64_in _ (by omega)
  generalize f (k * 2) = L at *
  generalize f (k * 2 + 1) = R at *
  have OK := Lib.hid ok
  have hN := tlN_le ok
  have l0 := ok.lo
  have l1 := ok.lr
  have l2 := ok.hi
  have l3 := ok.sh
  have hw3 : IntKind.i64.wrap (h - 8) = h - 8 := IntWalk.i64_in _ (by omega)
  have hw4 : IntKind.i64.wrap q = q := IntWalk.i64_in _ (by omega)
  obtain ⟨N, hNN⟩ : ∃ N, tlN R h = N := ⟨_, rfl⟩
  have NN := Lib.hid hNN
  rw [hNN] at hN ⊢
  have b0 : Below w.heap.size w (w.alloc (.cells #[] 92)) := (Below.refl _ _).alloc (Nat.le_refl _) _
  have o0 := owns_zero w 92 2
  clear ok hcr hr hv hq01 hNN
  go_enter Try.func61, Try.ntmps61
  go_wp2_with fail
  have HQ := Lib.hid hh
  clear c c0 c1 hw hq hh hw2
  go_loopw [9, 10, 11] (fun p v a W => ∃ i : Nat, i ≤ N ∧ a = .int .i64 (tlA h i) ∧ p = .int .i64 (whoTo L R h i) ∧ W.ownsRow w.heap.size 92 2 v (pcsTo L R h i).length (pcCells (pcsTo L R h i)) ∧ Below w.heap.size w W) (fun _ _ a _ => (400 - intOf a).toNat)
  case atStart => exact ⟨0, by omega, by rw [show tlA h 0 = h - 8 from by simp [tlA], HQ.out], rfl, o0, b0⟩
  case round =>
    clear o0 b0
    obtain ⟨i, hi, rfl, rfl, ho, hB⟩ := hrel
    have HB := Lib.hid hB
    have hpl := pcsTo_len L R h i
    have hwb := whoTo_bd L R h i
    have HA0 : Hid (tlA h i = h - 8 + 8 * (i : Int)) := Lib.hid rfl
    have HA1 : Hid (tlA h (i + 1) = tlA h i + 8) := Lib.hid (by unfold tlA; omega)
    have hAb : -8 ≤ tlA h i ∧ tlA h i ≤ 400 := by unfold tlA; omega
    by_cases hlt : i < N
    · have hlR : tlA h i < R := (tlN_lt OK.out).1 (by rw [NN.out]; exact hlt)
      have hd : decide (tlA h i < R) = true := by simp [hlR]
      obtain ⟨F, hF⟩ : ∃ F, F = tlF L h i := ⟨_, rfl⟩
      obtain ⟨T, hT⟩ : ∃ T, T = tlT R h i := ⟨_, rfl⟩
      have MF := fun W => l00MaxT_any (tlA h i) L W
      have MT := fun W => l00MinT_any (tlA h i + 8) R W
      rw [show (if tlA h i < L then L else tlA h i) = F from hF.symm] at MF
      rw [show (if R < tlA h i + 8 then R else tlA h i + 8) = T from hT.symm] at MT
      have hF2 : F = if tlA h i < L then L else tlA h i := hF
      have hT2 : T = if R < tlA h i + 8 then R else tlA h i + 8 := hT
      have HF : Hid (tlF L h i = F) := Lib.hid hF.symm
      have HT : Hid (tlT R h i = T) := Lib.hid hT.symm
      have HE : Hid (tlE L R h i = decide (T ≤ F)) := Lib.hid (by unfold tlE; rw [← hF, ← hT])
      have HW : Hid (tlW L R h i = decide (L ≤ tlA h i ∧ tlA h i + 8 ≤ R)) := Lib.hid rfl
      clear hF hT
      have hH : tlH L R h i = if L ≤ tlA h i then 0 else if tlA h i + 8 ≤ R then 1 else 2 := rfl
      generalize tlA h i = A at *
      have hwA : IntKind.i64.wrap (A + 8) = A + 8 := IntWalk.i64_in _ (by omega)
      have HN1 : Hid (pcsTo L R h (i + 1) = pcsTo L R h i ++ (if tlE L R h i || tlW L R h i then [] else [tlP L R h i])) := Lib.hid rfl
      have HN2 : Hid (whoTo L R h (i + 1) = whoTo L R h i + (if !tlE L R h i && tlW L R h i then 1 else 0)) := Lib.hid rfl
      generalize whoTo L R h i = m at *
      have hwm : IntKind.i64.wrap (m + 1) = m + 1 := IntWalk.i64_in _ (by omega)
      by_cases he : T ≤ F
      · have hd1 : decide (T ≤ F) = true := by simp [he]
        have HP : Hid (pcsTo L R h (i + 1) = pcsTo L R h i) := Lib.hid (by rw [HN1.out, HE.out, hd1]; simp)
        have HWh : Hid (whoTo L R h (i + 1) = m) := Lib.hid (by rw [HN2.out, HE.out, hd1]; simp)
        clear he hF2 hT2 hH
        go_wp2_with fail
        refine (MF _).mono ?_
        rintro e w1 ⟨rfl, rfl⟩
        go_wp2_with fail
        refine (MT _).mono ?_
        rintro e w1 ⟨rfl, rfl⟩
        clear MF MT
        go_wp2_with fail
        refine ⟨⟨i + 1, by omega, by rw [HA1.out], by rw [HWh.out], by rw [HP.out]; exact ho, HB.out⟩, by simp [intOf]; omega⟩
      · have hd1 : decide (T ≤ F) = false := by simp; omega
        by_cases hwh : L ≤ A ∧ A + 8 ≤ R
        · have e1 : (F == A) = true := by simp; rw [hF2, if_neg (by omega)]
          have e2 : (T == A + 8) = true := by simp; rw [hT2, if_neg (by omega)]
          have HWt : tlW L R h i = true := by rw [HW.out]; simp [hwh]
          have HP : Hid (pcsTo L R h (i + 1) = pcsTo L R h i) := Lib.hid (by rw [HN1.out, HWt]; simp)
          have HWh : Hid (whoTo L R h (i + 1) = m + 1) := Lib.hid (by rw [HN2.out, HE.out, hd1, HWt]; simp)
          clear he hF2 hT2 hH hwh HWt
          go_wp2_with fail
          refine (MF _).mono ?_
          rintro e w1 ⟨rfl, rfl⟩
          go_wp2_with fail
          refine (MT _).mono ?_
          rintro e w1 ⟨rfl, rfl⟩
          clear MF MT
          go_wp2_with fail
          refine ⟨⟨i + 1, by omega, by rw [HA1.out], by rw [HWh.out], by rw [HP.out]; exact ho, HB.out⟩, by simp [intOf]; omega⟩
        · have HWf : tlW L R h i = false := by rw [HW.out]; simp; omega
          have HP : Hid (pcsTo L R h (i + 1) = pcsTo L R h i ++ [(tlH L R h i, T - F)]) := Lib.hid (by rw [HN1.out, HE.out, hd1, HWf]; simp [tlP, HF.out, HT.out])
          have HWh : Hid (whoTo L R h (i + 1) = m) := Lib.hid (by rw [HN2.out, HWf]; simp)
          have hTF : 1 ≤ T - F ∧ T - F ≤ 7 := by
            rw [hT2, hF2] at he ⊢
            revert he
            split <;> split <;> omega
          have hw8 : IntKind.i8.wrap (T - F) = T - F := IntWalk.i8_in _ (by omega)
          have hw9 : IntKind.i64.wrap (T - F) = T - F := IntWalk.i64_in _ (by omega)
          by_cases hLA : L ≤ A
          · have e1 : (F == A) = true := by simp; rw [hF2, if_neg (by omega)]
            have e2 : (T == A + 8) = false := by simp; rw [hT2, if_pos (by omega)]; omega
            have e3 : decide (A < F) = false := by simp; rw [hF2, if_neg (by omega)]; omega
            have HH : Hid (tlH L R h i = 0) := Lib.hid (by rw [hH, if_pos hLA])
            clear he hF2 hT2 hH hwh HWf hTF
            go_wp2_with fail
            refine (MF _).mono ?_
            rintro e w1 ⟨rfl, rfl⟩
            go_wp2_with fail
            refine (MT _).mono ?_
            rintro e w1 ⟨rfl, rfl⟩
            clear MF MT
            go_wp2_with (at_builtin; refine wpList_append_own _ rfl _ _ 45 rfl w.heap.size 92 i0 (.agg #[.int .i8 0, .int .i8 0]) 2 2 Try.underlying45 hi0 hz0 hz1 hz2 rfl (by decide) _ _ _ rfl (ho.alloc _) ⟨wr.heap.size, 0, none⟩ 1 1 [.int .i8 0, .int .i8 (T - F)] rfl rfl (cells_new2 rfl _ _ _) (by simp [Value.oneCell']) (by unfold maxLen; omega) (by omega) (by have := HB.out.size; simp; omega) ?_; intro v' w1 own1 grow1 _)
            have hB1 := (HB.out.alloc HB.out.size (.cells #[.int .i8 0, .int .i8 (T - F)] 92)).grown grow1 (by have := HB.out.size; simp; omega) (owns_base' ho)
            refine ⟨⟨i + 1, by omega, by rw [HA1.out], by rw [HWh.out], by rw [HP.out, HH.out]; simpa [pcCells_snoc] using own1, hB1⟩, by simp [intOf]; omega⟩
          · have e1 : (F == A) = false := by simp; rw [hF2, if_pos (by omega)]; omega
            have e3 : decide (A < F) = true := by simp; rw [hF2, if_pos (by omega)]; omega
            by_cases hTE : A + 8 ≤ R
            · have e4 : decide (T < A + 8) = false := by simp; rw [hT2, if_neg (by omega)]; omega
              have HH : Hid (tlH L R h i = 1) := Lib.hid (by rw [hH, if_neg hLA, if_pos hTE])
              clear he hF2 hT2 hH hwh HWf hTF
              go_wp2_with fail
              refine (MF _).mono ?_
              rintro e w1 ⟨rfl, rfl⟩
              go_wp2_with fail
              refine (MT _).mono ?_
              rintro e w1 ⟨rfl, rfl⟩
              clear MF MT
              go_wp2_with (at_builtin; refine wpList_append_own _ rfl _ _ 45 rfl w.heap.size 92 i0 (.agg #[.int .i8 0, .int .i8 0]) 2 2 Try.underlying45 hi0 hz0 hz1 hz2 rfl (by decide) _ _ _ rfl (ho.alloc _) ⟨wr.heap.size, 0, none⟩ 1 1 [.int .i8 1, .int .i8 (T - F)] rfl rfl (cells_new2 rfl _ _ _) (by simp [Value.oneCell']) (by unfold maxLen; omega) (by omega) (by have := HB.out.size; simp; omega) ?_; intro v' w1 own1 grow1 _)
              have hB1 := (HB.out.alloc HB.out.size (.cells #[.int .i8 1, .int .i8 (T - F)] 92)).grown grow1 (by have := HB.out.size; simp; omega) (owns_base' ho)
              refine ⟨⟨i + 1, by omega, by rw [HA1.out], by rw [HWh.out], by rw [HP.out, HH.out]; simpa [pcCells_snoc] using own1, hB1⟩, by simp [intOf]; omega⟩
            · have e4 : decide (T < A + 8) = true := by simp; rw [hT2, if_pos (by omega)]; omega
              have HH : Hid (tlH L R h i = 2) := Lib.hid (by rw [hH, if_neg hLA, if_neg hTE])
              clear he hF2 hT2 hH hwh HWf hTF
              go_wp2_with fail
              refine (MF _).mono ?_
              rintro e w1 ⟨rfl, rfl⟩
              go_wp2_with fail
              refine (MT _).mono ?_
              rintro e w1 ⟨rfl, rfl⟩
              clear MF MT
              go_wp2_with (at_builtin; refine wpList_append_own _ rfl _ _ 45 rfl w.heap.size 92 i0 (.agg #[.int .i8 0, .int .i8 0]) 2 2 Try.underlying45 hi0 hz0 hz1 hz2 rfl (by decide) _ _ _ rfl (ho.alloc _) ⟨wr.heap.size, 0, none⟩ 1 1 [.int .i8 2, .int .i8 (T - F)] rfl rfl (cells_new2 rfl _ _ _) (by simp [Value.oneCell']) (by unfold maxLen; omega) (by omega) (by have := HB.out.size; simp; omega) ?_; intro v' w1 own1 grow1 _)
              have hB1 := (HB.out.alloc HB.out.size (.cells #[.int .i8 2, .int .i8 (T - F)] 92)).grown grow1 (by have := HB.out.size; simp; omega) (owns_base' ho)
              refine ⟨⟨i + 1, by omega, by rw [HA1.out], by rw [HWh.out], by rw [HP.out, HH.out]; simpa [pcCells_snoc] using own1, hB1⟩, by simp [intOf]; omega⟩
    · obtain rfl : i = N := by omega
      have hd : decide (tlA h i < R) = false := by
        have : ¬ tlA h i < R := fun hx => by have := (tlN_lt OK.out).2 hx; rw [NN.out] at this; omega
        simpa using this
      obtain ⟨av, cv, rfl⟩ := owns_shape ho
      go_wp2_with fail
      go_ret2
      exact ⟨_, rfl, IsList.of_pcs ho, HB.out⟩
end Go.Proofs.Ytdegfcgknppcoaa
