/- Plans: each job on the first day on which it fits. -/
import Derived.Test.YtcdddngdjhjdbaaDayX
namespace Go.Proofs.Ytcdddngdjhjdbaa
open Go.RowKit

theorem owns_belowD {w w' : World} {base : Nat} {e : TypeId} {size : Nat} {v : Value} {n : Nat} {xs : List Value} (h : w.ownsRow base e size v n xs) (b : Below w.heap.size w w') : w'.ownsRow base e size v n xs := by
  obtain ⟨hl, h | ⟨g, cap, cur, rfl, hg, hh, hr⟩⟩ := h
  · exact ⟨hl, .inl h⟩
  · exact ⟨hl, .inr ⟨g, cap, cur, rfl, hg, (b.block g (Array.getElem?_eq_some_iff.1 hh).1).trans hh, hr⟩⟩
theorem dayFrom_end (L : Nat → Int) (t y : Int) (a : Nat) : dayFrom L t y 0 a = a := rfl
theorem dayFrom_hit {L : Nat → Int} {t y : Int} {n a : Nat} (ha : a < n) (h : L a + t ≤ y) : dayFrom L t y (n - a) a = a := by
  obtain ⟨j, hj⟩ : ∃ j, n - a = j + 1 := ⟨n - a - 1, by omega⟩
  rw [hj]; exact if_pos h
theorem dayFrom_miss {L : Nat → Int} {t y : Int} {n a : Nat} (ha : a < n) (h : ¬ L a + t ≤ y) : dayFrom L t y (n - a) a = dayFrom L t y (n - (a + 1)) (a + 1) := by
  obtain ⟨j, hj⟩ : ∃ j, n - a = j + 1 := ⟨n - a - 1, by omega⟩
  rw [hj, show n - (a + 1) = j by omega]; exact if_neg h

set_option maxRecDepth 100000 in
set_option maxHeartbeats 4000000 in
theorem firstPlan_any (b m : Nat) (v : Value) (g : Nat → Int) (y : Int) (w : World) (hv : IsList w b v 1 m (fun i => .int .i64 (g i))) (hm : m ≤ 8) (hy : 1 ≤ y ∧ y ≤ 1000) (hg : ∀ i, i < m → 0 ≤ g i ∧ g i ≤ y) :
    Calls Try.prog 36 #[v, .int .i64 y] w fun e w' => ∃ ud ul, e = .returned (.agg #[ud, ul]) ∧ (w'.ownsRow w.heap.size 2 1 ud m (intsV (fun i => dayD g y i) m) ∧ IsList w' w.heap.size ul 1 (dayS g y m).1 (fun i => .int .i64 ((dayS g y m).2 i))) ∧ Below w.heap.size w w' := by
  have HV := Lib.hid hv
  have HG := Lib.hid hg
  have HOK := Lib.hid (dayS_ok (y := y) (by omega) hg)
  have HY := Lib.hid hy
  obtain ⟨av, cv, rfl⟩ := hv.shape
  clear hv hg hy
  go_enter Try.func36, Try.ntmps36
  go_wp2_with fail
  go_loopw [7, 8, 11] (fun _ _ i W => ∃ (k : Nat) (ud ul : Value), k ≤ m ∧ i = .int .i64 k ∧ rowAt W w.heap.size = some #[.slice none 0 0, .slice none 0 0] ∧ rowAt W (w.heap.size + 1) = some #[ud, ul] ∧ (∃ a c, ud = .slice a k c) ∧ (∃ a c, ul = .slice a (dayS g y k).1 c) ∧ Hid (W.ownsRow (w.heap.size + 1 + 1) 2 1 ud k (intsV (fun i => dayD g y i) k)) ∧ Hid (IsList W (w.heap.size + 1 + 1) ul 1 (dayS g y k).1 (fun i => .int .i64 ((dayS g y k).2 i))) ∧ w.heap.size + 1 + 1 ≤ W.heap.size ∧ Below w.heap.size w W) (fun _ _ i _ => m - (intOf i).toNat)
  case atStart =>
    exact ⟨0, _, _, by omega, rfl, (rowAt_alloc_past _ _ _ (by simp)).trans (rowAt_alloc_at _ _ _ _ rfl), rowAt_alloc_at _ _ _ _ (by simp), ⟨_, _, rfl⟩, ⟨_, _, rfl⟩, Lib.hid (World.ownsRow_nil _ _ _ _), Lib.hid (.inl ⟨rfl, _, _, rfl⟩), by simp, ((Below.refl _ _).alloc (Nat.le_refl _) _).alloc (by simp) _⟩
  case round =>
    obtain ⟨k, ud, ul, hk, rfl, q0, q1, ⟨ad, cd, rfl⟩, ⟨al, cl, rfl⟩, OD, OL, hsz, B⟩ := hrel
    by_cases hlt : k < m
    · obtain ⟨h0, _⟩ | ⟨gv, cap, cur, e1, hgv, hr, hs, hf⟩ := HV.out.below B (Nat.le_refl _)
      · omega
      cases e1
      have ck : wr.cell? ⟨gv, k, none⟩ = some (.int .i64 (g k)) := (cell_of_rowAt hr _).trans (hf k (by omega))
      have k0 : 0 ≤ (k : Int) := by omega
      have k2 : (k : Int) < m := by omega
      clear hf hs hr
      have hdl := dayD_le g y k
      have hdd := Lib.hid (show dayD g y k = dayFrom (dayS g y k).2 (g k) y ((dayS g y k).1 - 0) 0 from rfl)
      have hsn := Lib.hid (dayS_n g y k)
      have hsl := Lib.hid (dayS_l g y k)
      have hnk := (HOK.out k hk).1
      have hLk := Lib.hid (HOK.out k hk).2
      have hgk := HG.out k hlt
      have hyy := HY.out
      have HIN := Lib.hid (intsV_succ (fun i => (dayD g y i : Int)) k)
      generalize (dayS g y k).1 = n at *
      generalize (dayS g y k).2 = L at *
      generalize dayD g y k = dd at *
      generalize g k = t at *
      go_wp2_with fail
      go_loopw [8] (fun d W => ∃ a : Nat, a ≤ n ∧ d = .int .i64 a ∧ Hid (dd = dayFrom L t y (n - a) a) ∧ rowAt W w.heap.size = some #[.slice none 0 0, .slice none 0 0] ∧ rowAt W (w.heap.size + 1) = some #[.slice ad k cd, .slice al n cl] ∧ Hid (W.ownsRow (w.heap.size + 1 + 1) 2 1 (.slice ad k cd) k (intsV (fun i => dayD g y i) k)) ∧ Hid (IsList W (w.heap.size + 1 + 1) (.slice al n cl) 1 n (fun i => .int .i64 (L i))) ∧ w.heap.size + 1 + 1 ≤ W.heap.size ∧ Below w.heap.size w W) (fun d _ => n - (intOf d).toNat)
      case atStart => exact ⟨0, by omega, rfl, hdd, q0, q1, OD, OL, hsz, B⟩
      case round =>
        clear q0 q1 OD OL hsz B hdd ck
        obtain ⟨a, ha, rfl, HA, q0, q1, OD, OL, hsz, B⟩ := hrel
        have hla := hLk.out a
        have hL0 : 0 ≤ L a ∧ L a ≤ 1000 := by omega
        have a0 : 0 ≤ (a : Int) := by omega
        by_cases hna : a = n
        · subst hna
          have HDD := Lib.hid (show dd = a by rw [HA.out, Nat.sub_self, dayFrom_end])
          have CT := fun W hl => takes_end (w.heap.size + 1 + 1) a (.slice ad k cd) (.slice al a cl) L t y W hl ⟨_, _, _, rfl⟩
          go_wp2_with fail
          refine (CT _ OL.out).mono ?_
          rintro e w1 ⟨rfl, b1⟩
          have s0 := brow b1 q0
          have s1 := brow b1 q1
          have B1 := bnext B b1 B.size
          have HC := Lib.hid (fun W (b1 : Below wr.heap.size wr W) => with_new (w.heap.size + 1 + 1) (w.heap.size + 1 + 1) k a (.slice ad k cd) (.slice al a cl) (fun i => (dayD g y i : Int)) L t W (owns_belowD OD.out b1) (OL.out.below b1 (Nat.le_refl _)) (by omega) (by omega) (hla.2.2 (Nat.le_refl _)) hL0 (by omega))
          have hz1 := b1.size
          have HB1 := Lib.hid b1
          clear b1 q0 q1 B
          go_wp2_with fail
          refine (HC.out _ HB1.out).mono ?_
          rintro e w2 ⟨ud2, ul2, rfl, ⟨o2, l2⟩, b2⟩
          obtain ⟨a5, c5, rfl⟩ := owns_shape o2
          obtain ⟨a6, c6, rfl⟩ := l2.shape
          have p0 := brow b2 s0
          have p1 := brow b2 s1
          have B2 := bnext B1 b2 B1.size
          have hz2 := b2.size
          have lp := rowAt_lt p1
          have O2 := Lib.hid o2
          have L2 := Lib.hid l2
          have HB2 := Lib.hid B2
          clear b2 s0 s1 B1 o2 l2 B2
          go_wp2_with fail
          have hdk : dd = a := HDD.out
          have hn1 := hsn.out
          have hl1 := hsl.out
          subst hdk
          have hN : (dayS g y (k + 1)).1 = dd + 1 := by rw [hn1]; exact if_pos rfl
          refine ⟨⟨k + 1, .slice a5 (k + 1) c5, .slice a6 (dd + 1) c6, by omega, by go_num, (rowAt_setRow_ne _ _ _ _ (by omega)).trans p0, rowAt_setRow_at _ _ _ (by rw [p1]; rfl), ⟨_, _, rfl⟩, ⟨_, _, by rw [hN]⟩, ?_, ?_, by simp; omega, below_setRow HB2.out (by omega) _⟩, by simp [intOf]; omega⟩
          · exact Lib.hid (HIN.out ▸ owns_lowerD (owns_setRowD O2.out (by omega) _) (by omega))
          · rw [hN, hl1]; exact Lib.hid ((L2.out.setRowD (by omega) _).mono (by omega))
        · by_cases hfit : L a + t ≤ y
          · have HDD := Lib.hid (show dd = a by rw [HA.out, dayFrom_hit (by omega) hfit])
            have CT := fun W hl => takes_in (w.heap.size + 1 + 1) n a (.slice ad k cd) (.slice al n cl) L t y W hl ⟨_, _, _, rfl⟩ (by omega) hL0 (by omega) true (by simp [hfit])
            go_wp2_with fail
            refine (CT _ OL.out).mono ?_
            rintro e w1 ⟨rfl, b1⟩
            have s0 := brow b1 q0
            have s1 := brow b1 q1
            have B1 := bnext B b1 B.size
            have HC := Lib.hid (fun W (b1 : Below wr.heap.size wr W) => with_in (w.heap.size + 1 + 1) (w.heap.size + 1 + 1) k n a (.slice ad k cd) (.slice al n cl) (fun i => (dayD g y i : Int)) L t W (owns_belowD OD.out b1) (OL.out.below b1 (Nat.le_refl _)) (by omega) (by omega) (by omega) hL0 (by omega))
            have hz1 := b1.size
            have HB1 := Lib.hid b1
            clear b1 q0 q1 B
            go_wp2_with fail
            refine (HC.out _ HB1.out).mono ?_
            rintro e w2 ⟨ud2, ul2, rfl, ⟨o2, l2⟩, b2⟩
            obtain ⟨a5, c5, rfl⟩ := owns_shape o2
            obtain ⟨a6, c6, rfl⟩ := l2.shape
            have p0 := brow b2 s0
            have p1 := brow b2 s1
            have B2 := bnext B1 b2 B1.size
            have hz2 := b2.size
            have lp := rowAt_lt p1
            have O2 := Lib.hid o2
            have L2 := Lib.hid l2
            have HB2 := Lib.hid B2
            clear b2 s0 s1 B1 o2 l2 B2
            go_wp2_with fail
            have hdk : dd = a := HDD.out
            have hn1 := hsn.out
            have hl1 := hsl.out
            subst hdk
            have hN : (dayS g y (k + 1)).1 = n := by rw [hn1]; exact if_neg (by omega)
            refine ⟨⟨k + 1, .slice a5 (k + 1) c5, .slice a6 n c6, by omega, by go_num, (rowAt_setRow_ne _ _ _ _ (by omega)).trans p0, rowAt_setRow_at _ _ _ (by rw [p1]; rfl), ⟨_, _, rfl⟩, ⟨_, _, by rw [hN]⟩, ?_, ?_, by simp; omega, below_setRow HB2.out (by omega) _⟩, by simp [intOf]; omega⟩
            · exact Lib.hid (HIN.out ▸ owns_lowerD (owns_setRowD O2.out (by omega) _) (by omega))
            · rw [hN, hl1]; exact Lib.hid ((L2.out.setRowD (by omega) _).mono (by omega))
          · have HDD := Lib.hid (show dd = dayFrom L t y (n - (a + 1)) (a + 1) by rw [HA.out, dayFrom_miss (by omega) hfit])
            have CT := fun W hl => takes_in (w.heap.size + 1 + 1) n a (.slice ad k cd) (.slice al n cl) L t y W hl ⟨_, _, _, rfl⟩ (by omega) hL0 (by omega) false (by simp [hfit])
            go_wp2_with fail
            refine (CT _ OL.out).mono ?_
            rintro e w1 ⟨rfl, b1⟩
            have s0 := brow b1 q0
            have s1 := brow b1 q1
            have B1 := bnext B b1 B.size
            have O1 := Lib.hid (owns_belowD OD.out b1)
            have L1 := Lib.hid (OL.out.below b1 (Nat.le_refl _))
            have hz1 := b1.size
            clear b1 q0 q1 B OD OL
            go_wp2_with fail
            exact ⟨⟨a + 1, by omega, by go_num, HDD, s0, s1, O1, L1, by omega, B1⟩, by simp [intOf]; omega⟩
    · obtain rfl : k = m := by omega
      have HOD := Lib.hid OD.out
      go_wp2_with fail
      refine bodyPost_ret (v := .agg #[.slice ad k cd, .slice al (dayS g y k).1 cl]) (results_row1 (m := 2) rfl _ _ w.heap.size _ rfl (rowAt_setRow_at _ _ _ (by rw [q0]; rfl)) Try.underlying73 rfl (by kernel_rfl) rfl) rfl ?_
      exact ⟨_, _, rfl, ⟨owns_lowerD (owns_setRowD HOD.out (by omega) _) (by omega), (OL.out.setRowD (by omega) _).mono (by omega)⟩, below_setRow B (Nat.le_refl _) _⟩
end Go.Proofs.Ytcdddngdjhjdbaa
