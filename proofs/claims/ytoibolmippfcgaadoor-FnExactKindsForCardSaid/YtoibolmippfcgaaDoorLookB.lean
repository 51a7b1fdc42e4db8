/- Drips that are sound, and the water that comes: the program. -/
import Derived.Test.YtoibolmippfcgaaDoorLookA
import Derived.Test.YtoibolmippfcgaaDoorSave
import Derived.Deep.RegionHeld3
namespace Go.Proofs.YtoibolmippfcgaaDoor
open Go.RowKit

theorem gen_callsS {P : Program} {f : FuncId} {args : Array Value} {Q : Ending → World → Prop} {w : World} (h : ∀ W, W = w → Calls P f args W Q) : Calls P f args w Q := h w rfl

set_option maxRecDepth 100000 in
set_option maxHeartbeats 2000000 in
theorem areSound_any (X c d : Array Value) (r : Rf) (t D : Nat → Int) (w : World) (hX : IsD X D) (hR : IsRoof c r) (hT : IsRain d t) (ho : r.Rains t) :
    Calls Tryd.prog 57 #[.agg X, .agg c, .agg d] w fun e w' => e = .returned (.bool (r.sB t D)) ∧ Below w.heap.size w w' := by
  have hxs := hX.size
  have hcs := hR.size
  have hds := hT.size
  have hw1 := ho.1.1
  have hw8 := ho.1.2.1
  obtain ⟨q, hq⟩ := Int.eq_ofNat_of_zero_le (show 0 ≤ 2 * r.w + 1 by omega)
  have q17 : q ≤ 17 := by omega
  have CA := fun w => across_any c r w hR
  rw [hq] at CA
  have HQ := Lib.hid hq
  clear hq
  by_cases hwin : r.Win D
  · have hbd : ∀ i, i < 136 → 0 ≤ D i ∧ D i ≤ 2147483647 := fun i hi => ⟨by
      have := (hwin (i / 17) (by omega) (i % 17) (by omega)).1
      rwa [show i / 17 * 17 + i % 17 = i from by omega] at this, hX.hi i hi⟩
    have CSM := fun w => cellSums_big X D q w hX.isK hbd q17
    have HBd := Lib.hid hbd
    have CW := fun w => areWithin_any X c r D w hX hR ho.1
    rw [Rf.winB_t hwin] at CW
    have HWin := Lib.hid hwin
    clear hbd hwin
    go_enter Tryd.func57, Tryd.ntmps57
    go_wp2_with fail
    refine gen_callsS fun W1 hW => ?_
    have p0 : rowAt W1 w.heap.size = some X := by rw [hW]; exact (rowAt_alloc_past _ _ _ (by simp; omega)).trans ((rowAt_alloc_past _ _ _ (by simp)).trans (rowAt_alloc_at _ _ _ _ rfl))
    have p1 : rowAt W1 (w.heap.size + 1) = some c := by rw [hW]; exact (rowAt_alloc_past _ _ _ (by simp)).trans (rowAt_alloc_at _ _ _ _ (by simp))
    have p2 : rowAt W1 (w.heap.size + 1 + 1) = some d := by rw [hW]; exact rowAt_alloc_at _ _ _ _ (by simp)
    have pB : Below w.heap.size w W1 := by rw [hW]; exact (((Below.refl _ _).alloc (Nat.le_refl _) _).alloc (by simp) _).alloc (by simp; omega) _
    clear hW
    refine (CW _).mono ?_
    rintro e w2 ⟨rfl, b2⟩
    have s0 := brow b2 p0
    have s1 := brow b2 p1
    have s2 := brow b2 p2
    have sB := bnext pB b2 pB.size
    clear b2 p0 p1 p2 pB
    go_wp2_with fail
    refine wp_region_held_drew (S := (fun w' => rowAt w' w.heap.size = some X ∧ rowAt w' (w.heap.size + 1) = some c ∧ rowAt w' (w.heap.size + 1 + 1) = some d ∧ Below w.heap.size w w' ∧ w.heap.size ≤ w'.heap.size)) (by kernel_rfl) (⟨s0, s1, s2, sB.drew, sB.size⟩) (fun hH => ?_)
    refine wpAnyH_take (i := 0) (v := .agg X) rfl (by kernel_rfl) (by kernel_rfl) (by kernel_rfl) (fun _ _ _ h => h) (Or.inl ⟨by rfl, ?_⟩) hH ?_
    · intro w1 hS; (try dsimp only at hS); obtain ⟨u0, u1, _⟩ := hS; go_simp
    (try simp only [List.getElem_toArray]); (try simp only [List.getElem_cons_succ]); (try simp only [List.getElem_cons_zero]); (try simp only [Act.put]); (try simp only [List.setIfInBounds_toArray]); (try simp only [List.set_cons_succ]); (try simp only [List.set_cons_zero])
    refine wpAnyH_take (i := 1) (v := .agg c) rfl (by kernel_rfl) (by kernel_rfl) (by kernel_rfl) (fun _ _ _ h => h) (Or.inl ⟨by rfl, ?_⟩) hH ?_
    · intro w1 hS; (try dsimp only at hS); obtain ⟨u0, u1, _⟩ := hS; go_simp
    (try simp only [List.getElem_toArray]); (try simp only [List.getElem_cons_succ]); (try simp only [List.getElem_cons_zero]); (try simp only [Act.put]); (try simp only [List.setIfInBounds_toArray]); (try simp only [List.set_cons_succ]); (try simp only [List.set_cons_zero])
    refine wpAnyH_take (i := 5) (v := .int .i64 0) rfl (by kernel_rfl) (by kernel_rfl) (by kernel_rfl) (fun _ _ _ h => h) (Or.inl ⟨by rfl, ?_⟩) hH ?_
    · intro w1 hS; (try dsimp only at hS); obtain ⟨u0, u1, _⟩ := hS; go_simp
    (try simp only [List.getElem_toArray]); (try simp only [List.getElem_cons_succ]); (try simp only [List.getElem_cons_zero]); (try simp only [Act.put]); (try simp only [List.setIfInBounds_toArray]); (try simp only [List.set_cons_succ]); (try simp only [List.set_cons_zero])
    refine wpAnyH_ready (rs := [2]) (by kernel_rfl) (by simp) (AllReadyH.cons rfl (fun K hK => ?_) AllReadyH.nil)
    go_simp
    refine (CA _).mono ?_
    rintro x wx ⟨rfl, bx⟩
    go_simp
    refine hK.out _ _ (keep3 bx hH) (fun hG => ?_)
    clear hK K hH bx
    replace hH := hG
    clear hG
    (try simp only [List.getElem_toArray]); (try simp only [List.getElem_cons_succ]); (try simp only [List.getElem_cons_zero]); (try simp only [Act.put]); (try simp only [List.setIfInBounds_toArray]); (try simp only [List.set_cons_succ]); (try simp only [List.set_cons_zero])
    refine wpAnyH_ready (rs := [3]) (by kernel_rfl) (by simp) (AllReadyH.cons rfl (fun K hK => ?_) AllReadyH.nil)
    go_simp
    refine (CSM _).mono ?_
    rintro x wy ⟨u, rfl, lx, bx⟩
    obtain ⟨au, cu, rfl⟩ := lx.shape
    go_simp
    refine hK.out _ _ (keep3 bx hH) (fun hG => ?_)
    clear hK K hH bx
    replace hH := hG
    clear hG
    (try simp only [List.getElem_toArray]); (try simp only [List.getElem_cons_succ]); (try simp only [List.getElem_cons_zero]); (try simp only [Act.put]); (try simp only [List.setIfInBounds_toArray]); (try simp only [List.set_cons_succ]); (try simp only [List.set_cons_zero])
    refine wpAnyH_take (i := 4) (v := .int .i64 q) rfl (by kernel_rfl) (by kernel_rfl) (by kernel_rfl) (fun _ _ _ h => h) (Or.inl ⟨by rfl, ?_⟩) hH ?_
    · intro w1 hS; (try dsimp only at hS); go_simp
    (try simp only [List.getElem_toArray]); (try simp only [List.getElem_cons_succ]); (try simp only [List.getElem_cons_zero]); (try simp only [Act.put]); (try simp only [List.setIfInBounds_toArray]); (try simp only [List.set_cons_succ]); (try simp only [List.set_cons_zero])
    refine wpAnyH_done (by kernel_rfl) ?_ _
    obtain ⟨h0, h1, h2, hB, _⟩ := hH
    have HB := Lib.hid hB
    have H2 := Lib.hid h2
    have HL := Lib.hid lx
    have hq0 : (0 : Int) ≤ q := by omega
    clear hB h0 h1 h2 lx
    go_wp2_with fail
    go_loop [18] (fun i => ∃ k : Nat, k ≤ q ∧ i = .int .i64 k ∧ Hid (∀ y : Nat, y < k → colTo D y 8 ≤ t y)) (fun i => q - (intOf i).toNat)
    case atStart => exact ⟨0, by omega, rfl, Lib.hid (by omega)⟩
    case round =>
      obtain ⟨k, hk, rfl, hok⟩ := hrel
      by_cases hlt : k < q
      · rcases HL.out with ⟨h0, _⟩ | ⟨g, cap, cur, e1, hg, hr, hs, hf⟩
        · omega
        cases e1
        have c0 : wy.cell? ⟨g, k, none⟩ = some (.int .i64 (colTo D k 8)) := by rw [cell_of_rowAt hr]; exact hf k (by omega)
        have c1 : wy.cell? ⟨w.heap.size + 1 + 1, k, none⟩ = some (.int .i16 (t k)) := by rw [cell_of_rowAt H2.out]; exact hT.isK.get (by omega)
        have cb := colTo_bdB HBd.out (k := k) (n := 8) (by omega) (by omega)
        have tb := ho.bd k (by omega)
        have k0 : (0 : Int) ≤ k := by omega
        have k1 : (k : Int) < 17 := by omega
        have k2 : (k : Int) < q := by omega
        clear hf hs
        by_cases hle : colTo D k 8 ≤ t k
        · have hn : ¬ t k < colTo D k 8 := by omega
          have HG := Lib.hid hle
          go_wp2_with fail
          refine ⟨⟨k + 1, by omega, by go_num, Lib.hid fun y hy => ?_⟩, by simp [intOf]; omega⟩
          by_cases e : y = k
          · subst e; exact HG.out
          · exact hok.out y (by omega)
        · have HF : Hid (r.sB t D = false) := Lib.hid (Rf.sB_f fun h => hle (((Rf.sound_iff ho).1 h).2 k (by have := HQ.out; omega)))
          have hn : t k < colTo D k 8 := by omega
          go_wp2_with fail
          go_ret
          exact ⟨by rw [HF.out]; rfl, HB.out⟩
      · obtain rfl : k = q := by omega
        have HF : Hid (r.sB t D = true) := Lib.hid (Rf.sB_t ((Rf.sound_iff ho).2 ⟨HWin.out, fun y hy => hok.out y (by have := HQ.out; omega)⟩))
        go_wp2_with fail
        go_ret
        exact ⟨by rw [HF.out]; rfl, HB.out⟩
  · have HF : Hid (r.sB t D = false) := Lib.hid (Rf.sB_f fun h => hwin ((Rf.sound_iff ho).1 h).1)
    have CW := fun w => areWithin_any X c r D w hX hR ho.1
    rw [Rf.winB_f hwin] at CW
    clear hwin
    go_enter Tryd.func57, Tryd.ntmps57
    go_wp2_with fail
    refine gen_callsS fun W1 hW => ?_
    have pB : Below w.heap.size w W1 := by rw [hW]; exact (((Below.refl _ _).alloc (Nat.le_refl _) _).alloc (by simp) _).alloc (by simp; omega) _
    clear hW
    refine (CW _).mono ?_
    rintro e w2 ⟨rfl, b2⟩
    have sB := bnext pB b2 pB.size
    clear b2 pB
    go_wp2_with fail
    go_ret
    exact ⟨by rw [HF.out]; rfl, sB⟩
end Go.Proofs.YtoibolmippfcgaaDoor
