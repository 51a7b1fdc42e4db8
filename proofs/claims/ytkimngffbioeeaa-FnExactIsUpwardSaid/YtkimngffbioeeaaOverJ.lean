/- IsUpward: the program's side. -/
import Derived.Test.YtkimngffbioeeaaOverI
namespace Go.Proofs.Ytkimngffbioeeaa
open Go.RowKit

/-- A list of a call's own, as a list anywhere; its end from place k on. -/
theorem IsList.argL {w : World} {B n cap : Nat} {a : Option Addr} {f : Nat → Int} (h : IsList w B (.slice a n cap) 2 n (fun i => .int .i8 (f i))) : ArgL w (.slice a n cap) n f := by
  rcases h with ⟨h0, _⟩ | ⟨g, cap', cur, e, hg, hr, hs, hf⟩
  · exact ⟨a, cap, rfl, .inl h0⟩
  · cases e
    exact ⟨_, cap, rfl, .inr ⟨g, 0, rfl, fun i hi => by rw [Nat.zero_add, cell_of_rowAt hr]; exact hf i hi⟩⟩
theorem IsList.tail {w : World} {B n cap : Nat} {g : Nat} {f : Nat → Int} (h : IsList w B (.slice (some ⟨g, 0, none⟩) n cap) 2 n (fun i => .int .i8 (f i))) {k : Nat} (hk : k ≤ n) (cap' : Nat) : ArgL w (.slice (some ⟨g, k * 2, none⟩) (n - k) cap') (n - k) (fun x => f (x + k * 2)) := by
  rcases h with ⟨h0, _⟩ | ⟨g', cap0, cur, e, hg, hr, hs, hf⟩
  · exact ⟨_, cap', rfl, .inl (by omega)⟩
  · cases e
    exact ⟨_, cap', rfl, .inr ⟨g, k * 2, rfl, fun i hi => by rw [cell_of_rowAt hr, Nat.add_comm]; exact hf _ (by omega)⟩⟩

set_option maxRecDepth 100000 in
set_option maxHeartbeats 2000000 in
theorem implIsUpward_any (c : Array Value) (r : Rf) (B n : Nat) (f : Nat → Int) (u : Option Addr) (w : World) (hR : IsRoof c r)
    (hv : IsList w B (.slice u n n) 2 n (fun i => .int .i8 (f i))) (hn : n ≤ 2000000) (hf : ∀ i, i < n * 2 → -128 ≤ f i ∧ f i ≤ 127) :
    Calls Try.prog 39 #[.agg c, .slice u n n] w fun e w' => e = .returned (.tuple #[.bool (r.upV f n), .int .i64 (r.liftC f n)]) ∧ Below w.heap.size w w' := by
  have hc := hR.size
  have PB := Lib.hid (show Below w.heap.size w (w.alloc (.cells c 30)) from (Below.refl _ _).alloc (Nat.le_refl _) _)
  have p0 := rowAt_alloc_at w c 30 w.heap.size rfl
  have HV := Lib.hid (hv.below PB.out (Nat.le_refl _))
  have CO := fun W H => checkOrder_any B 0 n 0 c r f (fun _ => 0) (.slice u n n) (.slice none 0 0) W hR H hn hf (IsList.none0 _ _ _ _ _ _) (by omega)
  rw [show r.ocode f n (fineB (fun _ => 0) 0) = r.liftC f n from rfl] at CO
  clear hv
  by_cases hk : r.liftC f n = 0
  · have hb : (r.liftC f n != 0) = false := by simp [hk]
    obtain ⟨ho, _, hp, _, _⟩ := Rf.ocode_zero hk
    have HC : Hid (r.upV f n = r.upB f n) := Lib.hid (if_pos hk)
    have HE := Lib.hid (Rf.upB_iff ho hp)
    have HK := Lib.hid hk
    have HP := Lib.hid hp
    have P0 := Lib.hid p0
    clear hk hp
    go_enter Try.func39, Try.ntmps39
    go_wp2_with fail
    refine (CO _ HV.out).mono ?_
    rintro e w1 ⟨rfl, b1⟩
    have B1 := Lib.hid (bnext PB.out b1 PB.out.size)
    have P1 := Lib.hid (brow b1 P0.out)
    have HV1 := Lib.hid (HV.out.below b1 (Nat.le_refl _))
    clear b1 CO p0
    go_wp2_with fail
    go_loopw [17] (fun x W => ∃ k : Nat, k ≤ n ∧ x = .int .i64 k ∧ Hid (∀ q, q < k → r.lapsOver (f (q * 2)) (f (q * 2 + 1)) (fun x => f (x + (q + 1) * 2)) (n - (q + 1)) = false) ∧ Below w1.heap.size w1 W) (fun x _ => n - (intOf x).toNat)
    case atStart => exact ⟨0, by omega, rfl, Lib.hid (by omega), Below.refl _ _⟩
    case round =>
      obtain ⟨k, hk, rfl, hF, hB⟩ := hrel
      have HB := Lib.hid hB
      clear hB
      by_cases hlt : k < n
      · obtain ⟨gg, rfl, c0, c1⟩ := (HV1.out.below HB.out (Nat.le_refl _)).pl hlt
        obtain ⟨i, j, e0, e1, i8, j8, _, _, _, jw⟩ := Rf.inP_nat ho (HP.out k hlt)
        rw [e0] at c0
        rw [e1] at c1
        have hi0 : 0 ≤ (k : Int) := by omega
        have hi1 : (k : Int) < n := by omega
        have HO : Hid (r.lapsOver (f (k * 2)) (f (k * 2 + 1)) (fun x => f (x + (k + 1) * 2)) (n - (k + 1)) = r.lapsOver i j (fun x => f (x + (k + 1) * 2)) (n - (k + 1))) := Lib.hid (by rw [e0, e1])
        clear e0 e1
        by_cases hlast : k + 1 = n
        · have hz : n - (k + 1) = 0 := by omega
          have hki : (k : Int) + 1 = n := by omega
          have hwn : IntKind.i64.wrap (n : Int) = n := IntWalk.i64_in _ (by omega)
          have HA : Hid (∀ W : World, ArgL W (.slice (some ⟨gg, 0, none⟩) 0 0) (n - (k + 1)) (fun x => f (x + (k + 1) * 2))) := Lib.hid (fun W => ⟨_, 0, by rw [hz], .inl hz⟩)
          have CO := fun W => lapsOverSome_any (n - (k + 1)) c r i j (.slice (some ⟨gg, 0, none⟩) 0 0) (fun x => f (x + (k + 1) * 2)) W hR ho i8 j8 jw (HA.out W) (by omega)
          clear hz
          cases hx : r.lapsOver i j (fun x => f (x + (k + 1) * 2)) (n - (k + 1)) with
          | true =>
            rw [hx] at CO
            have HX := Lib.hid hx
            go_wp2_with fail
            refine gen_world fun Wx hWx => ?_
            have bx0 : Below wr.heap.size wr Wx := by rw [hWx]; exact (Below.refl _ _).alloc (Nat.le_refl _) _
            have BX := Lib.hid (bnext HB.out bx0 HB.out.size)
            have RX := Lib.hid (show rowAt Wx wr.heap.size = some #[.int .i8 i, .int .i8 j] by rw [hWx]; exact rowAt_alloc_at _ _ _ _ rfl)
            clear bx0 hWx
            refine wp_region_held_drew (S := fun w' => Below Wx.heap.size Wx w') (by kernel_rfl) ((Below.refl _ _).drew) (fun hH => ?_)
            refine wpAnyH_take (i := 0) (v := .agg c) rfl (by kernel_rfl) (by kernel_rfl) (by kernel_rfl) (fun _ _ _ h => h) (Or.inl ⟨by rfl, ?_⟩) hH ?_
            · intro w1 hS; (try dsimp only at hS); have s0 := brow hS (brow BX.out P1.out); go_simp
            (try simp only [List.getElem_toArray]); (try simp only [List.getElem_cons_succ]); (try simp only [List.getElem_cons_zero]); (try simp only [Act.put]); (try simp only [List.setIfInBounds_toArray]); (try simp only [List.set_cons_succ]); (try simp only [List.set_cons_zero])
            refine wpAnyH_take (i := 1) (v := .agg #[.int .i8 i, .int .i8 j]) rfl (by kernel_rfl) (by kernel_rfl) (by kernel_rfl) (fun _ _ _ h => h) (Or.inl ⟨by rfl, ?_⟩) hH ?_
            · intro w1 hS; (try dsimp only at hS); have d0 := cell_of_rowAt (brow hS RX.out) 0; have d1 := cell_of_rowAt (brow hS RX.out) 1; go_simp
            (try simp only [List.getElem_toArray]); (try simp only [List.getElem_cons_succ]); (try simp only [List.getElem_cons_zero]); (try simp only [Act.put]); (try simp only [List.setIfInBounds_toArray]); (try simp only [List.set_cons_succ]); (try simp only [List.set_cons_zero])
            refine wpAnyH_take (i := 2) (v := .slice (some ⟨gg, 0, none⟩) n n) rfl (by kernel_rfl) (by kernel_rfl) (by kernel_rfl) (fun _ _ _ h => h) (Or.inl ⟨by rfl, ?_⟩) hH ?_
            · intro w1 hS; (try dsimp only at hS); go_simp
            (try simp only [List.getElem_toArray]); (try simp only [List.getElem_cons_succ]); (try simp only [List.getElem_cons_zero]); (try simp only [Act.put]); (try simp only [List.setIfInBounds_toArray]); (try simp only [List.set_cons_succ]); (try simp only [List.set_cons_zero])
            refine wpAnyH_take (i := 3) (v := .int .i64 k) rfl (by kernel_rfl) (by kernel_rfl) (by kernel_rfl) (fun _ _ _ h => h) (Or.inl ⟨by rfl, ?_⟩) hH ?_
            · intro w1 hS; (try dsimp only at hS); go_simp
            (try simp only [List.getElem_toArray]); (try simp only [List.getElem_cons_succ]); (try simp only [List.getElem_cons_zero]); (try simp only [Act.put]); (try simp only [List.setIfInBounds_toArray]); (try simp only [List.set_cons_succ]); (try simp only [List.set_cons_zero])
            refine wpAnyH_take (i := 4) (v := .int .i64 ((k : Int) + 1)) rfl (by kernel_rfl) (by kernel_rfl) (by kernel_rfl) (fun _ _ _ h => h) (Or.inl ⟨by rfl, ?_⟩) hH ?_
            · intro w1 hS; (try dsimp only at hS); go_simp
            (try simp only [List.getElem_toArray]); (try simp only [List.getElem_cons_succ]); (try simp only [List.getElem_cons_zero]); (try simp only [Act.put]); (try simp only [List.setIfInBounds_toArray]); (try simp only [List.set_cons_succ]); (try simp only [List.set_cons_zero])
            refine wpAnyH_take (i := 5) (v := .slice (some ⟨gg, 0, none⟩) 0 0) rfl (by kernel_rfl) (by kernel_rfl) (by kernel_rfl) (fun _ _ _ h => h) (Or.inl ⟨by rfl, ?_⟩) hH ?_
            · intro w1 hS; (try dsimp only at hS); skip; go_simp
            (try simp only [List.getElem_toArray]); (try simp only [List.getElem_cons_succ]); (try simp only [List.getElem_cons_zero]); (try simp only [Act.put]); (try simp only [List.setIfInBounds_toArray]); (try simp only [List.set_cons_succ]); (try simp only [List.set_cons_zero])
            refine wpAnyH_ready (rs := [6]) (by kernel_rfl) (by simp) (AllReadyH.cons rfl (fun K hK => ?_) AllReadyH.nil)
            go_simp
            refine (CO _).mono ?_
            rintro x wx ⟨rfl, bx⟩
            go_simp
            refine hK.out _ _ (bnext hH bx hH.size) (fun hG => ?_)
            clear hK K hH bx
            replace hH := hG
            clear hG
            (try simp only [List.getElem_toArray]); (try simp only [List.getElem_cons_succ]); (try simp only [List.getElem_cons_zero]); (try simp only [Act.put]); (try simp only [List.setIfInBounds_toArray]); (try simp only [List.set_cons_succ]); (try simp only [List.set_cons_zero])
            refine wpAnyH_done (by kernel_rfl) ?_ _
            have B2 := Lib.hid (bnext BX.out hH BX.out.size)
            clear hH hx c0 c1
            go_wp2_with fail
            go_ret2
            have hU : r.upB f n = false := by rw [HE.out, anyI_t hlt (HO.out.trans HX.out)]; rfl
            exact ⟨by rw [HC.out, HK.out, hU]; rfl, B1.out.trans (B2.out.mono B1.out.size)⟩
          | false =>
            rw [hx] at CO
            have HX := Lib.hid hx
            go_wp2_with fail
            refine gen_world fun Wx hWx => ?_
            have bx0 : Below wr.heap.size wr Wx := by rw [hWx]; exact (Below.refl _ _).alloc (Nat.le_refl _) _
            have BX := Lib.hid (bnext HB.out bx0 HB.out.size)
            have RX := Lib.hid (show rowAt Wx wr.heap.size = some #[.int .i8 i, .int .i8 j] by rw [hWx]; exact rowAt_alloc_at _ _ _ _ rfl)
            clear bx0 hWx
            refine wp_region_held_drew (S := fun w' => Below Wx.heap.size Wx w') (by kernel_rfl) ((Below.refl _ _).drew) (fun hH => ?_)
            refine wpAnyH_take (i := 0) (v := .agg c) rfl (by kernel_rfl) (by kernel_rfl) (by kernel_rfl) (fun _ _ _ h => h) (Or.inl ⟨by rfl, ?_⟩) hH ?_
            · intro w1 hS; (try dsimp only at hS); have s0 := brow hS (brow BX.out P1.out); go_simp
            (try simp only [List.getElem_toArray]); (try simp only [List.getElem_cons_succ]); (try simp only [List.getElem_cons_zero]); (try simp only [Act.put]); (try simp only [List.setIfInBounds_toArray]); (try simp only [List.set_cons_succ]); (try simp only [List.set_cons_zero])
            refine wpAnyH_take (i := 1) (v := .agg #[.int .i8 i, .int .i8 j]) rfl (by kernel_rfl) (by kernel_rfl) (by kernel_rfl) (fun _ _ _ h => h) (Or.inl ⟨by rfl, ?_⟩) hH ?_
            · intro w1 hS; (try dsimp only at hS); have d0 := cell_of_rowAt (brow hS RX.out) 0; have d1 := cell_of_rowAt (brow hS RX.out) 1; go_simp
            (try simp only [List.getElem_toArray]); (try simp only [List.getElem_cons_succ]); (try simp only [List.getElem_cons_zero]); (try simp only [Act.put]); (try simp only [List.setIfInBounds_toArray]); (try simp only [List.set_cons_succ]); (try simp only [List.set_cons_zero])
            refine wpAnyH_take (i := 2) (v := .slice (some ⟨gg, 0, none⟩) n n) rfl (by kernel_rfl) (by kernel_rfl) (by kernel_rfl) (fun _ _ _ h => h) (Or.inl ⟨by rfl, ?_⟩) hH ?_
            · intro w1 hS; (try dsimp only at hS); go_simp
            (try simp only [List.getElem_toArray]); (try simp only [List.getElem_cons_succ]); (try simp only [List.getElem_cons_zero]); (try simp only [Act.put]); (try simp only [List.setIfInBounds_toArray]); (try simp only [List.set_cons_succ]); (try simp only [List.set_cons_zero])
            refine wpAnyH_take (i := 3) (v := .int .i64 k) rfl (by kernel_rfl) (by kernel_rfl) (by kernel_rfl) (fun _ _ _ h => h) (Or.inl ⟨by rfl, ?_⟩) hH ?_
            · intro w1 hS; (try dsimp only at hS); go_simp
            (try simp only [List.getElem_toArray]); (try simp only [List.getElem_cons_succ]); (try simp only [List.getElem_cons_zero]); (try simp only [Act.put]); (try simp only [List.setIfInBounds_toArray]); (try simp only [List.set_cons_succ]); (try simp only [List.set_cons_zero])
            refine wpAnyH_take (i := 4) (v := .int .i64 ((k : Int) + 1)) rfl (by kernel_rfl) (by kernel_rfl) (by kernel_rfl) (fun _ _ _ h => h) (Or.inl ⟨by rfl, ?_⟩) hH ?_
            · intro w1 hS; (try dsimp only at hS); go_simp
            (try simp only [List.getElem_toArray]); (try simp only [List.getElem_cons_succ]); (try simp only [List.getElem_cons_zero]); (try simp only [Act.put]); (try simp only [List.setIfInBounds_toArray]); (try simp only [List.set_cons_succ]); (try simp only [List.set_cons_zero])
            refine wpAnyH_take (i := 5) (v := .slice (some ⟨gg, 0, none⟩) 0 0) rfl (by kernel_rfl) (by kernel_rfl) (by kernel_rfl) (fun _ _ _ h => h) (Or.inl ⟨by rfl, ?_⟩) hH ?_
            · intro w1 hS; (try dsimp only at hS); skip; go_simp
            (try simp only [List.getElem_toArray]); (try simp only [List.getElem_cons_succ]); (try simp only [List.getElem_cons_zero]); (try simp only [Act.put]); (try simp only [List.setIfInBounds_toArray]); (try simp only [List.set_cons_succ]); (try simp only [List.set_cons_zero])
            refine wpAnyH_ready (rs := [6]) (by kernel_rfl) (by simp) (AllReadyH.cons rfl (fun K hK => ?_) AllReadyH.nil)
            go_simp
            refine (CO _).mono ?_
            rintro x wx ⟨rfl, bx⟩
            go_simp
            refine hK.out _ _ (bnext hH bx hH.size) (fun hG => ?_)
            clear hK K hH bx
            replace hH := hG
            clear hG
            (try simp only [List.getElem_toArray]); (try simp only [List.getElem_cons_succ]); (try simp only [List.getElem_cons_zero]); (try simp only [Act.put]); (try simp only [List.setIfInBounds_toArray]); (try simp only [List.set_cons_succ]); (try simp only [List.set_cons_zero])
            refine wpAnyH_done (by kernel_rfl) ?_ _
            have B2 := Lib.hid (bnext BX.out hH BX.out.size)
            clear hH hx c0 c1
            go_wp2_with fail
            refine ⟨⟨k + 1, by omega, by go_num, Lib.hid (fun q hq => ?_), B2.out⟩, by simp [intOf]; omega⟩
            by_cases e : q = k
            · subst e; exact HO.out.trans HX.out
            · exact hF.out q (by omega)
        · have hki : (k : Int) + 1 ≤ n := by omega
          have hkp : 0 ≤ (k : Int) + 1 := by omega
          have hwk : IntKind.i64.wrap ((k : Int) + 1) = (k : Int) + 1 := IntWalk.i64_in _ (by omega)
          have hne : ¬ n = k + 1 := fun e => hlast e.symm
          have HA := Lib.hid (IsList.tail HV1.out (k := k + 1) (by omega) (n - (k + 1)))
          have CO := fun W H => lapsOverSome_any (n - (k + 1)) c r i j (.slice (some ⟨gg, (k + 1) * 2, none⟩) (n - (k + 1)) (n - (k + 1))) (fun x => f (x + (k + 1) * 2)) W hR ho i8 j8 jw H (by omega)
          cases hx : r.lapsOver i j (fun x => f (x + (k + 1) * 2)) (n - (k + 1)) with
          | true =>
            rw [hx] at CO
            have HX := Lib.hid hx
            go_wp2_with fail
            refine gen_world fun Wx hWx => ?_
            have bx0 : Below wr.heap.size wr Wx := by rw [hWx]; exact (Below.refl _ _).alloc (Nat.le_refl _) _
            have BX := Lib.hid (bnext HB.out bx0 HB.out.size)
            have RX := Lib.hid (show rowAt Wx wr.heap.size = some #[.int .i8 i, .int .i8 j] by rw [hWx]; exact rowAt_alloc_at _ _ _ _ rfl)
            clear bx0 hWx
            refine wp_region_held_drew (S := fun w' => Below Wx.heap.size Wx w') (by kernel_rfl) ((Below.refl _ _).drew) (fun hH => ?_)
            refine wpAnyH_take (i := 0) (v := .agg c) rfl (by kernel_rfl) (by kernel_rfl) (by kernel_rfl) (fun _ _ _ h => h) (Or.inl ⟨by rfl, ?_⟩) hH ?_
            · intro w1 hS; (try dsimp only at hS); have s0 := brow hS (brow BX.out P1.out); go_simp
            (try simp only [List.getElem_toArray]); (try simp only [List.getElem_cons_succ]); (try simp only [List.getElem_cons_zero]); (try simp only [Act.put]); (try simp only [List.setIfInBounds_toArray]); (try simp only [List.set_cons_succ]); (try simp only [List.set_cons_zero])
            refine wpAnyH_take (i := 1) (v := .agg #[.int .i8 i, .int .i8 j]) rfl (by kernel_rfl) (by kernel_rfl) (by kernel_rfl) (fun _ _ _ h => h) (Or.inl ⟨by rfl, ?_⟩) hH ?_
            · intro w1 hS; (try dsimp only at hS); have d0 := cell_of_rowAt (brow hS RX.out) 0; have d1 := cell_of_rowAt (brow hS RX.out) 1; go_simp
            (try simp only [List.getElem_toArray]); (try simp only [List.getElem_cons_succ]); (try simp only [List.getElem_cons_zero]); (try simp only [Act.put]); (try simp only [List.setIfInBounds_toArray]); (try simp only [List.set_cons_succ]); (try simp only [List.set_cons_zero])
            refine wpAnyH_take (i := 2) (v := .slice (some ⟨gg, 0, none⟩) n n) rfl (by kernel_rfl) (by kernel_rfl) (by kernel_rfl) (fun _ _ _ h => h) (Or.inl ⟨by rfl, ?_⟩) hH ?_
            · intro w1 hS; (try dsimp only at hS); go_simp
            (try simp only [List.getElem_toArray]); (try simp only [List.getElem_cons_succ]); (try simp only [List.getElem_cons_zero]); (try simp only [Act.put]); (try simp only [List.setIfInBounds_toArray]); (try simp only [List.set_cons_succ]); (try simp only [List.set_cons_zero])
            refine wpAnyH_take (i := 3) (v := .int .i64 k) rfl (by kernel_rfl) (by kernel_rfl) (by kernel_rfl) (fun _ _ _ h => h) (Or.inl ⟨by rfl, ?_⟩) hH ?_
            · intro w1 hS; (try dsimp only at hS); go_simp
            (try simp only [List.getElem_toArray]); (try simp only [List.getElem_cons_succ]); (try simp only [List.getElem_cons_zero]); (try simp only [Act.put]); (try simp only [List.setIfInBounds_toArray]); (try simp only [List.set_cons_succ]); (try simp only [List.set_cons_zero])
            refine wpAnyH_take (i := 4) (v := .int .i64 ((k : Int) + 1)) rfl (by kernel_rfl) (by kernel_rfl) (by kernel_rfl) (fun _ _ _ h => h) (Or.inl ⟨by rfl, ?_⟩) hH ?_
            · intro w1 hS; (try dsimp only at hS); go_simp
            (try simp only [List.getElem_toArray]); (try simp only [List.getElem_cons_succ]); (try simp only [List.getElem_cons_zero]); (try simp only [Act.put]); (try simp only [List.setIfInBounds_toArray]); (try simp only [List.set_cons_succ]); (try simp only [List.set_cons_zero])
            refine wpAnyH_take (i := 5) (v := .slice (some ⟨gg, (k + 1) * 2, none⟩) (n - (k + 1)) (n - (k + 1))) rfl (by kernel_rfl) (by kernel_rfl) (by kernel_rfl) (fun _ _ _ h => h) (Or.inl ⟨by rfl, ?_⟩) hH ?_
            · intro w1 hS; (try dsimp only at hS); skip; go_simp
            (try simp only [List.getElem_toArray]); (try simp only [List.getElem_cons_succ]); (try simp only [List.getElem_cons_zero]); (try simp only [Act.put]); (try simp only [List.setIfInBounds_toArray]); (try simp only [List.set_cons_succ]); (try simp only [List.set_cons_zero])
            refine wpAnyH_ready (rs := [6]) (by kernel_rfl) (by simp) (AllReadyH.cons rfl (fun K hK => ?_) AllReadyH.nil)
            go_simp
            refine (CO _ (HA.out.below (bnext BX.out hH BX.out.size) (Nat.le_refl _))).mono ?_
            rintro x wx ⟨rfl, bx⟩
            go_simp
            refine hK.out _ _ (bnext hH bx hH.size) (fun hG => ?_)
            clear hK K hH bx
            replace hH := hG
            clear hG
            (try simp only [List.getElem_toArray]); (try simp only [List.getElem_cons_succ]); (try simp only [List.getElem_cons_zero]); (try simp only [Act.put]); (try simp only [List.setIfInBounds_toArray]); (try simp only [List.set_cons_succ]); (try simp only [List.set_cons_zero])
            refine wpAnyH_done (by kernel_rfl) ?_ _
            have B2 := Lib.hid (bnext BX.out hH BX.out.size)
            clear hH hx c0 c1
            go_wp2_with fail
            go_ret2
            have hU : r.upB f n = false := by rw [HE.out, anyI_t hlt (HO.out.trans HX.out)]; rfl
            exact ⟨by rw [HC.out, HK.out, hU]; rfl, B1.out.trans (B2.out.mono B1.out.size)⟩
          | false =>
            rw [hx] at CO
            have HX := Lib.hid hx
            go_wp2_with fail
            refine gen_world fun Wx hWx => ?_
            have bx0 : Below wr.heap.size wr Wx := by rw [hWx]; exact (Below.refl _ _).alloc (Nat.le_refl _) _
            have BX := Lib.hid (bnext HB.out bx0 HB.out.size)
            have RX := Lib.hid (show rowAt Wx wr.heap.size = some #[.int .i8 i, .int .i8 j] by rw [hWx]; exact rowAt_alloc_at _ _ _ _ rfl)
            clear bx0 hWx
            refine wp_region_held_drew (S := fun w' => Below Wx.heap.size Wx w') (by kernel_rfl) ((Below.refl _ _).drew) (fun hH => ?_)
            refine wpAnyH_take (i := 0) (v := .agg c) rfl (by kernel_rfl) (by kernel_rfl) (by kernel_rfl) (fun _ _ _ h => h) (Or.inl ⟨by rfl, ?_⟩) hH ?_
            · intro w1 hS; (try dsimp only at hS); have s0 := brow hS (brow BX.out P1.out); go_simp
            (try simp only [List.getElem_toArray]); (try simp only [List.getElem_cons_succ]); (try simp only [List.getElem_cons_zero]); (try simp only [Act.put]); (try simp only [List.setIfInBounds_toArray]); (try simp only [List.set_cons_succ]); (try simp only [List.set_cons_zero])
            refine wpAnyH_take (i := 1) (v := .agg #[.int .i8 i, .int .i8 j]) rfl (by kernel_rfl) (by kernel_rfl) (by kernel_rfl) (fun _ _ _ h => h) (Or.inl ⟨by rfl, ?_⟩) hH ?_
            · intro w1 hS; (try dsimp only at hS); have d0 := cell_of_rowAt (brow hS RX.out) 0; have d1 := cell_of_rowAt (brow hS RX.out) 1; go_simp
            (try simp only [List.getElem_toArray]); (try simp only [List.getElem_cons_succ]); (try simp only [List.getElem_cons_zero]); (try simp only [Act.put]); (try simp only [List.setIfInBounds_toArray]); (try simp only [List.set_cons_succ]); (try simp only [List.set_cons_zero])
            refine wpAnyH_take (i := 2) (v := .slice (some ⟨gg, 0, none⟩) n n) rfl (by kernel_rfl) (by kernel_rfl) (by kernel_rfl) (fun _ _ _ h => h) (Or.inl ⟨by rfl, ?_⟩) hH ?_
            · intro w1 hS; (try dsimp only at hS); go_simp
            (try simp only [List.getElem_toArray]); (try simp only [List.getElem_cons_succ]); (try simp only [List.getElem_cons_zero]); (try simp only [Act.put]); (try simp only [List.setIfInBounds_toArray]); (try simp only [List.set_cons_succ]); (try simp only [List.set_cons_zero])
            refine wpAnyH_take (i := 3) (v := .int .i64 k) rfl (by kernel_rfl) (by kernel_rfl) (by kernel_rfl) (fun _ _ _ h => h) (Or.inl ⟨by rfl, ?_⟩) hH ?_
            · intro w1 hS; (try dsimp only at hS); go_simp
            (try simp only [List.getElem_toArray]); (try simp only [List.getElem_cons_succ]); (try simp only [List.getElem_cons_zero]); (try simp only [Act.put]); (try simp only [List.setIfInBounds_toArray]); (try simp only [List.set_cons_succ]); (try simp only [List.set_cons_zero])
            refine wpAnyH_take (i := 4) (v := .int .i64 ((k : Int) + 1)) rfl (by kernel_rfl) (by kernel_rfl) (by kernel_rfl) (fun _ _ _ h => h) (Or.inl ⟨by rfl, ?_⟩) hH ?_
            · intro w1 hS; (try dsimp only at hS); go_simp
            (try simp only [List.getElem_toArray]); (try simp only [List.getElem_cons_succ]); (try simp only [List.getElem_cons_zero]); (try simp only [Act.put]); (try simp only [List.setIfInBounds_toArray]); (try simp only [List.set_cons_succ]); (try simp only [List.set_cons_zero])
            refine wpAnyH_take (i := 5) (v := .slice (some ⟨gg, (k + 1) * 2, none⟩) (n - (k + 1)) (n - (k + 1))) rfl (by kernel_rfl) (by kernel_rfl) (by kernel_rfl) (fun _ _ _ h => h) (Or.inl ⟨by rfl, ?_⟩) hH ?_
            · intro w1 hS; (try dsimp only at hS); skip; go_simp
            (try simp only [List.getElem_toArray]); (try simp only [List.getElem_cons_succ]); (try simp only [List.getElem_cons_zero]); (try simp only [Act.put]); (try simp only [List.setIfInBounds_toArray]); (try simp only [List.set_cons_succ]); (try simp only [List.set_cons_zero])
            refine wpAnyH_ready (rs := [6]) (by kernel_rfl) (by simp) (AllReadyH.cons rfl (fun K hK => ?_) AllReadyH.nil)
            go_simp
            refine (CO _ (HA.out.below (bnext BX.out hH BX.out.size) (Nat.le_refl _))).mono ?_
            rintro x wx ⟨rfl, bx⟩
            go_simp
            refine hK.out _ _ (bnext hH bx hH.size) (fun hG => ?_)
            clear hK K hH bx
            replace hH := hG
            clear hG
            (try simp only [List.getElem_toArray]); (try simp only [List.getElem_cons_succ]); (try simp only [List.getElem_cons_zero]); (try simp only [Act.put]); (try simp only [List.setIfInBounds_toArray]); (try simp only [List.set_cons_succ]); (try simp only [List.set_cons_zero])
            refine wpAnyH_done (by kernel_rfl) ?_ _
            have B2 := Lib.hid (bnext BX.out hH BX.out.size)
            clear hH hx c0 c1
            go_wp2_with fail
            refine ⟨⟨k + 1, by omega, by go_num, Lib.hid (fun q hq => ?_), B2.out⟩, by simp [intOf]; omega⟩
            by_cases e : q = k
            · subst e; exact HO.out.trans HX.out
            · exact hF.out q (by omega)
      · obtain rfl : k = n := by omega
        have hU : Hid (r.upB f k = true) := Lib.hid (by rw [HE.out, anyI_f.2 hF.out]; rfl)
        go_wp2_with fail
        go_ret2
        exact ⟨by rw [HC.out, HK.out, hU.out]; rfl, B1.out.trans (HB.out.mono B1.out.size)⟩
  · have hb : (r.liftC f n != 0) = true := by simp [hk]
    have HC : Hid (r.upV f n = false) := Lib.hid (if_neg hk)
    clear hk
    go_enter Try.func39, Try.ntmps39
    go_wp2_with fail
    refine (CO _ HV.out).mono ?_
    rintro e w1 ⟨rfl, b1⟩
    have B1 := Lib.hid (bnext PB.out b1 PB.out.size)
    clear b1 CO p0
    go_wp2_with fail
    go_ret2
    exact ⟨by rw [HC.out]; rfl, B1.out⟩
end Go.Proofs.Ytkimngffbioeeaa
