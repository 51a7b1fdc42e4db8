/- What lifting tiles costs for a list: both sides; the order's code on the model's side. -/
import Derived.Test.YtkbacpkpgfppiaaRaise
import Derived.Test.YtkbacpkpgfppiaaLadS
namespace Go.Proofs.Ytkbacpkpgfppiaa
open Go.RowKit

theorem dupP_succ (f : Nat → Int) (k : Nat) : dupP f (k + 1) = (dupP f k || hasP f k (f (k * 2)) (f (k * 2 + 1))) := anyI_succ _ _
theorem dupP_le {f : Nat → Int} {k n : Nat} (hk : k ≤ n) (h : dupP f k = true) : dupP f n = true := by
  cases hq : dupP f n with
  | true => rfl
  | false =>
    have := anyI_f.1 hq
    rw [show dupP f k = false from anyI_f.2 fun q hq => this q (by omega)] at h
    cases h

set_option maxRecDepth 100000 in
set_option maxHeartbeats 2000000 in
theorem l04Once_any (n0 B n : Nat) (c : Array Value) (r : Rf) (f : Nat → Int) (u : Option Addr) (fine : Bool) (w : World) (hr : rowAt w n0 = some c) (hR : IsRoof c r)
    (hv : IsList w B (.slice u n n) 2 n (fun i => .int .i8 (f i))) (hn : n ≤ 2000000) (hf : ∀ i, i < n * 2 → -128 ≤ f i ∧ f i ≤ 127) :
    Calls Try.prog 52 #[.pointer (some ⟨n0, 0, none⟩), .slice u n n, .bool fine] w fun e w' => e = .returned (.int .i64 (r.ocode f n fine)) ∧ Below w.heap.size w w' := by
  have PB := Lib.hid (show Below w.heap.size w (w.alloc (.cells #[] 2)) from (Below.refl _ _).alloc (Nat.le_refl _) _)
  have HV0 := Lib.hid (hv.below PB.out (Nat.le_refl _))
  have HR0 := Lib.hid (brow PB.out hr)
  have LA := fun W k h H => l04Asked_any n0 0 B 0 n c r (fun _ => 0) f (.slice k 0 0) (.slice u n n) fine W h hR (IsList.none0 _ _ _ _ _ _) (by omega) H hn hf
  clear hr hv hf
  by_cases hk : r.wcode (fun _ => 0) 0 f n fine = 0
  · have HK := Lib.hid hk
    rw [hk] at LA
    clear hk
    go_enter Try.func52, Try.ntmps52
    go_wp2_with fail
    refine (LA _ _ HR0.out HV0.out).mono ?_
    rintro e w1 ⟨rfl, b1⟩
    have B1 := Lib.hid (bnext PB.out b1 PB.out.size)
    have HV := Lib.hid (HV0.out.below b1 (Nat.le_refl _))
    clear b1 LA
    go_wp2_with fail
    go_loopw [7, 8] (fun z i' W => ∃ k : Nat, k ≤ n ∧ i' = .int .i64 k ∧ ((z = .int .i64 0 ∧ dupP f k = false) ∨ (z = .int .i64 4 ∧ dupP f k = true)) ∧ Below w1.heap.size w1 W) (fun _ i' _ => n - (intOf i').toNat)
    case atStart => exact ⟨0, by omega, rfl, .inl ⟨rfl, rfl⟩, Below.refl _ _⟩
    case round =>
      obtain ⟨k, hk, rfl, hz, hB⟩ := hrel
      have HB := Lib.hid hB
      clear hB
      rcases hz with ⟨rfl, hd⟩ | ⟨rfl, hd⟩
      · have HD := Lib.hid hd
        clear hd
        by_cases hlt : k < n
        · obtain ⟨gg, rfl, c0, c1⟩ := (HV.out.below HB.out (Nat.le_refl _)).pl hlt
          have hi0 : 0 ≤ (k : Int) := by omega
          have hi1 : (k : Int) < n := by omega
          cases hx : hasP f k (f (k * 2)) (f (k * 2 + 1)) with
          | true =>
            have HX : Hid (dupP f (k + 1) = true) := Lib.hid (by rw [dupP_succ, hx, Bool.or_true])
            go_wp2_with fail
            refine wp_region_held_drew (S := fun w' => Below wr.heap.size wr w') (by kernel_rfl) ((Below.refl _ _).drew) (fun hH => ?_)
            refine wpAnyH_take (i := 0) (v := .slice (some ⟨gg, 0, none⟩) n n) rfl (by kernel_rfl) (by kernel_rfl) (by kernel_rfl) (fun _ _ _ h => h) (Or.inl ⟨by rfl, ?_⟩) hH ?_
            · intro w1 hS; (try dsimp only at hS); go_simp
            (try simp only [List.getElem_toArray]); (try simp only [List.getElem_cons_succ]); (try simp only [List.getElem_cons_zero]); (try simp only [Act.put]); (try simp only [List.setIfInBounds_toArray]); (try simp only [List.set_cons_succ]); (try simp only [List.set_cons_zero])
            refine wpAnyH_take (i := 1) (v := .int .i64 k) rfl (by kernel_rfl) (by kernel_rfl) (by kernel_rfl) (fun _ _ _ h => h) (Or.inl ⟨by rfl, ?_⟩) hH ?_
            · intro w1 hS; (try dsimp only at hS); go_simp
            (try simp only [List.getElem_toArray]); (try simp only [List.getElem_cons_succ]); (try simp only [List.getElem_cons_zero]); (try simp only [Act.put]); (try simp only [List.setIfInBounds_toArray]); (try simp only [List.set_cons_succ]); (try simp only [List.set_cons_zero])
            refine wpAnyH_take (i := 2) (v := .slice (some ⟨gg, 0, none⟩) k n) rfl (by kernel_rfl) (by kernel_rfl) (by kernel_rfl) (fun _ _ _ h => h) (Or.inl ⟨by rfl, ?_⟩) hH ?_
            · intro w1 hS; (try dsimp only at hS); go_simp
            (try simp only [List.getElem_toArray]); (try simp only [List.getElem_cons_succ]); (try simp only [List.getElem_cons_zero]); (try simp only [Act.put]); (try simp only [List.setIfInBounds_toArray]); (try simp only [List.set_cons_succ]); (try simp only [List.set_cons_zero])
            refine wpAnyH_take (i := 3) (v := .slice (some ⟨gg, 0, none⟩) n n) rfl (by kernel_rfl) (by kernel_rfl) (by kernel_rfl) (fun _ _ _ h => h) (Or.inl ⟨by rfl, ?_⟩) hH ?_
            · intro w1 hS; (try dsimp only at hS); go_simp
            (try simp only [List.getElem_toArray]); (try simp only [List.getElem_cons_succ]); (try simp only [List.getElem_cons_zero]); (try simp only [Act.put]); (try simp only [List.setIfInBounds_toArray]); (try simp only [List.set_cons_succ]); (try simp only [List.set_cons_zero])
            refine wpAnyH_take (i := 4) (v := .int .i64 k) rfl (by kernel_rfl) (by kernel_rfl) (by kernel_rfl) (fun _ _ _ h => h) (Or.inl ⟨by rfl, ?_⟩) hH ?_
            · intro w1 hS; (try dsimp only at hS); go_simp
            (try simp only [List.getElem_toArray]); (try simp only [List.getElem_cons_succ]); (try simp only [List.getElem_cons_zero]); (try simp only [Act.put]); (try simp only [List.setIfInBounds_toArray]); (try simp only [List.set_cons_succ]); (try simp only [List.set_cons_zero])
            refine wpAnyH_take (i := 5) (v := .pointer (some ⟨gg, k * 2, none⟩)) rfl (by kernel_rfl) (by kernel_rfl) (by kernel_rfl) (fun _ _ _ h => h) (Or.inl ⟨by rfl, ?_⟩) hH ?_
            · intro w1 hS; (try dsimp only at hS); go_simp
            (try simp only [List.getElem_toArray]); (try simp only [List.getElem_cons_succ]); (try simp only [List.getElem_cons_zero]); (try simp only [Act.put]); (try simp only [List.setIfInBounds_toArray]); (try simp only [List.set_cons_succ]); (try simp only [List.set_cons_zero])
            refine wpAnyH_take (i := 6) (v := .agg #[.int .i8 (f (k * 2)), .int .i8 (f (k * 2 + 1))]) rfl (by kernel_rfl) (by kernel_rfl) (by kernel_rfl) (fun _ _ _ h => h) (Or.inl ⟨by rfl, ?_⟩) hH ?_
            · intro w1 hS; (try dsimp only at hS); have d0 := (hS.cell (p := ⟨gg, k * 2, none⟩) (lt_of_cellA c0)).trans c0; have d1 := (hS.cell (p := ⟨gg, k * 2 + 1, none⟩) (lt_of_cellA c1)).trans c1; go_simp
            (try simp only [List.getElem_toArray]); (try simp only [List.getElem_cons_succ]); (try simp only [List.getElem_cons_zero]); (try simp only [Act.put]); (try simp only [List.setIfInBounds_toArray]); (try simp only [List.set_cons_succ]); (try simp only [List.set_cons_zero])
            refine wpAnyH_ready (rs := [7]) (by kernel_rfl) (by simp) (AllReadyH.cons rfl (fun K hK => ?_) AllReadyH.nil)
            go_simp
            refine (l01Has_any B k (.slice (some ⟨gg, 0, none⟩) k n) f (f (k * 2)) (f (k * 2 + 1)) _ (IsList.pre (HV.out.below (bnext HB.out hH HB.out.size) (Nat.le_refl _)) (by omega) n) (by omega)).mono ?_
            rintro x wx ⟨rfl, bx⟩
            rw [hx]
            go_simp
            refine hK.out _ _ (bnext hH bx hH.size) (fun hG => ?_)
            clear hK K hH bx
            replace hH := hG
            clear hG
            (try simp only [List.getElem_toArray]); (try simp only [List.getElem_cons_succ]); (try simp only [List.getElem_cons_zero]); (try simp only [Act.put]); (try simp only [List.setIfInBounds_toArray]); (try simp only [List.set_cons_succ]); (try simp only [List.set_cons_zero])
            refine wpAnyH_done (by kernel_rfl) ?_ _
            have B2 := Lib.hid (bnext HB.out hH HB.out.size)
            clear hH hx c0 c1
            go_wp2_with fail
            refine ⟨⟨k + 1, by omega, by go_num, .inr ⟨rfl, HX.out⟩, B2.out⟩, by simp [intOf]; omega⟩
          | false =>
            have HX : Hid (dupP f (k + 1) = false) := Lib.hid (by rw [dupP_succ, hx, HD.out]; rfl)
            go_wp2_with fail
            refine wp_region_held_drew (S := fun w' => Below wr.heap.size wr w') (by kernel_rfl) ((Below.refl _ _).drew) (fun hH => ?_)
            refine wpAnyH_take (i := 0) (v := .slice (some ⟨gg, 0, none⟩) n n) rfl (by kernel_rfl) (by kernel_rfl) (by kernel_rfl) (fun _ _ _ h => h) (Or.inl ⟨by rfl, ?_⟩) hH ?_
            · intro w1 hS; (try dsimp only at hS); go_simp
            (try simp only [List.getElem_toArray]); (try simp only [List.getElem_cons_succ]); (try simp only [List.getElem_cons_zero]); (try simp only [Act.put]); (try simp only [List.setIfInBounds_toArray]); (try simp only [List.set_cons_succ]); (try simp only [List.set_cons_zero])
            refine wpAnyH_take (i := 1) (v := .int .i64 k) rfl (by kernel_rfl) (by kernel_rfl) (by kernel_rfl) (fun _ _ _ h => h) (Or.inl ⟨by rfl, ?_⟩) hH ?_
            · intro w1 hS; (try dsimp only at hS); go_simp
            (try simp only [List.getElem_toArray]); (try simp only [List.getElem_cons_succ]); (try simp only [List.getElem_cons_zero]); (try simp only [Act.put]); (try simp only [List.setIfInBounds_toArray]); (try simp only [List.set_cons_succ]); (try simp only [List.set_cons_zero])
            refine wpAnyH_take (i := 2) (v := .slice (some ⟨gg, 0, none⟩) k n) rfl (by kernel_rfl) (by kernel_rfl) (by kernel_rfl) (fun _ _ _ h => h) (Or.inl ⟨by rfl, ?_⟩) hH ?_
            · intro w1 hS; (try dsimp only at hS); go_simp
            (try simp only [List.getElem_toArray]); (try simp only [List.getElem_cons_succ]); (try simp only [List.getElem_cons_zero]); (try simp only [Act.put]); (try simp only [List.setIfInBounds_toArray]); (try simp only [List.set_cons_succ]); (try simp only [List.set_cons_zero])
            refine wpAnyH_take (i := 3) (v := .slice (some ⟨gg, 0, none⟩) n n) rfl (by kernel_rfl) (by kernel_rfl) (by kernel_rfl) (fun _ _ _ h => h) (Or.inl ⟨by rfl, ?_⟩) hH ?_
            · intro w1 hS; (try dsimp only at hS); go_simp
            (try simp only [List.getElem_toArray]); (try simp only [List.getElem_cons_succ]); (try simp only [List.getElem_cons_zero]); (try simp only [Act.put]); (try simp only [List.setIfInBounds_toArray]); (try simp only [List.set_cons_succ]); (try simp only [List.set_cons_zero])
            refine wpAnyH_take (i := 4) (v := .int .i64 k) rfl (by kernel_rfl) (by kernel_rfl) (by kernel_rfl) (fun _ _ _ h => h) (Or.inl ⟨by rfl, ?_⟩) hH ?_
            · intro w1 hS; (try dsimp only at hS); go_simp
            (try simp only [List.getElem_toArray]); (try simp only [List.getElem_cons_succ]); (try simp only [List.getElem_cons_zero]); (try simp only [Act.put]); (try simp only [List.setIfInBounds_toArray]); (try simp only [List.set_cons_succ]); (try simp only [List.set_cons_zero])
            refine wpAnyH_take (i := 5) (v := .pointer (some ⟨gg, k * 2, none⟩)) rfl (by kernel_rfl) (by kernel_rfl) (by kernel_rfl) (fun _ _ _ h => h) (Or.inl ⟨by rfl, ?_⟩) hH ?_
            · intro w1 hS; (try dsimp only at hS); go_simp
            (try simp only [List.getElem_toArray]); (try simp only [List.getElem_cons_succ]); (try simp only [List.getElem_cons_zero]); (try simp only [Act.put]); (try simp only [List.setIfInBounds_toArray]); (try simp only [List.set_cons_succ]); (try simp only [List.set_cons_zero])
            refine wpAnyH_take (i := 6) (v := .agg #[.int .i8 (f (k * 2)), .int .i8 (f (k * 2 + 1))]) rfl (by kernel_rfl) (by kernel_rfl) (by kernel_rfl) (fun _ _ _ h => h) (Or.inl ⟨by rfl, ?_⟩) hH ?_
            · intro w1 hS; (try dsimp only at hS); have d0 := (hS.cell (p := ⟨gg, k * 2, none⟩) (lt_of_cellA c0)).trans c0; have d1 := (hS.cell (p := ⟨gg, k * 2 + 1, none⟩) (lt_of_cellA c1)).trans c1; go_simp
            (try simp only [List.getElem_toArray]); (try simp only [List.getElem_cons_succ]); (try simp only [List.getElem_cons_zero]); (try simp only [Act.put]); (try simp only [List.setIfInBounds_toArray]); (try simp only [List.set_cons_succ]); (try simp only [List.set_cons_zero])
            refine wpAnyH_ready (rs := [7]) (by kernel_rfl) (by simp) (AllReadyH.cons rfl (fun K hK => ?_) AllReadyH.nil)
            go_simp
            refine (l01Has_any B k (.slice (some ⟨gg, 0, none⟩) k n) f (f (k * 2)) (f (k * 2 + 1)) _ (IsList.pre (HV.out.below (bnext HB.out hH HB.out.size) (Nat.le_refl _)) (by omega) n) (by omega)).mono ?_
            rintro x wx ⟨rfl, bx⟩
            rw [hx]
            go_simp
            refine hK.out _ _ (bnext hH bx hH.size) (fun hG => ?_)
            clear hK K hH bx
            replace hH := hG
            clear hG
            (try simp only [List.getElem_toArray]); (try simp only [List.getElem_cons_succ]); (try simp only [List.getElem_cons_zero]); (try simp only [Act.put]); (try simp only [List.setIfInBounds_toArray]); (try simp only [List.set_cons_succ]); (try simp only [List.set_cons_zero])
            refine wpAnyH_done (by kernel_rfl) ?_ _
            have B2 := Lib.hid (bnext HB.out hH HB.out.size)
            clear hH hx c0 c1
            go_wp2_with fail
            refine ⟨⟨k + 1, by omega, by go_num, .inl ⟨rfl, HX.out⟩, B2.out⟩, by simp [intOf]; omega⟩
        · obtain rfl : k = n := by omega
          go_wp2_with fail
          go_ret
          exact ⟨by rw [Rf.ocode_o HK.out HD.out]; rfl, B1.out.trans (HB.out.mono B1.out.size)⟩
      · have HD := Lib.hid (dupP_le hk hd)
        clear hd
        by_cases hlt : (k : Int) < n
        · have hi0 : 0 ≤ (k : Int) := by omega
          go_wp2_with fail
          go_ret
          exact ⟨by rw [Rf.ocode_d HK.out HD.out]; rfl, B1.out.trans (HB.out.mono B1.out.size)⟩
        · go_wp2_with fail
          go_ret
          exact ⟨by rw [Rf.ocode_d HK.out HD.out]; rfl, B1.out.trans (HB.out.mono B1.out.size)⟩
  · have hb : (r.wcode (fun _ => 0) 0 f n fine == 0) = false := by simp [hk]
    have HC : Hid (r.ocode f n fine = r.wcode (fun _ => 0) 0 f n fine) := Lib.hid (Rf.ocode_w hk)
    clear hk
    generalize r.wcode (fun _ => 0) 0 f n fine = C at *
    go_enter Try.func52, Try.ntmps52
    go_wp2_with fail
    refine (LA _ _ HR0.out HV0.out).mono ?_
    rintro e w1 ⟨rfl, b1⟩
    have B1 := Lib.hid (bnext PB.out b1 PB.out.size)
    clear b1 LA
    go_wp2_with fail
    go_loop [7, 8] (fun z i' => z = .int .i64 C ∧ i' = .int .i64 0) (fun _ _ => 0)
    case atStart => exact ⟨rfl, rfl⟩
    case round =>
      obtain ⟨rfl, rfl⟩ := hrel
      by_cases hlt : (0 : Int) < n
      · go_wp2_with fail
        go_ret
        exact ⟨by rw [HC.out]; rfl, B1.out⟩
      · go_wp2_with fail
        go_ret
        exact ⟨by rw [HC.out]; rfl, B1.out⟩

/-- What lifting costs for the first n places. -/
def Rf.liftG (r : Rf) (f : Nat → Int) (k : Nat) : Int := r.lift f k (f (k * 2)) (f (k * 2 + 1))
def Rf.lifted (r : Rf) (f : Nat → Int) (n : Nat) : Int := sumTo (r.liftG f) n
theorem Rf.lifted_bd (r : Rf) (f : Nat → Int) (n : Nat) : 0 ≤ r.lifted f n ∧ r.lifted f n ≤ n * 4 := sumTo_bd fun _ _ => r.lift_bd _ _ _ _

noncomputable def Rf.liftC (r : Rf) (f : Nat → Int) (n : Nat) : Int := r.ocode f n true
noncomputable def Rf.liftV (r : Rf) (f : Nat → Int) (n : Nat) : Int := if r.liftC f n = 0 then r.lifted f n else 0

end Go.Proofs.Ytkbacpkpgfppiaa
