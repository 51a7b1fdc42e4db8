/- slices.Chunk at places: the parts of a list, one by one. -/
import Derived.Test.YtkbacpkpgfppiaaClimbM
import Derived.Test.YtkbacpkpgfppiaaPlaces
import Derived.Test.YtkbacpkpgfppiaaRowT
import Derived.Test.YtkbacpkpgfppiaaLift
namespace Go.Proofs.Ytkbacpkpgfppiaa
open Go.RowKit Go.Shelf
attribute [local go_sem] Oper.semAt_some

/-- A part of n places, of y each, by its number. -/
abbrev Pt (y n : Nat) := { j : Nat // j * y < n }
/-- How many places it has. -/
def ptE (y n j : Nat) : Nat := min y (n - j * y)
def Pt.enc (g : Nat) {y n : Nat} (x : Pt y n) : Value := .slice (some ⟨g, x.1 * y * 2, none⟩) (ptE y n x.1) (ptE y n x.1)
def ptUpto (y n : Nat) : Nat → List (Pt y n)
  | 0 => []
  | k + 1 => ptUpto y n k ++ (if q : k * y < n then [⟨k, q⟩] else [])
theorem ptUpto_succ {y n k : Nat} (h : k * y < n) : ptUpto y n (k + 1) = ptUpto y n k ++ [⟨k, h⟩] := by rw [ptUpto, dif_pos h]
theorem ptUpto_len (y n : Nat) : ∀ k, (ptUpto y n k).length ≤ k
  | 0 => Nat.le_refl _
  | k + 1 => by
    have := ptUpto_len y n k
    simp only [ptUpto, List.length_append]
    split <;> simp <;> omega
/-- What is climbed for some parts. -/
def sumP (h : Int) (f : Nat → Int) (y n : Nat) : List (Pt y n) → Int
  | [] => 0
  | x :: l => 2 * pmx h f (x.1 * y) (ptE y n x.1) + sumP h f y n l
theorem sumP_snoc (h : Int) (f : Nat → Int) (y n : Nat) (x : Pt y n) : ∀ l, sumP h f y n (l ++ [x]) = sumP h f y n l + 2 * pmx h f (x.1 * y) (ptE y n x.1)
  | [] => by simp [sumP]
  | z :: l => by have := sumP_snoc h f y n x l; simp only [List.cons_append, sumP]; omega
theorem sumP_upto (h : Int) (f : Nat → Int) (y n : Nat) : ∀ k, sumP h f y n (ptUpto y n k) = tot h f y (min (k * y) n)
  | 0 => by simp [ptUpto, sumP, tot, clm]
  | k + 1 => by
    have ih := sumP_upto h f y n k
    by_cases q : k * y < n
    · rw [ptUpto_succ q, sumP_snoc, ih, Nat.min_eq_left (by omega), ← tot_part (by unfold ptE; omega)]
      congr 1
      unfold ptE
      rw [Nat.succ_mul]
      dsimp only
      omega
    · rw [ptUpto, dif_neg q, List.append_nil, ih, Nat.succ_mul, Nat.min_eq_right (by omega), Nat.min_eq_right (by omega)]
theorem sumP_bd {h : Int} {f : Nat → Int} {y n : Nat} (hf : ∀ q, q < n → 0 ≤ h - f (q * 2) ∧ h - f (q * 2) ≤ 8) : ∀ l : List (Pt y n), 0 ≤ sumP h f y n l ∧ sumP h f y n l ≤ 16 * l.length
  | [] => by simp [sumP]
  | x :: l => by
    have h1 := sumP_bd hf l
    have h2 := pmx_bd (h := h) (f := f) (k := x.1 * y) (e := ptE y n x.1) fun q hq => hf _ (by unfold ptE at hq; omega)
    simp only [sumP, List.length_cons]
    omega

/-- What a round that goes on keeps: the blocks below n, and the two boxes. -/
def KpC (n B M : Nat) (W W' : World) : Prop := Below n W W' ∧ (∀ c, rowAt W B = some c → rowAt W' B = some c) ∧ ∀ c, rowAt W M = some c → rowAt W' M = some c
theorem KpC.refl (n B M : Nat) (W : World) : KpC n B M W W := ⟨Below.refl _ _, fun _ h => h, fun _ h => h⟩
theorem KpC.drew {n B M : Nat} (W : World) : KpC n B M W W.drew := ⟨(Below.refl _ _).drew, fun _ h => h, fun _ h => h⟩
theorem KpC.trans {n B M : Nat} {A C D : World} (h : KpC n B M A C) (k : KpC n B M C D) : KpC n B M A D := ⟨h.1.trans k.1, fun c x => k.2.1 c (h.2.1 c x), fun c x => k.2.2 c (h.2.2 c x)⟩
theorem KpC.put {n B M : Nat} {w : World} (hn : n ≤ w.heap.size) (hB : B < w.heap.size) (hM : M < w.heap.size) : ∀ (W : World) (l : Nat) (o o' : Obj), w.heap.size ≤ l → W.heap[l]? = some o → o.isCells = false → o.isWalk = false → KpC n B M W (W.putObj l o') :=
  fun W l o o' hl ho hc hw => ⟨belowK_b (w := w) hn W l o o' hl ho hc hw, fun c h => by
    obtain ⟨t, ht⟩ := rowAt_some h
    exact rowAt_of_heap (t := t) ((World.putObj_heap_other (by omega)).trans ht), fun c h => by
    obtain ⟨t, ht⟩ := rowAt_some h
    exact rowAt_of_heap (t := t) ((World.putObj_heap_other (by omega)).trans ht)⟩

theorem onlyN_outC {Q : Exit → Act → World → Prop} : ∀ e a w, OnlyN Q e a w → Q e a w
  | .normal, _, _, h => h
  | .ret, _, _, h => h.elim
  | .exit _, _, _, h => h.elim
  | .goto _, _, _, h => h.elim
  | .panic _, _, _, h => h.elim
  | .outgrown, _, _, h => h.elim

set_option maxRecDepth 100000 in
set_option maxHeartbeats 2000000 in
theorem chunk1_in (m : Nat) (hm : 1 ≤ m) (l Ln Mn n0 g n y : Nat) (u : Option Addr) (hu : 0 < n → u = some ⟨g, 0, none⟩) (hn : n ≤ 8) (hy : 1 ≤ y ∧ y ≤ 20) (J Jx : List (Pt y n) → World → Prop)
    (hY : ∀ (pre : List (Pt y n)) (x : Pt y n) (W : World), J pre W → pre.length < n → YieldAt Fence.wide (m - 1) Try.prog l #[x.enc g] W fun e W' =>
      (e = .returned (.bool true) ∧ J (pre ++ [x]) W' ∧ KpC n0 Ln Mn W W') ∨ (e = .returned (.bool false) ∧ Jx (pre ++ [x]) W'))
    (hD : ∀ pre W, J pre W → J pre W.drew)
    (W : World) (hL : rowAt W Ln = some #[.slice u n n]) (hM : rowAt W Mn = some #[.int .i64 y]) (h0 : J [] W) :
    CallsIn Fence.wide m Try.prog 144 #[.func (.yield l) #[] #[], .pointer (some ⟨Ln, 0, none⟩), .pointer (some ⟨Mn, 0, none⟩)] W fun e W' => (∃ v, e = .returned v) ∧
      ((∃ ys, (∃ k, ys = ptUpto y n k ∧ n ≤ k * y) ∧ J ys W') ∨ (∃ pre, True ∧ Jx pre W')) := by
  have HY := Lib.hid hY
  have HD := Lib.hid hD
  clear hY hD
  refine callsIn_of_wp Try.func144 rfl trivial ?_ rfl
  simp only [Try.ntmps144, List.size_toArray, List.length_cons, List.length_nil, Nat.reduceAdd, Nat.reduceSub, Array.replicate_succ, Array.replicate_zero, List.push_toArray, List.append_toArray, List.nil_append, List.cons_append]
  gi_wp2
  gi_loopw [4] (fun i wr => ∃ k b : Nat, k ≤ n ∧ b ≤ 160 ∧ Hid (b = k * y) ∧ i = .int .i64 b ∧ J (ptUpto y n k) wr ∧ rowAt wr Ln = some #[.slice u n n] ∧ rowAt wr Mn = some #[.int .i64 y]) (fun i _ => n - (intOf i).toNat)
  case atStart => exact ⟨0, 0, by omega, by omega, Lib.hid (by simp), rfl, h0, hL, hM⟩
  case round =>
    clear h0 hL hM W
    obtain ⟨k, b, hk, hb, HB, rfl, hJ, hL, hM⟩ := hrel
    obtain ⟨W, rfl⟩ : ∃ wo : World, wo = wr := ⟨_, rfl⟩
    have u0 := cell_of_rowAt hL 0
    have u1 := cell_of_rowAt hM 0
    simp at u0 u1
    by_cases hlt : b < n
    · obtain rfl := hu (by omega)
      clear hu
      obtain ⟨hkn, hq⟩ : k + 1 ≤ n ∧ k * y < n := by
        have h1 : k * 1 ≤ k * y := Nat.mul_le_mul_left k hy.1
        have h2 := HB.out
        omega
      have l0 : 0 ≤ (b : Int) := by omega
      have l1 : (b : Int) < n := by omega
      have l2 : (b : Int) ≤ n := by omega
      have wk : IntKind.i64.wrap (b : Int) = (b : Int) := IntWalk.i64_in _ (by omega)
      have nk : ¬ n = b := by omega
      have y1 : 1 ≤ (y : Int) := by omega
      have y2 : (y : Int) ≤ 20 := by omega
      obtain ⟨e, HE⟩ : ∃ e : Nat, Hid (e = min y (n - b)) := ⟨_, Lib.hid rfl⟩
      obtain ⟨x, HX, HP⟩ : ∃ x : Pt y n, Hid (Pt.enc g x = .slice (some ⟨g, b * 2, none⟩) e e) ∧ Hid (ptUpto y n (k + 1) = ptUpto y n k ++ [x]) := ⟨⟨k, hq⟩, Lib.hid (by unfold Pt.enc ptE; rw [HE.out, HB.out]), Lib.hid (ptUpto_succ hq)⟩
      have e1 : 1 ≤ e := by have := HE.out; omega
      have e2 : b + e ≤ n := by have := HE.out; omega
      have HE3 : Hid (b + y ≤ n → e = y) := Lib.hid (by have := HE.out; omega)
      have HL := Lib.hid (ptUpto_len y n k)
      clear hq
      have b1 : (b : Int) + (e : Int) ≤ n := by omega
      have b0 : 0 ≤ (b : Int) + (e : Int) := by omega
      have b3 : (b : Int) ≤ (b : Int) + (e : Int) := by omega
      have wb : IntKind.i64.wrap ((b : Int) + (e : Int)) = (b : Int) + (e : Int) := IntWalk.i64_in _ (by omega)
      have te : ((b : Int) + (e : Int)).toNat - b = e := by omega
      by_cases hmin : n - b < y
      · have e3 : ((n - b : Nat) : Int) < (y : Int) := by omega
        have HE4 : Hid (((n - b : Nat) : Int) = (e : Int)) := Lib.hid (by have := HE.out; omega)
        gi_wp2
        refine wpIn_wide.2 (Code.wp_mono onlyN_outC ?_)
        refine wp_region_held_drew (S := (fun w' => rowAt w' Ln = some #[.slice (some ⟨g, 0, none⟩) n n] ∧ rowAt w' Mn = some #[.int .i64 y] ∧ J (ptUpto y n k) w')) (by kernel_rfl) (⟨hL, hM, HD.out _ _ hJ⟩) (fun hH => ?_)
        refine wpAnyH_take (i := 0) (v := .int .i64 y) rfl (by kernel_rfl) (by kernel_rfl) (by kernel_rfl) (fun _ _ _ h => h) (Or.inl ⟨by rfl, ?_⟩) hH ?_
        · intro w1 hS; (try dsimp only at hS); obtain ⟨s0, s1, _⟩ := hS; have u0 := cell_of_rowAt s0 0; have u1 := cell_of_rowAt s1 0; simp at u0 u1; go_simp
        (try simp only [List.getElem_toArray]); (try simp only [List.getElem_cons_succ]); (try simp only [List.getElem_cons_zero]); (try simp only [Act.put]); (try simp only [List.setIfInBounds_toArray]); (try simp only [List.set_cons_succ]); (try simp only [List.set_cons_zero])
        refine wpAnyH_take (i := 1) (v := .slice (some ⟨g, 0, none⟩) n n) rfl (by kernel_rfl) (by kernel_rfl) (by kernel_rfl) (fun _ _ _ h => h) (Or.inl ⟨by rfl, ?_⟩) hH ?_
        · intro w1 hS; (try dsimp only at hS); obtain ⟨s0, s1, _⟩ := hS; have u0 := cell_of_rowAt s0 0; have u1 := cell_of_rowAt s1 0; simp at u0 u1; go_simp
        (try simp only [List.getElem_toArray]); (try simp only [List.getElem_cons_succ]); (try simp only [List.getElem_cons_zero]); (try simp only [Act.put]); (try simp only [List.setIfInBounds_toArray]); (try simp only [List.set_cons_succ]); (try simp only [List.set_cons_zero])
        refine wpAnyH_take (i := 2) (v := .int .i64 (b : Int)) rfl (by kernel_rfl) (by kernel_rfl) (by kernel_rfl) (fun _ _ _ h => h) (Or.inl ⟨by rfl, ?_⟩) hH ?_
        · intro w1 hS; (try dsimp only at hS); go_simp
        (try simp only [List.getElem_toArray]); (try simp only [List.getElem_cons_succ]); (try simp only [List.getElem_cons_zero]); (try simp only [Act.put]); (try simp only [List.setIfInBounds_toArray]); (try simp only [List.set_cons_succ]); (try simp only [List.set_cons_zero])
        refine wpAnyH_take (i := 3) (v := .slice (some ⟨g, b * 2, none⟩) (n - b) (n - b)) rfl (by kernel_rfl) (by kernel_rfl) (by kernel_rfl) (fun _ _ _ h => h) (Or.inl ⟨by rfl, ?_⟩) hH ?_
        · intro w1 hS; (try dsimp only at hS); go_simp
        (try simp only [List.getElem_toArray]); (try simp only [List.getElem_cons_succ]); (try simp only [List.getElem_cons_zero]); (try simp only [Act.put]); (try simp only [List.setIfInBounds_toArray]); (try simp only [List.set_cons_succ]); (try simp only [List.set_cons_zero])
        refine wpAnyH_take (i := 4) (v := .int .i64 ((n - b : Nat) : Int)) rfl (by kernel_rfl) (by kernel_rfl) (by kernel_rfl) (fun _ _ _ h => h) (Or.inl ⟨by rfl, ?_⟩) hH ?_
        · intro w1 hS; (try dsimp only at hS); go_simp
        (try simp only [List.getElem_toArray]); (try simp only [List.getElem_cons_succ]); (try simp only [List.getElem_cons_zero]); (try simp only [Act.put]); (try simp only [List.setIfInBounds_toArray]); (try simp only [List.set_cons_succ]); (try simp only [List.set_cons_zero])
        refine wpAnyH_ready (rs := [5]) (by kernel_rfl) (by simp) (AllReadyH.cons rfl (fun K hK => ?_) AllReadyH.nil)
        go_simp
        refine hK.out _ _ hH (fun hG => ?_)
        clear hK K hH
        replace hH := hG
        clear hG
        (try simp only [List.getElem_toArray]); (try simp only [List.getElem_cons_succ]); (try simp only [List.getElem_cons_zero]); (try simp only [Act.put]); (try simp only [List.setIfInBounds_toArray]); (try simp only [List.set_cons_succ]); (try simp only [List.set_cons_zero])
        refine wpAnyH_take (i := 6) (v := .int .i64 (e : Int)) rfl (by kernel_rfl) (by kernel_rfl) (by kernel_rfl) (fun _ _ _ h => h) (Or.inl ⟨by rfl, ?_⟩) hH ?_
        · intro w1 hS; (try dsimp only at hS); go_simp; (try simp [HE4.out])
        (try simp only [List.getElem_toArray]); (try simp only [List.getElem_cons_succ]); (try simp only [List.getElem_cons_zero]); (try simp only [Act.put]); (try simp only [List.setIfInBounds_toArray]); (try simp only [List.set_cons_succ]); (try simp only [List.set_cons_zero])
        refine wpAnyH_done (by kernel_rfl) ?_ _
        obtain ⟨hL2, hM2, hJ2⟩ := hH
        have u0 := cell_of_rowAt hL2 0
        have u1 := cell_of_rowAt hM2 0
        simp at u0 u1
        obtain ⟨fn, tmps, assign, body, hy', hRn⟩ := HY.out _ x _ hJ2 (by have := HL.out; omega)
        rw [HX.out] at hy'
        rw [← HP.out] at hRn
        clear e3
        dsimp only [OnlyN]
        gi_wp2
        refine hRn.mono ?_
        rintro e W3 (⟨rfl, hJ3, hk3⟩ | ⟨rfl, hJx3⟩)
        · have hL3 := hk3.2.1 _ hL2
          have hM3 := hk3.2.2 _ hM2
          have v1 := cell_of_rowAt hM3 0
          simp at v1
          clear hy' hRn hJ2 hL2 hM2 hk3 u0 u1
          gi_wp2
          go_roundw
          case rel => exact ⟨k + 1, b + y, by omega, by omega, Lib.hid (by rw [Nat.succ_mul, HB.out]), by go_num, hJ3, hL3, hM3⟩
          case measure => simp [intOf]; omega
        · clear hy' hRn hJ2 hL2 hM2 u0 u1
          gi_wp2
          refine bodyPost_ret (results_none rfl _ _ _) rfl ?_
          exact ⟨⟨_, rfl⟩, .inr ⟨_, trivial, hJx3⟩⟩
      · have e3 : ¬ ((n - b : Nat) : Int) < (y : Int) := by omega
        have HE4 : Hid ((y : Int) = (e : Int)) := Lib.hid (by have := HE.out; omega)
        gi_wp2
        refine wpIn_wide.2 (Code.wp_mono onlyN_outC ?_)
        refine wp_region_held_drew (S := (fun w' => rowAt w' Ln = some #[.slice (some ⟨g, 0, none⟩) n n] ∧ rowAt w' Mn = some #[.int .i64 y] ∧ J (ptUpto y n k) w')) (by kernel_rfl) (⟨hL, hM, HD.out _ _ hJ⟩) (fun hH => ?_)
        refine wpAnyH_take (i := 0) (v := .int .i64 y) rfl (by kernel_rfl) (by kernel_rfl) (by kernel_rfl) (fun _ _ _ h => h) (Or.inl ⟨by rfl, ?_⟩) hH ?_
        · intro w1 hS; (try dsimp only at hS); obtain ⟨s0, s1, _⟩ := hS; have u0 := cell_of_rowAt s0 0; have u1 := cell_of_rowAt s1 0; simp at u0 u1; go_simp
        (try simp only [List.getElem_toArray]); (try simp only [List.getElem_cons_succ]); (try simp only [List.getElem_cons_zero]); (try simp only [Act.put]); (try simp only [List.setIfInBounds_toArray]); (try simp only [List.set_cons_succ]); (try simp only [List.set_cons_zero])
        refine wpAnyH_take (i := 1) (v := .slice (some ⟨g, 0, none⟩) n n) rfl (by kernel_rfl) (by kernel_rfl) (by kernel_rfl) (fun _ _ _ h => h) (Or.inl ⟨by rfl, ?_⟩) hH ?_
        · intro w1 hS; (try dsimp only at hS); obtain ⟨s0, s1, _⟩ := hS; have u0 := cell_of_rowAt s0 0; have u1 := cell_of_rowAt s1 0; simp at u0 u1; go_simp
        (try simp only [List.getElem_toArray]); (try simp only [List.getElem_cons_succ]); (try simp only [List.getElem_cons_zero]); (try simp only [Act.put]); (try simp only [List.setIfInBounds_toArray]); (try simp only [List.set_cons_succ]); (try simp only [List.set_cons_zero])
        refine wpAnyH_take (i := 2) (v := .int .i64 (b : Int)) rfl (by kernel_rfl) (by kernel_rfl) (by kernel_rfl) (fun _ _ _ h => h) (Or.inl ⟨by rfl, ?_⟩) hH ?_
        · intro w1 hS; (try dsimp only at hS); go_simp
        (try simp only [List.getElem_toArray]); (try simp only [List.getElem_cons_succ]); (try simp only [List.getElem_cons_zero]); (try simp only [Act.put]); (try simp only [List.setIfInBounds_toArray]); (try simp only [List.set_cons_succ]); (try simp only [List.set_cons_zero])
        refine wpAnyH_take (i := 3) (v := .slice (some ⟨g, b * 2, none⟩) (n - b) (n - b)) rfl (by kernel_rfl) (by kernel_rfl) (by kernel_rfl) (fun _ _ _ h => h) (Or.inl ⟨by rfl, ?_⟩) hH ?_
        · intro w1 hS; (try dsimp only at hS); go_simp
        (try simp only [List.getElem_toArray]); (try simp only [List.getElem_cons_succ]); (try simp only [List.getElem_cons_zero]); (try simp only [Act.put]); (try simp only [List.setIfInBounds_toArray]); (try simp only [List.set_cons_succ]); (try simp only [List.set_cons_zero])
        refine wpAnyH_take (i := 4) (v := .int .i64 ((n - b : Nat) : Int)) rfl (by kernel_rfl) (by kernel_rfl) (by kernel_rfl) (fun _ _ _ h => h) (Or.inl ⟨by rfl, ?_⟩) hH ?_
        · intro w1 hS; (try dsimp only at hS); go_simp
        (try simp only [List.getElem_toArray]); (try simp only [List.getElem_cons_succ]); (try simp only [List.getElem_cons_zero]); (try simp only [Act.put]); (try simp only [List.setIfInBounds_toArray]); (try simp only [List.set_cons_succ]); (try simp only [List.set_cons_zero])
        refine wpAnyH_ready (rs := [5]) (by kernel_rfl) (by simp) (AllReadyH.cons rfl (fun K hK => ?_) AllReadyH.nil)
        go_simp
        refine hK.out _ _ hH (fun hG => ?_)
        clear hK K hH
        replace hH := hG
        clear hG
        (try simp only [List.getElem_toArray]); (try simp only [List.getElem_cons_succ]); (try simp only [List.getElem_cons_zero]); (try simp only [Act.put]); (try simp only [List.setIfInBounds_toArray]); (try simp only [List.set_cons_succ]); (try simp only [List.set_cons_zero])
        refine wpAnyH_take (i := 6) (v := .int .i64 (e : Int)) rfl (by kernel_rfl) (by kernel_rfl) (by kernel_rfl) (fun _ _ _ h => h) (Or.inl ⟨by rfl, ?_⟩) hH ?_
        · intro w1 hS; (try dsimp only at hS); go_simp; (try simp [HE4.out])
        (try simp only [List.getElem_toArray]); (try simp only [List.getElem_cons_succ]); (try simp only [List.getElem_cons_zero]); (try simp only [Act.put]); (try simp only [List.setIfInBounds_toArray]); (try simp only [List.set_cons_succ]); (try simp only [List.set_cons_zero])
        refine wpAnyH_done (by kernel_rfl) ?_ _
        obtain ⟨hL2, hM2, hJ2⟩ := hH
        have u0 := cell_of_rowAt hL2 0
        have u1 := cell_of_rowAt hM2 0
        simp at u0 u1
        obtain ⟨fn, tmps, assign, body, hy', hRn⟩ := HY.out _ x _ hJ2 (by have := HL.out; omega)
        rw [HX.out] at hy'
        rw [← HP.out] at hRn
        clear e3
        dsimp only [OnlyN]
        gi_wp2
        refine hRn.mono ?_
        rintro e W3 (⟨rfl, hJ3, hk3⟩ | ⟨rfl, hJx3⟩)
        · have hL3 := hk3.2.1 _ hL2
          have hM3 := hk3.2.2 _ hM2
          have v1 := cell_of_rowAt hM3 0
          simp at v1
          clear hy' hRn hJ2 hL2 hM2 hk3 u0 u1
          gi_wp2
          go_roundw
          case rel => exact ⟨k + 1, b + y, by omega, by omega, Lib.hid (by rw [Nat.succ_mul, HB.out]), by go_num, hJ3, hL3, hM3⟩
          case measure => simp [intOf]; omega
        · clear hy' hRn hJ2 hL2 hM2 u0 u1
          gi_wp2
          refine bodyPost_ret (results_none rfl _ _ _) rfl ?_
          exact ⟨⟨_, rfl⟩, .inr ⟨_, trivial, hJx3⟩⟩
    · have hnb : n ≤ k * y := by have := HB.out; omega
      gi_wp2
      go_end0
      exact ⟨⟨_, rfl⟩, .inl ⟨_, ⟨k, rfl, hnb⟩, hJ⟩⟩

/-- **slices.Chunk hands back a value that gives all parts, in their order.** -/
theorem chunk_stops (m : Nat) (hm : 1 ≤ m) (Ln Mn n0 g n y : Nat) (u : Option Addr) (hu : 0 < n → u = some ⟨g, 0, none⟩) (hn : n ≤ 8) (hy : 1 ≤ y ∧ y ≤ 20) (w : World) (hL : rowAt w Ln = some #[.slice u n n]) (hM : rowAt w Mn = some #[.int .i64 y]) :
    SeqStopsK Fence.wide m Try.prog 144 #[.pointer (some ⟨Ln, 0, none⟩), .pointer (some ⟨Mn, 0, none⟩)] (fun x : Pt y n => #[x.enc g]) (KpC n0 Ln Mn) (fun ys => ∃ k, ys = ptUpto y n k ∧ n ≤ k * y) (fun _ => True) n w :=
  fun l J Jx W hW hJ _ hY h0 => chunk1_in m hm l Ln Mn n0 g n y u hu hn hy J Jx hY (fun pre W h => hJ pre W W.drew none h ⟨rfl, rfl, rfl, Nat.le_refl _, fun _ _ _ => rfl⟩ (fun r e => by cases e)) W (brow hW hL) (brow hW hM) h0

set_option maxHeartbeats 1000000 in
theorem chunk_any (u : Option Addr) (n c y : Nat) (w : World) (hy : 1 ≤ y) (hy2 : y ≤ 20) :
    Calls Try.prog 96 #[.slice u n c, .int .i64 y] w fun e w' => e = .returned (.func (.func 144) #[] #[.pointer (some ⟨w.heap.size, 0, none⟩), .pointer (some ⟨w.heap.size + 1, 0, none⟩)]) ∧ w' = (w.alloc (.cells #[.slice u n c] 33)).alloc (.cells #[.int .i64 y] 3) := by
  have y1 : ¬ (y : Int) < 1 := by omega
  have y2 : (y : Int) ≤ 20 := by omega
  go_enter Try.func96, Try.ntmps96
  go_wp2
  go_ret
  exact ⟨rfl, rfl⟩
end Go.Proofs.Ytkbacpkpgfppiaa
