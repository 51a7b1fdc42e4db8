/- Patterns of words: letters, the program's isRed of a told word, the model's colours of a word. -/
import Derived.Test.YtppohghejhcilaaDoorWord
import Derived.Test.YtppohghejhcilaaDoorColF
import Derived.Test.YtppohghejhcilaaDoorEnd
import Derived.Deep.QuietTactic
import Derived.BigQuiet
import Derived.StillTailTactics
namespace Go.Proofs.YtppohghejhcilaaDoor
open Go.RowKit

/-- A word as the program holds it. -/
def toldV (s : ByteArray) : Value := .iface 116 (.string s)
/-- The letter k of a word. -/
def ltr (s : ByteArray) (k : Nat) : Nat := (s.data.toList.getD k 0).toNat
theorem ltr_at (s : ByteArray) {k : Nat} (h : k < s.size) : s[k].toNat = ltr s k := by
  have hl : k < s.data.toList.length := by rw [← Lib.size_eq]; exact h
  unfold ltr
  rw [List.getD_eq_getElem?_getD, List.getElem?_eq_getElem hl]
  rfl
/-- The tile j of the course i is red. -/
def patB (s : ByteArray) (st i j : Nat) : Bool := decide (ltr s ((j + st * i) % s.size) = 114)

@[go_sem] theorem as_told (v : Value) (w : World) : (Instr.typeAssert (.iface 116 v) 111 116 true).run Tryd.prog w = .ok (.tuple #[v, .bool true]) w := by kernel_rfl
@[go_sem] theorem at_many (v : Value) (w : World) : (callMethod (.iface 116 v) "loop.example/g01376/impl.many" #[]).run Tryd.prog w = .ok (.enter 153 #[v]) w := by kernel_rfl
theorem many_any (s : ByteArray) (w : World) :
    Calls Tryd.prog 153 #[.string s] w fun e w' => e = .returned (.int .i64 s.size) ∧ Below w.heap.size w w' := by
  go_enter Tryd.func153, Tryd.ntmps153
  go_wp2_with fail
  go_ret
  exact ⟨rfl, Below.refl _ _⟩
set_option maxRecDepth 100000 in
theorem letterOf_any (s : ByteArray) (k : Nat) (w : World) (hk : k < s.size) :
    Calls Tryd.prog 99 #[toldV s, .int .i64 k] w fun e w' => e = .returned (.int .u8 (ltr s k)) ∧ Below w.heap.size w w' := by
  have HL := Lib.hid (ltr_at s hk)
  have k0 : 0 ≤ (k : Int) := by omega
  have k1 : (k : Int) < s.size := by omega
  unfold toldV
  go_enter Tryd.func99, Tryd.ntmps99
  go_wp2_with fail
  go_ret
  exact ⟨by rw [← HL.out]; rfl, Below.refl _ _⟩
set_option maxRecDepth 100000 in
set_option maxHeartbeats 1000000 in
theorem isRedP_any (s : ByteArray) (st i j : Nat) (w : World) (hs : 1 ≤ s.size ∧ s.size ≤ 12) (hst : st ≤ 12) (hi : i < 8) (hj : j < 8) :
    Calls Tryd.prog 96 #[.agg #[toldV s, .int .i64 st], .agg #[.int .i8 i, .int .i8 j]] w fun e w' => e = .returned (.bool (patB s st i j)) ∧ Below w.heap.size w w' := by
  obtain ⟨q0, q1, pB⟩ := two_boxes w #[toldV s, .int .i64 st] #[.int .i8 i, .int .i8 j] 113 37
  obtain ⟨m, hm⟩ : ∃ m, st * i = m := ⟨_, rfl⟩
  have hm84 : m ≤ 84 := by rw [← hm]; exact Nat.le_trans (Nat.mul_le_mul hst (show i ≤ 7 by omega)) (by decide)
  have hmc : (st : Int) * (i : Int) = (m : Int) := by rw [← hm]; simp
  obtain ⟨kq, hKd⟩ : ∃ kq, (j + m) % s.size = kq := ⟨_, rfl⟩
  have hKq : kq < s.size := by rw [← hKd]; exact Nat.mod_lt _ hs.1
  have HPB : patB s st i j = decide (ltr s kq = 114) := by unfold patB; rw [hm, hKd]
  rw [HPB]
  have hre : ((j : Int) + m) % (s.size : Int) = (kq : Int) := by rw [← hKd]; simp
  have hrt : ((j : Int) + m).tmod (s.size : Int) = (kq : Int) := by rw [Int.tmod_eq_emod_of_nonneg (by omega)]; exact hre
  have hwp : IntKind.i64.wrap ((st : Int) * (i : Int)) = (m : Int) := by rw [hmc]; exact IntWalk.i64_in _ (by omega)
  have hwj : IntKind.i64.wrap ((j : Int) + m) = (j : Int) + m := IntWalk.i64_in _ (by omega)
  obtain ⟨bb, hbb⟩ : ∃ bb, decide (ltr s kq = 114) = bb := ⟨_, rfl⟩
  have hbq : ((ltr s kq : Int) == 114) = bb := by rw [← hbb]; by_cases h : ltr s kq = 114 <;> simp [h] <;> omega
  have HBQ := Lib.hid hbq
  rw [hbb]
  have i0 : (0 : Int) ≤ i := by omega
  have i1 : (i : Int) < 8 := by omega
  have j0 : (0 : Int) ≤ j := by omega
  have j1 : (j : Int) < 8 := by omega
  have s0 : (0 : Int) < s.size := by omega
  have sz : ¬ s = ByteArray.empty := fun h => by rw [h] at hs; exact absurd hs.1 (by decide)
  have HRE := Lib.hid hre
  have HRT := Lib.hid hrt
  clear hKd hm HPB hbb hbq hre hrt
  go_enter Tryd.func96, Tryd.ntmps96
  go_wp2_with fail
  refine gen_world fun W hW => ?_
  rw [← hW] at q0 q1 pB
  clear hW
  have c0 := cell_of_rowAt q0 1
  have c1 := cell_of_rowAt q1 0
  have c2 := cell_of_rowAt q1 1
  simp at c0 c1 c2
  go_wp2_with fail
  clear c0 c1 c2 hwp hwj hmc
  refine wp_region_held_drew (S := fun w' => Below W.heap.size W w') (by kernel_rfl) ((Below.refl _ _).drew) (fun hH => ?_)
  refine wpAnyH_take (i := 0) (v := .pointer (some ⟨w.heap.size, 0, none⟩)) rfl (by kernel_rfl) (by kernel_rfl) (by kernel_rfl) (fun _ _ _ h => h) (Or.inl ⟨by rfl, ?_⟩) hH ?_
  · intro w1 hS; (try dsimp only at hS); go_simp
  (try simp only [List.getElem_toArray]); (try simp only [List.getElem_cons_succ]); (try simp only [List.getElem_cons_zero]); (try simp only [Act.put]); (try simp only [List.setIfInBounds_toArray]); (try simp only [List.set_cons_succ]); (try simp only [List.set_cons_zero])
  refine wpAnyH_take (i := 1) (v := toldV s) rfl (by kernel_rfl) (by kernel_rfl) (by kernel_rfl) (fun _ _ _ h => h) (Or.inl ⟨by rfl, ?_⟩) hH ?_
  · intro w1 hS; (try dsimp only at hS); have u := (cell_of_rowAt (brow hS q0) 0); simp at u; go_simp
  (try simp only [List.getElem_toArray]); (try simp only [List.getElem_cons_succ]); (try simp only [List.getElem_cons_zero]); (try simp only [Act.put]); (try simp only [List.setIfInBounds_toArray]); (try simp only [List.set_cons_succ]); (try simp only [List.set_cons_zero])
  refine wpAnyH_take (i := 2) (v := .int .i64 ((j : Int) + m)) rfl (by kernel_rfl) (by kernel_rfl) (by kernel_rfl) (fun _ _ _ h => h) (Or.inl ⟨by rfl, ?_⟩) hH ?_
  · intro w1 hS; (try dsimp only at hS); go_simp
  (try simp only [List.getElem_toArray]); (try simp only [List.getElem_cons_succ]); (try simp only [List.getElem_cons_zero]); (try simp only [Act.put]); (try simp only [List.setIfInBounds_toArray]); (try simp only [List.set_cons_succ]); (try simp only [List.set_cons_zero])
  refine wpAnyH_take (i := 3) (v := .pointer (some ⟨w.heap.size, 0, none⟩)) rfl (by kernel_rfl) (by kernel_rfl) (by kernel_rfl) (fun _ _ _ h => h) (Or.inl ⟨by rfl, ?_⟩) hH ?_
  · intro w1 hS; (try dsimp only at hS); go_simp
  (try simp only [List.getElem_toArray]); (try simp only [List.getElem_cons_succ]); (try simp only [List.getElem_cons_zero]); (try simp only [Act.put]); (try simp only [List.setIfInBounds_toArray]); (try simp only [List.set_cons_succ]); (try simp only [List.set_cons_zero])
  refine wpAnyH_take (i := 4) (v := toldV s) rfl (by kernel_rfl) (by kernel_rfl) (by kernel_rfl) (fun _ _ _ h => h) (Or.inl ⟨by rfl, ?_⟩) hH ?_
  · intro w1 hS; (try dsimp only at hS); have u := (cell_of_rowAt (brow hS q0) 0); simp at u; go_simp
  (try simp only [List.getElem_toArray]); (try simp only [List.getElem_cons_succ]); (try simp only [List.getElem_cons_zero]); (try simp only [Act.put]); (try simp only [List.setIfInBounds_toArray]); (try simp only [List.set_cons_succ]); (try simp only [List.set_cons_zero])
  refine wpAnyH_take (i := 8) (v := .int .u8 114) rfl (by kernel_rfl) (by kernel_rfl) (by kernel_rfl) (fun _ _ _ h => h) (Or.inl ⟨by rfl, ?_⟩) hH ?_
  · intro w1 hS; (try dsimp only at hS); go_simp; rfl
  (try simp only [List.getElem_toArray]); (try simp only [List.getElem_cons_succ]); (try simp only [List.getElem_cons_zero]); (try simp only [Act.put]); (try simp only [List.setIfInBounds_toArray]); (try simp only [List.set_cons_succ]); (try simp only [List.set_cons_zero])
  refine wpAnyH_ready (rs := [5]) (by kernel_rfl) (by simp) (AllReadyH.cons rfl (fun K hK => ?_) AllReadyH.nil)
  go_simp
  refine (many_any s _).mono ?_
  rintro x wx ⟨rfl, bx⟩
  go_simp
  refine hK.out _ _ (bnext hH bx hH.size) (fun hG => ?_)
  clear hK K hH bx
  replace hH := hG
  clear hG
  (try simp only [List.getElem_toArray]); (try simp only [List.getElem_cons_succ]); (try simp only [List.getElem_cons_zero]); (try simp only [Act.put]); (try simp only [List.setIfInBounds_toArray]); (try simp only [List.set_cons_succ]); (try simp only [List.set_cons_zero])
  refine wpAnyH_take (i := 6) (v := .int .i64 kq) rfl (by kernel_rfl) (by kernel_rfl) (by kernel_rfl) (fun _ _ _ h => h) (Or.inl ⟨by rfl, ?_⟩) hH ?_
  · intro w1 hS; (try dsimp only at hS); go_simp; exact HRT.out
  (try simp only [List.getElem_toArray]); (try simp only [List.getElem_cons_succ]); (try simp only [List.getElem_cons_zero]); (try simp only [Act.put]); (try simp only [List.setIfInBounds_toArray]); (try simp only [List.set_cons_succ]); (try simp only [List.set_cons_zero])
  refine wpAnyH_ready (rs := [7]) (by kernel_rfl) (by simp) (AllReadyH.cons rfl (fun K hK => ?_) AllReadyH.nil)
  go_simp
  refine (letterOf_any s kq _ hKq).mono ?_
  rintro x wx ⟨rfl, bx⟩
  go_simp
  refine hK.out _ _ (bnext hH bx hH.size) (fun hG => ?_)
  clear hK K hH bx
  replace hH := hG
  clear hG
  (try simp only [List.getElem_toArray]); (try simp only [List.getElem_cons_succ]); (try simp only [List.getElem_cons_zero]); (try simp only [Act.put]); (try simp only [List.setIfInBounds_toArray]); (try simp only [List.set_cons_succ]); (try simp only [List.set_cons_zero])
  refine wpAnyH_take (i := 9) (v := .bool bb) rfl (by kernel_rfl) (by kernel_rfl) (by kernel_rfl) (fun _ _ _ h => h) (Or.inl ⟨by rfl, ?_⟩) hH ?_
  · intro w1 hS; (try dsimp only at hS); go_simp; exact HBQ.out
  (try simp only [List.getElem_toArray]); (try simp only [List.getElem_cons_succ]); (try simp only [List.getElem_cons_zero]); (try simp only [Act.put]); (try simp only [List.setIfInBounds_toArray]); (try simp only [List.set_cons_succ]); (try simp only [List.set_cons_zero])
  refine wpAnyH_take (i := 10) (v := .bool bb) rfl (by kernel_rfl) (by kernel_rfl) (by kernel_rfl) (fun _ _ _ h => h) (Or.inl ⟨by rfl, ?_⟩) hH ?_
  · intro w1 hS; (try dsimp only at hS); go_simp
  (try simp only [List.getElem_toArray]); (try simp only [List.getElem_cons_succ]); (try simp only [List.getElem_cons_zero]); (try simp only [Act.put]); (try simp only [List.setIfInBounds_toArray]); (try simp only [List.set_cons_succ]); (try simp only [List.set_cons_zero])
  refine wpAnyH_done (by kernel_rfl) ?_ _
  have B1 := bnext pB hH pB.size
  clear hH q0 q1 pB
  go_wp2_with fail
  go_ret
  exact ⟨rfl, B1⟩
theorem patB_pred (s : ByteArray) (st : Nat) (w : World) (hs : 1 ≤ s.size ∧ s.size ≤ 12) (hst : st ≤ 12) : PredPl 96 #[.agg #[toldV s, .int .i64 st]] #[] (patB s st) w := fun i j W hi hj _ => by simpa using isRedP_any s st i j W hs hst hi hj

set_option maxRecDepth 100000 in
set_option maxHeartbeats 2000000 in
theorem l07Make_any (k0 : Nat) (c : Array Value) (r : Rf) (s : ByteArray) (st : Nat) (hh ww : Nat) (hhe : r.h = hh) (hwe : r.w = ww) (h8 : hh ≤ 8) (w8 : ww ≤ 8) (w : World) (hr : rowAt w k0 = some c) (hR : IsRoof c r) (hs : 1 ≤ s.size ∧ s.size ≤ 12) (hst : st ≤ 12) (X : Array Value) (hF : mkC (colL (patB s st) (plUpto hh ww (hh * ww))) = X) :
    Calls Tryd.prog 67 #[.pointer (some ⟨k0, 0, none⟩), .string s, .int .i64 st] w fun e w' => e = .returned (.agg X) ∧ Below w.heap.size w w' := by
  have hc := hR.size
  have hXs : X.size = 8 := by rw [← hF]; exact size_mkI _ _ _
  have hXo : Ones X := by rw [← hF]; exact (isK_mkI _ _ _).ones
  have HFF := Lib.hid hF
  have hz : (#[.int .u8 0, .int .u8 0, .int .u8 0, .int .u8 0, .int .u8 0, .int .u8 0, .int .u8 0, .int .u8 0] : Array Value) = mkC (fun _ => 0) := by kernel_rfl
  have hzo : Ones (#[.int .u8 0, .int .u8 0, .int .u8 0, .int .u8 0, .int .u8 0, .int .u8 0, .int .u8 0, .int .u8 0] : Array Value) := by rw [hz]; exact (isK_mkI _ _ _).ones
  have HZ := Lib.hid hz
  have hk := rowAt_lt hr
  have K0 := Lib.hid (fun (W : World) (h : rowAt W k0 = some c) => (show W.cell? ⟨k0, 0, none⟩ = some (.int .i8 ww) by rw [cell_of_rowAt h, Array.getElem?_eq_getElem (by omega), hR.wide (by omega), hwe]))
  have K1 := Lib.hid (fun (W : World) (h : rowAt W k0 = some c) => (show W.cell? ⟨k0, 1, none⟩ = some (.int .i8 hh) by rw [cell_of_rowAt h, Array.getElem?_eq_getElem (by omega), hR.high (by omega), hhe]))
  clear hz hF hhe hwe
  go_enter Tryd.func67, Tryd.ntmps67
  go_wp2_with fail
  refine gen_world fun W hW => ?_
  have r0 : rowAt W k0 = some c := by rw [hW]; exact (rowAt_alloc_past _ _ _ (by simp; omega)).trans ((rowAt_alloc_past _ _ _ hk).trans hr)
  have r1 : rowAt W w.heap.size = some (mkC (fun _ => 0)) := by rw [hW, ← HZ.out]; exact (rowAt_alloc_past _ _ _ (by simp)).trans (rowAt_alloc_at _ _ _ _ rfl)
  have r2 : rowAt W (w.heap.size + 1) = some (mkC (colL (patB s st) (plUpto hh ww (0 * ww)))) := by
    rw [Nat.zero_mul]
    rw [hW, show mkC (colL (patB s st) (plUpto hh ww 0)) = mkC (fun _ => 0) from rfl, ← HZ.out]
    exact rowAt_alloc_at _ _ _ _ (by simp)
  have BW : Below w.heap.size w W := by rw [hW]; exact ((Below.refl _ _).alloc (Nat.le_refl _) _).alloc (by simp) _
  have n01 : w.heap.size ≠ w.heap.size + 1 := by omega
  have nk1 : k0 ≠ w.heap.size + 1 := by omega
  clear hW
  go_loopw [9, 10] (fun i _ V => ∃ a : Nat, a ≤ hh ∧ i = .int .i64 a ∧ rowAt V k0 = some c ∧ rowAt V w.heap.size = some (mkC (fun _ => 0)) ∧ rowAt V (w.heap.size + 1) = some (mkC (colL (patB s st) (plUpto hh ww (a * ww)))) ∧ Below w.heap.size w V) (fun i _ _ => hh - (intOf i).toNat)
  case atStart => exact ⟨0, by omega, rfl, r0, r1, r2, BW⟩
  case round =>
    clear r0 r1 r2 BW
    obtain ⟨a, ha, rfl, r0, r1, r2, hB⟩ := hrel
    have c1 := K1.out _ r0
    by_cases hlt : a < hh
    · have a0 : (0 : Int) ≤ a := by omega
      have a1 : (a : Int) < hh := by omega
      go_wp2_with fail
      clear c1
      go_loopw [10] (fun i V => ∃ k : Nat, k ≤ ww ∧ i = .int .i64 k ∧ rowAt V k0 = some c ∧ rowAt V w.heap.size = some (mkC (fun _ => 0)) ∧ rowAt V (w.heap.size + 1) = some (mkC (colL (patB s st) (plUpto hh ww (a * ww + k)))) ∧ Below w.heap.size w V) (fun i _ => ww - (intOf i).toNat)
      case atStart => exact ⟨0, by omega, rfl, r0, r1, r2, hB⟩
      case round =>
        clear r0 r1 r2 hB
        obtain ⟨k, hkk, rfl, r0, r1, r2, hB⟩ := hrel
        have c0 := K0.out _ r0
        by_cases hkl : k < ww
        · have HNX := Lib.hid (plUpto_succ hlt hkl)
          have k00 : (0 : Int) ≤ k := by omega
          have k01 : (k : Int) < ww := by omega
          have k08 : (k : Int) < 8 := by omega
          have a08 : (a : Int) < 8 := by omega
          obtain ⟨m, hm⟩ : ∃ m, st * a = m := ⟨_, rfl⟩
          have hm84 : m ≤ 84 := by rw [← hm]; exact Nat.le_trans (Nat.mul_le_mul hst (show a ≤ 7 by omega)) (by decide)
          have hmc : (st : Int) * (a : Int) = (m : Int) := by rw [← hm]; simp
          obtain ⟨kq, hKd⟩ : ∃ kq, (k + m) % s.size = kq := ⟨_, rfl⟩
          have hKq : kq < s.size := by rw [← hKd]; exact Nat.mod_lt _ hs.1
          have HPB := Lib.hid (show patB s st a k = decide (ltr s kq = 114) by unfold patB; rw [hm, hKd])
          have hre : ((k : Int) + m) % (s.size : Int) = (kq : Int) := by rw [← hKd]; simp
          have hrt : ((k : Int) + m).tmod (s.size : Int) = (kq : Int) := by rw [Int.tmod_eq_emod_of_nonneg (by omega)]; exact hre
          have hwp : IntKind.i64.wrap ((st : Int) * (a : Int)) = (m : Int) := by rw [hmc]; exact IntWalk.i64_in _ (by omega)
          have hwj : IntKind.i64.wrap ((k : Int) + m) = (k : Int) + m := IntWalk.i64_in _ (by omega)
          have s0 : (0 : Int) < s.size := by omega
          have sz : ¬ s = ByteArray.empty := fun h => by rw [h] at hs; exact absurd hs.1 (by decide)
          have hla := ltr_at s hKq
          have K00 : (0 : Int) ≤ kq := by omega
          have K01 : (kq : Int) < s.size := by omega
          obtain ⟨q, hq⟩ : ∃ q, colL (patB s st) (plUpto hh ww (a * ww + k)) = q := ⟨_, rfl⟩
          have q8 := colL_lt (p := patB s st) w8 (plUpto hh ww (a * ww + k)) a
          rw [hq] at r2 q8
          have HQ := Lib.hid hq
          clear hKd hq hm
          by_cases hx : ltr s kq = 114
          · have hxi : ((s[kq].toNat : Int) == 114) = true := by rw [hla, hx]; rfl
            have HX := Lib.hid (HPB.out.trans (decide_eq_true hx))
            have cf : wr.cell? ⟨w.heap.size + 1, a, none⟩ = some (.int .u8 (q a)) := (cell_of_rowAt r2 a).trans ((isK_mkI .u8 8 (fun i => (q i : Int))).get (by omega))
            have ff := frozen_of_rowAt r2 a
            have hor := or8_num ⟨q a, q8⟩ ⟨k, by omega⟩
            dsimp only at hor
            have s3 : IntKind.u64.wrap (k : Int) = (k : Int) := IntWalk.u64_in _ (by omega)
            have s4 : min k 8 = k := by omega
            clear hla hx
            go_wp2_with fail
            refine ⟨⟨k + 1, by omega, by go_num, (rowAt_setCell_ne wr _ _ _ _ nk1).trans r0, (rowAt_setCell_ne wr _ _ _ _ n01).trans r1, ?_, hB.setCell (p := ⟨w.heap.size + 1, a, none⟩) (by simp) _⟩, by simp [intOf]; omega⟩
            have := rowAt_setCell_at wr (w.heap.size + 1) a (.int .u8 ((q a ||| 2 ^ k : Nat) : Int)) (by rw [r2]; rfl)
            rw [r2, Option.getD_some, mkC_set] at this
            rw [← Nat.add_assoc, HNX.out, colL_hit HX.out, HQ.out]
            exact this
          · have hxi : ((s[kq].toNat : Int) == 114) = false := by rw [hla]; exact beq_eq_false_iff_ne.2 (by omega)
            have HX := Lib.hid (HPB.out.trans (decide_eq_false hx))
            clear hla hx
            go_wp2_with fail
            refine ⟨⟨k + 1, by omega, by go_num, r0, r1, ?_, hB⟩, by simp [intOf]; omega⟩
            rw [← Nat.add_assoc, HNX.out, colL_miss HX.out, HQ.out]
            exact r2
        · obtain rfl : k = ww := by omega
          go_wp2_with fail
          refine ⟨⟨a + 1, by omega, by go_num, r0, r1, ?_, hB⟩, by simp [intOf]; omega⟩
          rw [Nat.succ_mul]
          exact r2
    · obtain rfl : a = hh := by omega
      rw [HFF.out] at r2
      have l1 := rowAt_lt r1
      have zs : (mkC (fun _ => 0)).size = 8 := size_mkI _ _ _
      generalize mkC (fun _ => 0) = Z at *
      go_wp2_with fail
      exact bodyPost_ret (v := .agg X) (results_row1 (m := 8) rfl _ _ w.heap.size _ rfl (rowAt_setRow_at _ _ _ (Option.isSome_iff_exists.2 ⟨_, r1⟩)) Tryd.underlying62 rfl (by kernel_rfl) hXs) rfl ⟨rfl, below_setRow hB (Nat.le_refl _) _⟩
end Go.Proofs.YtppohghejhcilaaDoor
