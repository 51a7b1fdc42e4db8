/- Words that are told by their number: their letters. -/
import Derived.Test.YtppohghejhcilaaDoorPat
import Derived.Test.YtppohghejhcilaaDoorTxt
namespace Go.Proofs.YtppohghejhcilaaDoor
open Go.RowKit

def triedV (n num : Nat) : Value := .iface 161 (.agg #[.int .i64 n, .int .i64 num])
def trB (n num k : Nat) : UInt8 := if num.testBit (n - 1 - k) then 114 else 98
/-- The text of such a word. -/
def trS (n num : Nat) : ByteArray := ⟨((List.range n).map (trB n num)).toArray⟩
theorem trS_size (n num : Nat) : (trS n num).size = n := by unfold trS; rw [txt_size]; simp
theorem ltr_tr {n num k : Nat} (h : k < n) : ltr (trS n num) k = (trB n num k).toNat := by
  unfold ltr trS
  simp [List.getD_eq_getElem?_getD, h]
theorem and64_num : ∀ (s : Fin 32) (k : Fin 5), bits BinOp.and IntKind.i64 (((s.val : Nat) : Int) / 2 ^ k.val) 1 = if s.val.testBit k.val then 1 else 0 := by decide +kernel
@[go_sem] theorem as_told_no (v : Value) (w : World) : (Instr.typeAssert (.iface 161 v) 111 116 true).run Tryd.prog w = .ok (.tuple #[.string ⟨#[]⟩, .bool false]) w := by kernel_rfl
@[go_sem] theorem as_tried (v : Value) (w : World) : (Instr.typeAssert (.iface 161 v) 111 161 true).run Tryd.prog w = .ok (.tuple #[v, .bool true]) w := by kernel_rfl
@[go_sem] theorem at_many_tr (v : Value) (w : World) : (callMethod (.iface 161 v) "loop.example/g01376/impl.many" #[]).run Tryd.prog w = .ok (.enter 158 #[v]) w := by kernel_rfl
@[go_sem ↓] theorem loadAt_trd (v : Value) : Instr.loadAt 161 v = loadWhole 161 v := rfl
@[go_sem ↓] theorem storeAt_trd (a v : Value) : Instr.storeAt 161 a v = storeWhole 161 a v := rfl
@[go_sem] theorem load_trd (w : World) (n o : Nat) : (loadWhole 161 (.pointer (some ⟨n, o, none⟩))).run Tryd.prog w = rowLoad Tryd.prog 161 2 n o w (rowAt w n) := run_load_by Tryd.underlying161 rfl (by kernel_rfl) w n o
@[go_sem] theorem store_trd (vs : Array Value) (w : World) (n o : Nat) : (storeWhole 161 (.pointer (some ⟨n, o, none⟩)) (.agg vs)).run Tryd.prog w = rowStore Tryd.prog 161 2 n o vs w (rowAt w n) := run_store_by (by kernel_rfl) vs w n o
@[go_sem] theorem ones_ii (a b : Int) : Ones #[.int .i64 a, .int .i64 b] := by
  intro v hv
  simp at hv
  rcases hv with rfl | rfl <;> rfl
theorem manyT_any (n num : Nat) (w : World) :
    Calls Tryd.prog 158 #[.agg #[.int .i64 n, .int .i64 num]] w fun e w' => e = .returned (.int .i64 n) ∧ Below w.heap.size w w' := by
  go_enter Tryd.func158, Tryd.ntmps158
  go_wp2_with fail
  go_ret
  exact ⟨rfl, (Below.refl _ _).alloc (Nat.le_refl _) _⟩
set_option maxRecDepth 100000 in
set_option maxHeartbeats 1000000 in
theorem letterT_any (n num k : Nat) (w : World) (hn : n ≤ 5) (hnum : num < 32) (hk : k < n) :
    Calls Tryd.prog 99 #[triedV n num, .int .i64 k] w fun e w' => e = .returned (.int .u8 (ltr (trS n num) k)) ∧ Below w.heap.size w w' := by
  obtain ⟨sh, hsh⟩ : ∃ sh, n - 1 - k = sh := ⟨_, rfl⟩
  have hL : ltr (trS n num) k = (if num.testBit sh then (114 : UInt8) else 98).toNat := by rw [ltr_tr hk]; unfold trB; rw [hsh]
  rw [hL]
  have k0 : 0 ≤ (k : Int) := by omega
  have k1 : (k : Int) < n := by omega
  have n5 : (n : Int) ≤ 5 := by omega
  have hs1 : (n : Int) - 1 - k = sh := by omega
  have s5 : sh < 5 := by omega
  have sI : (sh : Int) < 5 := by omega
  have sI0 : (0 : Int) ≤ sh := by omega
  have x0 : (0 : Int) ≤ num := by omega
  have x1 : (num : Int) < 32 := by omega
  have ha := and64_num ⟨num, hnum⟩ ⟨sh, s5⟩
  dsimp only at ha
  have e64 : min sh 64 = sh := by omega
  unfold triedV
  clear hsh hL
  cases hb : num.testBit sh with
  | true =>
    rw [hb, if_pos rfl] at ha
    clear hb
    go_enter Tryd.func99, Tryd.ntmps99
    go_wp2_with fail
    go_ret
    exact ⟨rfl, (Below.refl _ _).alloc (Nat.le_refl _) _⟩
  | false =>
    rw [hb, if_neg (by decide)] at ha
    clear hb
    go_enter Tryd.func99, Tryd.ntmps99
    go_wp2_with fail
    go_ret
    exact ⟨rfl, (Below.refl _ _).alloc (Nat.le_refl _) _⟩
set_option maxRecDepth 100000 in
set_option maxHeartbeats 1000000 in
theorem isRedT_any (n num : Nat) (st i j : Nat) (w : World) (hn1 : 1 ≤ n) (hn5 : n ≤ 5) (hnum : num < 32) (hst : st ≤ 12) (hi : i < 8) (hj : j < 8) :
    Calls Tryd.prog 96 #[.agg #[triedV n num, .int .i64 st], .agg #[.int .i8 i, .int .i8 j]] w fun e w' => e = .returned (.bool (patB (trS n num) st i j)) ∧ Below w.heap.size w w' := by
  obtain ⟨q0, q1, pB⟩ := two_boxes w #[triedV n num, .int .i64 st] #[.int .i8 i, .int .i8 j] 113 37
  obtain ⟨m, hm⟩ : ∃ m, st * i = m := ⟨_, rfl⟩
  have hm84 : m ≤ 84 := by rw [← hm]; exact Nat.le_trans (Nat.mul_le_mul hst (show i ≤ 7 by omega)) (by decide)
  have hmc : (st : Int) * (i : Int) = (m : Int) := by rw [← hm]; simp
  obtain ⟨kq, hKd⟩ : ∃ kq, (j + m) % n = kq := ⟨_, rfl⟩
  have hKq : kq < n := by rw [← hKd]; exact Nat.mod_lt _ hn1
  have HPB : patB (trS n num) st i j = decide (ltr (trS n num) kq = 114) := by unfold patB; rw [trS_size, hm, hKd]
  rw [HPB]
  have hre : ((j : Int) + m) % (n : Int) = (kq : Int) := by rw [← hKd]; simp
  have hrt : ((j : Int) + m).tmod (n : Int) = (kq : Int) := by rw [Int.tmod_eq_emod_of_nonneg (by omega)]; exact hre
  have hwp : IntKind.i64.wrap ((st : Int) * (i : Int)) = (m : Int) := by rw [hmc]; exact IntWalk.i64_in _ (by omega)
  have hwj : IntKind.i64.wrap ((j : Int) + m) = (j : Int) + m := IntWalk.i64_in _ (by omega)
  obtain ⟨bb, hbb⟩ : ∃ bb, decide (ltr (trS n num) kq = 114) = bb := ⟨_, rfl⟩
  have hbq : ((ltr (trS n num) kq : Int) == 114) = bb := by rw [← hbb]; by_cases h : ltr (trS n num) kq = 114 <;> simp [h] <;> omega
  have HBQ := Lib.hid hbq
  rw [hbb]
  have i0 : (0 : Int) ≤ i := by omega
  have i1 : (i : Int) < 8 := by omega
  have j0 : (0 : Int) ≤ j := by omega
  have j1 : (j : Int) < 8 := by omega
  have s0 : (0 : Int) < n := by omega
  have nz : ¬ n = 0 := by omega
  have HRE := Lib.hid hre
  have HRT := Lib.hid hrt
  clear hKd hm HPB hbb hbq hre hrt
  go_enter Tryd.func96, Tryd.ntmps96
  go_wp2_with fail
  refine gen_world fun W hW => ?_
  rw [← hW] at q0 q1 pB
  clear hW
  have c0 := cell_of_rowAt q0 1
  have c1 := cell_of_rowAt q1 0
  have c2 := cell_of_rowAt q1 1
  simp at c0 c1 c2
  go_wp2_with fail
  clear c0 c1 c2 hwp hwj hmc
  refine wp_region_held_drew (S := fun w' => Below W.heap.size W w') (by kernel_rfl) ((Below.refl _ _).drew) (fun hH => ?_)
  refine wpAnyH_take (i := 0) (v := .pointer (some ⟨w.heap.size, 0, none⟩)) rfl (by kernel_rfl) (by kernel_rfl) (by kernel_rfl) (fun _ _ _ h => h) (Or.inl ⟨by rfl, ?_⟩) hH ?_
  · intro w1 hS; (try dsimp only at hS); go_simp
  (try simp only [List.getElem_toArray]); (try simp only [List.getElem_cons_succ]); (try simp only [List.getElem_cons_zero]); (try simp only [Act.put]); (try simp only [List.setIfInBounds_toArray]); (try simp only [List.set_cons_succ]); (try simp only [List.set_cons_zero])
  refine wpAnyH_take (i := 1) (v := triedV n num) rfl (by kernel_rfl) (by kernel_rfl) (by kernel_rfl) (fun _ _ _ h => h) (Or.inl ⟨by rfl, ?_⟩) hH ?_
  · intro w1 hS; (try dsimp only at hS); have u := (cell_of_rowAt (brow hS q0) 0); simp at u; go_simp
  (try simp only [List.getElem_toArray]); (try simp only [List.getElem_cons_succ]); (try simp only [List.getElem_cons_zero]); (try simp only [Act.put]); (try simp only [List.setIfInBounds_toArray]); (try simp only [List.set_cons_succ]); (try simp only [List.set_cons_zero])
  refine wpAnyH_take (i := 2) (v := .int .i64 ((j : Int) + m)) rfl (by kernel_rfl) (by kernel_rfl) (by kernel_rfl) (fun _ _ _ h => h) (Or.inl ⟨by rfl, ?_⟩) hH ?_
  · intro w1 hS; (try dsimp only at hS); go_simp
  (try simp only [List.getElem_toArray]); (try simp only [List.getElem_cons_succ]); (try simp only [List.getElem_cons_zero]); (try simp only [Act.put]); (try simp only [List.setIfInBounds_toArray]); (try simp only [List.set_cons_succ]); (try simp only [List.set_cons_zero])
  refine wpAnyH_take (i := 3) (v := .pointer (some ⟨w.heap.size, 0, none⟩)) rfl (by kernel_rfl) (by kernel_rfl) (by kernel_rfl) (fun _ _ _ h => h) (Or.inl ⟨by rfl, ?_⟩) hH ?_
  · intro w1 hS; (try dsimp only at hS); go_simp
  (try simp only [List.getElem_toArray]); (try simp only [List.getElem_cons_succ]); (try simp only [List.getElem_cons_zero]); (try simp only [Act.put]); (try simp only [List.setIfInBounds_toArray]); (try simp only [List.set_cons_succ]); (try simp only [List.set_cons_zero])
  refine wpAnyH_take (i := 4) (v := triedV n num) rfl (by kernel_rfl) (by kernel_rfl) (by kernel_rfl) (fun _ _ _ h => h) (Or.inl ⟨by rfl, ?_⟩) hH ?_
  · intro w1 hS; (try dsimp only at hS); have u := (cell_of_rowAt (brow hS q0) 0); simp at u; go_simp
  (try simp only [List.getElem_toArray]); (try simp only [List.getElem_cons_succ]); (try simp only [List.getElem_cons_zero]); (try simp only [Act.put]); (try simp only [List.setIfInBounds_toArray]); (try simp only [List.set_cons_succ]); (try simp only [List.set_cons_zero])
  refine wpAnyH_take (i := 8) (v := .int .u8 114) rfl (by kernel_rfl) (by kernel_rfl) (by kernel_rfl) (fun _ _ _ h => h) (Or.inl ⟨by rfl, ?_⟩) hH ?_
  · intro w1 hS; (try dsimp only at hS); go_simp; rfl
  (try simp only [List.getElem_toArray]); (try simp only [List.getElem_cons_succ]); (try simp only [List.getElem_cons_zero]); (try simp only [Act.put]); (try simp only [List.setIfInBounds_toArray]); (try simp only [List.set_cons_succ]); (try simp only [List.set_cons_zero])
  refine wpAnyH_ready (rs := [5]) (by kernel_rfl) (by simp) (AllReadyH.cons rfl (fun K hK => ?_) AllReadyH.nil)
  go_simp
  refine (manyT_any n num _).mono ?_
  rintro x wx ⟨rfl, bx⟩
  go_simp
  refine hK.out _ _ (bnext hH bx hH.size) (fun hG => ?_)
  clear hK K hH bx
  replace hH := hG
  clear hG
  (try simp only [List.getElem_toArray]); (try simp only [List.getElem_cons_succ]); (try simp only [List.getElem_cons_zero]); (try simp only [Act.put]); (try simp only [List.setIfInBounds_toArray]); (try simp only [List.set_cons_succ]); (try simp only [List.set_cons_zero])
  refine wpAnyH_take (i := 6) (v := .int .i64 kq) rfl (by kernel_rfl) (by kernel_rfl) (by kernel_rfl) (fun _ _ _ h => h) (Or.inl ⟨by rfl, ?_⟩) hH ?_
  · intro w1 hS; (try dsimp only at hS); go_simp; exact HRT.out
  (try simp only [List.getElem_toArray]); (try simp only [List.getElem_cons_succ]); (try simp only [List.getElem_cons_zero]); (try simp only [Act.put]); (try simp only [List.setIfInBounds_toArray]); (try simp only [List.set_cons_succ]); (try simp only [List.set_cons_zero])
  refine wpAnyH_ready (rs := [7]) (by kernel_rfl) (by simp) (AllReadyH.cons rfl (fun K hK => ?_) AllReadyH.nil)
  go_simp
  refine (letterT_any n num kq _ hn5 hnum hKq).mono ?_
  rintro x wx ⟨rfl, bx⟩
  go_simp
  refine hK.out _ _ (bnext hH bx hH.size) (fun hG => ?_)
  clear hK K hH bx
  replace hH := hG
  clear hG
  (try simp only [List.getElem_toArray]); (try simp only [List.getElem_cons_succ]); (try simp only [List.getElem_cons_zero]); (try simp only [Act.put]); (try simp only [List.setIfInBounds_toArray]); (try simp only [List.set_cons_succ]); (try simp only [List.set_cons_zero])
  refine wpAnyH_take (i := 9) (v := .bool bb) rfl (by kernel_rfl) (by kernel_rfl) (by kernel_rfl) (fun _ _ _ h => h) (Or.inl ⟨by rfl, ?_⟩) hH ?_
  · intro w1 hS; (try dsimp only at hS); go_simp; exact HBQ.out
  (try simp only [List.getElem_toArray]); (try simp only [List.getElem_cons_succ]); (try simp only [List.getElem_cons_zero]); (try simp only [Act.put]); (try simp only [List.setIfInBounds_toArray]); (try simp only [List.set_cons_succ]); (try simp only [List.set_cons_zero])
  refine wpAnyH_take (i := 10) (v := .bool bb) rfl (by kernel_rfl) (by kernel_rfl) (by kernel_rfl) (fun _ _ _ h => h) (Or.inl ⟨by rfl, ?_⟩) hH ?_
  · intro w1 hS; (try dsimp only at hS); go_simp
  (try simp only [List.getElem_toArray]); (try simp only [List.getElem_cons_succ]); (try simp only [List.getElem_cons_zero]); (try simp only [Act.put]); (try simp only [List.setIfInBounds_toArray]); (try simp only [List.set_cons_succ]); (try simp only [List.set_cons_zero])
  refine wpAnyH_done (by kernel_rfl) ?_ _
  have B1 := bnext pB hH pB.size
  clear hH q0 q1 pB
  go_wp2_with fail
  go_ret
  exact ⟨rfl, B1⟩
theorem patT_pred (n num st : Nat) (w : World) (hn1 : 1 ≤ n) (hn5 : n ≤ 5) (hnum : num < 32) (hst : st ≤ 12) : PredPl 96 #[.agg #[triedV n num, .int .i64 st]] #[] (patB (trS n num) st) w := fun i j W hi hj _ => by simpa using isRedT_any n num st i j W hn1 hn5 hnum hst hi hj
end Go.Proofs.YtppohghejhcilaaDoor
