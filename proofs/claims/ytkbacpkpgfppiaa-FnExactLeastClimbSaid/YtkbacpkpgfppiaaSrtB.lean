/- Sorted places: the program's sortedBy with rank. -/
import Derived.Test.YtkbacpkpgfppiaaSrtI
import Derived.Test.YtkbacpkpgfppiaaGive
import Derived.Shelf.Abstract
namespace Go.Proofs.Ytkbacpkpgfppiaa
open Go.RowKit

theorem rank_any (a b : Int) (w : World) (ha : -128 ≤ a ∧ a ≤ 127) (hb : -128 ≤ b ∧ b ≤ 127) :
    Calls Try.prog 50 #[.agg #[.int .i8 a, .int .i8 b]] w fun e w' => e = .returned (.int .i64 (a * 8 + b)) ∧ Below w.heap.size w w' := by
  have h1 : IntKind.i64.wrap (a * 8) = a * 8 := by rw [IntKind.wrap_i64]; omega
  have h2 : IntKind.i64.wrap (a * 8 + b) = a * 8 + b := by rw [IntKind.wrap_i64]; omega
  go_enter Try.func50, Try.ntmps50
  go_wp2_with fail
  go_ret
  exact ⟨rfl, (Below.refl _ _).alloc (Nat.le_refl _) _⟩
theorem isNaN64_any (x : Int) (w : World) : Calls Try.prog 146 #[.int .i64 x] w fun e w' => e = .returned (.bool false) ∧ Below w.heap.size w w' := by
  have h : (x != x) = false := by simp
  go_enter Try.func146, Try.ntmps146
  go_wp2_with fail
  go_ret
  exact ⟨rfl, Below.refl _ _⟩
theorem cmp64_any (x y : Int) (w : World) : Calls Try.prog 101 #[.int .i64 x, .int .i64 y] w fun e w' => ∃ z : Int, e = .returned (.int .i64 z) ∧ (z < 0 ↔ x < y) ∧ Below w.heap.size w w' := by
  rcases Int.lt_trichotomy x y with h | h | h
  · have d1 : decide (x < y) = true := by simpa using h
    have HH := Lib.hid h
    clear h
    go_enter Try.func101, Try.ntmps101
    go_wp2_with fail
    refine (isNaN64_any x _).mono ?_
    rintro e w1 ⟨rfl, b1⟩
    go_wp2_with fail
    refine (isNaN64_any y _).mono ?_
    rintro e w2 ⟨rfl, b2⟩
    have B2 := bnext b1 b2 b1.size
    clear b1 b2
    go_wp2_with fail
    go_ret
    exact ⟨-1, rfl, ⟨fun _ => HH.out, fun _ => by omega⟩, B2⟩
  · subst h
    have d1 : decide (x < x) = false := by simp
    go_enter Try.func101, Try.ntmps101
    go_wp2_with fail
    refine (isNaN64_any x _).mono ?_
    rintro e w1 ⟨rfl, b1⟩
    go_wp2_with fail
    refine (isNaN64_any x _).mono ?_
    rintro e w2 ⟨rfl, b2⟩
    have B2 := bnext b1 b2 b1.size
    clear b1 b2
    go_wp2_with fail
    go_ret
    exact ⟨0, rfl, by omega, B2⟩
  · have d1 : decide (x < y) = false := by simp; omega
    have d2 : decide (y < x) = true := by simpa using h
    have HH := Lib.hid h
    clear h
    go_enter Try.func101, Try.ntmps101
    go_wp2_with fail
    refine (isNaN64_any x _).mono ?_
    rintro e w1 ⟨rfl, b1⟩
    go_wp2_with fail
    refine (isNaN64_any y _).mono ?_
    rintro e w2 ⟨rfl, b2⟩
    have B2 := bnext b1 b2 b1.size
    clear b1 b2
    go_wp2_with fail
    go_ret
    exact ⟨1, rfl, by have := HH.out; omega, B2⟩
/-- Places that can be in a roof. -/
def PlQ (a b : Int) : Prop := (-128 ≤ a ∧ a ≤ 127) ∧ (0 ≤ b ∧ b < 8)
theorem rank_lt {x0 x1 y0 y1 : Int} (hx : PlQ x0 x1) (hy : PlQ y0 y1) : (x0 * 8 + x1 < y0 * 8 + y1 ↔ (x0 < y0 ∨ x0 = y0 ∧ x1 < y1)) := by
  obtain ⟨_, h1⟩ := hx
  obtain ⟨_, h2⟩ := hy
  constructor
  · intro h
    by_cases q : x0 < y0
    · exact .inl q
    · refine .inr ⟨by omega, by omega⟩
  · rintro (h | ⟨h, k⟩) <;> omega
set_option maxRecDepth 100000 in
set_option maxHeartbeats 2000000 in
theorem cmpRank (kb : Nat) : CmpP 100 PlQ kb #[.func (.func 50) #[] #[]] := by
  intro W x0 x1 y0 y1 hk hx hy
  have hlt := rank_lt hx hy
  have CX := fun W' => rank_any x0 x1 W' hx.1 (by have := hx.2; omega)
  have CY := fun W' => rank_any y0 y1 W' hy.1 (by have := hy.2; omega)
  have CC := fun W' => cmp64_any (x0 * 8 + x1) (y0 * 8 + y1) W'
  have HLT := Lib.hid hlt
  have l0 := rowAt_lt hk
  clear hlt hx hy
  go_enter Try.func100, Try.ntmps100
  go_wp2_with fail
  refine gen_world fun V hV => ?_
  have q0 : rowAt V kb = some #[.func (.func 50) #[] #[]] := by rw [hV]; exact (rowAt_alloc_past _ _ _ (by simp; omega)).trans ((rowAt_alloc_past _ _ _ l0).trans hk)
  have q1 : rowAt V W.heap.size = some #[.int .i8 x0, .int .i8 x1] := by rw [hV]; exact (rowAt_alloc_past _ _ _ (by simp)).trans (rowAt_alloc_at _ _ _ _ rfl)
  have q2 : rowAt V (W.heap.size + 1) = some #[.int .i8 y0, .int .i8 y1] := by rw [hV]; exact rowAt_alloc_at _ _ _ _ (by simp)
  have BV : Below W.heap.size W V := by rw [hV]; exact ((Below.refl _ _).alloc (Nat.le_refl _) _).alloc (by simp) _
  clear hV
  refine wp_region_held_drew (S := fun w' => Below V.heap.size V w') (by kernel_rfl) ((Below.refl _ _).drew) (fun hH => ?_)
  refine wpAnyH_take (i := 0) (v := .func (.func 50) #[] #[]) rfl (by kernel_rfl) (by kernel_rfl) (by kernel_rfl) (fun _ _ _ h => h) (Or.inl ⟨by rfl, ?_⟩) hH ?_
  · intro w1 hS; (try dsimp only at hS); have s0 : w1.cell? ⟨kb, 0, none⟩ = some (.func (.func 50) #[] #[]) := (by rw [cell_of_rowAt (brow hS q0)]; rfl); go_simp
  (try simp only [List.getElem_toArray]); (try simp only [List.getElem_cons_succ]); (try simp only [List.getElem_cons_zero]); (try simp only [Act.put]); (try simp only [List.setIfInBounds_toArray]); (try simp only [List.set_cons_succ]); (try simp only [List.set_cons_zero])
  refine wpAnyH_take (i := 1) (v := .agg #[.int .i8 x0, .int .i8 x1]) rfl (by kernel_rfl) (by kernel_rfl) (by kernel_rfl) (fun _ _ _ h => h) (Or.inl ⟨by rfl, ?_⟩) hH ?_
  · intro w1 hS; (try dsimp only at hS); have s0 : w1.cell? ⟨W.heap.size, 0, none⟩ = some (.int .i8 x0) := (by rw [cell_of_rowAt (brow hS q1)]; rfl); have s1 : w1.cell? ⟨W.heap.size, 1, none⟩ = some (.int .i8 x1) := (by rw [cell_of_rowAt (brow hS q1)]; rfl); go_simp
  (try simp only [List.getElem_toArray]); (try simp only [List.getElem_cons_succ]); (try simp only [List.getElem_cons_zero]); (try simp only [Act.put]); (try simp only [List.setIfInBounds_toArray]); (try simp only [List.set_cons_succ]); (try simp only [List.set_cons_zero])
  refine wpAnyH_take (i := 3) (v := .func (.func 50) #[] #[]) rfl (by kernel_rfl) (by kernel_rfl) (by kernel_rfl) (fun _ _ _ h => h) (Or.inl ⟨by rfl, ?_⟩) hH ?_
  · intro w1 hS; (try dsimp only at hS); have s0 : w1.cell? ⟨kb, 0, none⟩ = some (.func (.func 50) #[] #[]) := (by rw [cell_of_rowAt (brow hS q0)]; rfl); go_simp
  (try simp only [List.getElem_toArray]); (try simp only [List.getElem_cons_succ]); (try simp only [List.getElem_cons_zero]); (try simp only [Act.put]); (try simp only [List.setIfInBounds_toArray]); (try simp only [List.set_cons_succ]); (try simp only [List.set_cons_zero])
  refine wpAnyH_take (i := 4) (v := .agg #[.int .i8 y0, .int .i8 y1]) rfl (by kernel_rfl) (by kernel_rfl) (by kernel_rfl) (fun _ _ _ h => h) (Or.inl ⟨by rfl, ?_⟩) hH ?_
  · intro w1 hS; (try dsimp only at hS); have s0 : w1.cell? ⟨W.heap.size + 1, 0, none⟩ = some (.int .i8 y0) := (by rw [cell_of_rowAt (brow hS q2)]; rfl); have s1 : w1.cell? ⟨W.heap.size + 1, 1, none⟩ = some (.int .i8 y1) := (by rw [cell_of_rowAt (brow hS q2)]; rfl); go_simp
  (try simp only [List.getElem_toArray]); (try simp only [List.getElem_cons_succ]); (try simp only [List.getElem_cons_zero]); (try simp only [Act.put]); (try simp only [List.setIfInBounds_toArray]); (try simp only [List.set_cons_succ]); (try simp only [List.set_cons_zero])
  refine wpAnyH_ready (rs := [2]) (by kernel_rfl) (by simp) (AllReadyH.cons rfl (fun K hK => ?_) AllReadyH.nil)
  go_simp
  refine (CX _).mono ?_
  rintro x wx ⟨rfl, bx⟩
  go_simp
  refine hK.out _ _ (bnext hH bx hH.size) (fun hG => ?_)
  clear hK K hH bx
  replace hH := hG
  clear hG
  (try simp only [List.getElem_toArray]); (try simp only [List.getElem_cons_succ]); (try simp only [List.getElem_cons_zero]); (try simp only [Act.put]); (try simp only [List.setIfInBounds_toArray]); (try simp only [List.set_cons_succ]); (try simp only [List.set_cons_zero])
  refine wpAnyH_ready (rs := [5]) (by kernel_rfl) (by simp) (AllReadyH.cons rfl (fun K hK => ?_) AllReadyH.nil)
  go_simp
  refine (CY _).mono ?_
  rintro x wx ⟨rfl, bx⟩
  go_simp
  refine hK.out _ _ (bnext hH bx hH.size) (fun hG => ?_)
  clear hK K hH bx
  replace hH := hG
  clear hG
  (try simp only [List.getElem_toArray]); (try simp only [List.getElem_cons_succ]); (try simp only [List.getElem_cons_zero]); (try simp only [Act.put]); (try simp only [List.setIfInBounds_toArray]); (try simp only [List.set_cons_succ]); (try simp only [List.set_cons_zero])
  refine wpAnyH_ready (rs := [6]) (by kernel_rfl) (by simp) (AllReadyH.cons rfl (fun K hK => ?_) AllReadyH.nil)
  go_simp
  refine (CC _).mono ?_
  rintro x wx ⟨z, rfl, hz, bx⟩
  have HZ := Lib.hid hz
  clear hz
  go_simp
  refine hK.out _ _ (bnext hH bx hH.size) (fun hG => ?_)
  clear hK K hH bx
  replace hH := hG
  clear hG
  (try simp only [List.getElem_toArray]); (try simp only [List.getElem_cons_succ]); (try simp only [List.getElem_cons_zero]); (try simp only [Act.put]); (try simp only [List.setIfInBounds_toArray]); (try simp only [List.set_cons_succ]); (try simp only [List.set_cons_zero])
  refine wpAnyH_take (i := 7) (v := .int .i64 z) rfl (by kernel_rfl) (by kernel_rfl) (by kernel_rfl) (fun _ _ _ h => h) (Or.inl ⟨by rfl, ?_⟩) hH ?_
  · intro w1 hS; (try dsimp only at hS); go_simp
  (try simp only [List.getElem_toArray]); (try simp only [List.getElem_cons_succ]); (try simp only [List.getElem_cons_zero]); (try simp only [Act.put]); (try simp only [List.setIfInBounds_toArray]); (try simp only [List.set_cons_succ]); (try simp only [List.set_cons_zero])
  refine wpAnyH_done (by kernel_rfl) ?_ _
  have B9 := bnext BV hH BV.size
  clear hH q0 q1 q2 BV
  go_wp2_with fail
  go_ret
  exact ⟨z, rfl, HZ.out.trans HLT.out, B9⟩

set_option maxRecDepth 100000 in
set_option maxHeartbeats 2000000 in
theorem stable_any (g n cap kb : Nat) (fid : FuncId) (kc cur : Array Value) (f : Nat → Int) (Q : Int → Int → Prop) (w : World) (eg : ∀ args w, (callFunc fid args).run Try.prog w = .ok (.enter fid args) w) (hC : CmpP fid Q kb kc) (hr : rowAt w g = some cur) (hP : IsP cur n f) (hQ : AllE Q n f) (hk : rowAt w kb = some kc) (hne : kb ≠ g) (h0 : 0 < n) (hn : n ≤ 8) :
    Calls Try.prog 145 #[.slice (some ⟨g, 0, none⟩) n cap, .int .i64 n, .func (.func fid) #[] #[.pointer (some ⟨kb, 0, none⟩)]] w fun e w' => e = .returned (.tuple #[]) ∧ (∃ cur', rowAt w' g = some cur' ∧ IsP cur' n (srt f n)) ∧ LeS g w w' := by
  have CI := insSort_any g n cap kb fid kc cur f Q w eg hC hr hP hQ hk hne h0 (by omega)
  have d1 : decide ((20 : Int) ≤ n) = false := by simp; omega
  have d2 : decide ((20 : Int) < n) = false := by simp; omega
  have n20 : (n : Int) < 20 := by omega
  clear hC hr hP hQ hk
  go_enter Try.func145, Try.ntmps145
  go_wp2_with fail
  go_loopw [7, 8] (fun a b W => a = .int .i64 0 ∧ b = .int .i64 20 ∧ W = w) (fun _ _ _ => 0)
  case atStart => exact ⟨rfl, rfl, rfl⟩
  case round =>
  obtain ⟨rfl, rfl, rfl⟩ := hrel
  go_wp2_with fail
  refine CI.mono ?_
  rintro e w1 ⟨rfl, hc, hL⟩
  have HC := Lib.hid hc
  have HL := Lib.hid hL
  clear CI hc hL
  go_wp2_with fail
  go_loopw [6, 7, 8, 9] (fun s _ _ _ W => s = .int .i64 20 ∧ W = w1) (fun _ _ _ _ _ => 0)
  case atStart => exact ⟨rfl, rfl⟩
  case round =>
  obtain ⟨rfl, rfl⟩ := hrel
  go_wp2_with fail
  go_end0
  exact ⟨rfl, HC.out, HL.out⟩
set_option maxRecDepth 100000 in
set_option maxHeartbeats 2000000 in
theorem stable0_any (a : Option Addr) (cap : Nat) (fv : Value) (w : World) :
    Calls Try.prog 145 #[.slice a 0 cap, .int .i64 0, fv] w fun e w' => e = .returned (.tuple #[]) ∧ w' = w := by
  have CI : ∀ W, Calls Try.prog 163 #[.slice a 0 cap, .int .i64 0, .int .i64 0, fv] W fun e w' => e = .returned (.tuple #[]) ∧ w' = W := by
    intro W
    go_enter Try.func163, Try.ntmps163
    go_wp2_with fail
    go_loopw [8, 9] (fun i _ V => i = .int .i64 1 ∧ V = W) (fun _ _ _ => 0)
    case atStart => exact ⟨rfl, rfl⟩
    case round =>
    obtain ⟨rfl, rfl⟩ := hrel
    go_wp2_with fail
    go_end0
    exact ⟨rfl, rfl⟩
  go_enter Try.func145, Try.ntmps145
  go_wp2_with fail
  go_loopw [7, 8] (fun a b W => a = .int .i64 0 ∧ b = .int .i64 20 ∧ W = w) (fun _ _ _ => 0)
  case atStart => exact ⟨rfl, rfl, rfl⟩
  case round =>
  obtain ⟨rfl, rfl, rfl⟩ := hrel
  go_wp2_with fail
  refine (CI _).mono ?_
  rintro e w1 ⟨rfl, rfl⟩
  go_wp2_with fail
  go_loopw [6, 7, 8, 9] (fun s _ _ _ V => s = .int .i64 20 ∧ V = w1) (fun _ _ _ _ _ => 0)
  case atStart => exact ⟨rfl, rfl⟩
  case round =>
  obtain ⟨rfl, rfl⟩ := hrel
  go_wp2_with fail
  go_end0
  exact ⟨rfl, rfl⟩
set_option maxRecDepth 100000 in
set_option maxHeartbeats 2000000 in
theorem sortFn_any (g n cap kb : Nat) (fid : FuncId) (kc cur : Array Value) (f : Nat → Int) (Q : Int → Int → Prop) (w : World) (eg : ∀ args w, (callFunc fid args).run Try.prog w = .ok (.enter fid args) w) (hC : CmpP fid Q kb kc) (hr : rowAt w g = some cur) (hP : IsP cur n f) (hQ : AllE Q n f) (hk : rowAt w kb = some kc) (hne : kb ≠ g) (h0 : 0 < n) (hn : n ≤ 8) :
    Calls Try.prog 99 #[.slice (some ⟨g, 0, none⟩) n cap, .func (.func fid) #[] #[.pointer (some ⟨kb, 0, none⟩)]] w fun e w' => e = .returned (.tuple #[]) ∧ (∃ cur', rowAt w' g = some cur' ∧ IsP cur' n (srt f n)) ∧ LeS g w w' := by
  have CI := stable_any g n cap kb fid kc cur f Q w eg hC hr hP hQ hk hne h0 hn
  clear hC hr hP hQ hk
  go_enter Try.func99, Try.ntmps99
  go_wp2_with fail
  refine CI.mono ?_
  rintro e w1 ⟨rfl, hc, hL⟩
  have HC := Lib.hid hc
  have HL := Lib.hid hL
  clear CI hc hL
  go_wp2_with fail
  go_end0
  exact ⟨rfl, HC.out, HL.out⟩
set_option maxRecDepth 100000 in
set_option maxHeartbeats 2000000 in
theorem sortFn0_any (a : Option Addr) (cap : Nat) (fid : FuncId) (cb : Array Value) (w : World) :
    Calls Try.prog 99 #[.slice a 0 cap, .func (.func fid) #[] cb] w fun e w' => e = .returned (.tuple #[]) ∧ w' = w := by
  go_enter Try.func99, Try.ntmps99
  go_wp2_with fail
  refine (stable0_any a cap _ _).mono ?_
  rintro e w1 ⟨rfl, rfl⟩
  go_wp2_with fail
  go_end0
  exact ⟨rfl, rfl⟩

set_option maxRecDepth 100000 in
set_option maxHeartbeats 2000000 in
theorem sortedBy_any (b n : Nat) (v : Value) (f : Nat → Int) (w : World) (hv : IsList w b v 2 n (fun i => .int .i8 (f i))) (hn : n ≤ 8) (hQ : AllE PlQ n f) :
    Calls Try.prog 49 #[v, .func (.func 50) #[] #[]] w fun e w' => ∃ a cap, e = .returned (.slice a n cap) ∧ n ≤ cap ∧ IsList w' w.heap.size (.slice a n cap) 2 n (fun i => .int .i8 (srt f n i)) ∧ Below w.heap.size w w' := by
  have eg : ∀ args w, (callFunc 100 args).run Try.prog w = .ok (.enter 100 args) w := enters_of Try.func100 (by kernel_rfl) rfl
  have hmf : ∀ (fn : Fn) (first cap : Array Value) (w : World), (Instr.makeFunc fn first cap).run Try.prog w = .ok (.func fn first cap) w := fun _ _ _ _ => rfl
  have HV := Lib.hid hv
  have CL := fun W h => cloneP_any b n v f W h (by omega)
  obtain ⟨a0, cap0, rfl⟩ := hv.shape
  have HQ := Lib.hid hQ
  clear hv hQ
  go_enter Try.func49, Try.ntmps49
  go_wp2_with fail
  refine gen_callsW fun W hW => ?_
  have q0 : rowAt W w.heap.size = some #[.func (.func 50) #[] #[]] := by rw [hW]; exact rowAt_alloc_at _ _ _ _ rfl
  have BW : Below w.heap.size w W := by rw [hW]; exact (Below.refl _ _).alloc (Nat.le_refl _) _
  clear hW
  refine (CL W (HV.out.below BW (Nat.le_refl _))).mono ?_
  rintro e w1 ⟨a, cap, rfl, hcap, hl, b1⟩
  have q1 := brow b1 q0
  have B1 := bnext BW b1 BW.size
  have lw := BW.size
  have lq := rowAt_lt q0
  clear b1 q0 BW CL
  rcases Nat.eq_zero_or_pos n with h0 | h0
  · subst h0
    go_wp2_with fail
    refine (sortFn0_any a cap _ _ _).mono ?_
    rintro e w2 ⟨rfl, rfl⟩
    go_wp2_with fail
    go_ret
    exact ⟨a, cap, rfl, hcap, .inl ⟨rfl, _, _, rfl⟩, B1⟩
  · obtain ⟨g, cur, rfl, hg, hr, hP⟩ : ∃ g cur, a = some ⟨g, 0, none⟩ ∧ W.heap.size ≤ g ∧ rowAt w1 g = some cur ∧ IsP cur n f := by
      rcases hl with ⟨h, _⟩ | ⟨g, c, cur, e, hg, hr, hs, hf⟩
      · omega
      · cases e
        exact ⟨g, cur, rfl, hg, hr, hs, hf⟩
    have CS := sortFn_any g n cap w.heap.size 100 _ cur f PlQ w1 eg (cmpRank _) hr hP HQ.out q1 (by omega) h0 hn
    have HB1 := Lib.hid B1
    clear hl hr hP B1 q1
    go_wp2_with fail
    refine CS.mono ?_
    rintro e w2 ⟨rfl, ⟨cur2, r2, i2⟩, hL⟩
    have B2 := Lib.hid (HB1.out.trans (hL.bel w.heap.size (by omega) HB1.out.size))
    have R2 := Lib.hid r2
    have I2 := Lib.hid i2
    clear CS r2 i2 hL
    go_wp2_with fail
    go_ret
    exact ⟨_, cap, rfl, hcap, .inr ⟨g, cap, cur2, rfl, by omega, R2.out, I2.out.size, I2.out.get⟩, B2.out⟩
end Go.Proofs.Ytkbacpkpgfppiaa
