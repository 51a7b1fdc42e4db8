import Derived.Test.YtppohghejhcilaaDoorPatT
import Derived.Laws.MakeOwn
import Derived.Laws.OwnMore
import Derived.Test.YtppohghejhcilaaDoorCol
import Derived.Test.YtppohghejhcilaaDoorColF
import Derived.Test.YtppohghejhcilaaDoorSpecB
import Derived.Deep.RegionHeld3
import Derived.Test.YtppohghejhcilaaDoorEnd
import Derived.Test.YtppohghejhcilaaDoorBox
import Derived.Test.YtppohghejhcilaaDoorStrA
import Derived.Test.YtppohghejhcilaaDoorWord
import Derived.Test.YtppohghejhcilaaDoorAnyI
import Derived.Test.YtppohghejhcilaaDoorList
import Derived.Deep.LoopGhost
import Derived.Deep.Draws
import Derived.Shelf.Abstract
import Derived.Test.YtppohghejhcilaaDoorAsW
import Derived.Test.YtppohghejhcilaaDoorAgeV
import Derived.Test.YtppohghejhcilaaDoorAgeS
import Derived.Test.YtppohghejhcilaaDoorGive
import Derived.BigQuiet
import Derived.Deep.QuietTactic
import Derived.Test.YtppohghejhcilaaDoorTy
import Derived.OrdersHeld
import Derived.Test.YtppohghejhcilaaDoorCards
import Derived.Test.YtppohghejhcilaaDoorTie
import Derived.Test.YtppohghejhcilaaDoorLaidN
import Derived.Test.YtppohghejhcilaaDoorLaidB
import Derived.Test.YtppohghejhcilaaDoorHelp
import Derived.Test.YtppohghejhcilaaDoorOpen
import Derived.Test.YtppohghejhcilaaDoorStrB

/- The text of a word that is told by its number. -/
namespace Go.Proofs.YtppohghejhcilaaDoor
open Go.RowKit

theorem made_bytesX {w : World} {base g q : Nat} {e : TypeId} (h : w.ownsRow base e 1 (.slice (some ⟨g, 0, none⟩) q q) q (madeCells #[.int .u8 0] q).toList) : rowAt w g = some (mkI .u8 q fun _ => 0) := by
  obtain ⟨hl, ⟨h, _⟩ | ⟨g', cap, cur, he, hg, hh, hn, hm, hs, ht⟩⟩ := h
  · cases h
  · cases he
    rw [rowAt_of_heap hh]
    refine congrArg some (IsK.of_get (by omega) fun i hi => ?_).eq
    have h1 : cur[i]? = (cur.toList.take (q * 1))[i]? := by rw [List.getElem?_take, if_pos (by omega), Array.getElem?_toList]
    rw [h1, ht, toList_madeCells_one, List.getElem?_replicate, if_pos hi]
theorem A_infoB8 : (Tryd.prog.info? 5).map (fun i => (i.zero, i.size, i.bytes)) = some (some (.int .u8 0), 1, 1) := by kernel_rfl
def ltrTo (s : ByteArray) (k j : Nat) : Int := if j < k then (ltr s j : Int) else 0
set_option maxRecDepth 100000 in
set_option maxHeartbeats 2000000 in
theorem textOfT_any (n num : Nat) (w : World) (hn1 : 1 ≤ n) (hn5 : n ≤ 5) (hnum : num < 32) :
    Calls Tryd.prog 76 #[triedV n num] w fun e w' => e = .returned (.string (trS n num)) ∧ Below w.heap.size w w' := by
  obtain ⟨i0, hi0, hz0, hz1, hz2⟩ := info_parts A_infoB8
  have CM := fun W => manyT_any n num W
  have CL := fun k W hk => letterT_any n num k W hn5 hnum hk
  have hsz := trS_size n num
  unfold triedV at CL ⊢
  obtain ⟨S, hS⟩ : ∃ S, trS n num = S := ⟨_, rfl⟩
  rw [hS] at CL hsz ⊢
  clear hS
  have n1 : (1 : Int) ≤ n := by omega
  have n5 : (n : Int) ≤ 5 := by omega
  go_enter Tryd.func76, Tryd.ntmps76
  go_wp2_with fail
  refine (CM _).mono ?_
  rintro e w0 ⟨rfl, b0⟩
  clear CM
  go_wp2_with (at_make; refine wpList_make_full _ rfl _ _ 22 rfl w0.heap.size 5 i0 (.int .u8 0) 1 Tryd.underlying22 hi0 hz0 hz1 .i64 .i64 n n n rfl rfl rfl rfl (by rw [hz2]; omega) (by unfold maxLen; omega) (by simp) ?_)
  intro w1 own1 grow1
  have rg := made_bytesX own1
  have B1 : Below w.heap.size w w1 := b0.trans ((Below.refl w.heap.size w0).grown grow1 b0.size (by intro x hx; cases hx))
  have l0 := b0.size
  clear own1 grow1 b0
  go_wp2_with fail
  go_loopw [10] (fun i W => ∃ k : Nat, k ≤ n ∧ i = .int .i64 k ∧ rowAt W w0.heap.size = some (mkI .u8 n (ltrTo S k)) ∧ Below w.heap.size w W) (fun i _ => n - (intOf i).toNat)
  case atStart => exact ⟨0, by omega, rfl, rg.trans (congrArg some (mkI_congr fun i _ => by unfold ltrTo; rw [if_neg (by omega)])), B1⟩
  case round =>
    clear rg B1
    obtain ⟨k, hk, rfl, r0, hB⟩ := hrel
    by_cases hlt : k < n
    · have k0 : (0 : Int) ≤ k := by omega
      have k1 : (k : Int) < n := by omega
      have CK := fun W => CL k W hlt
      have HS : Hid ((mkI .u8 n (ltrTo S k)).setIfInBounds k (.int .u8 (ltr S k : Int)) = mkI .u8 n (ltrTo S (k + 1))) := Lib.hid (by
        refine (((isK_mkI _ _ _).set k _).congr fun i hi => ?_).eq
        unfold ltrTo
        by_cases e : i = k
        · subst e; rw [upd_at, if_pos (by omega)]
        · rw [upd_ne _ _ e]
          by_cases h : i < k
          · rw [if_pos h, if_pos (by omega)]
          · rw [if_neg h, if_neg (by omega)])
      go_wp2_with fail
      refine (CK _).mono ?_
      rintro e w2 ⟨rfl, b2⟩
      have r2 := brow b2 r0
      have B2 := bnext hB b2 hB.size
      have cg : (w2.cell? ⟨w0.heap.size, k, none⟩).isSome = true := by rw [cell_of_rowAt r2, (isK_mkI _ _ _).get hlt]; rfl
      obtain ⟨y, hy⟩ := Option.isSome_iff_exists.1 cg
      have fg := frozen_of_rowAt r2 k
      have R2 := Lib.hid r2
      clear b2 r0 hB CK cg r2
      go_wp2_with fail
      refine ⟨⟨k + 1, by omega, by go_num, ?_, B2.setCell (p := ⟨w0.heap.size, k, none⟩) l0 _⟩, by simp [intOf]; omega⟩
      rw [rowAt_setCell_at _ _ _ _ (by rw [R2.out]; rfl), R2.out, Option.getD_some]
      exact congrArg some HS.out
    · obtain rfl : k = n := by omega
      have hcv : (convert 22 9 (.slice (some ⟨w0.heap.size, 0, none⟩) k k)).run Tryd.prog wr = .ok (.string S) wr := by
        have hSl : S.data.toList.length = k := hsz
        have := run_convert_bytes_back (P := Tryd.prog) wr 22 9 5 ⟨w0.heap.size, 0, none⟩ k S.data.toList Tryd.underlying22 Tryd.underlying5 Tryd.underlying9 (fun j hj => by
          have hj' : j < k := by omega
          rw [Addr.add_lit, Nat.zero_add, cell_of_rowAt r0, (isK_mkI _ _ _).get hj']
          unfold ltrTo
          rw [if_pos hj']
          unfold ltr
          rw [List.getD_eq_getElem?_getD, List.getElem?_eq_getElem hj, Option.getD_some])
        rwa [hSl] at this
      clear r0
      go_wp2_with fail
      go_ret
      exact ⟨rfl, hB⟩
end Go.Proofs.YtppohghejhcilaaDoor

/- Bits counted and turned round: the program's tables. -/
namespace Go.Proofs.YtppohghejhcilaaDoor
open Go.RowKit

/-- The bytes that a function gives. -/
def tabOf (f : Nat → Nat) : ByteArray := ⟨((List.range 256).map fun n => (f n).toUInt8).toArray⟩
theorem tab_get (f : Nat → Nat) (hf : ∀ k : Fin 256, f k.val < 256) (n : Nat) (hn : n < 256) (T : ByteArray) (h : n < T.size) (e : T = tabOf f) : (T[n]'h).toNat = f n := by
  subst e
  show (((List.range 256).map fun n => (f n).toUInt8).toArray[n]'_).toNat = f n
  simp
  exact hf ⟨n, hn⟩
theorem pop_lt (n : Nat) : pop n 8 < 256 := by have := pop_le n 8; omega

set_option maxRecDepth 100000 in
set_option maxHeartbeats 1000000 in
theorem ones8_any (n : Nat) (w : World) (hn : n < 256) :
    Calls Tryd.prog 110 #[.int .u8 (n : Int)] w fun e w' => e = .returned (.int .i64 (pop n 8 : Int)) ∧ w = w' := by
  have hp := pop_le n 8
  go_enter Tryd.func110, Tryd.ntmps110
  go_wp2
  go_ret
  refine ⟨?_, rfl⟩
  rw [tab_get (fun n => pop n 8) (fun k => pop_lt k.val) n hn _ _ (by kernel_rfl)]
  rw [IntWalk.wrap64_in _ (by omega)]
  rfl

end Go.Proofs.YtppohghejhcilaaDoor

/- Valid colours: contracts of both sides. -/
namespace Go.Proofs.YtppohghejhcilaaDoor
open Go.RowKit

/-- Colours that are valid for a roof: bits for its tiles alone. -/
def Rf.Cols (r : Rf) (g : Nat → Nat) : Prop := r.Ok ∧ ∀ i, i < 8 → ∀ j, (g i).testBit j = true → (i : Int) < r.h ∧ (j : Int) < r.w
open Classical in
noncomputable def Rf.cok (r : Rf) (g : Nat → Nat) : Bool := decide (r.Cols g)
theorem Rf.cok_t {r : Rf} {g : Nat → Nat} (h : r.Cols g) : r.cok g = true := by simp [Rf.cok, h]
theorem Rf.cok_f {r : Rf} {g : Nat → Nat} (h : ¬ r.Cols g) : r.cok g = false := by simp [Rf.cok, h]
theorem Rf.Cols_of {r : Rf} {g : Nat → Nat} (h : r.cok g = true) : r.Cols g := by simpa [Rf.cok] using h
theorem Rf.not_Cols {r : Rf} {g : Nat → Nat} (h : r.cok g = false) : ¬ r.Cols g := by simpa [Rf.cok] using h
/-- Colours are valid where they are those of their own red tiles. -/
theorem cols_iff {r : Rf} {g : Nat → Nat} (ho : r.Ok) {hh ww : Nat} (hhe : r.h = hh) (hwe : r.w = ww) (hg : ∀ i, i < 8 → g i < 256) :
    (∀ i, i < 8 → (g i : Int) = (colL (fun i j => (g i).testBit j) (plUpto hh ww (hh * ww)) i : Int)) ↔ r.Cols g := by
  have w8 : ww ≤ 8 := by have := ho.2.1; omega
  constructor
  · intro h
    refine ⟨ho, fun i hi j hb => ?_⟩
    have e : g i = _ := Int.natCast_inj.1 (h i hi)
    have hb2 := hb
    rw [e, colL_all] at hb2
    simp only [Bool.and_eq_true, decide_eq_true_eq] at hb2
    omega
  · intro h i hi
    refine Int.natCast_inj.2 (bits256 (hg i hi) (colL_lt w8 _ i) fun j hj => ?_)
    rw [colL_all, Bool.eq_iff_iff]
    simp only [Bool.and_eq_true, decide_eq_true_eq]
    constructor
    · intro hb; have := h.2 i hi j hb; exact ⟨by omega, hb⟩
    · intro hb; exact hb.2
/-- The same by what is left behind the roof's width. -/
theorem bits_shift {n w : Nat} : n / 2 ^ w = 0 ↔ ∀ j, n.testBit j = true → j < w := by
  constructor
  · intro h j hb
    rcases Nat.lt_or_ge j w with hj | hj
    · exact hj
    · have := (Nat.testBit_shiftRight (i := w) (j := j - w) n)
      rw [Nat.shiftRight_eq_div_pow, h, show w + (j - w) = j from by omega, hb] at this
      simp at this
  · intro h
    refine Nat.eq_of_testBit_eq fun j => ?_
    have := (Nat.testBit_shiftRight (i := w) (j := j) n)
    rw [Nat.shiftRight_eq_div_pow] at this
    rw [this, Nat.zero_testBit]
    cases hb : n.testBit (w + j) with
    | false => rfl
    | true => have := h _ hb; omega
theorem bits_zero {n : Nat} : n = 0 ↔ ∀ j, n.testBit j = false := by
  constructor
  · rintro rfl j; exact Nat.zero_testBit j
  · intro h; exact Nat.eq_of_testBit_eq fun j => by rw [h j, Nat.zero_testBit]
/-- One course of valid colours. -/
def cFine (hh ww : Nat) (g : Nat → Nat) (i : Nat) : Prop := g i / 2 ^ ww = 0 ∧ (i < hh ∨ g i = 0)
theorem cols_fine {r : Rf} {g : Nat → Nat} (ho : r.Ok) {hh ww : Nat} (hhe : r.h = hh) (hwe : r.w = ww) : r.Cols g ↔ ∀ i, i < 8 → cFine hh ww g i := by
  constructor
  · intro h i hi
    refine ⟨bits_shift.2 fun j hb => by have := (h.2 i hi j hb).2; omega, ?_⟩
    by_cases hl : i < hh
    · exact .inl hl
    · refine .inr (bits_zero.2 fun j => ?_)
      cases hb : (g i).testBit j with
      | false => rfl
      | true => have := (h.2 i hi j hb).1; omega
  · intro h
    refine ⟨ho, fun i hi j hb => ?_⟩
    obtain ⟨h1, h2⟩ := h i hi
    have := bits_shift.1 h1 j hb
    refine ⟨?_, by omega⟩
    rcases h2 with h2 | h2
    · omega
    · rw [h2, Nat.zero_testBit] at hb; cases hb

set_option maxHeartbeats 1000000 in
theorem implValidCol_no (c d : Array Value) (r : Rf) (w : World) (hR : IsRoof c r) (ho : ¬ r.Ok) :
    Calls Tryd.prog 73 #[.agg c, .agg d] w fun e w' => e = .returned (.bool false) ∧ Below w.heap.size w w' := by
  obtain ⟨q0, q1, pB⟩ := two_boxes w c d 28 62
  have hc := hR.size
  go_enter Tryd.func73, Tryd.ntmps73
  go_wp2_with fail
  refine gen_world fun W hW => ?_
  rw [← hW] at q0 q1 pB
  clear hW
  refine wp_region_held_drew (S := fun w' => Below W.heap.size W w') (by kernel_rfl) ((Below.refl _ _).drew) (fun hH => ?_)
  refine wpAnyH_take (i := 0) (v := .agg c) rfl (by kernel_rfl) (by kernel_rfl) (by kernel_rfl) (fun _ _ _ h => h) (Or.inl ⟨by rfl, ?_⟩) hH ?_
  · intro w1 hS; (try dsimp only at hS); have s0 := brow hS q0; go_simp
  (try simp only [List.getElem_toArray]); (try simp only [List.getElem_cons_succ]); (try simp only [List.getElem_cons_zero]); (try simp only [Act.put]); (try simp only [List.setIfInBounds_toArray]); (try simp only [List.set_cons_succ]); (try simp only [List.set_cons_zero])
  refine wpAnyH_ready (rs := [1]) (by kernel_rfl) (by simp) (AllReadyH.cons rfl (fun K hK => ?_) AllReadyH.nil)
  go_simp
  refine (implValid_f c r _ hR ho).mono ?_
  rintro x wx ⟨rfl, bx⟩
  go_simp
  refine hK.out _ _ (bnext hH bx hH.size) (fun hG => ?_)
  clear hK K hH bx
  replace hH := hG
  clear hG
  (try simp only [List.getElem_toArray]); (try simp only [List.getElem_cons_succ]); (try simp only [List.getElem_cons_zero]); (try simp only [Act.put]); (try simp only [List.setIfInBounds_toArray]); (try simp only [List.set_cons_succ]); (try simp only [List.set_cons_zero])
  refine wpAnyH_take (i := 2) (v := .bool false) rfl (by kernel_rfl) (by kernel_rfl) (by kernel_rfl) (fun _ _ _ h => h) (Or.inl ⟨by rfl, ?_⟩) hH ?_
  · intro w1 hS; (try dsimp only at hS); go_simp
  (try simp only [List.getElem_toArray]); (try simp only [List.getElem_cons_succ]); (try simp only [List.getElem_cons_zero]); (try simp only [Act.put]); (try simp only [List.setIfInBounds_toArray]); (try simp only [List.set_cons_succ]); (try simp only [List.set_cons_zero])
  refine wpAnyH_take (i := 3) (v := undef) rfl (by kernel_rfl) (by kernel_rfl) (by kernel_rfl) (fun _ _ _ h => h) (Or.inr ⟨by rfl, rfl⟩) hH ?_
  (try simp only [List.getElem_toArray]); (try simp only [List.getElem_cons_succ]); (try simp only [List.getElem_cons_zero]); (try simp only [Act.put]); (try simp only [List.setIfInBounds_toArray]); (try simp only [List.set_cons_succ]); (try simp only [List.set_cons_zero])
  refine wpAnyH_take (i := 4) (v := undef) rfl (by kernel_rfl) (by kernel_rfl) (by kernel_rfl) (fun _ _ _ h => h) (Or.inr ⟨by rfl, rfl⟩) hH ?_
  (try simp only [List.getElem_toArray]); (try simp only [List.getElem_cons_succ]); (try simp only [List.getElem_cons_zero]); (try simp only [Act.put]); (try simp only [List.setIfInBounds_toArray]); (try simp only [List.set_cons_succ]); (try simp only [List.set_cons_zero])
  refine wpAnyH_take (i := 5) (v := undef) rfl (by kernel_rfl) (by kernel_rfl) (by kernel_rfl) (fun _ _ _ h => h) (Or.inr ⟨by rfl, rfl⟩) hH ?_
  (try simp only [List.getElem_toArray]); (try simp only [List.getElem_cons_succ]); (try simp only [List.getElem_cons_zero]); (try simp only [Act.put]); (try simp only [List.setIfInBounds_toArray]); (try simp only [List.set_cons_succ]); (try simp only [List.set_cons_zero])
  refine wpAnyH_take (i := 6) (v := undef) rfl (by kernel_rfl) (by kernel_rfl) (by kernel_rfl) (fun _ _ _ h => h) (Or.inr ⟨by rfl, rfl⟩) hH ?_
  (try simp only [List.getElem_toArray]); (try simp only [List.getElem_cons_succ]); (try simp only [List.getElem_cons_zero]); (try simp only [Act.put]); (try simp only [List.setIfInBounds_toArray]); (try simp only [List.set_cons_succ]); (try simp only [List.set_cons_zero])
  refine wpAnyH_take (i := 7) (v := undef) rfl (by kernel_rfl) (by kernel_rfl) (by kernel_rfl) (fun _ _ _ h => h) (Or.inr ⟨by rfl, rfl⟩) hH ?_
  (try simp only [List.getElem_toArray]); (try simp only [List.getElem_cons_succ]); (try simp only [List.getElem_cons_zero]); (try simp only [Act.put]); (try simp only [List.setIfInBounds_toArray]); (try simp only [List.set_cons_succ]); (try simp only [List.set_cons_zero])
  refine wpAnyH_take (i := 8) (v := undef) rfl (by kernel_rfl) (by kernel_rfl) (by kernel_rfl) (fun _ _ _ h => h) (Or.inr ⟨by rfl, rfl⟩) hH ?_
  (try simp only [List.getElem_toArray]); (try simp only [List.getElem_cons_succ]); (try simp only [List.getElem_cons_zero]); (try simp only [Act.put]); (try simp only [List.setIfInBounds_toArray]); (try simp only [List.set_cons_succ]); (try simp only [List.set_cons_zero])
  refine wpAnyH_take (i := 9) (v := .bool false) rfl (by kernel_rfl) (by kernel_rfl) (by kernel_rfl) (fun _ _ _ h => h) (Or.inl ⟨by rfl, ?_⟩) hH ?_
  · intro w1 hS; (try dsimp only at hS); go_simp
  (try simp only [List.getElem_toArray]); (try simp only [List.getElem_cons_succ]); (try simp only [List.getElem_cons_zero]); (try simp only [Act.put]); (try simp only [List.setIfInBounds_toArray]); (try simp only [List.set_cons_succ]); (try simp only [List.set_cons_zero])
  refine wpAnyH_take (i := 10) (v := .bool false) rfl (by kernel_rfl) (by kernel_rfl) (by kernel_rfl) (fun _ _ _ h => h) (Or.inl ⟨by rfl, ?_⟩) hH ?_
  · intro w1 hS; (try dsimp only at hS); go_simp
  (try simp only [List.getElem_toArray]); (try simp only [List.getElem_cons_succ]); (try simp only [List.getElem_cons_zero]); (try simp only [Act.put]); (try simp only [List.setIfInBounds_toArray]); (try simp only [List.set_cons_succ]); (try simp only [List.set_cons_zero])
  refine wpAnyH_done (by kernel_rfl) ?_ _
  have HB := bnext pB hH pB.size
  clear hH
  go_wp2_with fail
  go_ret
  exact ⟨rfl, HB⟩

set_option maxRecDepth 100000 in
set_option maxHeartbeats 1000000 in
theorem implValidCol_yes (c d : Array Value) (r : Rf) (g : Nat → Nat) (w : World) (hR : IsRoof c r) (hC : IsCol d g) (ho : r.Ok) :
    Calls Tryd.prog 73 #[.agg c, .agg d] w fun e w' => e = .returned (.bool (r.cok g)) ∧ Below w.heap.size w w' := by
  obtain ⟨q0, q1, pB⟩ := two_boxes w c d 28 62
  have hc := hR.size
  have hd := hC.size
  obtain ⟨hh, hhe⟩ := Int.eq_ofNat_of_zero_le (show 0 ≤ r.h by have := ho.2.2.1; omega)
  obtain ⟨ww, hwe⟩ := Int.eq_ofNat_of_zero_le (show 0 ≤ r.w by have := ho.1; omega)
  have h8 : hh ≤ 8 := by have := ho.2.2.2.1; omega
  have w8 : ww ≤ 8 := by have := ho.2.1; omega
  have hiff := cols_iff (g := g) ho hhe hwe hC.hi
  obtain ⟨f, hf⟩ : ∃ f, colL (fun i j => (g i).testBit j) (plUpto hh ww (hh * ww)) = f := ⟨_, rfl⟩
  rw [hf] at hiff
  obtain ⟨X, hX⟩ : ∃ X, mkC f = X := ⟨_, rfl⟩
  have hXk : IsK .u8 X 8 (fun i => (f i : Int)) := by rw [← hX]; exact isK_mkI _ _ _
  have PR : ∀ W, PredPl 98 #[.agg d] #[] (fun i j => (g i).testBit j) W := fun W i j W' hi hj _ => by simpa using isRed_any d g i j W' hC hi hj
  have CC := fun W => colour_any 98 #[.agg d] #[] (fun i j => (g i).testBit j) (enters_of Tryd.func98 (by kernel_rfl) rfl) c r hh ww hhe hwe h8 w8 W hR (PR W) X (by rw [hf, hX])
  have hXs := hXk.size
  clear PR hX hf
  by_cases hg : r.Cols g
  · have hq := fun W : World => run_equalIn_ints_t Tryd.underlying62 Tryd.underlying5 (by kernel_rfl) d X (fun i => (g i : Int)) (fun i => (f i : Int)) (fun i hi => hC.cell hi) (fun i hi => hXk.get hi) (hiff.2 hg) 9998 W
    rw [Rf.cok_t hg]
    clear hiff hg hhe hwe
    go_enter Tryd.func73, Tryd.ntmps73
    go_wp2_with fail
    refine gen_world fun W hW => ?_
    rw [← hW] at q0 q1 pB
    clear hW
    refine wp_region_held_drew (S := fun w' => Below W.heap.size W w') (by kernel_rfl) ((Below.refl _ _).drew) (fun hH => ?_)
    refine wpAnyH_take (i := 0) (v := .agg c) rfl (by kernel_rfl) (by kernel_rfl) (by kernel_rfl) (fun _ _ _ h => h) (Or.inl ⟨by rfl, ?_⟩) hH ?_
    · intro w1 hS; (try dsimp only at hS); have s0 := brow hS q0; go_simp
    (try simp only [List.getElem_toArray]); (try simp only [List.getElem_cons_succ]); (try simp only [List.getElem_cons_zero]); (try simp only [Act.put]); (try simp only [List.setIfInBounds_toArray]); (try simp only [List.set_cons_succ]); (try simp only [List.set_cons_zero])
    refine wpAnyH_ready (rs := [1]) (by kernel_rfl) (by simp) (AllReadyH.cons rfl (fun K hK => ?_) AllReadyH.nil)
    go_simp
    refine (implValid_t c r _ hR ho).mono ?_
    rintro x wx ⟨rfl, bx⟩
    go_simp
    refine hK.out _ _ (bnext hH bx hH.size) (fun hG => ?_)
    clear hK K hH bx
    replace hH := hG
    clear hG
    (try simp only [List.getElem_toArray]); (try simp only [List.getElem_cons_succ]); (try simp only [List.getElem_cons_zero]); (try simp only [Act.put]); (try simp only [List.setIfInBounds_toArray]); (try simp only [List.set_cons_succ]); (try simp only [List.set_cons_zero])
    refine wpAnyH_take (i := 2) (v := .bool true) rfl (by kernel_rfl) (by kernel_rfl) (by kernel_rfl) (fun _ _ _ h => h) (Or.inl ⟨by rfl, ?_⟩) hH ?_
    · intro w1 hS; (try dsimp only at hS); go_simp
    (try simp only [List.getElem_toArray]); (try simp only [List.getElem_cons_succ]); (try simp only [List.getElem_cons_zero]); (try simp only [Act.put]); (try simp only [List.setIfInBounds_toArray]); (try simp only [List.set_cons_succ]); (try simp only [List.set_cons_zero])
    refine wpAnyH_take (i := 3) (v := .agg d) rfl (by kernel_rfl) (by kernel_rfl) (by kernel_rfl) (fun _ _ _ h => h) (Or.inl ⟨by rfl, ?_⟩) hH ?_
    · intro w1 hS; (try dsimp only at hS); have s1 := brow hS q1; go_simp
    (try simp only [List.getElem_toArray]); (try simp only [List.getElem_cons_succ]); (try simp only [List.getElem_cons_zero]); (try simp only [Act.put]); (try simp only [List.setIfInBounds_toArray]); (try simp only [List.set_cons_succ]); (try simp only [List.set_cons_zero])
    refine wpAnyH_take (i := 4) (v := .agg c) rfl (by kernel_rfl) (by kernel_rfl) (by kernel_rfl) (fun _ _ _ h => h) (Or.inl ⟨by rfl, ?_⟩) hH ?_
    · intro w1 hS; (try dsimp only at hS); have s0 := brow hS q0; go_simp
    (try simp only [List.getElem_toArray]); (try simp only [List.getElem_cons_succ]); (try simp only [List.getElem_cons_zero]); (try simp only [Act.put]); (try simp only [List.setIfInBounds_toArray]); (try simp only [List.set_cons_succ]); (try simp only [List.set_cons_zero])
    refine wpAnyH_take (i := 5) (v := .agg d) rfl (by kernel_rfl) (by kernel_rfl) (by kernel_rfl) (fun _ _ _ h => h) (Or.inl ⟨by rfl, ?_⟩) hH ?_
    · intro w1 hS; (try dsimp only at hS); have s1 := brow hS q1; go_simp
    (try simp only [List.getElem_toArray]); (try simp only [List.getElem_cons_succ]); (try simp only [List.getElem_cons_zero]); (try simp only [Act.put]); (try simp only [List.setIfInBounds_toArray]); (try simp only [List.set_cons_succ]); (try simp only [List.set_cons_zero])
    refine wpAnyH_take (i := 6) (v := .func (.func 98) #[.agg d] #[]) rfl (by kernel_rfl) (by kernel_rfl) (by kernel_rfl) (fun _ _ _ h => h) (Or.inl ⟨by rfl, ?_⟩) hH ?_
    · intro w1 hS; (try dsimp only at hS); go_simp
    (try simp only [List.getElem_toArray]); (try simp only [List.getElem_cons_succ]); (try simp only [List.getElem_cons_zero]); (try simp only [Act.put]); (try simp only [List.setIfInBounds_toArray]); (try simp only [List.set_cons_succ]); (try simp only [List.set_cons_zero])
    refine wpAnyH_ready (rs := [7]) (by kernel_rfl) (by simp) (AllReadyH.cons rfl (fun K hK => ?_) AllReadyH.nil)
    go_simp
    refine (CC _).mono ?_
    rintro x wx ⟨rfl, bx⟩
    go_simp
    refine hK.out _ _ (bnext hH bx hH.size) (fun hG => ?_)
    clear hK K hH bx
    replace hH := hG
    clear hG
    (try simp only [List.getElem_toArray]); (try simp only [List.getElem_cons_succ]); (try simp only [List.getElem_cons_zero]); (try simp only [Act.put]); (try simp only [List.setIfInBounds_toArray]); (try simp only [List.set_cons_succ]); (try simp only [List.set_cons_zero])
    refine wpAnyH_take (i := 8) (v := .bool true) rfl (by kernel_rfl) (by kernel_rfl) (by kernel_rfl) (fun _ _ _ h => h) (Or.inl ⟨by rfl, ?_⟩) hH ?_
    · intro w1 hS; (try dsimp only at hS); have hq := hq w1; go_simp
    (try simp only [List.getElem_toArray]); (try simp only [List.getElem_cons_succ]); (try simp only [List.getElem_cons_zero]); (try simp only [Act.put]); (try simp only [List.setIfInBounds_toArray]); (try simp only [List.set_cons_succ]); (try simp only [List.set_cons_zero])
    refine wpAnyH_take (i := 9) (v := .bool true) rfl (by kernel_rfl) (by kernel_rfl) (by kernel_rfl) (fun _ _ _ h => h) (Or.inl ⟨by rfl, ?_⟩) hH ?_
    · intro w1 hS; (try dsimp only at hS); go_simp
    (try simp only [List.getElem_toArray]); (try simp only [List.getElem_cons_succ]); (try simp only [List.getElem_cons_zero]); (try simp only [Act.put]); (try simp only [List.setIfInBounds_toArray]); (try simp only [List.set_cons_succ]); (try simp only [List.set_cons_zero])
    refine wpAnyH_take (i := 10) (v := .bool true) rfl (by kernel_rfl) (by kernel_rfl) (by kernel_rfl) (fun _ _ _ h => h) (Or.inl ⟨by rfl, ?_⟩) hH ?_
    · intro w1 hS; (try dsimp only at hS); go_simp
    (try simp only [List.getElem_toArray]); (try simp only [List.getElem_cons_succ]); (try simp only [List.getElem_cons_zero]); (try simp only [Act.put]); (try simp only [List.setIfInBounds_toArray]); (try simp only [List.set_cons_succ]); (try simp only [List.set_cons_zero])
    refine wpAnyH_done (by kernel_rfl) ?_ _
    have HB := bnext pB hH pB.size
    clear hH hq CC
    go_wp2_with fail
    go_ret
    exact ⟨rfl, HB⟩
  · have hq := fun W : World => run_equalIn_ints_f Tryd.underlying62 Tryd.underlying5 (by kernel_rfl) d X (fun i => (g i : Int)) (fun i => (f i : Int)) (fun i hi => hC.cell hi) (fun i hi => hXk.get hi) (fun h => hg (hiff.1 h)) 9998 W
    rw [Rf.cok_f hg]
    clear hiff hg hhe hwe
    go_enter Tryd.func73, Tryd.ntmps73
    go_wp2_with fail
    refine gen_world fun W hW => ?_
    rw [← hW] at q0 q1 pB
    clear hW
    refine wp_region_held_drew (S := fun w' => Below W.heap.size W w') (by kernel_rfl) ((Below.refl _ _).drew) (fun hH => ?_)
    refine wpAnyH_take (i := 0) (v := .agg c) rfl (by kernel_rfl) (by kernel_rfl) (by kernel_rfl) (fun _ _ _ h => h) (Or.inl ⟨by rfl, ?_⟩) hH ?_
    · intro w1 hS; (try dsimp only at hS); have s0 := brow hS q0; go_simp
    (try simp only [List.getElem_toArray]); (try simp only [List.getElem_cons_succ]); (try simp only [List.getElem_cons_zero]); (try simp only [Act.put]); (try simp only [List.setIfInBounds_toArray]); (try simp only [List.set_cons_succ]); (try simp only [List.set_cons_zero])
    refine wpAnyH_ready (rs := [1]) (by kernel_rfl) (by simp) (AllReadyH.cons rfl (fun K hK => ?_) AllReadyH.nil)
    go_simp
    refine (implValid_t c r _ hR ho).mono ?_
    rintro x wx ⟨rfl, bx⟩
    go_simp
    refine hK.out _ _ (bnext hH bx hH.size) (fun hG => ?_)
    clear hK K hH bx
    replace hH := hG
    clear hG
    (try simp only [List.getElem_toArray]); (try simp only [List.getElem_cons_succ]); (try simp only [List.getElem_cons_zero]); (try simp only [Act.put]); (try simp only [List.setIfInBounds_toArray]); (try simp only [List.set_cons_succ]); (try simp only [List.set_cons_zero])
    refine wpAnyH_take (i := 2) (v := .bool true) rfl (by kernel_rfl) (by kernel_rfl) (by kernel_rfl) (fun _ _ _ h => h) (Or.inl ⟨by rfl, ?_⟩) hH ?_
    · intro w1 hS; (try dsimp only at hS); go_simp
    (try simp only [List.getElem_toArray]); (try simp only [List.getElem_cons_succ]); (try simp only [List.getElem_cons_zero]); (try simp only [Act.put]); (try simp only [List.setIfInBounds_toArray]); (try simp only [List.set_cons_succ]); (try simp only [List.set_cons_zero])
    refine wpAnyH_take (i := 3) (v := .agg d) rfl (by kernel_rfl) (by kernel_rfl) (by kernel_rfl) (fun _ _ _ h => h) (Or.inl ⟨by rfl, ?_⟩) hH ?_
    · intro w1 hS; (try dsimp only at hS); have s1 := brow hS q1; go_simp
    (try simp only [List.getElem_toArray]); (try simp only [List.getElem_cons_succ]); (try simp only [List.getElem_cons_zero]); (try simp only [Act.put]); (try simp only [List.setIfInBounds_toArray]); (try simp only [List.set_cons_succ]); (try simp only [List.set_cons_zero])
    refine wpAnyH_take (i := 4) (v := .agg c) rfl (by kernel_rfl) (by kernel_rfl) (by kernel_rfl) (fun _ _ _ h => h) (Or.inl ⟨by rfl, ?_⟩) hH ?_
    · intro w1 hS; (try dsimp only at hS); have s0 := brow hS q0; go_simp
    (try simp only [List.getElem_toArray]); (try simp only [List.getElem_cons_succ]); (try simp only [List.getElem_cons_zero]); (try simp only [Act.put]); (try simp only [List.setIfInBounds_toArray]); (try simp only [List.set_cons_succ]); (try simp only [List.set_cons_zero])
    refine wpAnyH_take (i := 5) (v := .agg d) rfl (by kernel_rfl) (by kernel_rfl) (by kernel_rfl) (fun _ _ _ h => h) (Or.inl ⟨by rfl, ?_⟩) hH ?_
    · intro w1 hS; (try dsimp only at hS); have s1 := brow hS q1; go_simp
    (try simp only [List.getElem_toArray]); (try simp only [List.getElem_cons_succ]); (try simp only [List.getElem_cons_zero]); (try simp only [Act.put]); (try simp only [List.setIfInBounds_toArray]); (try simp only [List.set_cons_succ]); (try simp only [List.set_cons_zero])
    refine wpAnyH_take (i := 6) (v := .func (.func 98) #[.agg d] #[]) rfl (by kernel_rfl) (by kernel_rfl) (by kernel_rfl) (fun _ _ _ h => h) (Or.inl ⟨by rfl, ?_⟩) hH ?_
    · intro w1 hS; (try dsimp only at hS); go_simp
    (try simp only [List.getElem_toArray]); (try simp only [List.getElem_cons_succ]); (try simp only [List.getElem_cons_zero]); (try simp only [Act.put]); (try simp only [List.setIfInBounds_toArray]); (try simp only [List.set_cons_succ]); (try simp only [List.set_cons_zero])
    refine wpAnyH_ready (rs := [7]) (by kernel_rfl) (by simp) (AllReadyH.cons rfl (fun K hK => ?_) AllReadyH.nil)
    go_simp
    refine (CC _).mono ?_
    rintro x wx ⟨rfl, bx⟩
    go_simp
    refine hK.out _ _ (bnext hH bx hH.size) (fun hG => ?_)
    clear hK K hH bx
    replace hH := hG
    clear hG
    (try simp only [List.getElem_toArray]); (try simp only [List.getElem_cons_succ]); (try simp only [List.getElem_cons_zero]); (try simp only [Act.put]); (try simp only [List.setIfInBounds_toArray]); (try simp only [List.set_cons_succ]); (try simp only [List.set_cons_zero])
    refine wpAnyH_take (i := 8) (v := .bool false) rfl (by kernel_rfl) (by kernel_rfl) (by kernel_rfl) (fun _ _ _ h => h) (Or.inl ⟨by rfl, ?_⟩) hH ?_
    · intro w1 hS; (try dsimp only at hS); have hq := hq w1; go_simp
    (try simp only [List.getElem_toArray]); (try simp only [List.getElem_cons_succ]); (try simp only [List.getElem_cons_zero]); (try simp only [Act.put]); (try simp only [List.setIfInBounds_toArray]); (try simp only [List.set_cons_succ]); (try simp only [List.set_cons_zero])
    refine wpAnyH_take (i := 9) (v := .bool false) rfl (by kernel_rfl) (by kernel_rfl) (by kernel_rfl) (fun _ _ _ h => h) (Or.inl ⟨by rfl, ?_⟩) hH ?_
    · intro w1 hS; (try dsimp only at hS); go_simp
    (try simp only [List.getElem_toArray]); (try simp only [List.getElem_cons_succ]); (try simp only [List.getElem_cons_zero]); (try simp only [Act.put]); (try simp only [List.setIfInBounds_toArray]); (try simp only [List.set_cons_succ]); (try simp only [List.set_cons_zero])
    refine wpAnyH_take (i := 10) (v := .bool false) rfl (by kernel_rfl) (by kernel_rfl) (by kernel_rfl) (fun _ _ _ h => h) (Or.inl ⟨by rfl, ?_⟩) hH ?_
    · intro w1 hS; (try dsimp only at hS); go_simp
    (try simp only [List.getElem_toArray]); (try simp only [List.getElem_cons_succ]); (try simp only [List.getElem_cons_zero]); (try simp only [Act.put]); (try simp only [List.setIfInBounds_toArray]); (try simp only [List.set_cons_succ]); (try simp only [List.set_cons_zero])
    refine wpAnyH_done (by kernel_rfl) ?_ _
    have HB := bnext pB hH pB.size
    clear hH hq CC
    go_wp2_with fail
    go_ret
    exact ⟨rfl, HB⟩

theorem implValidColours_any (c d : Array Value) (r : Rf) (g : Nat → Nat) (w : World) (hR : IsRoof c r) (hC : IsCol d g) :
    Calls Tryd.prog 73 #[.agg c, .agg d] w fun e w' => e = .returned (.bool (r.cok g)) ∧ Below w.heap.size w w' := by
  by_cases ho : r.Ok
  · exact implValidCol_yes c d r g w hR hC ho
  · rw [Rf.cok_f fun h => ho h.1]
    exact implValidCol_no c d r w hR ho
theorem implValidCol_t (c d : Array Value) (r : Rf) (g : Nat → Nat) (w : World) (hR : IsRoof c r) (hC : IsCol d g) (h : r.Cols g) :
    Calls Tryd.prog 73 #[.agg c, .agg d] w fun e w' => e = .returned (.bool true) ∧ Below w.heap.size w w' := by
  have := implValidColours_any c d r g w hR hC; rwa [Rf.cok_t h] at this
theorem implValidCol_f (c d : Array Value) (r : Rf) (g : Nat → Nat) (w : World) (hR : IsRoof c r) (hC : IsCol d g) (h : ¬ r.Cols g) :
    Calls Tryd.prog 73 #[.agg c, .agg d] w fun e w' => e = .returned (.bool false) ∧ Below w.heap.size w w' := by
  have := implValidColours_any c d r g w hR hC; rwa [Rf.cok_f h] at this
end Go.Proofs.YtppohghejhcilaaDoor

/- Valid colours: the model's side. -/
namespace Go.Proofs.YtppohghejhcilaaDoor
open Go.RowKit

set_option maxRecDepth 100000 in
set_option maxHeartbeats 1000000 in
theorem l07Colours_any (n m : Nat) (c d : Array Value) (r : Rf) (g : Nat → Nat) (w : World) (hr : rowAt w n = some c) (hR : IsRoof c r) (hd : rowAt w m = some d) (hC : IsCol d g) :
    Calls Tryd.prog 65 #[.pointer (some ⟨n, 0, none⟩), .pointer (some ⟨m, 0, none⟩)] w fun e w' => e = .returned (.bool (r.cok g)) ∧ Below w.heap.size w w' := by
  have hn := rowAt_lt hr
  have hm := rowAt_lt hd
  have hc := hR.size
  by_cases ho : r.Ok
  · obtain ⟨hh, hhe⟩ := Int.eq_ofNat_of_zero_le (show 0 ≤ r.h by have := ho.2.2.1; omega)
    obtain ⟨ww, hwe⟩ := Int.eq_ofNat_of_zero_le (show 0 ≤ r.w by have := ho.1; omega)
    have h8 : hh ≤ 8 := by have := ho.2.2.2.1; omega
    have w8 : ww ≤ 8 := by have := ho.2.1; omega
    have hiff := Lib.hid (cols_fine (g := g) ho hhe hwe)
    have k0 : ∀ W, rowAt W n = some c → W.cell? ⟨n, 0, none⟩ = some (.int .i8 ww) := fun W h => by
      rw [cell_of_rowAt h, Array.getElem?_eq_getElem (by omega), hR.wide (by omega), hwe]
    have k1 : ∀ W, rowAt W n = some c → W.cell? ⟨n, 1, none⟩ = some (.int .i8 hh) := fun W h => by
      rw [cell_of_rowAt h, Array.getElem?_eq_getElem (by omega), hR.high (by omega), hhe]
    have K0 := Lib.hid k0
    have K1 := Lib.hid k1
    clear k0 k1 hhe hwe
    go_enter Tryd.func65, Tryd.ntmps65
    go_wp2_with fail
    refine (l01Ok_t n c r _ hr hR ho).mono ?_
    rintro e w1 ⟨rfl, b1⟩
    go_wp2_with fail
    go_loopw [5] (fun i W => ∃ k : Nat, k ≤ 8 ∧ i = .int .i64 k ∧ Hid (∀ j, j < k → cFine hh ww g j) ∧ Below w.heap.size w W) (fun i _ => 8 - (intOf i).toNat)
    case atStart => exact ⟨0, by omega, rfl, Lib.hid (by omega), b1⟩
    case round =>
      obtain ⟨k, hk, rfl, hf, hB⟩ := hrel
      clear b1
      by_cases hlt : k < 8
      · have rN := brow' hB hn hr
        have rM := brow' hB hm hd
        have cm : wr.cell? ⟨m, k, none⟩ = some (.int .u8 (g k : Int)) := (cell_of_rowAt rM k).trans (hC.cell hlt)
        have c0 := K0.out _ rN
        have c1 := K1.out _ rN
        have g8 := hC.hi k hlt
        have g0 : (0 : Int) ≤ (g k : Int) := by omega
        have g1 : (g k : Int) ≤ 255 := by omega
        have ki0 : (0 : Int) ≤ (k : Int) := by omega
        have ki1 : (k : Int) < 8 := by omega
        have wi0 : (0 : Int) ≤ (ww : Int) := by omega
        have wi1 : (ww : Int) ≤ 8 := by omega
        have hdiv : ((g k : Int) / 2 ^ ww) = ((g k / 2 ^ ww : Nat) : Int) := by simp
        have e1 : IntKind.i64.wrap (g k : Int) = (g k : Int) := IntWalk.i64_in _ (by omega)
        have e2 : IntKind.u64.wrap (ww : Int) = (ww : Int) := IntWalk.u64_in _ (by omega)
        have e3 : min ww 64 = ww := by omega
        have e4 : IntKind.i64.wrap (hh : Int) = (hh : Int) := IntWalk.i64_in _ (by omega)
        clear rN rM hr hd
        by_cases a1 : g k / 2 ^ ww = 0
        · have hb1 : ((g k : Int) / 2 ^ ww != 0) = false := by rw [hdiv, a1]; rfl
          clear hdiv
          by_cases a2 : k < hh
          · have hb2 : decide (hh ≤ k) = false := by simp; omega
            have A := Lib.hid a1
            clear a1
            go_wp2_with fail
            go_quiet (fail)
            go_wp2_with fail
            refine ⟨⟨k + 1, by omega, by go_num, Lib.hid ?_, below_drewN hB _⟩, by simp [intOf]; omega⟩
            intro j hj
            by_cases hjk : j < k
            · exact hf.out j hjk
            · obtain rfl : j = k := by omega
              exact ⟨A.out, .inl a2⟩
          · have hb2 : decide (hh ≤ k) = true := by simp; omega
            by_cases a3 : g k = 0
            · have hb3 : ((g k : Int) != 0) = false := by simp [a3]
              have A := Lib.hid a1
              have A3 := Lib.hid a3
              clear a1 a3
              go_wp2_with fail
              go_quiet (fail)
              go_wp2_with fail
              refine ⟨⟨k + 1, by omega, by go_num, Lib.hid ?_, below_drewN hB _⟩, by simp [intOf]; omega⟩
              intro j hj
              by_cases hjk : j < k
              · exact hf.out j hjk
              · obtain rfl : j = k := by omega
                exact ⟨A.out, .inr A3.out⟩
            · have hb3 : ((g k : Int) != 0) = true := by simp; omega
              have A3 := Lib.hid a3
              clear a1 a3
              go_wp2_with fail
              go_quiet (fail)
              go_wp2_with fail
              go_ret
              refine ⟨?_, below_drewN hB _⟩
              rw [Rf.cok_f fun h => by rcases (hiff.out.1 h k hlt).2 with e | e; exact a2 e; exact A3.out e]
              rfl
        · have hb1 : ((g k : Int) / 2 ^ ww != 0) = true := by rw [hdiv]; simp; omega
          clear hdiv
          have A := Lib.hid a1
          clear a1
          go_wp2_with fail
          go_quiet (fail)
          go_wp2_with fail
          go_ret
          refine ⟨?_, below_drewN hB _⟩
          rw [Rf.cok_f fun h => A.out (hiff.out.1 h k hlt).1]
          rfl
      · go_wp2_with fail
        go_ret
        refine ⟨?_, hB⟩
        rw [Rf.cok_t (hiff.out.2 fun i hi => hf.out i (by omega))]
        rfl
  · rw [Rf.cok_f fun h => ho h.1]
    go_enter Tryd.func65, Tryd.ntmps65
    go_wp2_with fail
    refine (l01Ok_f n c r _ hr hR ho).mono ?_
    rintro e w1 ⟨rfl, b1⟩
    go_wp2_with fail
    go_ret
    exact ⟨rfl, b1⟩
theorem l07Colours_t (n m : Nat) (c d : Array Value) (r : Rf) (g : Nat → Nat) (w : World) (hr : rowAt w n = some c) (hR : IsRoof c r) (hd : rowAt w m = some d) (hC : IsCol d g) (h : r.Cols g) :
    Calls Tryd.prog 65 #[.pointer (some ⟨n, 0, none⟩), .pointer (some ⟨m, 0, none⟩)] w fun e w' => e = .returned (.bool true) ∧ Below w.heap.size w w' := by
  have := l07Colours_any n m c d r g w hr hR hd hC; rwa [Rf.cok_t h] at this
theorem l07Colours_f (n m : Nat) (c d : Array Value) (r : Rf) (g : Nat → Nat) (w : World) (hr : rowAt w n = some c) (hR : IsRoof c r) (hd : rowAt w m = some d) (hC : IsCol d g) (h : ¬ r.Cols g) :
    Calls Tryd.prog 65 #[.pointer (some ⟨n, 0, none⟩), .pointer (some ⟨m, 0, none⟩)] w fun e w' => e = .returned (.bool false) ∧ Below w.heap.size w w' := by
  have := l07Colours_any n m c d r g w hr hR hd hC; rwa [Rf.cok_f h] at this

end Go.Proofs.YtppohghejhcilaaDoor

/- How many tiles are not of one colour: both sides. -/
namespace Go.Proofs.YtppohghejhcilaaDoor
open Go.RowKit

/-- How many bits of n bytes are set, and how many are not the same. -/
def popsTo (g : Nat → Nat) (n : Nat) : Int := sumTo (fun i => (pop (g i) 8 : Int)) n
theorem popsTo_bd (g : Nat → Nat) (n : Nat) : 0 ≤ popsTo g n ∧ popsTo g n ≤ n * 8 := sumTo_bd fun i _ => by have := pop_le (g i) 8; omega
theorem popsTo_succ (g : Nat → Nat) (n : Nat) : popsTo g n + (pop (g n) 8 : Int) = popsTo g (n + 1) := rfl
def offs (a b : Nat → Nat) : Nat → Nat := fun i => a i ^^^ b i
theorem offs_lt {a b : Nat → Nat} {i : Nat} (ha : a i < 256) (hb : b i < 256) : offs a b i < 256 := Nat.xor_lt_two_pow (n := 8) ha hb

set_option maxRecDepth 100000 in
set_option maxHeartbeats 1000000 in
theorem offBy_any (c d : Array Value) (a b : Nat → Nat) (w : World) (hA : IsCol c a) (hB : IsCol d b) :
    Calls Tryd.prog 97 #[.agg c, .agg d] w fun e w' => e = .returned (.int .i64 (popsTo (offs a b) 8)) ∧ Below w.heap.size w w' := by
  obtain ⟨p0, p1, pB⟩ := two_boxes w c d 62 62
  have hc := hA.size
  have hd := hB.size
  go_enter Tryd.func97, Tryd.ntmps97
  go_wp2_with fail
  refine gen_world fun W hW => ?_
  rw [← hW] at p0 p1 pB
  clear hW
  have P1 := Lib.hid (cell_of_rowAt p1)
  go_loop [5, 9] (fun s i => ∃ k : Nat, k ≤ 8 ∧ i = .int .i64 k ∧ s = .int .i64 (popsTo (offs a b) k)) (fun _ i => 8 - (intOf i).toNat)
  case atStart => exact ⟨0, by omega, rfl, rfl⟩
  case round =>
    obtain ⟨k, hk, rfl, rfl⟩ := hrel
    by_cases hlt : k < 8
    · have hk1 : k < c.size := by omega
      have h0 := hA.isK.cell k hk1
      have h1 : W.cell? ⟨w.heap.size + 1, k, none⟩ = some (.int .u8 (b k)) := (P1.out k).trans (hB.cell hlt)
      have a8 := hA.hi k hlt
      have b8 := hB.hi k hlt
      have hx := xor8_num a8 b8
      have x0 := popsTo_bd (offs a b) k
      have x1 := pop_le (offs a b k) 8
      have x2 := popsTo_succ (offs a b) k
      have CO := fun W => ones8_any (offs a b k) W (offs_lt a8 b8)
      rw [show a k ^^^ b k = offs a b k from rfl] at hx
      generalize hs : popsTo (offs a b) k = s at *
      clear hs
      generalize (pop (offs a b k) 8) = z at *
      have HX := Lib.hid x2; clear x2
      go_wp2_with fail
      refine (CO _).mono ?_
      rintro e w1 ⟨rfl, rfl⟩
      clear CO
      go_wp2_with fail
      refine ⟨⟨k + 1, by omega, by go_num, by rw [HX.out]⟩, by simp [intOf]; omega⟩
    · obtain rfl : k = 8 := by omega
      go_wp2_with fail
      go_ret
      exact ⟨rfl, pB⟩

set_option maxRecDepth 100000 in
set_option maxHeartbeats 1000000 in
theorem l07Count_any (m : Nat) (d : Array Value) (g : Nat → Nat) (w : World) (hd : rowAt w m = some d) (hC : IsCol d g) :
    Calls Tryd.prog 90 #[.pointer (some ⟨m, 0, none⟩)] w fun e w' => e = .returned (.int .i64 (popsTo g 8)) ∧ w = w' := by
  have HC := Lib.hid (cell_of_rowAt hd)
  go_enter Tryd.func90, Tryd.ntmps90
  go_wp2_with fail
  go_loop [3, 4] (fun s i => ∃ k : Nat, k ≤ 8 ∧ i = .int .i64 k ∧ s = .int .i64 (popsTo g k)) (fun _ i => 8 - (intOf i).toNat)
  case atStart => exact ⟨0, by omega, rfl, rfl⟩
  case round =>
    obtain ⟨k, hk, rfl, rfl⟩ := hrel
    by_cases hlt : k < 8
    · have h0 : w.cell? ⟨m, k, none⟩ = some (.int .u8 (g k)) := (HC.out k).trans (hC.cell hlt)
      have g8 := hC.hi k hlt
      have x0 := popsTo_bd g k
      have x2 := Lib.hid (popsTo_succ g k)
      generalize popsTo g k = s at *
      generalize g k = n at *
      go_wp2_with fail
      go_loop [3, 5] (fun s' i => ∃ j : Nat, j ≤ 8 ∧ i = .int .i64 j ∧ s' = .int .i64 (s + (pop n j : Int))) (fun _ i => 8 - (intOf i).toNat)
      case atStart => exact ⟨0, by omega, rfl, by simp [pop]⟩
      case round =>
        obtain ⟨j, hj, rfl, rfl⟩ := hrel
        have y0 := pop_le n j
        by_cases hjl : j < 8
        · have y1 : pop n (j + 1) = pop n j + n / 2 ^ j % 2 := rfl
          have y2 : n / 2 ^ j ≤ n := Nat.div_le_self _ _
          have y3 : ((n : Int) / 2 ^ j) = ((n / 2 ^ j : Nat) : Int) := by simp
          generalize n / 2 ^ j = q at *
          have HY := Lib.hid y1; clear y1
          generalize pop n j = z at *
          go_wp2_with fail
          refine ⟨⟨j + 1, by omega, by go_num, ?_⟩, by simp [intOf]; omega⟩
          rw [HY.out]
          congr 1
          omega
        · obtain rfl : j = 8 := by omega
          go_wp2_with fail
          refine ⟨⟨k + 1, by omega, by go_num, by rw [x2.out]⟩, by simp [intOf]; omega⟩
    · obtain rfl : k = 8 := by omega
      go_wp2_with fail
      go_ret
      exact ⟨rfl, rfl⟩
end Go.Proofs.YtppohghejhcilaaDoor

/- The nearest pattern of a word that is told by its number. -/
namespace Go.Proofs.YtppohghejhcilaaDoor
open Go.RowKit

@[go_sem ↓] theorem loadAt_pat (v : Value) : Instr.loadAt 113 v = loadWhole 113 v := rfl
@[go_sem ↓] theorem storeAt_pat (a v : Value) : Instr.storeAt 113 a v = storeWhole 113 a v := rfl
@[go_sem] theorem load_pat (w : World) (n o : Nat) : (loadWhole 113 (.pointer (some ⟨n, o, none⟩))).run Tryd.prog w = rowLoad Tryd.prog 113 2 n o w (rowAt w n) := run_load_by Tryd.underlying113 rfl (by kernel_rfl) w n o
@[go_sem] theorem store_pat (vs : Array Value) (w : World) (n o : Nat) : (storeWhole 113 (.pointer (some ⟨n, o, none⟩)) (.agg vs)).run Tryd.prog w = rowStore Tryd.prog 113 2 n o vs w (rowAt w n) := run_store_by (by kernel_rfl) vs w n o
@[go_sem] theorem ones_fi (T : TypeId) (x : Value) (b : Int) : Ones #[.iface T x, .int .i64 b] := by
  intro v hv
  simp at hv
  rcases hv with rfl | rfl <;> rfl
@[go_sem] theorem ones_ni (b : Int) : Ones #[.nilIface, .int .i64 b] := by
  intro v hv
  simp at hv
  rcases hv with rfl | rfl <;> rfl
theorem mkS2N {A B : Prop} (m : B → A) (h : B) : A ∧ B := ⟨m h, h⟩
theorem callBN {A : Prop} {w W w1 : World} (h : A ∧ Below w.heap.size w W) (b : Below W.heap.size W w1) : Below w.heap.size w w1 := bnext h.2 b h.2.size
def offW (s : ByteArray) (g : Nat → Nat) (hh ww st : Nat) : Int := popsTo (offs (colL (patB s st) (plUpto hh ww (hh * ww))) g) 8
theorem offW_bd (s : ByteArray) (g : Nat → Nat) (hh ww st : Nat) : 0 ≤ offW s g hh ww st ∧ offW s g hh ww st ≤ 64 := popsTo_bd _ 8
/-- The first of so many that is least, and how much it is. -/
def leastTo (o : Nat → Int) : Nat → Option (Nat × Int)
  | 0 => none
  | k + 1 => match leastTo o k with
    | none => some (k, o k)
    | some (b, l) => if o k < l then some (k, o k) else some (b, l)
def leastL (p : Option (Nat × Int)) : Int := match p with | none => 9223372036854775807 | some (_, l) => l
def leastR (v : Value) (p : Option (Nat × Int)) : Array Value := match p with | none => #[.nilIface, .int .i64 0] | some (b, _) => #[v, .int .i64 b]
theorem leastTo_bd {o : Nat → Int} (h : ∀ k, 0 ≤ o k ∧ o k ≤ 64) : ∀ k b l, leastTo o k = some (b, l) → b < k ∧ 0 ≤ l ∧ l ≤ 64
  | 0, b, l, e => by cases e
  | k + 1, b, l, e => by
    unfold leastTo at e
    cases hp : leastTo o k with
    | none => rw [hp] at e; cases e; exact ⟨by omega, h k⟩
    | some p =>
      obtain ⟨b', l'⟩ := p
      have ih := leastTo_bd h k b' l' hp
      rw [hp] at e
      by_cases hlt : o k < l'
      · simp only [hlt, if_true] at e; cases e; exact ⟨by omega, h k⟩
      · simp only [hlt, if_false] at e; cases e; exact ⟨by omega, ih.2⟩
theorem leastTo_step (o : Nat → Int) (k : Nat) (h : o k ≤ 64) : leastTo o (k + 1) = if o k < leastL (leastTo o k) then some (k, o k) else leastTo o k := by
  cases hp : leastTo o k with
  | none =>
    have e : leastTo o (k + 1) = some (k, o k) := by simp [leastTo, hp]
    rw [e, if_pos (by simp only [leastL]; omega)]
  | some p =>
    obtain ⟨b, l⟩ := p
    have e : leastTo o (k + 1) = if o k < l then some (k, o k) else some (b, l) := by simp [leastTo, hp]
    rw [e]
    rfl
theorem leastR_size (v : Value) (p : Option (Nat × Int)) : (leastR v p).size = 2 := by cases p with | none => rfl | some p => rfl
theorem leastTo_some (o : Nat → Int) : ∀ k, 1 ≤ k → ∃ b l, leastTo o k = some (b, l)
  | 0, h => by omega
  | k + 1, _ => by
    cases hp : leastTo o k with
    | none => exact ⟨k, o k, by simp [leastTo, hp]⟩
    | some p =>
      obtain ⟨b, l⟩ := p
      by_cases h : o k < l
      · exact ⟨k, o k, by simp [leastTo, hp, h]⟩
      · exact ⟨b, l, by simp [leastTo, hp, h]⟩

set_option maxRecDepth 100000 in
set_option maxHeartbeats 4000000 in
theorem nearT_any (c d : Array Value) (r : Rf) (g : Nat → Nat) (n num hh ww : Nat) (w : World) (hR : IsRoof c r) (hC : IsCol d g) (hhe : r.h = hh) (hwe : r.w = ww) (h8 : hh ≤ 8) (w8 : ww ≤ 8) (hn1 : 1 ≤ n) (hn5 : n ≤ 5) (hnum : num < 32) :
    Calls Tryd.prog 71 #[.agg c, .agg d, triedV n num] w fun e w' => (∃ b l, leastTo (offW (trS n num) g hh ww) n = some (b, l) ∧ e = .returned (.tuple #[.agg #[triedV n num, .int .i64 b], .int .i64 l])) ∧ Below w.heap.size w w' := by
  have hc := hR.size
  have hd := hC.size
  have hd1 := hC.ones
  have CM := fun W => manyT_any n num W
  have n5 : (n : Int) ≤ 5 := by omega
  have n1 : (1 : Int) ≤ n := by omega
  obtain ⟨o, ho⟩ : ∃ o, offW (trS n num) g hh ww = o := ⟨_, rfl⟩
  have hob : ∀ k, 0 ≤ o k ∧ o k ≤ 64 := fun k => by rw [← ho]; exact offW_bd _ _ _ _ _
  have HO := Lib.hid ho
  rw [ho]
  clear ho
  have CC := fun (st : Nat) (hst : st ≤ 12) X hX W => colour_any 96 #[.agg #[triedV n num, .int .i64 st]] #[] (patB (trS n num) st) (enters_of Tryd.func96 (by kernel_rfl) rfl) c r hh ww hhe hwe h8 w8 W hR (patT_pred n num st W hn1 hn5 hnum hst) X hX
  have CO := fun X f (hX : IsCol X f) W => offBy_any X d f g W hX hC
  unfold triedV at CC ⊢
  go_enter Tryd.func71, Tryd.ntmps71
  go_wp2_with fail
  refine gen_callsW fun W0 hW => ?_
  have p0 : rowAt W0 w.heap.size = some c := by rw [hW]; exact (rowAt_alloc_past _ _ _ (by simp; omega)).trans ((rowAt_alloc_past _ _ _ (by simp; omega)).trans ((rowAt_alloc_past _ _ _ (by simp)).trans (rowAt_alloc_at _ _ _ _ rfl)))
  have p1 : rowAt W0 (w.heap.size + 1) = some d := by rw [hW]; exact (rowAt_alloc_past _ _ _ (by simp)).trans ((rowAt_alloc_past _ _ _ (by simp)).trans (rowAt_alloc_at _ _ _ _ (by simp)))
  have p6 : rowAt W0 (w.heap.size + 1 + 1) = some #[.nilIface, .int .i64 0] := by rw [hW]; exact (rowAt_alloc_past _ _ _ (by simp)).trans (rowAt_alloc_at _ _ _ _ (by simp))
  have p8 : rowAt W0 (w.heap.size + 1 + 1 + 1) = some #[.nilIface, .int .i64 0] := by rw [hW]; exact rowAt_alloc_at _ _ _ _ (by simp)
  have pB : Below w.heap.size w W0 := by rw [hW]; exact ((((Below.refl _ _).alloc (Nat.le_refl _) _).alloc (by simp) _).alloc (by simp; omega) _).alloc (by simp; omega) _
  clear hW
  refine (CM _).mono ?_
  rintro e w1 ⟨rfl, b1⟩
  have q0 := brow b1 p0
  have q1 := brow b1 p1
  have q6 := brow b1 p6
  have q8 := brow b1 p8
  have B1 := bnext pB b1 pB.size
  clear b1 p0 p1 p6 p8 pB CM
  go_wp2_with fail
  go_loopw [9, 15] (fun l i W => ∃ k : Nat, k ≤ n ∧ i = .int .i64 k ∧ l = .int .i64 (leastL (leastTo o k)) ∧ rowAt W w.heap.size = some c ∧ rowAt W (w.heap.size + 1) = some d ∧ rowAt W (w.heap.size + 1 + 1) = some #[.nilIface, .int .i64 0] ∧ rowAt W (w.heap.size + 1 + 1 + 1) = some (leastR (.iface 161 (.agg #[.int .i64 n, .int .i64 num])) (leastTo o k)) ∧ Below w.heap.size w W) (fun _ i _ => n - (intOf i).toNat)
  case atStart => exact ⟨0, by omega, rfl, rfl, q0, q1, q6, q8, B1⟩
  case round =>
    clear q0 q1 q6 q8 B1
    obtain ⟨k, hk, rfl, rfl, r0, r1, r6, r8, rB⟩ := hrel
    by_cases hlt : k < n
    · have k0 : (0 : Int) ≤ k := by omega
      have k1 : (k : Int) < n := by omega
      obtain ⟨X, hX⟩ : ∃ X, mkC (colL (patB (trS n num) k) (plUpto hh ww (hh * ww))) = X := ⟨_, rfl⟩
      have hXI : IsCol X (colL (patB (trS n num) k) (plUpto hh ww (hh * ww))) := by rw [← hX]; exact isCol_mkC fun i _ => colL_lt w8 _ i
      have CK := CC k (by omega) X hX
      have CF := fun W => CO X _ hXI W
      have hof : popsTo (offs (colL (patB (trS n num) k) (plUpto hh ww (hh * ww))) g) 8 = o k := by rw [← HO.out]; rfl
      rw [hof] at CF
      have hXs := hXI.size
      have hXo := hXI.ones
      have hok := hob k
      have hst := leastTo_step o k hok.2
      clear hX hof hXI
      go_wp2_with fail
      refine gen_world fun W2 hW => ?_
      have s0 : rowAt W2 w.heap.size = some c := by rw [hW]; exact (rowAt_alloc_past _ _ _ (rowAt_lt r0)).trans r0
      have s1 : rowAt W2 (w.heap.size + 1) = some d := by rw [hW]; exact (rowAt_alloc_past _ _ _ (rowAt_lt r1)).trans r1
      have s6 : rowAt W2 (w.heap.size + 1 + 1) = some #[.nilIface, .int .i64 0] := by rw [hW]; exact (rowAt_alloc_past _ _ _ (rowAt_lt r6)).trans r6
      have s8 : rowAt W2 (w.heap.size + 1 + 1 + 1) = some (leastR (.iface 161 (.agg #[.int .i64 n, .int .i64 num])) (leastTo o k)) := by rw [hW]; exact (rowAt_alloc_past _ _ _ (rowAt_lt r8)).trans r8
      have s11 : rowAt W2 wr.heap.size = some #[.iface 161 (.agg #[.int .i64 n, .int .i64 num]), .int .i64 k] := by rw [hW]; exact rowAt_alloc_at _ _ _ _ rfl
      have sB : Below w.heap.size w W2 := by rw [hW]; exact rB.alloc rB.size _
      have n8 : w.heap.size + 1 + 1 + 1 ≠ wr.heap.size := by have := rowAt_lt r8; omega
      clear hW r0 r1 r6 r8 rB
      have HM := Lib.hid (fun W' (b : Below W2.heap.size W2 W') => (show rowAt W' w.heap.size = some c ∧ rowAt W' (w.heap.size + 1) = some d ∧ rowAt W' wr.heap.size = some #[.iface 161 (.agg #[.int .i64 n, .int .i64 num]), .int .i64 k] from ⟨brow b s0, brow b s1, brow b s11⟩))
      go_region_held3 (fun w' => (rowAt w' w.heap.size = some c ∧ rowAt w' (w.heap.size + 1) = some d ∧ rowAt w' wr.heap.size = some #[.iface 161 (.agg #[.int .i64 n, .int .i64 num]), .int .i64 k]) ∧ Below W2.heap.size W2 w')
        ((refine mkS2N (HM.out _) ?_; first | exact (Below.refl _ _).drew | exact callBN (by assumption) (by assumption)))
        (first | (go_at_call 95; (with_reducible refine (CK _).mono ?_); rintro x wx ⟨rfl, bx⟩) | (go_at_call 97; (with_reducible refine (CF _).mono ?_); rintro x wx ⟨rfl, bx⟩))
      rename_i gq
      obtain ⟨⟨_, _, g11⟩, gB⟩ := gq
      have g0 := brow gB s0
      have g1 := brow gB s1
      have g6 := brow gB s6
      have g8 := brow gB s8
      have GB := bnext sB gB sB.size
      have zr := leastR_size (.iface 161 (.agg #[.int .i64 n, .int .i64 num])) (leastTo o k)
      clear HM s0 s1 s6 s8 s11 sB gB CK CF
      have d0 : w.heap.size ≠ w.heap.size + 1 + 1 + 1 := by omega
      have d1 : w.heap.size + 1 ≠ w.heap.size + 1 + 1 + 1 := by omega
      have d6 : w.heap.size + 1 + 1 ≠ w.heap.size + 1 + 1 + 1 := by omega
      by_cases hlo : o k < leastL (leastTo o k)
      · rw [if_pos hlo] at hst
        have HST := Lib.hid hst
        clear hst
        go_wp2_with fail
        refine ⟨⟨k + 1, by omega, by go_num, by rw [HST.out]; rfl, (rowAt_setRow_ne _ _ _ _ d0).trans g0, (rowAt_setRow_ne _ _ _ _ d1).trans g1, (rowAt_setRow_ne _ _ _ _ d6).trans g6, ?_, below_setRow GB (by omega) _⟩, by simp [intOf]; omega⟩
        rw [HST.out]
        exact rowAt_setRow_at _ _ _ (Option.isSome_iff_exists.2 ⟨_, g8⟩)
      · rw [if_neg hlo] at hst
        have HST := Lib.hid hst
        clear hst
        go_wp2_with fail
        refine ⟨⟨k + 1, by omega, by go_num, by rw [HST.out], g0, g1, g6, by rw [HST.out]; exact g8, GB⟩, by simp [intOf]; omega⟩
    · obtain rfl : k = n := by omega
      obtain ⟨b, l, hbl⟩ := leastTo_some o k hn1
      have r8' : rowAt wr (w.heap.size + 1 + 1 + 1) = some #[.iface 161 (.agg #[.int .i64 k, .int .i64 num]), .int .i64 b] := by rw [r8, hbl]; rfl
      have hll : leastL (leastTo o k) = l := by rw [hbl]; rfl
      rw [hll]
      have HBL := Lib.hid hbl
      clear r8 hll hbl
      go_wp2_with fail
      refine bodyPost_ret (v := .tuple #[.agg #[.iface 161 (.agg #[.int .i64 k, .int .i64 num]), .int .i64 b], .int .i64 l]) (results_row2 (m := 2) rfl _ _ (w.heap.size + 1 + 1) _ _ rfl rfl (rowAt_setRow_at _ _ _ (Option.isSome_iff_exists.2 ⟨_, r6⟩)) Tryd.underlying113 rfl (by kernel_rfl) rfl) rfl ⟨⟨b, l, HBL.out, rfl⟩, ?_⟩
      exact below_setRow rB (by omega) _
end Go.Proofs.YtppohghejhcilaaDoor

/- The nearest pattern of a word that is told by its text. -/
namespace Go.Proofs.YtppohghejhcilaaDoor
open Go.RowKit

set_option maxRecDepth 100000 in
set_option maxHeartbeats 4000000 in
theorem nearS_any (c d : Array Value) (r : Rf) (g : Nat → Nat) (s : ByteArray) (n hh ww : Nat) (hn : n = s.size) (w : World) (hR : IsRoof c r) (hC : IsCol d g) (hhe : r.h = hh) (hwe : r.w = ww) (h8 : hh ≤ 8) (w8 : ww ≤ 8) (hn1 : 1 ≤ n) (hn5 : n ≤ 12) :
    Calls Tryd.prog 71 #[.agg c, .agg d, toldV s] w fun e w' => (∃ b l, leastTo (offW (s) g hh ww) n = some (b, l) ∧ e = .returned (.tuple #[.agg #[toldV s, .int .i64 b], .int .i64 l])) ∧ Below w.heap.size w w' := by
  have hc := hR.size
  have hd := hC.size
  have hd1 := hC.ones
  have CM := fun W => many_any s W
  rw [← hn] at CM
  have n5 : (n : Int) ≤ 12 := by omega
  have n1 : (1 : Int) ≤ n := by omega
  obtain ⟨o, ho⟩ : ∃ o, offW (s) g hh ww = o := ⟨_, rfl⟩
  have hob : ∀ k, 0 ≤ o k ∧ o k ≤ 64 := fun k => by rw [← ho]; exact offW_bd _ _ _ _ _
  have HO := Lib.hid ho
  rw [ho]
  clear ho
  have CC := fun (st : Nat) (hst : st ≤ 12) X hX W => colour_any 96 #[.agg #[toldV s, .int .i64 st]] #[] (patB (s) st) (enters_of Tryd.func96 (by kernel_rfl) rfl) c r hh ww hhe hwe h8 w8 W hR (patB_pred s st W (by omega) hst) X hX
  have CO := fun X f (hX : IsCol X f) W => offBy_any X d f g W hX hC
  unfold toldV at CC ⊢
  have HN := Lib.hid hn
  clear hn
  go_enter Tryd.func71, Tryd.ntmps71
  go_wp2_with fail
  refine gen_callsW fun W0 hW => ?_
  have p0 : rowAt W0 w.heap.size = some c := by rw [hW]; exact (rowAt_alloc_past _ _ _ (by simp; omega)).trans ((rowAt_alloc_past _ _ _ (by simp; omega)).trans ((rowAt_alloc_past _ _ _ (by simp)).trans (rowAt_alloc_at _ _ _ _ rfl)))
  have p1 : rowAt W0 (w.heap.size + 1) = some d := by rw [hW]; exact (rowAt_alloc_past _ _ _ (by simp)).trans ((rowAt_alloc_past _ _ _ (by simp)).trans (rowAt_alloc_at _ _ _ _ (by simp)))
  have p6 : rowAt W0 (w.heap.size + 1 + 1) = some #[.nilIface, .int .i64 0] := by rw [hW]; exact (rowAt_alloc_past _ _ _ (by simp)).trans (rowAt_alloc_at _ _ _ _ (by simp))
  have p8 : rowAt W0 (w.heap.size + 1 + 1 + 1) = some #[.nilIface, .int .i64 0] := by rw [hW]; exact rowAt_alloc_at _ _ _ _ (by simp)
  have pB : Below w.heap.size w W0 := by rw [hW]; exact ((((Below.refl _ _).alloc (Nat.le_refl _) _).alloc (by simp) _).alloc (by simp; omega) _).alloc (by simp; omega) _
  clear hW
  refine (CM _).mono ?_
  rintro e w1 ⟨rfl, b1⟩
  have q0 := brow b1 p0
  have q1 := brow b1 p1
  have q6 := brow b1 p6
  have q8 := brow b1 p8
  have B1 := bnext pB b1 pB.size
  clear b1 p0 p1 p6 p8 pB CM
  go_wp2_with fail
  go_loopw [9, 15] (fun l i W => ∃ k : Nat, k ≤ n ∧ i = .int .i64 k ∧ l = .int .i64 (leastL (leastTo o k)) ∧ rowAt W w.heap.size = some c ∧ rowAt W (w.heap.size + 1) = some d ∧ rowAt W (w.heap.size + 1 + 1) = some #[.nilIface, .int .i64 0] ∧ rowAt W (w.heap.size + 1 + 1 + 1) = some (leastR (.iface 116 (.string s)) (leastTo o k)) ∧ Below w.heap.size w W) (fun _ i _ => n - (intOf i).toNat)
  case atStart => exact ⟨0, by omega, rfl, rfl, q0, q1, q6, q8, B1⟩
  case round =>
    clear q0 q1 q6 q8 B1
    obtain ⟨k, hk, rfl, rfl, r0, r1, r6, r8, rB⟩ := hrel
    by_cases hlt : k < n
    · have k0 : (0 : Int) ≤ k := by omega
      have k1 : (k : Int) < n := by omega
      obtain ⟨X, hX⟩ : ∃ X, mkC (colL (patB (s) k) (plUpto hh ww (hh * ww))) = X := ⟨_, rfl⟩
      have hXI : IsCol X (colL (patB (s) k) (plUpto hh ww (hh * ww))) := by rw [← hX]; exact isCol_mkC fun i _ => colL_lt w8 _ i
      have CK := CC k (by omega) X hX
      have CF := fun W => CO X _ hXI W
      have hof : popsTo (offs (colL (patB (s) k) (plUpto hh ww (hh * ww))) g) 8 = o k := by rw [← HO.out]; rfl
      rw [hof] at CF
      have hXs := hXI.size
      have hXo := hXI.ones
      have hok := hob k
      have hst := leastTo_step o k hok.2
      clear hX hof hXI
      go_wp2_with fail
      refine gen_world fun W2 hW => ?_
      have s0 : rowAt W2 w.heap.size = some c := by rw [hW]; exact (rowAt_alloc_past _ _ _ (rowAt_lt r0)).trans r0
      have s1 : rowAt W2 (w.heap.size + 1) = some d := by rw [hW]; exact (rowAt_alloc_past _ _ _ (rowAt_lt r1)).trans r1
      have s6 : rowAt W2 (w.heap.size + 1 + 1) = some #[.nilIface, .int .i64 0] := by rw [hW]; exact (rowAt_alloc_past _ _ _ (rowAt_lt r6)).trans r6
      have s8 : rowAt W2 (w.heap.size + 1 + 1 + 1) = some (leastR (.iface 116 (.string s)) (leastTo o k)) := by rw [hW]; exact (rowAt_alloc_past _ _ _ (rowAt_lt r8)).trans r8
      have s11 : rowAt W2 wr.heap.size = some #[.iface 116 (.string s), .int .i64 k] := by rw [hW]; exact rowAt_alloc_at _ _ _ _ rfl
      have sB : Below w.heap.size w W2 := by rw [hW]; exact rB.alloc rB.size _
      have n8 : w.heap.size + 1 + 1 + 1 ≠ wr.heap.size := by have := rowAt_lt r8; omega
      clear hW r0 r1 r6 r8 rB
      have HM := Lib.hid (fun W' (b : Below W2.heap.size W2 W') => (show rowAt W' w.heap.size = some c ∧ rowAt W' (w.heap.size + 1) = some d ∧ rowAt W' wr.heap.size = some #[.iface 116 (.string s), .int .i64 k] from ⟨brow b s0, brow b s1, brow b s11⟩))
      go_region_held3 (fun w' => (rowAt w' w.heap.size = some c ∧ rowAt w' (w.heap.size + 1) = some d ∧ rowAt w' wr.heap.size = some #[.iface 116 (.string s), .int .i64 k]) ∧ Below W2.heap.size W2 w')
        ((refine mkS2N (HM.out _) ?_; first | exact (Below.refl _ _).drew | exact callBN (by assumption) (by assumption)))
        (first | (go_at_call 95; (with_reducible refine (CK _).mono ?_); rintro x wx ⟨rfl, bx⟩) | (go_at_call 97; (with_reducible refine (CF _).mono ?_); rintro x wx ⟨rfl, bx⟩))
      rename_i gq
      obtain ⟨⟨_, _, g11⟩, gB⟩ := gq
      have g0 := brow gB s0
      have g1 := brow gB s1
      have g6 := brow gB s6
      have g8 := brow gB s8
      have GB := bnext sB gB sB.size
      have zr := leastR_size (.iface 116 (.string s)) (leastTo o k)
      clear HM s0 s1 s6 s8 s11 sB gB CK CF
      have d0 : w.heap.size ≠ w.heap.size + 1 + 1 + 1 := by omega
      have d1 : w.heap.size + 1 ≠ w.heap.size + 1 + 1 + 1 := by omega
      have d6 : w.heap.size + 1 + 1 ≠ w.heap.size + 1 + 1 + 1 := by omega
      by_cases hlo : o k < leastL (leastTo o k)
      · rw [if_pos hlo] at hst
        have HST := Lib.hid hst
        clear hst
        go_wp2_with fail
        refine ⟨⟨k + 1, by omega, by go_num, by rw [HST.out]; rfl, (rowAt_setRow_ne _ _ _ _ d0).trans g0, (rowAt_setRow_ne _ _ _ _ d1).trans g1, (rowAt_setRow_ne _ _ _ _ d6).trans g6, ?_, below_setRow GB (by omega) _⟩, by simp [intOf]; omega⟩
        rw [HST.out]
        exact rowAt_setRow_at _ _ _ (Option.isSome_iff_exists.2 ⟨_, g8⟩)
      · rw [if_neg hlo] at hst
        have HST := Lib.hid hst
        clear hst
        go_wp2_with fail
        refine ⟨⟨k + 1, by omega, by go_num, by rw [HST.out], g0, g1, g6, by rw [HST.out]; exact g8, GB⟩, by simp [intOf]; omega⟩
    · obtain rfl : k = n := by omega
      obtain ⟨b, l, hbl⟩ := leastTo_some o k hn1
      have r8' : rowAt wr (w.heap.size + 1 + 1 + 1) = some #[.iface 116 (.string s), .int .i64 b] := by rw [r8, hbl]; rfl
      have hll : leastL (leastTo o k) = l := by rw [hbl]; rfl
      rw [hll]
      have HBL := Lib.hid hbl
      clear r8 hll hbl
      go_wp2_with fail
      refine bodyPost_ret (v := .tuple #[.agg #[.iface 116 (.string s), .int .i64 b], .int .i64 l]) (results_row2 (m := 2) rfl _ _ (w.heap.size + 1 + 1) _ _ rfl rfl (rowAt_setRow_at _ _ _ (Option.isSome_iff_exists.2 ⟨_, r6⟩)) Tryd.underlying113 rfl (by kernel_rfl) rfl) rfl ⟨⟨b, l, HBL.out, rfl⟩, ?_⟩
      exact below_setRow rB (by omega) _
end Go.Proofs.YtppohghejhcilaaDoor

/- OffBy, CountColour: both sides. -/
namespace Go.Proofs.YtppohghejhcilaaDoor
open Go.RowKit

noncomputable def Rf.offV (r : Rf) (a b : Nat → Nat) : Int := if r.cok a = true ∧ r.cok b = true then popsTo (offs a b) 8 else 0
noncomputable def Rf.offC (r : Rf) (a b : Nat → Nat) : Int := if r.cok a = true ∧ r.cok b = true then 0 else 1
theorem Rf.offV_t {r : Rf} {a b : Nat → Nat} (ha : r.Cols a) (hb : r.Cols b) : r.offV a b = popsTo (offs a b) 8 := if_pos ⟨Rf.cok_t ha, Rf.cok_t hb⟩
theorem Rf.offC_t {r : Rf} {a b : Nat → Nat} (ha : r.Cols a) (hb : r.Cols b) : r.offC a b = 0 := if_pos ⟨Rf.cok_t ha, Rf.cok_t hb⟩
theorem Rf.offV_f {r : Rf} {a b : Nat → Nat} (h : ¬ (r.Cols a ∧ r.Cols b)) : r.offV a b = 0 := if_neg fun ⟨x, y⟩ => h ⟨Rf.Cols_of x, Rf.Cols_of y⟩
theorem Rf.offC_f {r : Rf} {a b : Nat → Nat} (h : ¬ (r.Cols a ∧ r.Cols b)) : r.offC a b = 1 := if_neg fun ⟨x, y⟩ => h ⟨Rf.Cols_of x, Rf.Cols_of y⟩

/-- Three boxed arguments: their rows. -/
theorem three_boxes (w : World) (c d e : Array Value) (t s u : TypeId) :
    rowAt (((w.alloc (.cells c t)).alloc (.cells d s)).alloc (.cells e u)) w.heap.size = some c ∧ rowAt (((w.alloc (.cells c t)).alloc (.cells d s)).alloc (.cells e u)) (w.heap.size + 1) = some d ∧ rowAt (((w.alloc (.cells c t)).alloc (.cells d s)).alloc (.cells e u)) (w.heap.size + 1 + 1) = some e ∧ Below w.heap.size w (((w.alloc (.cells c t)).alloc (.cells d s)).alloc (.cells e u)) := by
  have h := boxes3 w c d e t s u
  exact ⟨h.rows (w.heap.size, c) (by simp), h.rows (w.heap.size + 1, d) (by simp), h.rows (w.heap.size + 1 + 1, e) (by simp), h.bel⟩

set_option maxRecDepth 100000 in
set_option maxHeartbeats 1000000 in
theorem l07Off_any (m k : Nat) (d e : Array Value) (a b : Nat → Nat) (w : World) (hd : rowAt w m = some d) (hA : IsCol d a) (he : rowAt w k = some e) (hB : IsCol e b) :
    Calls Tryd.prog 68 #[.pointer (some ⟨m, 0, none⟩), .pointer (some ⟨k, 0, none⟩)] w fun x w' => x = .returned (.int .i64 (popsTo (offs a b) 8)) ∧ Below w.heap.size w w' := by
  have hm := rowAt_lt hd
  have hk := rowAt_lt he
  have hz : (#[.int .u8 0, .int .u8 0, .int .u8 0, .int .u8 0, .int .u8 0, .int .u8 0, .int .u8 0, .int .u8 0] : Array Value) = mkC (fun _ => 0) := by kernel_rfl
  have HZ := Lib.hid hz
  have hzo : Ones (#[.int .u8 0, .int .u8 0, .int .u8 0, .int .u8 0, .int .u8 0, .int .u8 0, .int .u8 0, .int .u8 0] : Array Value) := by rw [hz]; exact (isK_mkI _ _ _).ones
  clear hz
  go_enter Tryd.func68, Tryd.ntmps68
  go_wp2_with fail
  refine gen_world fun W hW => ?_
  have r0 : rowAt W m = some d := by rw [hW]; exact (rowAt_alloc_past _ _ _ hm).trans hd
  have r1 : rowAt W k = some e := by rw [hW]; exact (rowAt_alloc_past _ _ _ hk).trans he
  have r2 : rowAt W w.heap.size = some (mkC (fun _ => 0)) := by rw [hW, ← HZ.out]; go_simp
  have rB : Below w.heap.size w W := by rw [hW]; exact (Below.refl _ _).alloc (Nat.le_refl _) _
  clear hW hd he
  go_loopw [6] (fun i W' => ∃ (n : Nat) (f : Nat → Nat), n ≤ 8 ∧ i = .int .i64 n ∧ Hid (∀ j, f j = if j < n then offs a b j else 0) ∧ rowAt W' m = some d ∧ rowAt W' k = some e ∧ rowAt W' w.heap.size = some (mkC f) ∧ Below w.heap.size w W') (fun i _ => 8 - (intOf i).toNat)
  case atStart => exact ⟨0, _, by omega, rfl, Lib.hid (fun j => by simp), r0, r1, r2, rB⟩
  case round =>
    clear r0 r1 r2 rB
    obtain ⟨n, f, hn, rfl, hf, r0, r1, r2, rB⟩ := hrel
    by_cases hlt : n < 8
    · have c0 : wr.cell? ⟨m, n, none⟩ = some (.int .u8 (a n)) := (cell_of_rowAt r0 n).trans (hA.cell hlt)
      have c1 : wr.cell? ⟨k, n, none⟩ = some (.int .u8 (b n)) := (cell_of_rowAt r1 n).trans (hB.cell hlt)
      have c2 : wr.cell? ⟨w.heap.size, n, none⟩ = some (.int .u8 (f n)) := (cell_of_rowAt r2 n).trans ((isK_mkI .u8 8 (fun i => (f i : Int))).get hlt)
      have f2 := frozen_of_rowAt r2 n
      have hx := xor8_num (hA.hi n hlt) (hB.hi n hlt)
      have n0 : (0 : Int) ≤ n := by omega
      have n1 : (n : Int) < 8 := by omega
      have m1 : m ≠ w.heap.size := by omega
      have m2 : k ≠ w.heap.size := by omega
      have ls := rB.size
      go_wp2_with fail
      go_still_tail 13, (by kernel_rfl)
      change wpList _ _ _ _ _ wr.drew
      repeat go_step
      have s2 := rowAt_setCell_at wr.drew w.heap.size n (.int .u8 ((a n ^^^ b n : Nat) : Int)) (by rw [show rowAt wr.drew w.heap.size = _ from r2]; rfl)
      rw [show rowAt wr.drew w.heap.size = _ from r2, Option.getD_some, mkC_set] at s2
      have s0 := (rowAt_setCell_ne wr.drew w.heap.size m n (.int .u8 ((a n ^^^ b n : Nat) : Int)) m1).trans r0
      have s1 := (rowAt_setCell_ne wr.drew w.heap.size k n (.int .u8 ((a n ^^^ b n : Nat) : Int)) m2).trans r1
      have sB := rB.drew.setCell (p := ⟨w.heap.size, n, none⟩) (Nat.le_refl _) (.int .u8 ((a n ^^^ b n : Nat) : Int))
      clear r0 r1 r2 rB c0 c1 c2 f2 hx
      go_wp2_with fail
      refine ⟨⟨n + 1, _, by omega, by go_num, Lib.hid (fun j => ?_), s0, s1, s2, sB⟩, by simp [intOf]; omega⟩
      unfold updN
      by_cases hj : j = n
      · subst hj; simp [offs]
      · rw [if_neg hj, hf.out j]
        by_cases h2 : j < n
        · rw [if_pos h2, if_pos (by omega)]
        · rw [if_neg h2, if_neg (by omega)]
    · obtain rfl : n = 8 := by omega
      have hfo : ∀ i, i < 8 → f i = offs a b i := fun i hi => by rw [hf.out i, if_pos hi]
      have hFC : IsCol (mkC f) f := isCol_mkC fun i hi => by rw [hfo i hi]; exact offs_lt (hA.hi i hi) (hB.hi i hi)
      have hpo : popsTo f 8 = popsTo (offs a b) 8 := sumTo_congr fun i hi => by rw [hfo i hi]
      have CL := fun W H => l07Count_any w.heap.size (mkC f) f W H hFC
      rw [hpo] at CL
      clear hfo hFC hpo
      go_wp2_with fail
      refine (CL _ r2).mono ?_
      rintro x w1 ⟨rfl, rfl⟩
      clear CL
      go_wp2_with fail
      go_ret
      exact ⟨rfl, rB⟩

noncomputable def Rf.cntV (r : Rf) (g : Nat → Nat) : Int := if r.cok g = true then popsTo g 8 else 0
noncomputable def Rf.cntC (r : Rf) (g : Nat → Nat) : Int := if r.cok g = true then 0 else 1
theorem Rf.cols_zero {r : Rf} (ho : r.Ok) : r.Cols (fun _ => 0) := ⟨ho, fun _ _ j h => by rw [Nat.zero_testBit] at h; cases h⟩
theorem Rf.offV_zero (r : Rf) (g : Nat → Nat) : r.offV g (fun _ => 0) = r.cntV g ∧ r.offC g (fun _ => 0) = r.cntC g := by
  by_cases h : r.Cols g
  · have hz := Rf.cols_zero h.1
    have e : popsTo (offs g fun _ => 0) 8 = popsTo g 8 := sumTo_congr fun i _ => by rw [show offs g (fun _ => 0) i = g i from Nat.xor_zero _]
    rw [Rf.offV_t h hz, Rf.offC_t h hz, e, Rf.cntV, Rf.cntC, if_pos (Rf.cok_t h), if_pos (Rf.cok_t h)]
    exact ⟨rfl, rfl⟩
  · rw [Rf.offV_f fun x => h x.1, Rf.offC_f fun x => h x.1, Rf.cntV, Rf.cntC, if_neg (by rw [Rf.cok_f h]; decide), if_neg (by rw [Rf.cok_f h]; decide)]
    exact ⟨rfl, rfl⟩

end Go.Proofs.YtppohghejhcilaaDoor

/- The nearest pattern among some words: the mathematics. -/
namespace Go.Proofs.YtppohghejhcilaaDoor
open Go.RowKit

/-- Of a word's best step and what was best ahead of it the better one; the earlier one where they are equal. -/
def comb (k : Nat) (p : Option (Nat × Nat × Int)) (q : Option (Nat × Int)) : Option (Nat × Nat × Int) := match q with
  | none => p
  | some (b, l) => match p with
    | none => some (k, b, l)
    | some (i, s, m) => if l < m then some (k, b, l) else some (i, s, m)
def lst3 : Option (Nat × Nat × Int) → Int
  | none => 9223372036854775807
  | some (_, _, m) => m
def idx3 : Option (Nat × Nat × Int) → Int
  | none => 0
  | some (i, _, _) => i
def stp3 : Option (Nat × Nat × Int) → Int
  | none => 0
  | some (_, s, _) => s
def off3 : Option (Nat × Nat × Int) → Int
  | none => 0
  | some (_, _, m) => m
def Bd3 (p : Option (Nat × Nat × Int)) : Prop := ∀ i s m, p = some (i, s, m) → 0 ≤ m ∧ m ≤ 64
theorem comb_bd {k : Nat} {p : Option (Nat × Nat × Int)} {q : Option (Nat × Int)} (h : Bd3 p) (hq : ∀ b l, q = some (b, l) → 0 ≤ l ∧ l ≤ 64) : Bd3 (comb k p q) := by
  intro i s m e
  unfold comb at e
  cases q with
  | none => exact h i s m e
  | some q =>
    obtain ⟨b, l⟩ := q
    have h2 := hq b l rfl
    cases p with
    | none => simp only at e; cases e; exact h2
    | some p =>
      obtain ⟨i', s', m'⟩ := p
      simp only at e
      split at e
      · cases e; exact h2
      · exact h i s m e
/-- One step more of a word. -/
theorem comb_step {k st : Nat} {p : Option (Nat × Nat × Int)} {o : Nat → Int} (hp : Bd3 p) (ho : ∀ j, 0 ≤ o j ∧ o j ≤ 64) :
    comb k p (leastTo o (st + 1)) = if o st < lst3 (comb k p (leastTo o st)) then some (k, st, o st) else comb k p (leastTo o st) := by
  have h64 := ho st
  cases hq : leastTo o st with
  | none =>
    have e : leastTo o (st + 1) = some (st, o st) := by simp [leastTo, hq]
    rw [e]
    cases p with
    | none => rw [if_pos (by simp only [comb, lst3]; omega)]; rfl
    | some p => rfl
  | some q =>
    obtain ⟨b, l⟩ := q
    have e : leastTo o (st + 1) = if o st < l then some (st, o st) else some (b, l) := by simp [leastTo, hq]
    rw [e]
    cases p with
    | none =>
      by_cases h : o st < l
      · simp [comb, lst3, h]
      · simp [comb, lst3, h]
    | some p =>
      obtain ⟨i, s, m⟩ := p
      by_cases h1 : l < m
      · by_cases h : o st < l
        · have h2 : o st < m := by omega
          simp [comb, lst3, h, h1, h2]
        · simp [comb, lst3, h, h1]
      · by_cases h : o st < l
        · simp [comb, lst3, h, h1]
        · have h2 : ¬ o st < m := by omega
          simp [comb, lst3, h, h1, h2]
/-- The best of the first words. -/
def nw (S : Nat → ByteArray) (g : Nat → Nat) (hh ww : Nat) : Nat → Option (Nat × Nat × Int)
  | 0 => none
  | k + 1 => comb k (nw S g hh ww k) (leastTo (offW (S k) g hh ww) (S k).size)
theorem nw_bd (S : Nat → ByteArray) (g : Nat → Nat) (hh ww : Nat) : ∀ k, Bd3 (nw S g hh ww k)
  | 0 => fun _ _ _ e => by cases e
  | k + 1 => comb_bd (nw_bd S g hh ww k) fun b l e => (leastTo_bd (fun j => offW_bd _ _ _ _ j) _ b l e).2
theorem nw_lst (S : Nat → ByteArray) (g : Nat → Nat) (hh ww k : Nat) : 0 ≤ lst3 (nw S g hh ww k) := by
  cases h : nw S g hh ww k with
  | none => simp [lst3]
  | some p => obtain ⟨i, s, m⟩ := p; exact (nw_bd S g hh ww k i s m h).1
/-- All words are valid. -/
def allW (S : Nat → ByteArray) (n : Nat) : Bool := !anyI (fun i => !wordB (S i)) n
theorem allW_t {S : Nat → ByteArray} {n : Nat} (h : allW S n = true) {i : Nat} (hi : i < n) : wordB (S i) = true := by
  unfold allW at h
  have := anyI_f.1 (show anyI (fun i => !wordB (S i)) n = false by simpa using h) i hi
  simpa using this
noncomputable def Rf.npC (r : Rf) (g : Nat → Nat) (S : Nat → ByteArray) (n : Nat) : Int := if r.cok g = true ∧ allW S n = true then (if 20 < n then 3 else if n = 0 then 6 else 0) else 1
noncomputable def Rf.npR (r : Rf) (g : Nat → Nat) (S : Nat → ByteArray) (n : Nat) : Option (Nat × Nat × Int) := if r.npC g S n = 0 then nw S g r.h.toNat r.w.toNat n else none
theorem np_bad {r : Rf} {g : Nat → Nat} {S : Nat → ByteArray} {n : Nat} (h : ¬ (r.cok g = true ∧ allW S n = true)) : r.npC g S n = 1 ∧ r.npR g S n = none := by
  have e : r.npC g S n = 1 := if_neg h
  exact ⟨e, by unfold Rf.npR; rw [if_neg (by rw [e]; decide)]⟩
theorem np_lim {r : Rf} {g : Nat → Nat} {S : Nat → ByteArray} {n : Nat} (h : r.cok g = true ∧ allW S n = true) (hn : 20 < n) : r.npC g S n = 3 ∧ r.npR g S n = none := by
  have e : r.npC g S n = 3 := by unfold Rf.npC; rw [if_pos h, if_pos hn]
  exact ⟨e, by unfold Rf.npR; rw [if_neg (by rw [e]; decide)]⟩
theorem np_nil {r : Rf} {g : Nat → Nat} {S : Nat → ByteArray} (h : r.cok g = true ∧ allW S 0 = true) : r.npC g S 0 = 6 ∧ r.npR g S 0 = none := by
  have e : r.npC g S 0 = 6 := by unfold Rf.npC; rw [if_pos h]; rfl
  exact ⟨e, by unfold Rf.npR; rw [if_neg (by rw [e]; decide)]⟩
theorem np_ok {r : Rf} {g : Nat → Nat} {S : Nat → ByteArray} {n : Nat} (h : r.cok g = true ∧ allW S n = true) (h1 : 1 ≤ n) (hn : n ≤ 20) : r.npC g S n = 0 ∧ r.npR g S n = nw S g r.h.toNat r.w.toNat n := by
  have e : r.npC g S n = 0 := by unfold Rf.npC; rw [if_pos h, if_neg (by omega), if_neg (by omega)]
  exact ⟨e, by unfold Rf.npR; rw [if_pos e]⟩
theorem comb_some (k : Nat) (p : Option (Nat × Nat × Int)) (b : Nat) (l : Int) : ∃ i s m, comb k p (some (b, l)) = some (i, s, m) := by
  cases p with
  | none => exact ⟨k, b, l, rfl⟩
  | some p =>
    obtain ⟨i, s, m⟩ := p
    by_cases h : l < m
    · exact ⟨k, b, l, by simp [comb, h]⟩
    · exact ⟨i, s, m, by simp [comb, h]⟩
end Go.Proofs.YtppohghejhcilaaDoor

/- Numbers and their bounds: the program's own check. -/
namespace Go.Proofs.YtppohghejhcilaaDoor
open Go.RowKit

/-- A number outside its bounds. -/
def outB (x lo hi : Int) : Bool := decide (x < lo ∨ hi < x)
theorem isOutside_any (x lo hi : Int) (w : World) :
    Calls Tryd.prog 74 #[.agg #[.int .i64 x, .int .i64 lo, .int .i64 hi]] w fun e w' => e = .returned (.bool (outB x lo hi)) ∧ Below w.heap.size w w' := by
  by_cases h1 : x < lo
  · have hd : decide (x < lo) = true := by simp [h1]
    have hV : outB x lo hi = true := by simp [outB, h1]
    rw [hV]
    clear hV
    go_enter Tryd.func74, Tryd.ntmps74
    go_wp2_with fail
    go_ret
    exact ⟨rfl, (Below.refl _ _).alloc (Nat.le_refl _) _⟩
  · by_cases h2 : hi < x
    · have hV : outB x lo hi = true := by simp [outB, h2]
      rw [hV]
      clear hV
      go_enter Tryd.func74, Tryd.ntmps74
      go_wp2_with fail
      go_ret
      exact ⟨rfl, (Below.refl _ _).alloc (Nat.le_refl _) _⟩
    · have hV : outB x lo hi = false := by simp [outB]; omega
      rw [hV]
      clear hV
      go_enter Tryd.func74, Tryd.ntmps74
      go_wp2_with fail
      go_ret
      exact ⟨rfl, (Below.refl _ _).alloc (Nat.le_refl _) _⟩

/-- Which of k bounded numbers is outside. -/
def outs (h : Nat → Int) (i : Nat) : Bool := outB (h (i * 3)) (h (i * 3 + 1)) (h (i * 3 + 2))
theorem IsList.bnd {w : World} {base n : Nat} {a : Option Addr} {cap : Nat} {f : Nat → Int} (h : IsList w base (.slice a n cap) 3 n (fun i => .int .i64 (f i))) {k : Nat} (hk : k < n) :
    ∃ g, a = some ⟨g, 0, none⟩ ∧ w.cell? ⟨g, k * 3, none⟩ = some (.int .i64 (f (k * 3))) ∧ w.cell? ⟨g, k * 3 + 1, none⟩ = some (.int .i64 (f (k * 3 + 1))) ∧ w.cell? ⟨g, k * 3 + 2, none⟩ = some (.int .i64 (f (k * 3 + 2))) := by
  rcases h with ⟨h0, _⟩ | ⟨g, cap', cur, e, hg, hr, hs, hf⟩
  · omega
  · cases e
    exact ⟨g, rfl, by rw [cell_of_rowAt hr]; exact hf _ (by omega), by rw [cell_of_rowAt hr]; exact hf _ (by omega), by rw [cell_of_rowAt hr]; exact hf _ (by omega)⟩

set_option maxHeartbeats 1000000 in
theorem idxOut_any (b n : Nat) (v : Value) (f : Nat → Int) (w : World) (hv : IsList w b v 3 n (fun i => .int .i64 (f i))) (hn : n ≤ 2000000) :
    Calls Tryd.prog 105 #[v, .func (.func 74) #[] #[]] w fun e w' => e = .returned (.int .i64 (firstI (outs f) n)) ∧ Below w.heap.size w w' := by
  have HV := Lib.hid hv
  obtain ⟨a, cap, rfl⟩ := hv.shape
  clear hv
  go_enter Tryd.func105, Tryd.ntmps105
  go_wp2_with fail
  go_loopg [5, 8] n (fun gg _ i W => ∃ k : Nat, k ≤ n ∧ n - k ≤ gg ∧ i = .int .i64 k ∧ Hid (∀ j, j < k → outs f j = false) ∧ Below w.heap.size w W)
  case atStart => exact ⟨0, by omega, by omega, rfl, Lib.hid (by omega), Below.refl _ _⟩
  case round =>
    obtain ⟨k, hk, hg, rfl, hF, hB⟩ := hrel
    by_cases hlt : k < n
    · obtain ⟨b', rfl, c0, c1, c2⟩ := (HV.out.below hB (Nat.le_refl _)).bnd hlt
      have hi0 : 0 ≤ (k : Int) := by omega
      have hi1 : (k : Int) < n := by omega
      have HB := Lib.hid hB
      clear hB
      have hcall := fun W => isOutside_any (f (k * 3)) (f (k * 3 + 1)) (f (k * 3 + 2)) W
      cases hq : outB (f (k * 3)) (f (k * 3 + 1)) (f (k * 3 + 2)) with
      | true =>
        rw [hq] at hcall
        have HQ : Hid (outs f k = true) := Lib.hid hq
        clear hq
        go_wp2_with fail
        refine (hcall _).mono ?_
        rintro e w' ⟨rfl, b'⟩
        have B2 := bnext HB.out b' HB.out.size
        clear hcall b' c0 c1 c2
        go_wp2_with fail
        go_ret
        exact ⟨by rw [firstI_hit hlt hF.out HQ.out]; rfl, B2⟩
      | false =>
        rw [hq] at hcall
        have HQ : Hid (outs f k = false) := Lib.hid hq
        clear hq
        go_wp2_with fail
        refine (hcall _).mono ?_
        rintro e w' ⟨rfl, b'⟩
        have B2 := bnext HB.out b' HB.out.size
        clear hcall b' c0 c1 c2
        go_wp2_with fail
        go_roundg (n - (k + 1))
        case measure => omega
        case rel => exact ⟨k + 1, by omega, by omega, by go_num, Lib.hid (fun j hj => by
          by_cases e : j = k
          · subst e; exact HQ.out
          · exact hF.out j (by omega)), B2⟩
    · obtain rfl : k = n := by omega
      go_wp2_with fail
      go_ret
      exact ⟨by rw [firstI_miss hF.out]; rfl, hB⟩
theorem hasOut_any (b n : Nat) (v : Value) (f : Nat → Int) (w : World) (hv : IsList w b v 3 n (fun i => .int .i64 (f i))) (hn : n ≤ 2000000) :
    Calls Tryd.prog 81 #[v, .func (.func 74) #[] #[]] w fun e w' => e = .returned (.bool (anyI (outs f) n)) ∧ Below w.heap.size w w' := by
  have hbd := firstI_bd (outs f) n
  have CX := idxOut_any b n v f w hv hn
  obtain ⟨a, cap, rfl⟩ := hv.shape
  unfold anyI
  generalize firstI (outs f) n = z at *
  clear hv
  by_cases hz : 0 ≤ z
  · have hd : decide (0 ≤ z) = true := by simp [hz]
    rw [hd]
    go_enter Tryd.func81, Tryd.ntmps81
    go_wp2_with fail
    refine CX.mono ?_
    rintro e w1 ⟨rfl, b1⟩
    go_wp2_with fail
    go_ret
    exact ⟨rfl, b1⟩
  · have hd : decide (0 ≤ z) = false := by simp; omega
    rw [hd]
    go_enter Tryd.func81, Tryd.ntmps81
    go_wp2_with fail
    refine CX.mono ?_
    rintro e w1 ⟨rfl, b1⟩
    go_wp2_with fail
    go_ret
    exact ⟨rfl, b1⟩

/-- Numbers that all are as told. -/
def fineB (h : Nat → Int) (k : Nat) : Bool := !(anyI (outs h) k)

end Go.Proofs.YtppohghejhcilaaDoor

/- Chapter 7's refusals: their codes; the check of ages and numbers; the model's. -/
namespace Go.Proofs.YtppohghejhcilaaDoor
open Go.RowKit

def bn3 (x lo hi : Int) : Nat → Int := fun i => if i = 0 then x else if i = 1 then lo else hi
theorem IsList.li3 {w : World} {n base cap : Nat} {x lo hi : Int} (hr : rowAt w n = some #[.int .i64 x, .int .i64 lo, .int .i64 hi]) (hb : base ≤ n) : IsList w base (.slice (some ⟨n, 0, none⟩) 1 cap) 3 1 (fun i => .int .i64 (bn3 x lo hi i)) :=
  .inr ⟨n, cap, _, rfl, hb, hr, by simp, fun i hi => by
    have : i = 0 ∨ i = 1 ∨ i = 2 := by omega
    rcases this with rfl | rfl | rfl <;> simp [bn3]⟩
theorem fineB_bn3 (x lo hi : Int) : fineB (bn3 x lo hi) 1 = inB x lo hi := by
  unfold fineB anyI firstI firstI outs outB bn3 inB
  by_cases h1 : x < lo <;> by_cases h2 : hi < x <;> simp [h1, h2] <;> omega
def bn6 (x lo hi y l2 h2 : Int) : Nat → Int := fun i => if i = 0 then x else if i = 1 then lo else if i = 2 then hi else if i = 3 then y else if i = 4 then l2 else h2
theorem IsList.li6 {w : World} {n base cap : Nat} {x lo hi y l2 h2 : Int} (hr : rowAt w n = some #[.int .i64 x, .int .i64 lo, .int .i64 hi, .int .i64 y, .int .i64 l2, .int .i64 h2]) (hb : base ≤ n) : IsList w base (.slice (some ⟨n, 0, none⟩) 2 cap) 3 2 (fun i => .int .i64 (bn6 x lo hi y l2 h2 i)) :=
  .inr ⟨n, cap, _, rfl, hb, hr, by simp, fun i hi => by
    have : i = 0 ∨ i = 1 ∨ i = 2 ∨ i = 3 ∨ i = 4 ∨ i = 5 := by omega
    rcases this with rfl | rfl | rfl | rfl | rfl | rfl <;> simp [bn6]⟩
theorem fineB_bn6 (x lo hi y l2 h2 : Int) : fineB (bn6 x lo hi y l2 h2) 2 = (inB x lo hi && inB y l2 h2) := by
  unfold fineB
  rw [anyI_succ, anyI_succ, anyI_zero, Bool.false_or]
  unfold outs outB bn6 inB
  by_cases a1 : x < lo <;> by_cases a2 : hi < x <;> by_cases a3 : y < l2 <;> by_cases a4 : h2 < y <;> simp [a1, a2, a3, a4] <;> omega
theorem IsList.no3 (w : World) (base : Nat) : IsList w base (.slice none 0 0) 3 0 (fun i => .int .i64 ((fun _ => 0 : Nat → Int) i)) := .inl ⟨rfl, none, 0, rfl⟩
/-- The code of ages and numbers. -/
noncomputable def Rf.ageC (r : Rf) (t : Nat → Int) (fine : Bool) : Int := if r.aok t = true then (if fine = true then 0 else 2) else 1
theorem Rf.ageC_v {r : Rf} {t : Nat → Int} {fine : Bool} (h : ¬ r.Aged t) : r.ageC t fine = 1 := by simp [Rf.ageC, Rf.aok_f h]
theorem Rf.ageC_r {r : Rf} {t : Nat → Int} {fine : Bool} (h : r.Aged t) (hf : fine = false) : r.ageC t fine = 2 := by simp [Rf.ageC, Rf.aok_t h, hf]
theorem Rf.ageC_ok {r : Rf} {t : Nat → Int} {fine : Bool} (h : r.Aged t) (hf : fine = true) : r.ageC t fine = 0 := by simp [Rf.ageC, Rf.aok_t h, hf]

set_option maxHeartbeats 1000000 in
theorem yearCode_V (w : World) (hT : ErrT w) : Calls Tryd.prog 41 #[.iface 130 (.agg #[])] w fun e w' => e = .returned (.int .i64 1) ∧ Below w.heap.size w w' := by
  go_enter Tryd.func41, Tryd.ntmps41
  go_wp2_with fail
  refine gen_callsW fun W hW => ?_
  have B0 : Below w.heap.size w W := by rw [hW]; exact (((Below.refl _ _).alloc (Nat.le_refl _) _).alloc (by simp) _).alloc (by simp; omega) _
  have T0 := hT.below B0
  clear hW
  refine (as_VV _ _ T0).mono ?_
  rintro e w1 ⟨rfl, b1⟩
  have B1 := bnext B0 b1 B0.size
  have T1 := T0.below b1
  clear b1 B0 T0
  go_wp2_with fail
  clear T1
  go_ret
  exact ⟨rfl, B1⟩

set_option maxHeartbeats 1000000 in
theorem yearCode_R (w : World) (hT : ErrT w) : Calls Tryd.prog 41 #[.iface 131 (.agg #[])] w fun e w' => e = .returned (.int .i64 2) ∧ Below w.heap.size w w' := by
  go_enter Tryd.func41, Tryd.ntmps41
  go_wp2_with fail
  refine gen_callsW fun W hW => ?_
  have B0 : Below w.heap.size w W := by rw [hW]; exact (((Below.refl _ _).alloc (Nat.le_refl _) _).alloc (by simp) _).alloc (by simp; omega) _
  have T0 := hT.below B0
  clear hW
  refine (as_RV _ _ T0).mono ?_
  rintro e w1 ⟨rfl, b1⟩
  have B1 := bnext B0 b1 B0.size
  have T1 := T0.below b1
  clear b1 B0 T0
  go_wp2_with fail
  refine (as_RR _ _ T1).mono ?_
  rintro e w2 ⟨rfl, b2⟩
  have B2 := bnext B1 b2 B1.size
  have T2 := T1.below b2
  clear b2 B1 T1
  go_wp2_with fail
  clear T2
  go_ret
  exact ⟨rfl, B2⟩

set_option maxHeartbeats 1000000 in
theorem yearCode_T (w : World) (hT : ErrT w) : Calls Tryd.prog 41 #[.iface 129 (.agg #[])] w fun e w' => e = .returned (.int .i64 6) ∧ Below w.heap.size w w' := by
  go_enter Tryd.func41, Tryd.ntmps41
  go_wp2_with fail
  refine gen_callsW fun W hW => ?_
  have B0 : Below w.heap.size w W := by rw [hW]; exact (((Below.refl _ _).alloc (Nat.le_refl _) _).alloc (by simp) _).alloc (by simp; omega) _
  have T0 := hT.below B0
  clear hW
  refine (as_TV _ _ T0).mono ?_
  rintro e w1 ⟨rfl, b1⟩
  have B1 := bnext B0 b1 B0.size
  have T1 := T0.below b1
  clear b1 B0 T0
  go_wp2_with fail
  refine (as_TR _ _ T1).mono ?_
  rintro e w2 ⟨rfl, b2⟩
  have B2 := bnext B1 b2 B1.size
  have T2 := T1.below b2
  clear b2 B1 T1
  go_wp2_with fail
  refine (as_TL _ _ T2).mono ?_
  rintro e w3 ⟨rfl, b3⟩
  have B3 := bnext B2 b3 B2.size
  have T3 := T2.below b3
  clear b3 B2 T2
  go_wp2_with fail
  clear T3
  go_ret
  exact ⟨rfl, B3⟩

set_option maxHeartbeats 1000000 in
theorem yearCode_L (w : World) (hT : ErrT w) : Calls Tryd.prog 41 #[.iface 132 (.agg #[])] w fun e w' => e = .returned (.int .i64 3) ∧ Below w.heap.size w w' := by
  go_enter Tryd.func41, Tryd.ntmps41
  go_wp2_with fail
  refine gen_callsW fun W hW => ?_
  have B0 : Below w.heap.size w W := by rw [hW]; exact (((Below.refl _ _).alloc (Nat.le_refl _) _).alloc (by simp) _).alloc (by simp; omega) _
  have T0 := hT.below B0
  clear hW
  refine (as_LV _ _ T0).mono ?_
  rintro e w1 ⟨rfl, b1⟩
  have B1 := bnext B0 b1 B0.size
  have T1 := T0.below b1
  clear b1 B0 T0
  go_wp2_with fail
  refine (as_LR _ _ T1).mono ?_
  rintro e w2 ⟨rfl, b2⟩
  have B2 := bnext B1 b2 B1.size
  have T2 := T1.below b2
  clear b2 B1 T1
  go_wp2_with fail
  refine (as_LL _ _ T2).mono ?_
  rintro e w3 ⟨rfl, b3⟩
  have B3 := bnext B2 b3 B2.size
  have T3 := T2.below b3
  clear b3 B2 T2
  go_wp2_with fail
  clear T3
  go_ret
  exact ⟨rfl, B3⟩

set_option maxRecDepth 100000 in
set_option maxHeartbeats 1000000 in
theorem checkAges_v (c d : Array Value) (r : Rf) (t : Nat → Int) (v : Value) (w : World) (hR : IsRoof c r) (hA : IsU8 d 64 t) (h : ¬ r.Aged t) :
    Calls Tryd.prog 50 #[.agg c, .agg d, v] w fun e w' => e = .returned (.iface 130 (.agg #[])) ∧ Below w.heap.size w w' := by
  obtain ⟨p0, p1, pB⟩ := two_boxes w c d 28 30
  have hc := hR.size
  have hd := hA.size
  go_enter Tryd.func50, Tryd.ntmps50
  go_wp2_with fail
  refine (implValidAges_f c d r t _ hR hA h).mono ?_
  rintro e w1 ⟨rfl, b1⟩
  have B1 := bnext pB b1 pB.size
  clear b1 p0 p1 pB
  go_wp2_with fail
  go_ret
  exact ⟨rfl, B1⟩
set_option maxRecDepth 100000 in
set_option maxHeartbeats 1000000 in
theorem checkAges_r (b n : Nat) (c d : Array Value) (r : Rf) (t : Nat → Int) (v : Value) (h : Nat → Int) (w : World) (hR : IsRoof c r) (hA : IsU8 d 64 t) (ha : r.Aged t) (hv : IsList w b v 3 n (fun i => .int .i64 (h i))) (hn : n ≤ 2000000) (hf : fineB h n = false) :
    Calls Tryd.prog 50 #[.agg c, .agg d, v] w fun e w' => e = .returned (.iface 131 (.agg #[])) ∧ Below w.heap.size w w' := by
  obtain ⟨p0, p1, pB⟩ := two_boxes w c d 28 30
  have hc := hR.size
  have hd := hA.size
  have HV := Lib.hid hv
  have hany : anyI (outs h) n = true := by simpa [fineB] using hf
  have HO := fun W H => hasOut_any b n v h W H hn
  rw [hany] at HO
  clear hany hf hv
  go_enter Tryd.func50, Tryd.ntmps50
  go_wp2_with fail
  refine (implValidAges_t c d r t _ hR hA ha).mono ?_
  rintro e w1 ⟨rfl, b1⟩
  have B1 := bnext pB b1 pB.size
  clear b1 p0 p1 pB
  go_wp2_with fail
  refine (HO _ (HV.out.below B1 (Nat.le_refl _))).mono ?_
  rintro e w2 ⟨rfl, b2⟩
  have B2 := bnext B1 b2 B1.size
  clear b2 B1 HO
  go_wp2_with fail
  go_ret
  exact ⟨rfl, B2⟩
set_option maxRecDepth 100000 in
set_option maxHeartbeats 1000000 in
theorem checkAges_ok (b n : Nat) (c d : Array Value) (r : Rf) (t : Nat → Int) (v : Value) (h : Nat → Int) (w : World) (hR : IsRoof c r) (hA : IsU8 d 64 t) (ha : r.Aged t) (hv : IsList w b v 3 n (fun i => .int .i64 (h i))) (hn : n ≤ 2000000) (hf : fineB h n = true) :
    Calls Tryd.prog 50 #[.agg c, .agg d, v] w fun e w' => e = .returned .nilIface ∧ Below w.heap.size w w' := by
  obtain ⟨p0, p1, pB⟩ := two_boxes w c d 28 30
  have hc := hR.size
  have hd := hA.size
  have HV := Lib.hid hv
  have hany : anyI (outs h) n = false := by simpa [fineB] using hf
  have HO := fun W H => hasOut_any b n v h W H hn
  rw [hany] at HO
  clear hany hf hv
  go_enter Tryd.func50, Tryd.ntmps50
  go_wp2_with fail
  refine (implValidAges_t c d r t _ hR hA ha).mono ?_
  rintro e w1 ⟨rfl, b1⟩
  have B1 := bnext pB b1 pB.size
  clear b1 p0 p1 pB
  go_wp2_with fail
  refine (HO _ (HV.out.below B1 (Nat.le_refl _))).mono ?_
  rintro e w2 ⟨rfl, b2⟩
  have B2 := bnext B1 b2 B1.size
  clear b2 B1 HO
  go_wp2_with fail
  go_ret
  exact ⟨rfl, B2⟩

set_option maxHeartbeats 1000000 in
theorem lived_any (x : Int) (w : World) : Calls Tryd.prog 55 #[.int .i64 x] w fun e w' => e = .returned (.agg #[.int .i64 x, .int .i64 1, .int .i64 100]) ∧ Below w.heap.size w w' := by
  go_enter Tryd.func55, Tryd.ntmps55
  go_wp2_with fail
  exact bodyPost_ret (v := .agg #[.int .i64 x, .int .i64 1, .int .i64 100]) (by simp [results, Tryd.results55, go_sem]) rfl ⟨rfl, (Below.refl _ _).alloc (Nat.le_refl _) _⟩

set_option maxHeartbeats 1000000 in
theorem gone_any (x : Int) (w : World) : Calls Tryd.prog 61 #[.int .i64 x] w fun e w' => e = .returned (.agg #[.int .i64 x, .int .i64 0, .int .i64 200]) ∧ Below w.heap.size w w' := by
  go_enter Tryd.func61, Tryd.ntmps61
  go_wp2_with fail
  exact bodyPost_ret (v := .agg #[.int .i64 x, .int .i64 0, .int .i64 200]) (by simp [results, Tryd.results61, go_sem]) rfl ⟨rfl, (Below.refl _ _).alloc (Nat.le_refl _) _⟩
theorem l07Life_any (k : Int) (w : World) :
    Calls Tryd.prog 44 #[.int .i64 k] w fun e w' => e = .returned (.bool (inB k 1 100)) ∧ w = w' := by
  go_enter Tryd.func44, Tryd.ntmps44
  go_wp2_with fail
  refine (l00In_any _ _ _ _).mono ?_
  rintro e w' ⟨rfl, rfl⟩
  go_wp2
  go_ret
  exact ⟨rfl, rfl⟩
theorem l07Years_any (k : Int) (w : World) :
    Calls Tryd.prog 45 #[.int .i64 k] w fun e w' => e = .returned (.bool (inB k 0 200)) ∧ w = w' := by
  go_enter Tryd.func45, Tryd.ntmps45
  go_wp2_with fail
  refine (l00In_any _ _ _ _).mono ?_
  rintro e w' ⟨rfl, rfl⟩
  go_wp2
  go_ret
  exact ⟨rfl, rfl⟩

set_option maxHeartbeats 1000000 in
theorem l07Asked_any (n p : Nat) (c d : Array Value) (r : Rf) (t : Nat → Int) (fine : Bool) (w : World) (hr : rowAt w n = some c) (hR : IsRoof c r) (hp : rowAt w p = some d) (hA : IsU8 d 64 t) :
    Calls Tryd.prog 43 #[.pointer (some ⟨n, 0, none⟩), .pointer (some ⟨p, 0, none⟩), .bool fine] w fun e w' => e = .returned (.int .i64 (r.ageC t fine)) ∧ Below w.heap.size w w' := by
  by_cases h : r.Aged t
  · cases fine with
    | true =>
      rw [Rf.ageC_ok h rfl]
      go_enter Tryd.func43, Tryd.ntmps43
      go_wp2_with fail
      refine (l07Ages_t n p c d r t _ hr hR hp hA h).mono ?_
      rintro e w1 ⟨rfl, b1⟩
      go_wp2_with fail
      go_ret
      exact ⟨rfl, b1⟩
    | false =>
      rw [Rf.ageC_r h rfl]
      go_enter Tryd.func43, Tryd.ntmps43
      go_wp2_with fail
      refine (l07Ages_t n p c d r t _ hr hR hp hA h).mono ?_
      rintro e w1 ⟨rfl, b1⟩
      go_wp2_with fail
      go_ret
      exact ⟨rfl, b1⟩
  · rw [Rf.ageC_v h]
    go_enter Tryd.func43, Tryd.ntmps43
    go_wp2_with fail
    refine (l07Ages_f n p c d r t _ hr hR hp hA h).mono ?_
    rintro e w1 ⟨rfl, b1⟩
    go_wp2_with fail
    go_ret
    exact ⟨rfl, b1⟩
def maxI (a b : Int) : Int := if b < a then a else b
end Go.Proofs.YtppohghejhcilaaDoor

/- The program's check of words. -/
namespace Go.Proofs.YtppohghejhcilaaDoor
open Go.RowKit

theorem noWord_pred (w : World) : PredS 92 #[] (fun s => !wordB s) w := by
  intro s W hs _
  have CW := fun W => validWord_any s W hs
  cases h : wordB s with
  | true =>
    rw [h] at CW
    show Calls Tryd.prog 92 #[.string s] W _
    go_enter Tryd.func92, Tryd.ntmps92
    go_wp2_with fail
    refine (CW _).mono ?_
    rintro e w1 ⟨rfl, b1⟩
    go_wp2_with fail
    go_ret
    exact ⟨by rw [h]; rfl, b1⟩
  | false =>
    rw [h] at CW
    show Calls Tryd.prog 92 #[.string s] W _
    go_enter Tryd.func92, Tryd.ntmps92
    go_wp2_with fail
    refine (CW _).mono ?_
    rintro e w1 ⟨rfl, b1⟩
    go_wp2_with fail
    go_ret
    exact ⟨by rw [h]; rfl, b1⟩
/-- The refusal of colours and words. -/
def refW (b1 b2 : Bool) (n : Nat) : Value := if b1 = true then (if b2 = true then (if 20 < n then .iface 132 (.agg #[]) else if n = 0 then .iface 129 (.agg #[]) else .nilIface) else .iface 130 (.agg #[])) else .iface 130 (.agg #[])
set_option maxRecDepth 100000 in
set_option maxHeartbeats 2000000 in
theorem checkWords_any (c d : Array Value) (r : Rf) (g : Nat → Nat) (v : Value) (n : Nat) (S : Nat → ByteArray) (w : World) (hR : IsRoof c r) (hC : IsCol d g) (hv : StrsAt w v n S) (hn : n ≤ 2000000) (hs : ∀ i, i < n → (S i).size ≤ 9223372036854775807) :
    Calls Tryd.prog 70 #[.agg c, .agg d, v] w fun e w' => e = .returned (refW (r.cok g) (allW S n) n) ∧ Below w.heap.size w w' := by
  obtain ⟨p0, p1, pB⟩ := two_boxes w c d 28 62
  have hc := hR.size
  have hd := hC.size
  have CV := fun W => implValidColours_any c d r g W hR hC
  have CH := fun W h => hasFuncS_any 92 #[] (fun s => !wordB s) (enters_of Tryd.func92 (by kernel_rfl) rfl) v n S W (noWord_pred W) h hn hs
  have HV := Lib.hid hv
  obtain ⟨a, cap, rfl⟩ := hv.shape
  clear hv
  cases hk : r.cok g with
  | false =>
    rw [hk] at CV
    unfold refW
    go_enter Tryd.func70, Tryd.ntmps70
    go_wp2_with fail
    refine gen_callsW fun W0 hW => ?_
    rw [← hW] at p0 p1 pB
    clear hW
    refine (CV _).mono ?_
    rintro e w1 ⟨rfl, b1⟩
    have B1 := bnext pB b1 pB.size
    clear b1 p0 p1 pB CV
    go_wp2_with fail
    go_ret
    exact ⟨rfl, B1⟩
  | true =>
    rw [hk] at CV
    have hA : anyI (fun i => (fun s => !wordB s) (S i)) n = !allW S n := by unfold allW; simp
    rw [hA] at CH
    clear hA hk
    cases hw : allW S n with
    | false =>
      rw [hw] at CH
      unfold refW
      go_enter Tryd.func70, Tryd.ntmps70
      go_wp2_with fail
      refine gen_callsW fun W0 hW => ?_
      rw [← hW] at p0 p1 pB
      clear hW
      refine (CV _).mono ?_
      rintro e w1 ⟨rfl, b1⟩
      have B1 := bnext pB b1 pB.size
      clear b1 p0 p1 pB CV
      go_wp2_with fail
      refine (CH _ (HV.out.below B1 (Nat.le_refl _))).mono ?_
      rintro e w2 ⟨rfl, b2⟩
      have B2 := bnext B1 b2 B1.size
      clear b2 B1 CH
      go_wp2_with fail
      go_ret
      exact ⟨rfl, B2⟩
    | true =>
      rw [hw] at CH
      have h1 : refW true true n = if 20 < n then .iface 132 (.agg #[]) else if n = 0 then .iface 129 (.agg #[]) else .nilIface := rfl
      rw [h1]
      clear h1
      by_cases h20 : 20 < n
      · have d1 : decide ((20 : Int) < n) = true := by simp; omega
        rw [if_pos h20]
        go_enter Tryd.func70, Tryd.ntmps70
        go_wp2_with fail
        refine gen_callsW fun W0 hW => ?_
        rw [← hW] at p0 p1 pB
        clear hW
        refine (CV _).mono ?_
        rintro e w1 ⟨rfl, b1⟩
        have B1 := bnext pB b1 pB.size
        clear b1 p0 p1 pB CV
        go_wp2_with fail
        refine (CH _ (HV.out.below B1 (Nat.le_refl _))).mono ?_
        rintro e w2 ⟨rfl, b2⟩
        have B2 := bnext B1 b2 B1.size
        clear b2 B1 CH
        go_wp2_with fail
        go_ret
        exact ⟨rfl, B2⟩
      · have d1 : decide ((20 : Int) < n) = false := by simp; omega
        rw [if_neg h20]
        have hE : (if n = 0 then Value.iface 129 (.agg #[]) else .nilIface) = if (n == 0) = true then Value.iface 129 (.agg #[]) else .nilIface := by simp
        rw [hE]
        clear hE
        cases hz : (n == 0) with
        | true =>
          obtain rfl : n = 0 := by simpa using hz
          go_enter Tryd.func70, Tryd.ntmps70
          go_wp2_with fail
          refine gen_callsW fun W0 hW => ?_
          rw [← hW] at p0 p1 pB
          clear hW
          refine (CV _).mono ?_
          rintro e w1 ⟨rfl, b1⟩
          have B1 := bnext pB b1 pB.size
          clear b1 p0 p1 pB CV
          go_wp2_with fail
          refine (CH _ (HV.out.below B1 (Nat.le_refl _))).mono ?_
          rintro e w2 ⟨rfl, b2⟩
          have B2 := bnext B1 b2 B1.size
          clear b2 B1 CH
          go_wp2_with fail
          go_ret
          exact ⟨rfl, B2⟩
        | false =>
          have hz1 : n ≠ 0 := by simpa using hz
          have hz2 : ((n : Int) == 0) = false := by simp; omega
          have hz3 : ¬ n = 0 := hz1
          go_enter Tryd.func70, Tryd.ntmps70
          go_wp2_with fail
          refine gen_callsW fun W0 hW => ?_
          rw [← hW] at p0 p1 pB
          clear hW
          refine (CV _).mono ?_
          rintro e w1 ⟨rfl, b1⟩
          have B1 := bnext pB b1 pB.size
          clear b1 p0 p1 pB CV
          go_wp2_with fail
          refine (CH _ (HV.out.below B1 (Nat.le_refl _))).mono ?_
          rintro e w2 ⟨rfl, b2⟩
          have B2 := bnext B1 b2 B1.size
          clear b2 B1 CH
          go_wp2_with fail
          go_ret
          exact ⟨rfl, B2⟩
end Go.Proofs.YtppohghejhcilaaDoor

/- NearestPattern: the program. -/
namespace Go.Proofs.YtppohghejhcilaaDoor
open Go.RowKit

theorem four_results {fn : Func} {t u v x : Tmp} (h : fn.results = #[.tmp t, .tmp u, .tmp v, .tmp x]) (tmps : Array Value) (P : Program) (w : World) :
    (results fn tmps).run P w = .ok (.tuple #[tmps.getD t undef, tmps.getD u undef, tmps.getD v undef, tmps.getD x undef]) w := by
  simp [results, h]
theorem comb_lt {k b : Nat} {l : Int} {p : Option (Nat × Nat × Int)} (h : l ≤ 64) : comb k p (some (b, l)) = if l < lst3 p then some (k, b, l) else p := by
  cases p with
  | none => rw [if_pos (show l < lst3 none by simp only [lst3]; omega)]; rfl
  | some p => obtain ⟨i, s, m⟩ := p; rfl
theorem wsize {s : ByteArray} (h : wordB s = true) : 1 ≤ s.size ∧ s.size ≤ 12 := by
  unfold wordB at h
  simp only [Bool.and_eq_true, decide_eq_true_eq] at h
  exact h.1
theorem nw_some {S : Nat → ByteArray} {g : Nat → Nat} {hh ww n : Nat} (hw : allW S n = true) (h1 : 1 ≤ n) : ∃ i s m, nw S g hh ww n = some (i, s, m) := by
  obtain ⟨m, rfl⟩ : ∃ m, n = m + 1 := ⟨n - 1, by omega⟩
  obtain ⟨b, l, e⟩ := leastTo_some (offW (S m) g hh ww) (S m).size (wsize (allW_t hw (by omega))).1
  obtain ⟨i, s, q, e2⟩ := comb_some m (nw S g hh ww m) b l
  exact ⟨i, s, q, by rw [show nw S g hh ww (m + 1) = comb m (nw S g hh ww m) (leastTo (offW (S m) g hh ww) (S m).size) from rfl, e]; exact e2⟩

set_option maxRecDepth 100000 in
set_option maxHeartbeats 4000000 in
theorem implNearestPattern_any (c d : Array Value) (r : Rf) (g : Nat → Nat) (v : Value) (n : Nat) (S : Nat → ByteArray) (w : World) (hR : IsRoof c r) (hC : IsCol d g) (hv : StrsAt w v n S) (hn : n ≤ 2000000) (hs : ∀ i, i < n → (S i).size ≤ 9223372036854775807) (hT : ErrT w) :
    Calls Tryd.prog 33 #[.agg c, .agg d, v] w fun e w' => e = .returned (.tuple #[.int .i64 (idx3 (r.npR g S n)), .int .i64 (stp3 (r.npR g S n)), .int .i64 (off3 (r.npR g S n)), .int .i64 (r.npC g S n)]) ∧ Below w.heap.size w w' := by
  obtain ⟨p0, p1, pB⟩ := two_boxes w c d 28 62
  have hc := hR.size
  have hd := hC.size
  have CW := fun W h => checkWords_any c d r g v n S W hR hC h hn hs
  have HV := Lib.hid hv
  have HT := Lib.hid hT
  obtain ⟨a, cap, rfl⟩ := hv.shape
  clear hv hT
  by_cases hok : r.cok g = true ∧ allW S n = true
  · have hr1 : refW (r.cok g) (allW S n) n = if 20 < n then .iface 132 (.agg #[]) else if n = 0 then .iface 129 (.agg #[]) else .nilIface := by unfold refW; rw [if_pos hok.1, if_pos hok.2]
    rw [hr1] at CW
    clear hr1
    by_cases h20 : 20 < n
    · obtain ⟨e1, e2⟩ := np_lim hok h20
      rw [e1, e2]
      rw [if_pos h20] at CW
      clear e1 e2 hok h20
      go_enter Tryd.func33, Tryd.ntmps33
      go_wp2_with fail
      refine gen_callsW fun W0 hW => ?_
      rw [← hW] at p0 p1 pB
      clear hW
      refine (CW _ (HV.out.below pB (Nat.le_refl _))).mono ?_
      rintro e w1 ⟨rfl, b1⟩
      have B1 := bnext pB b1 pB.size
      clear b1 p0 p1 pB CW
      go_wp2_with fail
      refine (yearCode_L _ (HT.out.below B1)).mono ?_
      rintro e w2 ⟨rfl, b2⟩
      have B2 := bnext B1 b2 B1.size
      clear b2 B1
      go_wp2_with fail
      refine bodyPost_ret (four_results rfl _ _ _) rfl ?_
      exact ⟨rfl, B2⟩
    · rw [if_neg h20] at CW
      by_cases hz : n = 0
      · subst hz
        obtain ⟨e1, e2⟩ := np_nil hok
        rw [e1, e2]
        rw [if_pos rfl] at CW
        clear e1 e2 hok h20
        go_enter Tryd.func33, Tryd.ntmps33
        go_wp2_with fail
        refine gen_callsW fun W0 hW => ?_
        rw [← hW] at p0 p1 pB
        clear hW
        refine (CW _ (HV.out.below pB (Nat.le_refl _))).mono ?_
        rintro e w1 ⟨rfl, b1⟩
        have B1 := bnext pB b1 pB.size
        clear b1 p0 p1 pB CW
        go_wp2_with fail
        refine (yearCode_T _ (HT.out.below B1)).mono ?_
        rintro e w2 ⟨rfl, b2⟩
        have B2 := bnext B1 b2 B1.size
        clear b2 B1
        go_wp2_with fail
        refine bodyPost_ret (four_results rfl _ _ _) rfl ?_
        exact ⟨rfl, B2⟩
      · obtain ⟨e1, e2⟩ := np_ok hok (by omega) (by omega)
        rw [e1, e2]
        rw [if_neg hz] at CW
        obtain ⟨o1, o2, o3, o4, _⟩ := id (Rf.Cols_of hok.1).1
        obtain ⟨hh, hhe⟩ : ∃ hh : Nat, r.h = hh := Int.eq_ofNat_of_zero_le (by omega)
        obtain ⟨ww, hwe⟩ : ∃ ww : Nat, r.w = ww := Int.eq_ofNat_of_zero_le (by omega)
        have hnw : nw S g r.h.toNat r.w.toNat = nw S g hh ww := by rw [hhe, hwe]; rfl
        rw [hnw]
        have CN := fun k W h1 h5 => nearS_any c d r g (S k) (S k).size hh ww rfl W hR hC hhe hwe (by omega) (by omega) h1 h5
        have HW := Lib.hid hok.2
        have HSOME := Lib.hid (nw_some (g := g) (hh := hh) (ww := ww) hok.2 (show 1 ≤ n by omega))
        clear e1 e2 hok h20 hnw o1 o2 o3 o4 hhe hwe
        unfold toldV at CN
        go_enter Tryd.func33, Tryd.ntmps33
        go_wp2_with fail
        refine gen_callsW fun W0 hW => ?_
        rw [← hW] at p0 p1 pB
        clear hW
        refine (CW _ (HV.out.below pB (Nat.le_refl _))).mono ?_
        rintro e w1 ⟨rfl, b1⟩
        have B1 := bnext pB b1 pB.size
        have q0 := brow b1 p0
        have q1 := brow b1 p1
        clear b1 p0 p1 pB CW
        go_wp2_with fail
        go_loopw [11, 12, 13, 28] (fun iv sv lv kv W => ∃ k : Nat, k ≤ n ∧ kv = .int .i64 k ∧ iv = .int .i64 (idx3 (nw S g hh ww k)) ∧ sv = .int .i64 (stp3 (nw S g hh ww k)) ∧ lv = .int .i64 (lst3 (nw S g hh ww k)) ∧ rowAt W w.heap.size = some c ∧ rowAt W (w.heap.size + 1) = some d ∧ Hid (Below w.heap.size w W)) (fun _ _ _ kv _ => n - (intOf kv).toNat)
        case atStart => exact ⟨0, by omega, rfl, rfl, rfl, rfl, q0, q1, Lib.hid B1⟩
        case round =>
          clear q0 q1 B1
          obtain ⟨k, hk, rfl, rfl, rfl, rfl, r0, r1, hB⟩ := hrel
          by_cases hlt : k < n
          · have k0 : 0 ≤ (k : Int) := by omega
            have k1 : (k : Int) < n := by omega
            obtain ⟨gb, ob, rfl, cc⟩ := (HV.out.below hB.out (Nat.le_refl _)).at hlt
            have hsz := wsize (allW_t HW.out hlt)
            have CK := fun W => CN k W hsz.1 hsz.2
            have hcl := fun b l h => comb_lt (k := k) (b := b) (l := l) (p := nw S g hh ww k) h
            have hnx : nw S g hh ww (k + 1) = comb k (nw S g hh ww k) (leastTo (offW (S k) g hh ww) (S k).size) := rfl
            have hlb := fun b l e => leastTo_bd (fun j => offW_bd (S k) g hh ww j) (S k).size b l e
            generalize nw S g hh ww k = p at *
            go_wp2_with fail
            refine (CK _).mono ?_
            rintro e w3 ⟨⟨b, l, hbl, rfl⟩, b3⟩
            rw [hbl, hcl b l (hlb b l hbl).2.2] at hnx
            have t0 := brow b3 r0
            have t1 := brow b3 r1
            have hB3 := Lib.hid (bnext hB.out b3 hB.out.size)
            clear b3 r0 r1 hB CK hcl hlb hbl
            have l0 := rowAt_lt t0
            have l1 := rowAt_lt t1
            by_cases hlo : l < lst3 p
            · rw [if_pos hlo] at hnx
              have HNX := Lib.hid hnx
              clear hnx
              have e9 : (w3.alloc (.cells #[.iface 116 (.string (S k)), .int .i64 b] 113)).cell? ⟨w3.heap.size, 1, none⟩ = some (.int .i64 b) := by rw [cell_of_rowAt (rowAt_alloc_at _ _ _ _ rfl)]; rfl
              go_wp2_with fail
              go_quiet (fail)
              go_wp2_with fail
              refine ⟨⟨k + 1, by omega, by go_num, by rw [HNX.out]; rfl, by rw [HNX.out]; rfl, by rw [HNX.out]; rfl, (rowAt_alloc_past _ _ _ l0).trans t0, (rowAt_alloc_past _ _ _ l1).trans t1, Lib.hid (below_drewN (hB3.out.alloc hB3.out.size _) _)⟩, by simp [intOf]; omega⟩
            · rw [if_neg hlo] at hnx
              have HNX := Lib.hid hnx
              clear hnx
              go_wp2_with fail
              refine ⟨⟨k + 1, by omega, by go_num, by rw [HNX.out], by rw [HNX.out], by rw [HNX.out], (rowAt_alloc_past _ _ _ l0).trans t0, (rowAt_alloc_past _ _ _ l1).trans t1, Lib.hid (hB3.out.alloc hB3.out.size _)⟩, by simp [intOf]; omega⟩
          · obtain rfl : k = n := by omega
            obtain ⟨i, s, m, e⟩ := HSOME.out
            have ho : off3 (nw S g hh ww k) = lst3 (nw S g hh ww k) := by rw [e]; rfl
            have HO9 := Lib.hid ho
            clear ho e
            go_wp2_with fail
            refine bodyPost_ret (four_results rfl _ _ _) rfl ?_
            exact ⟨by rw [HO9.out]; rfl, hB.out⟩
  · obtain ⟨e1, e2⟩ := np_bad hok
    rw [e1, e2]
    have hr1 : refW (r.cok g) (allW S n) n = .iface 130 (.agg #[]) := by
      unfold refW
      by_cases h1 : r.cok g = true
      · rw [if_pos h1, if_neg fun h2 => hok ⟨h1, h2⟩]
      · rw [if_neg h1]
    rw [hr1] at CW
    clear e1 e2 hok hr1
    go_enter Tryd.func33, Tryd.ntmps33
    go_wp2_with fail
    refine gen_callsW fun W0 hW => ?_
    rw [← hW] at p0 p1 pB
    clear hW
    refine (CW _ (HV.out.below pB (Nat.le_refl _))).mono ?_
    rintro e w1 ⟨rfl, b1⟩
    have B1 := bnext pB b1 pB.size
    clear b1 p0 p1 pB CW
    go_wp2_with fail
    refine (yearCode_V _ (HT.out.below B1)).mono ?_
    rintro e w2 ⟨rfl, b2⟩
    have B2 := bnext B1 b2 B1.size
    clear b2 B1
    go_wp2_with fail
    refine bodyPost_ret (four_results rfl _ _ _) rfl ?_
    exact ⟨rfl, B2⟩
end Go.Proofs.YtppohghejhcilaaDoor

/- NearestPattern: the model. -/
namespace Go.Proofs.YtppohghejhcilaaDoor
open Go.RowKit

def mst3 : Option (Nat × Nat × Int) → Int
  | none => -1
  | some (_, _, m) => m

set_option maxRecDepth 100000 in
set_option maxHeartbeats 4000000 in
theorem specNearestPattern_any (c d : Array Value) (r : Rf) (g : Nat → Nat) (v : Value) (n : Nat) (S : Nat → ByteArray) (w : World) (hR : IsRoof c r) (hC : IsCol d g) (hv : StrsAt w v n S) (hn : n ≤ 2000000) (hs : ∀ i, i < n → (S i).size ≤ 9223372036854775807) :
    Calls Tryd.prog 29 #[.agg c, .agg d, v] w fun e w' => e = .returned (.tuple #[.int .i64 (idx3 (r.npR g S n)), .int .i64 (stp3 (r.npR g S n)), .int .i64 (off3 (r.npR g S n)), .int .i64 (r.npC g S n)]) ∧ Below w.heap.size w w' := by
  obtain ⟨p0, p1, pB⟩ := two_boxes w c d 28 62
  have hc := hR.size
  have hd := hC.size
  have HV := Lib.hid hv
  have HS := Lib.hid hs
  obtain ⟨a, cap, rfl⟩ := hv.shape
  clear hv hs
  by_cases h : r.Cols g
  · have CV := fun W h0 h1 => l07Colours_t w.heap.size (w.heap.size + 1) c d r g W h0 hR h1 hC h
    have hk := Rf.cok_t h
    obtain ⟨o1, o2, o3, o4, _⟩ := id h.1
    obtain ⟨hh, hhe⟩ : ∃ hh : Nat, r.h = hh := Int.eq_ofNat_of_zero_le (by omega)
    obtain ⟨ww, hwe⟩ : ∃ ww : Nat, r.w = ww := Int.eq_ofNat_of_zero_le (by omega)
    have hnw : nw S g r.h.toNat r.w.toNat = nw S g hh ww := by rw [hhe, hwe]; rfl
    have CM := fun s st W h0 hs hst X hF => l07Make_any w.heap.size c r s st hh ww hhe hwe (by omega) (by omega) W h0 hR hs hst X hF
    have BAD := Lib.hid (fun hw : ¬ allW S n = true => np_bad (r := r) (g := g) (S := S) (n := n) (fun q => hw q.2))
    have LIM := Lib.hid (fun (hw : allW S n = true) (h20 : 20 < n) => np_lim (r := r) (g := g) ⟨hk, hw⟩ h20)
    have NIL := Lib.hid (fun (hw : allW S n = true) (h0 : n = 0) => (show r.npC g S n = 6 ∧ r.npR g S n = none by subst h0; exact np_nil ⟨hk, hw⟩))
    have GOOD := Lib.hid (fun (hw : allW S n = true) (h1 : 1 ≤ n) (h20 : n ≤ 20) => (show r.npC g S n = 0 ∧ r.npR g S n = nw S g hh ww n by rw [← hnw]; exact np_ok ⟨hk, hw⟩ h1 h20))
    have w8 : ww ≤ 8 := by omega
    generalize r.npR g S n = RR at *
    generalize r.npC g S n = RC at *
    clear hnw o1 o2 o3 o4 hhe hwe h hk
    go_enter Tryd.func29, Tryd.ntmps29
    go_wp2_with fail
    refine gen_callsW fun W0 hW => ?_
    rw [← hW] at p0 p1 pB
    clear hW
    refine (CV _ p0 p1).mono ?_
    rintro e w1 ⟨rfl, b1⟩
    have q0 := brow b1 p0
    have q1 := brow b1 p1
    have B1 := bnext pB b1 pB.size
    clear b1 p0 p1 pB CV
    go_wp2_with fail
    go_loopw [10] (fun kv W => ∃ k : Nat, k ≤ n ∧ kv = .int .i64 k ∧ Hid (∀ j, j < k → wordB (S j) = true) ∧ rowAt W w.heap.size = some c ∧ rowAt W (w.heap.size + 1) = some d ∧ Hid (Below w.heap.size w W)) (fun kv _ => n - (intOf kv).toNat)
    case atStart => exact ⟨0, by omega, rfl, Lib.hid (by omega), q0, q1, Lib.hid B1⟩
    case round =>
      clear q0 q1 B1
      obtain ⟨k, hk, rfl, hA, r0, r1, hB⟩ := hrel
      by_cases hlt : k < n
      · have k0 : 0 ≤ (k : Int) := by omega
        have k1 : (k : Int) < n := by omega
        obtain ⟨gb, ob, rfl, cc⟩ := (HV.out.below hB.out (Nat.le_refl _)).at hlt
        have CW := fun W => l07Word_any (S k) W (HS.out k hlt)
        cases hwk : wordB (S k) with
        | true =>
          rw [hwk] at CW
          have hA2 := Lib.hid (show ∀ j, j < k + 1 → wordB (S j) = true from fun j hj => by
            by_cases e : j = k
            · subst e; exact hwk
            · exact hA.out j (by omega))
          clear hwk
          go_wp2_with fail
          refine (CW _).mono ?_
          rintro e w2 ⟨rfl, hw2⟩
          subst hw2
          clear CW
          go_wp2_with fail
          refine ⟨⟨k + 1, by omega, by go_num, hA2, r0, r1, hB⟩, by simp [intOf]; omega⟩
        | false =>
          rw [hwk] at CW
          obtain ⟨e1, e2⟩ := BAD.out (fun q => by have := allW_t q hlt; rw [hwk] at this; cases this)
          subst e1 e2
          clear hwk LIM NIL GOOD BAD
          go_wp2_with fail
          refine (CW _).mono ?_
          rintro e w2 ⟨rfl, hw2⟩
          subst hw2
          clear CW
          go_wp2_with fail
          refine bodyPost_ret (four_results rfl _ _ _) rfl ?_
          exact ⟨rfl, hB.out⟩
      · obtain rfl : k = n := by omega
        have hw : allW S k = true := by
          unfold allW
          have : anyI (fun i => !wordB (S i)) k = false := anyI_f.2 fun i hi => by simp [hA.out i hi]
          rw [this]; rfl
        have HW := Lib.hid hw
        by_cases h20 : 20 < k
        · have d1 : decide ((20 : Int) < k) = true := by simp; omega
          obtain ⟨e1, e2⟩ := LIM.out hw h20
          subst e1 e2
          clear LIM NIL GOOD BAD hw
          go_wp2_with fail
          refine bodyPost_ret (four_results rfl _ _ _) rfl ?_
          exact ⟨rfl, hB.out⟩
        · have d1 : decide ((20 : Int) < k) = false := by simp; omega
          have hk20 : k ≤ 20 := by omega
          clear hw LIM BAD hA h20
          go_wp2_with fail
          go_loopw [11, 12, 13, 14] (fun bv wv lv iv W => ∃ i : Nat, i ≤ k ∧ iv = .int .i64 i ∧ bv = .int .i64 (idx3 (nw S g hh ww i)) ∧ wv = .int .i64 (stp3 (nw S g hh ww i)) ∧ lv = .int .i64 (mst3 (nw S g hh ww i)) ∧ rowAt W w.heap.size = some c ∧ rowAt W (w.heap.size + 1) = some d ∧ Hid (Below w.heap.size w W)) (fun _ _ _ iv _ => k - (intOf iv).toNat)
          case atStart => exact ⟨0, by omega, rfl, rfl, rfl, rfl, r0, r1, hB⟩
          case round =>
            clear r0 r1 hB
            obtain ⟨i, hi, rfl, rfl, rfl, rfl, r0, r1, hB⟩ := hrel
            by_cases hli : i < k
            · have i0 : 0 ≤ (i : Int) := by omega
              have i1 : (i : Int) < k := by omega
              obtain ⟨gb, ob, rfl, cc⟩ := (HV.out.below hB.out (Nat.le_refl _)).at hli
              have hsz := wsize (allW_t HW.out hli)
              have CK := fun st W h0 hst X hF => CM (S i) st W h0 hsz hst X hF
              have hbd := nw_bd S g hh ww i
              have hnx : nw S g hh ww (i + 1) = comb i (nw S g hh ww i) (leastTo (offW (S i) g hh ww) (S i).size) := rfl
              have HVI := Lib.hid (fun (W : World) (b : Below w.heap.size w W) => (show W.cell? ⟨gb, ob + i, none⟩ = some (.string (S i)) by
                obtain ⟨g2, o2, e, cc⟩ := (HV.out.below b (Nat.le_refl _)).at hli
                cases e; exact cc))
              have hoX : ∀ st, popsTo (offs (colL (patB (S i) st) (plUpto hh ww (hh * ww))) g) 8 = offW (S i) g hh ww st := fun st => rfl
              have hob := fun st => offW_bd (S i) g hh ww st
              generalize offW (S i) g hh ww = o at *
              generalize nw S g hh ww i = p at *
              obtain ⟨m, hm⟩ : ∃ m, m = (S i).size := ⟨_, rfl⟩
              rw [← hm] at hsz hnx
              have HNX := Lib.hid hnx
              have HM := Lib.hid hm
              have HBD := Lib.hid hbd
              have HOX := Lib.hid hoX
              clear hnx hm hbd hoX cc
              have c0e : comb i p (leastTo o 0) = p := rfl
              go_wp2_with fail
              go_loopw [11, 12, 13, 15] (fun bv wv lv sv W => ∃ st : Nat, st ≤ m ∧ sv = .int .i64 st ∧ bv = .int .i64 (idx3 (comb i p (leastTo o st))) ∧ wv = .int .i64 (stp3 (comb i p (leastTo o st))) ∧ lv = .int .i64 (mst3 (comb i p (leastTo o st))) ∧ rowAt W w.heap.size = some c ∧ rowAt W (w.heap.size + 1) = some d ∧ Hid (Below w.heap.size w W)) (fun _ _ _ sv _ => m - (intOf sv).toNat)
              case atStart => exact ⟨0, by omega, rfl, rfl, rfl, rfl, r0, r1, hB⟩
              case round =>
                clear r0 r1 hB c0e
                obtain ⟨st, hst, rfl, rfl, rfl, rfl, r0, r1, hB⟩ := hrel
                have cc := HVI.out _ hB.out
                have hme : (S i).size = m := HM.out.symm
                by_cases hls : st < m
                · have s1 : (st : Int) < m := by omega
                  obtain ⟨X, hX⟩ : ∃ X, mkC (colL (patB (S i) st) (plUpto hh ww (hh * ww))) = X := ⟨_, rfl⟩
                  have hXI : IsCol X (colL (patB (S i) st) (plUpto hh ww (hh * ww))) := by rw [← hX]; exact isCol_mkC fun i _ => colL_lt w8 _ i
                  have CKX := fun W h0 => CK st W h0 (by omega) X hX
                  have CO := fun B1 W h0 h1 => l07Off_any B1 (w.heap.size + 1) X d _ g W h0 hXI h1 hC
                  rw [HOX.out st] at CO
                  have hXs := hXI.size
                  have hXo := hXI.ones
                  have hstep := comb_step (k := i) (st := st) (p := p) (o := o) HBD.out hob
                  have hPb : Bd3 (comb i p (leastTo o st)) := comb_bd HBD.out fun b l e => (leastTo_bd hob st b l e).2
                  have hot := hob st
                  generalize comb i p (leastTo o st) = P at *
                  have HST := Lib.hid hstep
                  clear hX hXI hstep
                  go_wp2_with fail
                  refine (CKX _ r0).mono ?_
                  rintro e w3 ⟨rfl, b3⟩
                  have t0 := brow b3 r0
                  have t1 := brow b3 r1
                  have hB3 := Lib.hid (bnext hB.out b3 hB.out.size)
                  clear b3 r0 r1 hB CKX cc
                  go_wp2_with fail
                  refine gen_callsW fun W4 hW => ?_
                  have x4 : rowAt W4 w3.heap.size = some X := by rw [hW]; exact rowAt_alloc_at _ _ _ _ rfl
                  have b4 : Below w3.heap.size w3 W4 := by rw [hW]; exact (Below.refl _ _).alloc (Nat.le_refl _) _
                  have u0 := brow b4 t0
                  have u1 := brow b4 t1
                  have hB4 := Lib.hid (bnext hB3.out b4 hB3.out.size)
                  clear hW b4 t0 t1 hB3
                  refine (CO _ _ x4 u1).mono ?_
                  rintro e w5 ⟨rfl, b5⟩
                  have r0 := brow b5 u0
                  have r1 := brow b5 u1
                  have hB5 := Lib.hid (bnext hB4.out b5 hB4.out.size)
                  clear b5 u0 u1 hB4 CO x4
                  cases P with
                  | none =>
                    have hs2 := HST.out
                    rw [if_pos (show o st < lst3 none by simp only [lst3]; omega)] at hs2
                    have HS2 := Lib.hid hs2
                    have g1 : mst3 none = -1 := rfl
                    rw [g1]
                    clear hs2 HST g1
                    go_wp2_with fail
                    refine ⟨⟨st + 1, by omega, by go_num, by rw [HS2.out]; rfl, by rw [HS2.out]; rfl, by rw [HS2.out]; rfl, r0, r1, hB5⟩, by simp [intOf]; omega⟩
                  | some q =>
                    obtain ⟨x1, x2, x3⟩ := q
                    have hx3 := hPb x1 x2 x3 rfl
                    have hneg : decide (x3 < 0) = false := by simp; omega
                    have g1 : mst3 (some (x1, x2, x3)) = x3 := rfl
                    rw [g1]
                    by_cases hlo : o st < x3
                    · have hs2 := HST.out
                      rw [if_pos (show o st < lst3 (some (x1, x2, x3)) from hlo)] at hs2
                      have HS2 := Lib.hid hs2
                      have hlo2 : decide (o st < x3) = true := by simpa using hlo
                      clear hs2 HST g1 hPb
                      go_wp2_with fail
                      refine ⟨⟨st + 1, by omega, by go_num, by rw [HS2.out]; rfl, by rw [HS2.out]; rfl, by rw [HS2.out]; rfl, r0, r1, hB5⟩, by simp [intOf]; omega⟩
                    · have hs2 := HST.out
                      rw [if_neg (show ¬ o st < lst3 (some (x1, x2, x3)) from hlo)] at hs2
                      have HS2 := Lib.hid hs2
                      have hlo2 : decide (o st < x3) = false := by simpa using hlo
                      clear hs2 HST g1 hPb
                      go_wp2_with fail
                      refine ⟨⟨st + 1, by omega, by go_num, by rw [HS2.out], by rw [HS2.out], by rw [HS2.out]; rfl, r0, r1, hB5⟩, by simp [intOf]; omega⟩
                · obtain rfl : st = m := by omega
                  have s1 : ¬ (st : Int) < st := by omega
                  rw [← HNX.out]
                  go_wp2_with fail
                  refine ⟨⟨i + 1, by omega, by go_num, rfl, rfl, rfl, r0, r1, hB⟩, by simp [intOf]; omega⟩
            · obtain rfl : i = k := by omega
              have ii : ¬ (i : Int) < i := by omega
              by_cases hk0 : i = 0
              · subst hk0
                obtain ⟨e1, e2⟩ := NIL.out HW.out rfl
                subst e1 e2
                rw [show nw S g hh ww 0 = none from rfl, show mst3 none = -1 from rfl]
                clear NIL GOOD
                go_wp2_with fail
                refine bodyPost_ret (four_results rfl _ _ _) rfl ?_
                exact ⟨rfl, hB.out⟩
              · obtain ⟨e1, e2⟩ := GOOD.out HW.out (by omega) hk20
                obtain ⟨x1, x2, x3, e⟩ := nw_some (g := g) (hh := hh) (ww := ww) HW.out (show 1 ≤ i by omega)
                have hb := nw_bd S g hh ww i x1 x2 x3 e
                rw [e] at e2
                subst e1 e2
                rw [e, show mst3 (some (x1, x2, x3)) = x3 from rfl]
                have hneg : decide (x3 < 0) = false := by simp; omega
                clear NIL GOOD e
                go_wp2_with fail
                refine bodyPost_ret (four_results rfl _ _ _) rfl ?_
                exact ⟨rfl, hB.out⟩
  · have CV := fun W h0 h1 => l07Colours_f w.heap.size (w.heap.size + 1) c d r g W h0 hR h1 hC h
    obtain ⟨e1, e2⟩ := np_bad (r := r) (g := g) (S := S) (n := n) (fun q => h (Rf.Cols_of q.1))
    rw [e1, e2]
    clear e1 e2 h
    go_enter Tryd.func29, Tryd.ntmps29
    go_wp2_with fail
    refine gen_callsW fun W0 hW => ?_
    rw [← hW] at p0 p1 pB
    clear hW
    refine (CV _ p0 p1).mono ?_
    rintro e w1 ⟨rfl, b1⟩
    have B1 := bnext pB b1 pB.size
    clear b1 p0 p1 pB CV
    go_wp2_with fail
    refine bodyPost_ret (four_results rfl _ _ _) rfl ?_
    exact ⟨rfl, B1⟩
end Go.Proofs.YtppohghejhcilaaDoor

/- A drawn region's condition laid anew in its midst. -/
namespace Go.Proofs.YtppohghejhcilaaDoor
open Go.RowKit

theorem wpAnyH_mono {P : Program} {md : Region.Mode} {ops : Array Oper} {Q : Exit → Act → World → Prop} {S S' : World → Prop} (hs : ∀ w, S' w → S w) :
    ∀ (fuel : Nat) (listed : Array Bool) (a : Act) (w : World), wpAnyH P md ops Q S' fuel listed a w → wpAnyH P md ops Q S fuel listed a w
  | 0, _, _, _, h => h
  | fuel + 1, _, _, _, h => ⟨h.1, fun i hi => wpOp_mono (fun a' w' h' => ⟨hs _ h'.1, wpAnyH_mono hs fuel _ a' w' h'.2⟩) (h.2 i hi)⟩
/-- From here on nothing of the world at hand changes. -/
theorem wpAnyH_now {P : Program} {md : Region.Mode} {ops : Array Oper} {Q : Exit → Act → World → Prop} {B w : World} {fuel : Nat} {listed : Array Bool} {a : Act}
    (hG : Below B.heap.size B w) (h : wpAnyH P md ops Q (fun w' => Below w.heap.size w w') fuel listed a w) : wpAnyH P md ops Q (fun w' => Below B.heap.size B w') fuel listed a w :=
  wpAnyH_mono (fun _ b => hG.trans (b.mono hG.size)) fuel listed a w h
end Go.Proofs.YtppohghejhcilaaDoor

/- laws.FnExactNearestPattern returns true for every roof, colours and words, and leaves them as they were. -/
namespace Go.Proofs.YtppohghejhcilaaDoor
open Go.RowKit

set_option maxRecDepth 100000 in
set_option maxHeartbeats 4000000 in
theorem law_walk_FnExactNearestPattern {w : World} {c : Array Value} {r : Rf} (hR : IsRoof c r) {d : Array Value} {g : Nat → Nat} (hC : IsCol d g) {v : Value} {n : Nat} {S : Nat → ByteArray} (hv : StrsAt w v n S) (hn : n ≤ maxLen) (hs : ∀ i, i < n → (S i).size ≤ maxLen) (hE : ErrT w) :
    Calls Tryd.prog 4 #[.agg c, .agg d, v] w fun e w' => e = .returned (.bool true) ∧ Below w.heap.size w w' := by
  obtain ⟨p0, p1, pB⟩ := two_boxes w c d 56 25
  have hc := hR.size
  have hd := hC.size
  have hM : maxLen = 9223372036854775807 := by unfold maxLen; rfl
  have hs2 : ∀ i, i < n → (S i).size ≤ 9223372036854775807 := fun i hi => by have := hs i hi; omega
  have HE := Lib.hid hE
  clear hE
  have HV := Lib.hid hv
  have SZ := fun W h => szStringS_any v n S W h hn hs
  have CS := fun v W h hn => specNearestPattern_any c d r g v n S W hR hC h hn hs2
  have CI := fun v W h hn hT => implNearestPattern_any c d r g v n S W hR hC h hn hs2 hT
  obtain ⟨a, cap, rfl⟩ := hv.shape
  generalize idx3 (r.npR g S n) = v0 at *
  generalize stp3 (r.npR g S n) = v1 at *
  generalize off3 (r.npR g S n) = v2 at *
  generalize r.npC g S n = v3 at *
  have hne0 : (v0 != v0) = false := by simp
  have hne1 : (v1 != v1) = false := by simp
  have hne2 : (v2 != v2) = false := by simp
  have hne3 : (v3 != v3) = false := by simp
  clear hv hs hs2 hn
  go_enter Tryd.func4, Tryd.ntmps4
  go_wp2_with fail
  refine gen_callsW fun W0 hW => ?_
  rw [← hW] at p0 p1 pB
  clear hW
  refine (SZ _ (HV.out.below pB (Nat.le_refl _))).mono ?_
  rintro e W ⟨⟨z, rfl, hz⟩, bx⟩
  replace p0 := brow bx p0
  replace p1 := brow bx p1
  replace pB := bnext pB bx pB.size
  clear bx SZ
  by_cases hneg : z < 0
  · go_wp2_with fail
    go_ret
    exact ⟨rfl, pB⟩
  have hn : n ≤ 2000000 := by have := hz (by omega); omega
  have hn1 : n ≤ 1048576 := hz (by omega)
  clear hz hM
  go_wp2_with fail
  refine wp_region_held_drew (S := fun w' => Below W.heap.size W w') (by kernel_rfl) ((Below.refl _ _).drew) (fun hH => ?_)
  refine wpAnyH_take (i := 0) (oi := { dst := some 23, op := Op.load 56 (Operand.tmp 3), type := 56, pos := "exact.go:4009", after := #[], guard := none }) (v := .agg c) rfl (by kernel_rfl) (by kernel_rfl) (by kernel_rfl) (fun _ _ _ h => h) (Or.inl ⟨by rfl, ?_⟩) hH ?_
  · intro w1 hS; (try dsimp only at hS); have s0 := brow hS p0; go_simp
  try simp only [Act.put, List.setIfInBounds_toArray, List.set_cons_zero, List.set_cons_succ]
  refine wpAnyH_take (i := 2) (oi := { dst := some 25, op := Op.load 25 (Operand.tmp 4), type := 25, pos := "exact.go:4009", after := #[], guard := none }) (v := .agg d) rfl (by kernel_rfl) (by kernel_rfl) (by kernel_rfl) (fun _ _ _ h => h) (Or.inl ⟨by rfl, ?_⟩) hH ?_
  · intro w1 hS; (try dsimp only at hS); have s1 := brow hS p1; go_simp
  try simp only [Act.put, List.setIfInBounds_toArray, List.set_cons_zero, List.set_cons_succ]
  refine wpAnyH_take (i := 4) (oi := { dst := some 27, op := Op.move (Operand.tmp 2), type := 57, pos := "exact.go:4009", after := #[], guard := none }) (v := .slice a n cap) rfl (by kernel_rfl) (by kernel_rfl) (by kernel_rfl) (fun _ _ _ h => h) (Or.inl ⟨by rfl, ?_⟩) hH ?_
  · intro w1 hS; (try dsimp only at hS); go_simp
  try simp only [Act.put, List.setIfInBounds_toArray, List.set_cons_zero, List.set_cons_succ]
  refine wpAnyH_ready (rs := [1]) (by kernel_rfl) (by simp) (AllReadyH.cons (o := { dst := some 24, op := Op.call { callee := Callee.value (Operand.func 30), args := #[Operand.tmp 23], argTypes := #[56] }, type := 28, pos := "exact.go:4009", after := #[{ on := 0, ground := Ground.data }], guard := none }) rfl (fun K hK => ?_) AllReadyH.nil)
  go_simp
  refine (toRoof_any c r _ hR).mono ?_
  rintro x wa1 ⟨rfl, bx⟩
  go_simp
  refine hK.out _ _ (bnext hH bx hH.size) (fun hG => ?_)
  clear hK K
  refine wpAnyH_now hG ?_
  clear hG hH
  replace bx := ((Below.refl W.heap.size W).drew).trans bx
  replace p0 := brow bx p0
  replace p1 := brow bx p1
  replace pB := bnext pB bx pB.size
  clear bx
  have hH := Below.refl wa1.heap.size wa1
  try simp only [Act.put, List.setIfInBounds_toArray, List.set_cons_zero, List.set_cons_succ]
  refine wpAnyH_ready (rs := [3]) (by kernel_rfl) (by simp) (AllReadyH.cons (o := { dst := some 26, op := Op.call { callee := Callee.value (Operand.func 31), args := #[Operand.tmp 25], argTypes := #[25] }, type := 62, pos := "exact.go:4009", after := #[{ on := 2, ground := Ground.data }, { on := 1, ground := Ground.chain }], guard := none }) rfl (fun K hK => ?_) AllReadyH.nil)
  go_simp
  refine (toCol_any d g _ hC).mono ?_
  rintro x wb1 ⟨rfl, bx⟩
  go_simp
  refine hK.out _ _ (bnext hH bx hH.size) (fun hG => ?_)
  clear hK K
  refine wpAnyH_now hG ?_
  clear hG hH
  replace p0 := brow bx p0
  replace p1 := brow bx p1
  replace pB := bnext pB bx pB.size
  clear bx
  have hH := Below.refl wb1.heap.size wb1
  try simp only [Act.put, List.setIfInBounds_toArray, List.set_cons_zero, List.set_cons_succ]
  refine wpAnyH_ready (rs := [5]) (by kernel_rfl) (by simp) (AllReadyH.cons (o := { dst := some 28, op := Op.call { callee := Callee.value (Operand.func 32), args := #[Operand.tmp 27], argTypes := #[57] }, type := 57, pos := "exact.go:4009", after := #[{ on := 4, ground := Ground.data }, { on := 3, ground := Ground.chain }], guard := none }) rfl (fun K hK => ?_) AllReadyH.nil)
  go_simp
  refine (toStringS_any _ n S _ (HV.out.below pB (Nat.le_refl _)) hn).mono ?_
  rintro x wc1 ⟨a1, rfl, hv1, bx⟩
  go_simp
  refine hK.out _ _ (bnext hH bx hH.size) (fun hG => ?_)
  clear hK K
  refine wpAnyH_now hG ?_
  clear hG hH
  replace p0 := brow bx p0
  replace p1 := brow bx p1
  replace pB := bnext pB bx pB.size
  clear bx
  have hH := Below.refl wc1.heap.size wc1
  try simp only [Act.put, List.setIfInBounds_toArray, List.set_cons_zero, List.set_cons_succ]
  refine wpAnyH_ready (rs := [6]) (by kernel_rfl) (by simp) (AllReadyH.cons (o := { dst := some 29, op := Op.call { callee := Callee.value (Operand.func 29), args := #[Operand.tmp 24, Operand.tmp 26, Operand.tmp 28], argTypes := #[28, 62, 57] }, type := 59, pos := "exact.go:4009", after := #[{ on := 1, ground := Ground.data }, { on := 3, ground := Ground.data }, { on := 5, ground := Ground.data }, { on := 5, ground := Ground.chain }], guard := none }) rfl (fun K hK => ?_) AllReadyH.nil)
  go_simp
  refine (CS _ _ hv1 hn).mono ?_
  rintro x wd1 ⟨rfl, bx⟩
  go_simp
  refine hK.out _ _ (bnext hH bx hH.size) (fun hG => ?_)
  clear hK K
  refine wpAnyH_now hG ?_
  clear hG hH
  clear hv1
  replace p0 := brow bx p0
  replace p1 := brow bx p1
  replace pB := bnext pB bx pB.size
  clear bx
  have hH := Below.refl wd1.heap.size wd1
  try simp only [Act.put, List.setIfInBounds_toArray, List.set_cons_zero, List.set_cons_succ]
  refine wpAnyH_take (i := 7) (oi := { dst := some 22, op := Op.move (Operand.tmp 29), type := 59, pos := "exact.go:4009", after := #[{ on := 6, ground := Ground.data }], guard := none }) (v := .tuple #[.int .i64 v0, .int .i64 v1, .int .i64 v2, .int .i64 v3]) rfl (by kernel_rfl) (by kernel_rfl) (by kernel_rfl) (fun _ _ _ h => h) (Or.inl ⟨by rfl, ?_⟩) hH ?_
  · intro w1 hS; (try dsimp only at hS); go_simp
  try simp only [Act.put, List.setIfInBounds_toArray, List.set_cons_zero, List.set_cons_succ]
  refine wpAnyH_take (i := 8) (oi := { dst := some 30, op := Op.extract (Operand.tmp 22) 0, type := 2, pos := "exact.go:4009", after := #[{ on := 7, ground := Ground.data }], guard := none }) (v := .int .i64 v0) rfl (by kernel_rfl) (by kernel_rfl) (by kernel_rfl) (fun _ _ _ h => h) (Or.inl ⟨by rfl, ?_⟩) hH ?_
  · intro w1 hS; (try dsimp only at hS); go_simp
  try simp only [Act.put, List.setIfInBounds_toArray, List.set_cons_zero, List.set_cons_succ]
  refine wpAnyH_take (i := 9) (oi := { dst := some 31, op := Op.extract (Operand.tmp 22) 1, type := 2, pos := "exact.go:4009", after := #[{ on := 7, ground := Ground.data }, { on := 12, ground := Ground.gcOnly Departure.lateStores }], guard := none }) (v := .int .i64 v1) rfl (by kernel_rfl) (by kernel_rfl) (by kernel_rfl) (fun _ _ _ h => h) (Or.inl ⟨by rfl, ?_⟩) hH ?_
  · intro w1 hS; (try dsimp only at hS); go_simp
  try simp only [Act.put, List.setIfInBounds_toArray, List.set_cons_zero, List.set_cons_succ]
  refine wpAnyH_take (i := 10) (oi := { dst := some 32, op := Op.extract (Operand.tmp 22) 2, type := 2, pos := "exact.go:4009", after := #[{ on := 7, ground := Ground.data }, { on := 13, ground := Ground.gcOnly Departure.lateStores }], guard := none }) (v := .int .i64 v2) rfl (by kernel_rfl) (by kernel_rfl) (by kernel_rfl) (fun _ _ _ h => h) (Or.inl ⟨by rfl, ?_⟩) hH ?_
  · intro w1 hS; (try dsimp only at hS); go_simp
  try simp only [Act.put, List.setIfInBounds_toArray, List.set_cons_zero, List.set_cons_succ]
  refine wpAnyH_take (i := 11) (oi := { dst := some 33, op := Op.extract (Operand.tmp 22) 3, type := 2, pos := "exact.go:4009", after := #[{ on := 7, ground := Ground.data }, { on := 14, ground := Ground.gcOnly Departure.lateStores }], guard := none }) (v := .int .i64 v3) rfl (by kernel_rfl) (by kernel_rfl) (by kernel_rfl) (fun _ _ _ h => h) (Or.inl ⟨by rfl, ?_⟩) hH ?_
  · intro w1 hS; (try dsimp only at hS); go_simp
  try simp only [Act.put, List.setIfInBounds_toArray, List.set_cons_zero, List.set_cons_succ]
  refine wpAnyH_take (i := 12) (oi := { dst := some 8, op := Op.assign (Operand.tmp 30), type := 2, pos := "exact.go:4009", after := #[{ on := 8, ground := Ground.data }, { on := 6, ground := Ground.chain }, { on := 0, ground := Ground.phase }, { on := 1, ground := Ground.phase }, { on := 2, ground := Ground.phase }, { on := 3, ground := Ground.phase }, { on := 4, ground := Ground.phase }, { on := 5, ground := Ground.phase }, { on := 6, ground := Ground.phase }, { on := 7, ground := Ground.phase }, { on := 8, ground := Ground.phase }, { on := 9, ground := Ground.textOnly Departure.lateStores }, { on := 10, ground := Ground.textOnly Departure.lateStores }, { on := 11, ground := Ground.textOnly Departure.lateStores }], guard := none }) (v := .int .i64 v0) rfl (by kernel_rfl) (by kernel_rfl) (by kernel_rfl) (fun _ _ _ h => h) (Or.inl ⟨by rfl, ?_⟩) hH ?_
  · intro w1 hS; (try dsimp only at hS); go_simp
  try simp only [Act.put, List.setIfInBounds_toArray, List.set_cons_zero, List.set_cons_succ]
  refine wpAnyH_take (i := 13) (oi := { dst := some 9, op := Op.assign (Operand.tmp 31), type := 2, pos := "exact.go:4009", after := #[{ on := 9, ground := Ground.data }, { on := 12, ground := Ground.chain }, { on := 0, ground := Ground.phase }, { on := 1, ground := Ground.phase }, { on := 2, ground := Ground.phase }, { on := 3, ground := Ground.phase }, { on := 4, ground := Ground.phase }, { on := 5, ground := Ground.phase }, { on := 6, ground := Ground.phase }, { on := 7, ground := Ground.phase }, { on := 8, ground := Ground.phase }, { on := 9, ground := Ground.phase }, { on := 10, ground := Ground.textOnly Departure.lateStores }, { on := 11, ground := Ground.textOnly Departure.lateStores }, { on := 12, ground := Ground.phase }], guard := none }) (v := .int .i64 v1) rfl (by kernel_rfl) (by kernel_rfl) (by kernel_rfl) (fun _ _ _ h => h) (Or.inl ⟨by rfl, ?_⟩) hH ?_
  · intro w1 hS; (try dsimp only at hS); go_simp
  try simp only [Act.put, List.setIfInBounds_toArray, List.set_cons_zero, List.set_cons_succ]
  refine wpAnyH_take (i := 14) (oi := { dst := some 10, op := Op.assign (Operand.tmp 32), type := 2, pos := "exact.go:4009", after := #[{ on := 10, ground := Ground.data }, { on := 13, ground := Ground.chain }, { on := 0, ground := Ground.phase }, { on := 1, ground := Ground.phase }, { on := 2, ground := Ground.phase }, { on := 3, ground := Ground.phase }, { on := 4, ground := Ground.phase }, { on := 5, ground := Ground.phase }, { on := 6, ground := Ground.phase }, { on := 7, ground := Ground.phase }, { on := 8, ground := Ground.phase }, { on := 9, ground := Ground.phase }, { on := 10, ground := Ground.phase }, { on := 11, ground := Ground.textOnly Departure.lateStores }, { on := 12, ground := Ground.phase }, { on := 13, ground := Ground.phase }], guard := none }) (v := .int .i64 v2) rfl (by kernel_rfl) (by kernel_rfl) (by kernel_rfl) (fun _ _ _ h => h) (Or.inl ⟨by rfl, ?_⟩) hH ?_
  · intro w1 hS; (try dsimp only at hS); go_simp
  try simp only [Act.put, List.setIfInBounds_toArray, List.set_cons_zero, List.set_cons_succ]
  refine wpAnyH_take (i := 15) (oi := { dst := some 11, op := Op.assign (Operand.tmp 33), type := 2, pos := "exact.go:4009", after := #[{ on := 11, ground := Ground.data }, { on := 14, ground := Ground.chain }, { on := 0, ground := Ground.phase }, { on := 1, ground := Ground.phase }, { on := 2, ground := Ground.phase }, { on := 3, ground := Ground.phase }, { on := 4, ground := Ground.phase }, { on := 5, ground := Ground.phase }, { on := 6, ground := Ground.phase }, { on := 7, ground := Ground.phase }, { on := 8, ground := Ground.phase }, { on := 9, ground := Ground.phase }, { on := 10, ground := Ground.phase }, { on := 11, ground := Ground.phase }, { on := 12, ground := Ground.phase }, { on := 13, ground := Ground.phase }, { on := 14, ground := Ground.phase }], guard := none }) (v := .int .i64 v3) (fuel := 0) rfl (by kernel_rfl) (by kernel_rfl) (by kernel_rfl) (fun _ _ _ h => h) (Or.inl ⟨by rfl, ?_⟩) hH ?_
  · intro w1 hS; (try dsimp only at hS); go_simp
  try simp only [Act.put, List.setIfInBounds_toArray, List.set_cons_zero, List.set_cons_succ]
  refine wpAnyH_done (by kernel_rfl) ?_ _
  go_wp2_with fail
  refine (toStringS_any _ n S _ (HV.out.below pB (Nat.le_refl _)) hn).mono ?_
  rintro e W2 ⟨a2, rfl, hv2, bx⟩
  replace p0 := brow bx p0
  replace p1 := brow bx p1
  replace pB := bnext pB bx pB.size
  clear bx
  go_wp2_with fail
  refine wp_region_held_drew (S := fun w' => Below W2.heap.size W2 w') (by kernel_rfl) ((Below.refl _ _).drew) (fun hH => ?_)
  refine wpAnyH_take (i := 0) (oi := { dst := some 37, op := Op.load 56 (Operand.tmp 3), type := 56, pos := "exact.go:4011", after := #[], guard := none }) (v := .agg c) rfl (by kernel_rfl) (by kernel_rfl) (by kernel_rfl) (fun _ _ _ h => h) (Or.inl ⟨by rfl, ?_⟩) hH ?_
  · intro w1 hS; (try dsimp only at hS); have s0 := brow hS p0; go_simp
  try simp only [Act.put, List.setIfInBounds_toArray, List.set_cons_zero, List.set_cons_succ]
  refine wpAnyH_take (i := 2) (oi := { dst := some 39, op := Op.load 25 (Operand.tmp 4), type := 25, pos := "exact.go:4011", after := #[], guard := none }) (v := .agg d) rfl (by kernel_rfl) (by kernel_rfl) (by kernel_rfl) (fun _ _ _ h => h) (Or.inl ⟨by rfl, ?_⟩) hH ?_
  · intro w1 hS; (try dsimp only at hS); have s1 := brow hS p1; go_simp
  try simp only [Act.put, List.setIfInBounds_toArray, List.set_cons_zero, List.set_cons_succ]
  refine wpAnyH_take (i := 4) (oi := { dst := some 41, op := Op.move (Operand.tmp 12), type := 57, pos := "exact.go:4011", after := #[], guard := none }) (v := .slice a2 n n) rfl (by kernel_rfl) (by kernel_rfl) (by kernel_rfl) (fun _ _ _ h => h) (Or.inl ⟨by rfl, ?_⟩) hH ?_
  · intro w1 hS; (try dsimp only at hS); go_simp
  try simp only [Act.put, List.setIfInBounds_toArray, List.set_cons_zero, List.set_cons_succ]
  refine wpAnyH_ready (rs := [1]) (by kernel_rfl) (by simp) (AllReadyH.cons (o := { dst := some 38, op := Op.call { callee := Callee.value (Operand.func 30), args := #[Operand.tmp 37], argTypes := #[56] }, type := 28, pos := "exact.go:4011", after := #[{ on := 0, ground := Ground.data }], guard := none }) rfl (fun K hK => ?_) AllReadyH.nil)
  go_simp
  refine (toRoof_any c r _ hR).mono ?_
  rintro x wa2 ⟨rfl, bx⟩
  go_simp
  refine hK.out _ _ (bnext hH bx hH.size) (fun hG => ?_)
  clear hK K
  refine wpAnyH_now hG ?_
  clear hG hH
  replace bx := ((Below.refl W2.heap.size W2).drew).trans bx
  replace p0 := brow bx p0
  replace p1 := brow bx p1
  replace pB := bnext pB bx pB.size
  replace hv2 := hv2.below bx (Nat.le_refl _)
  clear bx
  have hH := Below.refl wa2.heap.size wa2
  try simp only [Act.put, List.setIfInBounds_toArray, List.set_cons_zero, List.set_cons_succ]
  refine wpAnyH_ready (rs := [3]) (by kernel_rfl) (by simp) (AllReadyH.cons (o := { dst := some 40, op := Op.call { callee := Callee.value (Operand.func 31), args := #[Operand.tmp 39], argTypes := #[25] }, type := 62, pos := "exact.go:4011", after := #[{ on := 2, ground := Ground.data }, { on := 1, ground := Ground.chain }], guard := none }) rfl (fun K hK => ?_) AllReadyH.nil)
  go_simp
  refine (toCol_any d g _ hC).mono ?_
  rintro x wb2 ⟨rfl, bx⟩
  go_simp
  refine hK.out _ _ (bnext hH bx hH.size) (fun hG => ?_)
  clear hK K
  refine wpAnyH_now hG ?_
  clear hG hH
  replace p0 := brow bx p0
  replace p1 := brow bx p1
  replace pB := bnext pB bx pB.size
  replace hv2 := hv2.below bx (Nat.le_refl _)
  clear bx
  have hH := Below.refl wb2.heap.size wb2
  try simp only [Act.put, List.setIfInBounds_toArray, List.set_cons_zero, List.set_cons_succ]
  refine wpAnyH_ready (rs := [5]) (by kernel_rfl) (by simp) (AllReadyH.cons (o := { dst := some 42, op := Op.call { callee := Callee.value (Operand.func 33), args := #[Operand.tmp 38, Operand.tmp 40, Operand.tmp 41], argTypes := #[28, 62, 57] }, type := 59, pos := "exact.go:4011", after := #[{ on := 1, ground := Ground.data }, { on := 3, ground := Ground.data }, { on := 4, ground := Ground.data }, { on := 3, ground := Ground.chain }], guard := none }) rfl (fun K hK => ?_) AllReadyH.nil)
  go_simp
  refine (CI _ _ hv2 hn (HE.out.below pB)).mono ?_
  rintro x wc2 ⟨rfl, bx⟩
  go_simp
  refine hK.out _ _ (bnext hH bx hH.size) (fun hG => ?_)
  clear hK K
  refine wpAnyH_now hG ?_
  clear hG hH
  replace p0 := brow bx p0
  replace p1 := brow bx p1
  replace pB := bnext pB bx pB.size
  replace hv2 := hv2.below bx (Nat.le_refl _)
  clear bx
  have hH := Below.refl wc2.heap.size wc2
  try simp only [Act.put, List.setIfInBounds_toArray, List.set_cons_zero, List.set_cons_succ]
  refine wpAnyH_take (i := 6) (oi := { dst := some 36, op := Op.move (Operand.tmp 42), type := 59, pos := "exact.go:4011", after := #[{ on := 5, ground := Ground.data }], guard := none }) (v := .tuple #[.int .i64 v0, .int .i64 v1, .int .i64 v2, .int .i64 v3]) rfl (by kernel_rfl) (by kernel_rfl) (by kernel_rfl) (fun _ _ _ h => h) (Or.inl ⟨by rfl, ?_⟩) hH ?_
  · intro w1 hS; (try dsimp only at hS); go_simp
  try simp only [Act.put, List.setIfInBounds_toArray, List.set_cons_zero, List.set_cons_succ]
  refine wpAnyH_take (i := 7) (oi := { dst := some 43, op := Op.extract (Operand.tmp 36) 0, type := 2, pos := "exact.go:4011", after := #[{ on := 6, ground := Ground.data }], guard := none }) (v := .int .i64 v0) rfl (by kernel_rfl) (by kernel_rfl) (by kernel_rfl) (fun _ _ _ h => h) (Or.inl ⟨by rfl, ?_⟩) hH ?_
  · intro w1 hS; (try dsimp only at hS); go_simp
  try simp only [Act.put, List.setIfInBounds_toArray, List.set_cons_zero, List.set_cons_succ]
  refine wpAnyH_take (i := 8) (oi := { dst := some 44, op := Op.extract (Operand.tmp 36) 1, type := 2, pos := "exact.go:4011", after := #[{ on := 6, ground := Ground.data }, { on := 11, ground := Ground.gcOnly Departure.lateStores }], guard := none }) (v := .int .i64 v1) rfl (by kernel_rfl) (by kernel_rfl) (by kernel_rfl) (fun _ _ _ h => h) (Or.inl ⟨by rfl, ?_⟩) hH ?_
  · intro w1 hS; (try dsimp only at hS); go_simp
  try simp only [Act.put, List.setIfInBounds_toArray, List.set_cons_zero, List.set_cons_succ]
  refine wpAnyH_take (i := 9) (oi := { dst := some 45, op := Op.extract (Operand.tmp 36) 2, type := 2, pos := "exact.go:4011", after := #[{ on := 6, ground := Ground.data }, { on := 12, ground := Ground.gcOnly Departure.lateStores }], guard := none }) (v := .int .i64 v2) rfl (by kernel_rfl) (by kernel_rfl) (by kernel_rfl) (fun _ _ _ h => h) (Or.inl ⟨by rfl, ?_⟩) hH ?_
  · intro w1 hS; (try dsimp only at hS); go_simp
  try simp only [Act.put, List.setIfInBounds_toArray, List.set_cons_zero, List.set_cons_succ]
  refine wpAnyH_take (i := 10) (oi := { dst := some 46, op := Op.extract (Operand.tmp 36) 3, type := 2, pos := "exact.go:4011", after := #[{ on := 6, ground := Ground.data }, { on := 13, ground := Ground.gcOnly Departure.lateStores }], guard := none }) (v := .int .i64 v3) rfl (by kernel_rfl) (by kernel_rfl) (by kernel_rfl) (fun _ _ _ h => h) (Or.inl ⟨by rfl, ?_⟩) hH ?_
  · intro w1 hS; (try dsimp only at hS); go_simp
  try simp only [Act.put, List.setIfInBounds_toArray, List.set_cons_zero, List.set_cons_succ]
  refine wpAnyH_take (i := 11) (oi := { dst := some 13, op := Op.assign (Operand.tmp 43), type := 2, pos := "exact.go:4011", after := #[{ on := 7, ground := Ground.data }, { on := 5, ground := Ground.chain }, { on := 0, ground := Ground.phase }, { on := 1, ground := Ground.phase }, { on := 2, ground := Ground.phase }, { on := 3, ground := Ground.phase }, { on := 4, ground := Ground.phase }, { on := 5, ground := Ground.phase }, { on := 6, ground := Ground.phase }, { on := 7, ground := Ground.phase }, { on := 8, ground := Ground.textOnly Departure.lateStores }, { on := 9, ground := Ground.textOnly Departure.lateStores }, { on := 10, ground := Ground.textOnly Departure.lateStores }], guard := none }) (v := .int .i64 v0) rfl (by kernel_rfl) (by kernel_rfl) (by kernel_rfl) (fun _ _ _ h => h) (Or.inl ⟨by rfl, ?_⟩) hH ?_
  · intro w1 hS; (try dsimp only at hS); go_simp
  try simp only [Act.put, List.setIfInBounds_toArray, List.set_cons_zero, List.set_cons_succ]
  refine wpAnyH_take (i := 12) (oi := { dst := some 14, op := Op.assign (Operand.tmp 44), type := 2, pos := "exact.go:4011", after := #[{ on := 8, ground := Ground.data }, { on := 11, ground := Ground.chain }, { on := 0, ground := Ground.phase }, { on := 1, ground := Ground.phase }, { on := 2, ground := Ground.phase }, { on := 3, ground := Ground.phase }, { on := 4, ground := Ground.phase }, { on := 5, ground := Ground.phase }, { on := 6, ground := Ground.phase }, { on := 7, ground := Ground.phase }, { on := 8, ground := Ground.phase }, { on := 9, ground := Ground.textOnly Departure.lateStores }, { on := 10, ground := Ground.textOnly Departure.lateStores }, { on := 11, ground := Ground.phase }], guard := none }) (v := .int .i64 v1) rfl (by kernel_rfl) (by kernel_rfl) (by kernel_rfl) (fun _ _ _ h => h) (Or.inl ⟨by rfl, ?_⟩) hH ?_
  · intro w1 hS; (try dsimp only at hS); go_simp
  try simp only [Act.put, List.setIfInBounds_toArray, List.set_cons_zero, List.set_cons_succ]
  refine wpAnyH_take (i := 13) (oi := { dst := some 15, op := Op.assign (Operand.tmp 45), type := 2, pos := "exact.go:4011", after := #[{ on := 9, ground := Ground.data }, { on := 12, ground := Ground.chain }, { on := 0, ground := Ground.phase }, { on := 1, ground := Ground.phase }, { on := 2, ground := Ground.phase }, { on := 3, ground := Ground.phase }, { on := 4, ground := Ground.phase }, { on := 5, ground := Ground.phase }, { on := 6, ground := Ground.phase }, { on := 7, ground := Ground.phase }, { on := 8, ground := Ground.phase }, { on := 9, ground := Ground.phase }, { on := 10, ground := Ground.textOnly Departure.lateStores }, { on := 11, ground := Ground.phase }, { on := 12, ground := Ground.phase }], guard := none }) (v := .int .i64 v2) rfl (by kernel_rfl) (by kernel_rfl) (by kernel_rfl) (fun _ _ _ h => h) (Or.inl ⟨by rfl, ?_⟩) hH ?_
  · intro w1 hS; (try dsimp only at hS); go_simp
  try simp only [Act.put, List.setIfInBounds_toArray, List.set_cons_zero, List.set_cons_succ]
  refine wpAnyH_take (i := 14) (oi := { dst := some 16, op := Op.assign (Operand.tmp 46), type := 2, pos := "exact.go:4011", after := #[{ on := 10, ground := Ground.data }, { on := 13, ground := Ground.chain }, { on := 0, ground := Ground.phase }, { on := 1, ground := Ground.phase }, { on := 2, ground := Ground.phase }, { on := 3, ground := Ground.phase }, { on := 4, ground := Ground.phase }, { on := 5, ground := Ground.phase }, { on := 6, ground := Ground.phase }, { on := 7, ground := Ground.phase }, { on := 8, ground := Ground.phase }, { on := 9, ground := Ground.phase }, { on := 10, ground := Ground.phase }, { on := 11, ground := Ground.phase }, { on := 12, ground := Ground.phase }, { on := 13, ground := Ground.phase }], guard := none }) (v := .int .i64 v3) (fuel := 0) rfl (by kernel_rfl) (by kernel_rfl) (by kernel_rfl) (fun _ _ _ h => h) (Or.inl ⟨by rfl, ?_⟩) hH ?_
  · intro w1 hS; (try dsimp only at hS); go_simp
  try simp only [Act.put, List.setIfInBounds_toArray, List.set_cons_zero, List.set_cons_succ]
  refine wpAnyH_done (by kernel_rfl) ?_ _
  go_wp2_with fail
  refine (toStringS_any _ n S _ (HV.out.below pB (Nat.le_refl _)) hn).mono ?_
  rintro e W3 ⟨a3, rfl, hv3, bx⟩
  replace p0 := brow bx p0
  replace p1 := brow bx p1
  replace pB := bnext pB bx pB.size
  replace hv2 := hv2.below bx (Nat.le_refl _)
  clear bx
  go_wp2_with fail
  refine (eqStringS_same _ _ n S _ hv2 hv3 hn1).mono ?_
  rintro e W4 ⟨rfl, bx⟩
  clear hv3
  replace p0 := brow bx p0
  replace p1 := brow bx p1
  replace pB := bnext pB bx pB.size
  replace hv2 := hv2.below bx (Nat.le_refl _)
  clear bx
  go_wp2_with fail
  go_ret
  exact ⟨rfl, pB⟩

namespace LFnExactNearestPattern
open Go.RowKit Go.ChangeShapes Go.WideShapes Go.ChangeAt
theorem own : ownKnob Tryd.prog.godebug = none := by kernel_rfl
theorem laidOut : laidOutB Tryd.prog = true := by kernel_rfl
theorem door_met (os : Os) (args : Array Value) : laidMetH Tryd.prog Rows.fnExactNearestPatternRow.laid ((doorOver Rows.fnExactNearestPatternRow.laid os).forCall (fun _ _ => 0) ⟨#[], args, []⟩).memory :=
  laidMetH_of_parts (laidMet_over _ (by kernel_rfl) (by kernel_rfl)) (by kernel_rfl)
set_option maxRecDepth 100000 in
theorem lifted (os : Os) (started : os.Started) (H : Type) (enc : TypeId × Value → H) :
    ReturnsInHanded {} Tryd.checked os 4 .any (fun w args => (Rows.fnExactNearestPatternSpec.pre enc Tryd.prog Tryd.f4 [] false w args ∧ laidMetH Tryd.prog Rows.fnExactNearestPatternRow.laid w) ∧ sizedMet enc Tryd.prog Tryd.f4 (OpenSpec.ofChange Rows.fnExactNearestPatternSpec) false w args)
      (Rows.fnExactNearestPatternSpec.post enc Tryd.prog Tryd.f4 false true false false) := by
  refine returnsInHanded_of_change_and (C := Tryd.checked) (X := fun w _ => laidMetH Tryd.prog Rows.fnExactNearestPatternRow.laid w) (fun _ _ _ hh h => h.of_heap hh) own started (by kernel_rfl) Tryd.func4
    (ChangeSpec.witness_shaped (enc := enc) (C := Tryd.checked) (os := os) (X := fun w _ => laidMetH Tryd.prog Rows.fnExactNearestPatternRow.laid w) false (doorOver Rows.fnExactNearestPatternRow.laid os) #[.agg Tryd.zeroCells56, .agg (Array.replicate 8 (.int .u8 0)), .slice none 0 0] 8 (doorOver_os _ _) (World.shaped_of_ZipB (by kernel_rfl) (by kernel_rfl)) (by kernel_rfl) (by kernel_rfl) (by kernel_rfl) (door_met os _)) ?_
  intro W base args ds gs before hval0 hW _ _ hL _
  have hval : ∀ (j : Nat) t v, Tryd.f4.params[j]? = some t → args[j]? = some v → Value.okWide Tryd.prog W .any base t v := hval0
  have hW' := hW
  obtain ⟨p, q, hA0, hV, rfl, hfz, hnd⟩ := hW
  have hA : DataW.TrodAll enc Tryd.prog W 0 (fun _ => true) true Tryd.f4.params.toList args.toList ds p := hA0
  rw [Tryd.params4] at hA hval
  obtain ⟨v0, vs0, d0, ds0, p0, q0, hargs, rfl, rfl, h0, r0⟩ := trodAll_cons hA
  obtain ⟨v1, vs1, d1, ds1, p1, q1, rfl, rfl, rfl, h1, r1⟩ := trodAll_cons r0
  obtain ⟨v2, vs2, d2, ds2, p2, q2, rfl, rfl, rfl, h2, r2⟩ := trodAll_cons r1
  obtain ⟨rfl, rfl, rfl⟩ := trodAll_nil r2
  obtain rfl : args = #[v0, v1, v2] := by cases args; simp_all
  obtain ⟨rfl, rfl⟩ := trodVars_none hV
  have k0 := h0
  have k1 := h1
  have lt1 : ∀ x ∈ p1, x.block < W.heap.size := by obtain ⟨m, hm⟩ := k1; exact DataW.trod_lt m _ _ _ hm
  have k2 := h2
  have lt2 : ∀ x ∈ p2, x.block < W.heap.size := by obtain ⟨m, hm⟩ := k2; exact DataW.trod_lt m _ _ _ hm
  have lt0 : ∀ x ∈ p0, x.block < W.heap.size := by obtain ⟨m, hm⟩ := k0; exact DataW.trod_lt m _ _ _ hm
  obtain ⟨c0, f0, rfl, wf0⟩ := open_roof (hval 0 56 v0 rfl rfl) h0
  obtain ⟨c1, f1, rfl, wf1⟩ := open_col (hval 1 25 v1 rfl rfl) h1
  obtain ⟨n2, f2, wf2, hn2, hs2⟩ := open_strs (hval 2 57 v2 rfl rfl) h2
  clear hA0 hval0
  refine ((law_walk_FnExactNearestPattern wf0 wf1 wf2 hn2 hs2 (errT_ofB hL))).mono fun e W' ⟨he, bel⟩ => ?_
  subst he
  exact ⟨_, rfl, _, _, _, [], _, [], hW', trodAll_mk1 (shut_bool Tryd.underlying4 _), (trodAll_cons_mk (Below.trod laidOut (by kernel_rfl) (of_decide_eq_true (by kernel_rfl)) k0 bel lt0) (trodAll_cons_mk (Below.trod laidOut (by kernel_rfl) (of_decide_eq_true (by kernel_rfl)) k1 bel lt1) (trodAll_cons_mk (Below.trod laidOut (by kernel_rfl) (of_decide_eq_true (by kernel_rfl)) k2 bel lt2) trodAll_mk0))), rfl, bel.frame _, fun h => by cases h⟩

theorem over : Rows.FnExactNearestPatternSaid :=
  OpenClaim.holds_of_wide 4 Tryd.f4 rfl rfl rfl rfl rfl rfl rfl ⟨rfl, rfl, rfl, rfl, rfl⟩ rfl rfl rfl rfl rfl (by kernel_rfl) Tryd.func4 (by kernel_rfl)
    (of_decide_eq_true (by kernel_rfl)) (by unfold Func.isWrapper; first | (rw [if_pos (by decide +kernel)]; kernel_rfl) | (rw [if_neg (by decide +kernel)]; exact ⟨rfl, rfl⟩))
    (fun os started H enc _ => lifted os started H enc)

theorem proved : Rows.FnExactNearestPatternCardSaid :=
  Claim7.holds_tied_plain_at .later [] Rows.fnExactNearestPatternCard.laidKinds true Rows.fnExactNearestPatternCard.stood.harness Rows.fnExactNearestPatternCard.stood.looks
    over (fun _ h => by cases h) (by kernel_rfl) (fun _ h => by cases h) fnExactNearestPattern_row_tie rfl ⟨rfl, rfl⟩ (by kernel_rfl) rfl
    (fun f fn hf hfn => by
      obtain rfl : f = 4 := Option.some.inj ((show Tryd.prog.funcNamed "loop.example/g01376/laws.FnExactNearestPattern" = some 4 by kernel_rfl).symm.trans hf) |>.symm
      obtain rfl : fn = Tryd.f4 := (Option.some.inj (Tryd.func4.symm.trans hfn)).symm
      exact ⟨by kernel_rfl, fun j t ht => by
        rw [Tryd.params4] at ht
        have hm : t ∈ [56, 25, 57] := by simpa using Array.mem_of_getElem? ht
        have hall : ([56, 25, 57].all fun u => !Tryd.prog.wantsStandIn u) = true := by kernel_rfl
        exact (show Tryd.prog.wantsStandIn t = false by simpa using List.all_eq_true.1 hall t hm)⟩)
    (by kernel_rfl)
end LFnExactNearestPattern

end Go.Proofs.YtppohghejhcilaaDoor
