/- Lists of texts that come in; IndexFunc and ContainsFunc over texts. -/
import Derived.Test.YtppohghejhcilaaDoorList
import Derived.Test.YtppohghejhcilaaDoorHelp
import Derived.Test.YtppohghejhcilaaDoorAnyI
import Derived.OwnWalk
import Derived.Laws.MakeOwn
import Derived.SliceStrings
import Derived.OpenShut
import Derived.Deep.LoopGhost
import Derived.Deep.Draws
import Derived.Shelf.Abstract
namespace Go.Proofs.YtppohghejhcilaaDoor
open Go.RowKit

/-- A list of texts, wherever it lies. -/
def StrsAt (w : World) (v : Value) (n : Nat) (f : Nat → ByteArray) : Prop :=
  ∃ a cap, v = .slice a n cap ∧ (n = 0 ∨ ∃ g o, a = some ⟨g, o, none⟩ ∧ g < w.heap.size ∧ ∀ i, i < n → w.cell? ⟨g, o + i, none⟩ = some (.string (f i)))
theorem StrsAt.below {w w' : World} {v : Value} {n : Nat} {f : Nat → ByteArray} {B : Nat} (h : StrsAt w v n f) (b : Below B w w') (hB : w.heap.size ≤ B) : StrsAt w' v n f := by
  obtain ⟨a, cap, rfl, h⟩ := h
  refine ⟨a, cap, rfl, ?_⟩
  rcases h with h | ⟨g, o, rfl, hg, h⟩
  · exact .inl h
  · exact .inr ⟨g, o, rfl, Nat.lt_of_lt_of_le hg b.size, fun i hi => (b.cell (p := ⟨g, o + i, none⟩) (Nat.lt_of_lt_of_le hg hB)).trans (h i hi)⟩
theorem StrsAt.shape {w : World} {v : Value} {n : Nat} {f : Nat → ByteArray} (h : StrsAt w v n f) : ∃ a cap, v = .slice a n cap := by
  obtain ⟨a, cap, rfl, _⟩ := h
  exact ⟨a, cap, rfl⟩
theorem StrsAt.at {w : World} {a : Option Addr} {cap n : Nat} {f : Nat → ByteArray} (h : StrsAt w (.slice a n cap) n f) {k : Nat} (hk : k < n) :
    ∃ g o, a = some ⟨g, o, none⟩ ∧ w.cell? ⟨g, o + k, none⟩ = some (.string (f k)) := by
  obtain ⟨a', cap', e, h⟩ := h
  cases e
  rcases h with h | ⟨g, o, rfl, _, h⟩
  · omega
  · exact ⟨g, o, rfl, h k hk⟩
theorem StrsAt.none0 (w : World) (a : Option Addr) (cap : Nat) (f : Nat → ByteArray) : StrsAt w (.slice a 0 cap) 0 f := ⟨a, cap, rfl, .inl rfl⟩
theorem IsList.strs {w : World} {base n : Nat} {v : Value} {f : Nat → ByteArray} (h : IsList w base v 1 n (fun i => .string (f i))) : StrsAt w v n f := by
  rcases h with ⟨rfl, a, cap, rfl⟩ | ⟨g, cap, cur, rfl, hg, hr, hs, hf⟩
  · exact ⟨a, cap, rfl, .inl rfl⟩
  · exact ⟨_, cap, rfl, .inr ⟨g, 0, rfl, rowAt_lt hr, fun i hi => by rw [Nat.zero_add, cell_of_rowAt hr]; exact hf i (by omega)⟩⟩

section
open Go.ChangeShapes Go.WideShapes
variable {H : Type} {enc : TypeId × Value → H} {w : World} {base b0 : Nat} {spare : Nat → Bool} {held : Bool} {r : Reach}
set_option maxRecDepth 100000 in
/-- A list of texts that came in. -/
theorem open_strs {v : Value} {d : DataW H} {p : List MemPlace} (hv : Value.okWide Tryd.prog w r b0 57 v) (h : DataW.Trod enc Tryd.prog w base spare held 57 v d p) :
    ∃ (n : Nat) (f : Nat → ByteArray), StrsAt w v n f ∧ n ≤ maxLen ∧ ∀ i, i < n → (f i).size ≤ maxLen := by
  obtain ⟨a, len, cap, rfl⟩ := okWide_slice Tryd.underlying57 hv
  obtain ⟨fuel, hf⟩ := h
  rcases open_strings Tryd.underlying57 Tryd.underlying9 (by kernel_rfl) hf with ⟨hc, _⟩ | ⟨a', len', cap', zs, hc, _, hl, hm, hmm, _, hcell, hwf⟩
  · simp [Value.cells] at hc
    obtain ⟨rfl, rfl, rfl⟩ := hc
    exact ⟨0, fun _ => ByteArray.empty, ⟨none, 0, rfl, .inl rfl⟩, by omega, by omega⟩
  · simp [Value.cells] at hc
    obtain ⟨rfl, rfl, rfl⟩ := hc
    have hlm : len ≤ zs.length := by rw [hmm]; split <;> omega
    refine ⟨len, fun i => zs.getD i ByteArray.empty, ⟨some a', cap, rfl, ?_⟩, by omega, ?_⟩
    · by_cases h0 : len = 0
      · exact .inl h0
      right
      obtain ⟨g, o, spot⟩ := a'
      have hsp : spot = none := by simpa [Addr.add] using World.cell?_spot (hcell 0 (by omega))
      subst hsp
      have hadd : ∀ x, (⟨g, o, none⟩ : Addr).add x = ⟨g, o + x, none⟩ := fun x => by unfold Addr.add; split <;> simp_all
      refine ⟨g, o, rfl, ?_, fun i hi => by rw [← hadd]; exact hcell i (by omega)⟩
      exact World.block_lt_of_cell? w _ (hcell 0 (by omega))
    · intro i hi
      have : zs.getD i ByteArray.empty ∈ zs := by
        rw [List.getD_eq_getElem?_getD, List.getElem?_eq_getElem (by omega), Option.getD_some]
        exact List.getElem_mem _
      exact hwf _ this
end
def GivesSt (w : World) (n : Nat) (f : Nat → ByteArray) (e : Ending) (w' : World) : Prop :=
  ∃ a, e = .returned (.slice a n n) ∧ StrsAt w' (.slice a n n) n f ∧ Below w.heap.size w w'
theorem A_infoStr : (Tryd.prog.info? 9).map (fun i => (i.zero, i.size, i.bytes)) = some (some (.string ByteArray.empty), 1, 16) := by kernel_rfl
set_option maxRecDepth 100000 in
set_option maxHeartbeats 1000000 in
theorem toStringS_any (v : Value) (n : Nat) (f : Nat → ByteArray) (w : World) (hv : StrsAt w v n f) (hn : n ≤ 2000000) :
    Calls Tryd.prog 32 #[v] w (GivesSt w n f) := by
  have HV := Lib.hid hv
  obtain ⟨a, cap, rfl⟩ := hv.shape
  clear hv
  obtain ⟨i0, hi0, hz0, hz1, hz2⟩ := info_parts A_infoStr
  go_enter Tryd.func32, Tryd.ntmps32
  go_wp2_with (at_make; refine wpList_make_full _ rfl _ _ 57 rfl w.heap.size 9 i0 (.string ByteArray.empty) 1 Tryd.underlying57 hi0 hz0 hz1 .i64 .i64 n n n rfl rfl rfl rfl (by rw [hz2]; omega) (by unfold maxLen; omega) (by simp) ?_)
  intro w1 own1 grow1
  have rg : ∃ cur, rowAt w1 w.heap.size = some cur ∧ cur.size = n := by
    obtain ⟨hl, ⟨h, _⟩ | ⟨g', cap', cur, he, hg, hh, hn', hm', hs, ht⟩⟩ := own1
    · cases h
    · cases he
      exact ⟨cur, rowAt_of_heap hh, by omega⟩
  have B1 : Below w.heap.size w w1 := (Below.refl w.heap.size w).grown grow1 (by simp) (by intro x hx; cases hx)
  clear own1 grow1
  go_wp2_with fail
  go_loopw [4] (fun i W => ∃ (k : Nat) (cur : Array Value), k ≤ n ∧ i = .int .i64 k ∧ rowAt W w.heap.size = some cur ∧ cur.size = n ∧ Hid (∀ i, i < k → cur[i]? = some (.string (f i))) ∧ Below w.heap.size w W) (fun i _ => n - (intOf i).toNat)
  case atStart =>
    obtain ⟨cur, hr, hs⟩ := rg
    exact ⟨0, cur, by omega, rfl, hr, hs, Lib.hid (by omega), B1⟩
  case round =>
    obtain ⟨k, cur, hk, rfl, hr, hs, hf, hB⟩ := hrel
    clear rg B1
    by_cases hlt : k < n
    · obtain ⟨g, o, rfl, c0⟩ := (HV.out.below hB (Nat.le_refl _)).at hlt
      have hi0' : 0 ≤ (k : Int) := by omega
      have hi1 : (k : Int) < n := by omega
      have hfro := frozen_of_rowAt hr
      have hkc : k < cur.size := by omega
      have k0 : wr.cell? ⟨w.heap.size, k, none⟩ = some cur[k] := by rw [cell_of_rowAt hr, Array.getElem?_eq_getElem hkc]
      have R2 := Lib.hid hr
      have HS := Lib.hid hs
      have BB2 := Lib.hid hB
      clear hr hB hz0 hz1 hz2 hi0 hs
      go_wp2_with fail
      have r1 := rowAt_setCell_at wr w.heap.size k (.string (f k)) (by simp [R2.out])
      rw [R2.out, Option.getD_some] at r1
      refine ⟨⟨k + 1, _, by omega, by go_num, r1, by simp [HS.out], Lib.hid ?_, BB2.out.setCell (p := ⟨_, k, none⟩) (Nat.le_refl _) _⟩, by simp [intOf]; omega⟩
      intro i hi
      by_cases hi0 : i = k
      · subst hi0
        rw [Array.getElem?_setIfInBounds_self_of_lt hkc]
      · rw [Array.getElem?_setIfInBounds_ne (Ne.symm hi0)]
        exact hf.out i (by omega)
    · obtain rfl : k = n := by omega
      go_wp2_with fail
      go_ret
      exact ⟨_, rfl, ⟨_, _, rfl, .inr ⟨w.heap.size, 0, rfl, rowAt_lt hr, fun i hi => by rw [Nat.zero_add, cell_of_rowAt hr]; exact hf.out i (by omega)⟩⟩, hB⟩
/-- A predicate on texts as a function value: what it answers in every later world; it changes nothing old. -/
def PredS (g : FuncId) (lb : Array Value) (p : ByteArray → Bool) (w : World) : Prop :=
  ∀ (x : ByteArray) W, x.size ≤ 9223372036854775807 → Below w.heap.size w W → Calls Tryd.prog g (#[.string x] ++ lb) W fun e w' => e = .returned (.bool (p x)) ∧ Below W.heap.size W w'
theorem PredS.later {g : FuncId} {lb : Array Value} {p : ByteArray → Bool} {w w' : World} (h : PredS g lb p w) (b : Below w.heap.size w w') : PredS g lb p w' :=
  fun x W hx B => h x W hx (bnext b B b.size)
set_option maxHeartbeats 1000000 in
theorem idxFuncS_any (g : FuncId) (lb : Array Value) (p : ByteArray → Bool) (eg : ∀ args w, (callFunc g args).run Tryd.prog w = .ok (.enter g args) w) (v : Value) (n : Nat) (f : Nat → ByteArray) (w : World) (hp : PredS g lb p w) (hv : StrsAt w v n f) (hn : n ≤ 2000000) (hs : ∀ i, i < n → (f i).size ≤ 9223372036854775807) :
    Calls Tryd.prog 109 #[v, .func (.func g) #[] lb] w fun e w' => e = .returned (.int .i64 (firstI (fun i => p (f i)) n)) ∧ Below w.heap.size w w' := by
  have HP := Lib.hid hp
  have HS := Lib.hid hs
  clear hs
  have HV := Lib.hid hv
  obtain ⟨a, cap, rfl⟩ := hv.shape
  clear hp hv
  go_enter Tryd.func109, Tryd.ntmps109
  go_wp2_with fail
  go_loopg [5, 8] n (fun gg _ i W => ∃ k : Nat, k ≤ n ∧ n - k ≤ gg ∧ i = .int .i64 k ∧ Hid (∀ j, j < k → p (f j) = false) ∧ Below w.heap.size w W)
  case atStart => exact ⟨0, by omega, by omega, rfl, Lib.hid (by omega), Below.refl _ _⟩
  case round =>
    obtain ⟨k, hk, hg, rfl, hF, hB⟩ := hrel
    by_cases hlt : k < n
    · obtain ⟨b, o, rfl, cc⟩ := (HV.out.below hB (Nat.le_refl _)).at hlt
      have hi0 : 0 ≤ (k : Int) := by omega
      have hi1 : (k : Int) < n := by omega
      have hcall := HP.out (f k) _ (HS.out k hlt) hB
      have HB := Lib.hid hB
      clear hB
      cases hq : p (f k) with
      | true =>
        rw [hq] at hcall
        have HQ := Lib.hid hq
        clear hq
        go_wp2_with (go_at_fn g; refine (hcall).mono ?_; rintro e w' ⟨rfl, b'⟩)
        have B2 := bnext HB.out b' HB.out.size
        clear hcall
        go_ret
        exact ⟨by rw [firstI_hit hlt hF.out HQ.out]; rfl, B2⟩
      | false =>
        rw [hq] at hcall
        have HQ := Lib.hid hq
        clear hq
        go_wp2_with (go_at_fn g; refine (hcall).mono ?_; rintro e w' ⟨rfl, b'⟩)
        have B2 := bnext HB.out b' HB.out.size
        clear hcall
        go_roundg (n - (k + 1))
        case measure => omega
        case rel => exact ⟨k + 1, by omega, by omega, by go_num, Lib.hid (fun j hj => by
          by_cases e : j = k
          · subst e; exact HQ.out
          · exact hF.out j (by omega)), B2⟩
    · obtain rfl : k = n := by omega
      go_wp2_with fail
      go_ret
      exact ⟨by rw [firstI_miss hF.out]; rfl, hB⟩
theorem hasFuncS_any (g : FuncId) (lb : Array Value) (p : ByteArray → Bool) (eg : ∀ args w, (callFunc g args).run Tryd.prog w = .ok (.enter g args) w) (v : Value) (n : Nat) (f : Nat → ByteArray) (w : World) (hp : PredS g lb p w) (hv : StrsAt w v n f) (hn : n ≤ 2000000) (hs : ∀ i, i < n → (f i).size ≤ 9223372036854775807) :
    Calls Tryd.prog 94 #[v, .func (.func g) #[] lb] w fun e w' => e = .returned (.bool (anyI (fun i => p (f i)) n)) ∧ Below w.heap.size w w' := by
  have hbd := firstI_bd (fun i => p (f i)) n
  have CX := idxFuncS_any g lb p eg v n f w hp hv hn hs
  obtain ⟨a, cap, rfl⟩ := hv.shape
  unfold anyI
  generalize firstI (fun i => p (f i)) n = z at *
  clear hp hv hs
  by_cases hz : 0 ≤ z
  · have hd : decide (0 ≤ z) = true := by simp [hz]
    rw [hd]
    go_enter Tryd.func94, Tryd.ntmps94
    go_wp2_with fail
    refine CX.mono ?_
    rintro e w1 ⟨rfl, b1⟩
    go_wp2_with fail
    go_ret
    exact ⟨rfl, b1⟩
  · have hd : decide (0 ≤ z) = false := by simp; omega
    rw [hd]
    go_enter Tryd.func94, Tryd.ntmps94
    go_wp2_with fail
    refine CX.mono ?_
    rintro e w1 ⟨rfl, b1⟩
    go_wp2_with fail
    go_ret
    exact ⟨rfl, b1⟩
end Go.Proofs.YtppohghejhcilaaDoor
