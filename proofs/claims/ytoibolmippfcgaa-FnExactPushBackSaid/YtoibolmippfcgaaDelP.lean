/- slices.DeleteFunc at places: in place; the builtin clear of elements of several cells. -/
import Derived.Test.YtoibolmippfcgaaConP
import Derived.Test.YtoibolmippfcgaaRowT
import Derived.Test.YtoibolmippfcgaaFlt
import Derived.Laws.CopyRow
namespace Go.Proofs.Ytoibolmippfcgaa
open Go.RowKit

/-- clear(s): what lies ahead stays. -/
theorem run_clear_rowN {P : Program} (w : World) (t e : TypeId) (z : Value) (ht : P.underlying t = some (.slice e)) (hv : ∀ w, (zeroValue e).run P w = .ok z w) (h1 : ∀ v, v ∈ z.cells → v.oneCell' = true) (g o n c : Nat) (cur : Array Value)
    (hg : rowAt w g = some cur) (hn : 0 < n) (hfit : o + n * z.cells.size ≤ cur.size) :
    ∃ Y : Array Value, (∀ ty, (Builtin.clear_ #[t] ty #[.slice (some ⟨g, o, none⟩) n c]).run P w = .ok (.tuple #[]) (w.setRow g Y)) ∧ Y.size = cur.size ∧ ∀ x, x < o → Y[x]? = cur[x]? := by
  obtain ⟨k, hk⟩ := rowAt_some hg
  have hsz : (Builtin.zeroCells z.cells n).size = n * z.cells.size := by simp [Builtin.zeroCells]
  have hone : ∀ v ∈ (Builtin.zeroCells z.cells n).toList, v.oneCell' = true := by
    intro v hv
    simp only [Builtin.zeroCells, Array.toList_map, List.mem_map] at hv
    obtain ⟨i, hi, rfl⟩ := hv
    by_cases hz : 0 < z.cells.size
    · have hlt := Nat.mod_lt i hz
      rw [getElem!_pos z.cells _ hlt]
      exact h1 _ (Array.getElem_mem hlt)
    · simp only [Array.toList_range, List.mem_range] at hi
      rw [show z.cells.size = 0 by omega] at hi
      omega
  have hst := run_storeCells_at P g o k (Builtin.zeroCells z.cells n).toList 0 cur w hk (by simp only [Array.length_toList, hsz]; simpa using hfit) hone
  refine ⟨(cur.toList.take o ++ (Builtin.zeroCells z.cells n).toList ++ cur.toList.drop (o + n * z.cells.size)).toArray, fun ty => ?_, ?_, fun x hx => ?_⟩
  · obtain ⟨m, rfl⟩ : ∃ m, n = m + 1 := ⟨n - 1, by omega⟩
    simp only [Nat.add_zero, Array.length_toList, hsz] at hst
    simp [Builtin.clear_, run_underlying ht, hv, hst]
  · simp [hsz]; omega
  · rw [List.getElem?_toArray, List.append_assoc, List.getElem?_append_left (by simp; omega), List.getElem?_take, if_pos hx, Array.getElem?_toList]

/-- Behind k places: how many of them stay, and their cells. -/
def kpt (p : Int → Int → Bool) (f : Nat → Int) : Nat → Nat × (Nat → Int)
  | 0 => (0, f)
  | k + 1 => if p (f (k * 2)) (f (k * 2 + 1)) then kpt p f k else ((kpt p f k).1 + 1, fun x => if x = (kpt p f k).1 * 2 then f (k * 2) else if x = (kpt p f k).1 * 2 + 1 then f (k * 2 + 1) else (kpt p f k).2 x)
theorem kpt_del {p : Int → Int → Bool} {f : Nat → Int} {k : Nat} (h : p (f (k * 2)) (f (k * 2 + 1)) = true) : kpt p f (k + 1) = kpt p f k := by rw [kpt, if_pos h]
theorem kpt_keep {p : Int → Int → Bool} {f : Nat → Int} {k : Nat} (h : p (f (k * 2)) (f (k * 2 + 1)) = false) : kpt p f (k + 1) = ((kpt p f k).1 + 1, fun x => if x = (kpt p f k).1 * 2 then f (k * 2) else if x = (kpt p f k).1 * 2 + 1 then f (k * 2 + 1) else (kpt p f k).2 x) := by rw [kpt, if_neg (by simp [h])]
theorem kpt_le {p : Int → Int → Bool} {f : Nat → Int} : ∀ k, (kpt p f k).1 ≤ k
  | 0 => Nat.le_refl _
  | k + 1 => by
    have := kpt_le (p := p) (f := f) k
    cases h : p (f (k * 2)) (f (k * 2 + 1)) with
    | true => rw [kpt_del h]; omega
    | false => rw [kpt_keep h]; dsimp only; omega
/-- None of the first k is taken out: all stay as they are. -/
theorem kpt_all {p : Int → Int → Bool} {f : Nat → Int} : ∀ {k}, (∀ q, q < k → p (f (q * 2)) (f (q * 2 + 1)) = false) → (kpt p f k).1 = k ∧ ∀ x, (kpt p f k).2 x = f x
  | 0, _ => ⟨rfl, fun _ => rfl⟩
  | k + 1, h => by
    obtain ⟨h1, h2⟩ := kpt_all (p := p) (f := f) (k := k) fun q hq => h q (by omega)
    rw [kpt_keep (h k (by omega))]
    refine ⟨by dsimp only; omega, fun x => ?_⟩
    dsimp only
    rw [h1]
    split
    · next e => rw [e]
    · split
      · next e => rw [e]
      · exact h2 x

/-- Places of at most 8 by 8. -/
def inD (f : Nat → Int) (n : Nat) : Prop := ∀ k, k < n → ∃ i j : Nat, i < 8 ∧ j < 8 ∧ f (k * 2) = i ∧ f (k * 2 + 1) = j
/-- A predicate on places as a function value, that is asked while blocks from B on change. -/
def PredB (B : Nat) (g : FuncId) (lb : Array Value) (p : Int → Int → Bool) (w : World) : Prop :=
  ∀ (i j : Nat) W, i < 8 → j < 8 → Below B w W → Calls Try.prog g (#[.agg #[.int .i8 i, .int .i8 j]] ++ lb) W fun e w' => e = .returned (.bool (p i j)) ∧ Below W.heap.size W w'
theorem PredB.call {B : Nat} {g : FuncId} {lb : Array Value} {p : Int → Int → Bool} {w W : World} {f : Nat → Int} {n k : Nat} (h : PredB B g lb p w) (hd : inD f n) (hk : k < n) (hW : Below B w W) :
    Calls Try.prog g (#[.agg #[.int .i8 (f (k * 2)), .int .i8 (f (k * 2 + 1))]] ++ lb) W fun e w' => e = .returned (.bool (p (f (k * 2)) (f (k * 2 + 1)))) ∧ Below W.heap.size W w' := by
  obtain ⟨i, j, i8, j8, e0, e1⟩ := hd k hk
  rw [e0, e1]
  exact h i j W i8 j8 hW

set_option maxRecDepth 100000 in
set_option maxHeartbeats 1000000 in
theorem idxFuncD_any (g : FuncId) (lb : Array Value) (p : Int → Int → Bool) (eg : ∀ args w, (callFunc g args).run Try.prog w = .ok (.enter g args) w) (B n : Nat) (v : Value) (f : Nat → Int) (w : World) (hBw : B ≤ w.heap.size) (hp : PredB B g lb p w) (hd : inD f n) (hv : IsList w B v 2 n (fun i => .int .i8 (f i))) (hn : n ≤ 2000000) :
    Calls Try.prog 107 #[v, .func (.func g) #[] lb] w fun e w' => e = .returned (.int .i64 (firstI (fun i => p (f (i * 2)) (f (i * 2 + 1))) n)) ∧ Below w.heap.size w w' := by
  have HP := Lib.hid hp
  have HD := Lib.hid hd
  have HV := Lib.hid hv
  obtain ⟨a, cap, rfl⟩ := hv.shape
  clear hp hv hd
  go_enter Try.func107, Try.ntmps107
  go_wp2_with fail
  go_loopg [5, 8] n (fun gg _ i W => ∃ k : Nat, k ≤ n ∧ n - k ≤ gg ∧ i = .int .i64 k ∧ Hid (∀ j, j < k → p (f (j * 2)) (f (j * 2 + 1)) = false) ∧ Below w.heap.size w W)
  case atStart => exact ⟨0, by omega, by omega, rfl, Lib.hid (by omega), Below.refl _ _⟩
  case round =>
    obtain ⟨k, hk, hg, rfl, hF, hB⟩ := hrel
    by_cases hlt : k < n
    · obtain ⟨b, rfl, c0, c1⟩ := (HV.out.below hB (Nat.le_refl _)).pl hlt
      have hi0 : 0 ≤ (k : Int) := by omega
      have hi1 : (k : Int) < n := by omega
      have hcall := HP.out.call HD.out hlt (hB.mono hBw)
      have HB := Lib.hid hB
      clear hB
      cases hq : p (f (k * 2)) (f (k * 2 + 1)) with
      | true =>
        rw [hq] at hcall
        have HQ := Lib.hid hq
        clear hq
        go_wp2_with (go_at_fn g; refine (hcall).mono ?_; rintro e w' ⟨rfl, b'⟩)
        have B2 := bnext HB.out b' HB.out.size
        clear hcall
        go_ret
        exact ⟨by rw [firstI_hit hlt hF.out HQ.out]; rfl, B2⟩
      | false =>
        rw [hq] at hcall
        have HQ := Lib.hid hq
        clear hq
        go_wp2_with (go_at_fn g; refine (hcall).mono ?_; rintro e w' ⟨rfl, b'⟩)
        have B2 := bnext HB.out b' HB.out.size
        clear hcall
        go_roundg (n - (k + 1))
        case measure => omega
        case rel => exact ⟨k + 1, by omega, by omega, by go_num, Lib.hid (fun j hj => by
          by_cases e : j = k
          · subst e; exact HQ.out
          · exact hF.out j (by omega)), B2⟩
    · obtain rfl : k = n := by omega
      go_wp2_with fail
      go_ret
      exact ⟨by rw [firstI_miss hF.out]; rfl, hB⟩
theorem zero_placeD (w : World) : (zeroValue 68).run Try.prog w = .ok (.agg #[.int .i8 0, .int .i8 0]) w := by
  kernel_rfl

theorem firstI_get {p : Nat → Bool} : ∀ {n : Nat}, 0 ≤ firstI p n → ∃ k, k < n ∧ firstI p n = k ∧ (∀ j, j < k → p j = false) ∧ p k = true
  | 0, h => by simp [firstI] at h
  | n + 1, h => by
    by_cases e : 0 ≤ firstI p n
    · obtain ⟨k, h1, h2, h3⟩ := firstI_get e
      exact ⟨k, by omega, by rw [firstI, if_pos e, h2], h3⟩
    · have hm : firstI p n = -1 := by have := (firstI_bd p n).1; omega
      rw [firstI, if_neg e] at h ⊢
      cases hp : p n with
      | true => exact ⟨n, by omega, by simp, firstI_of hm, hp⟩
      | false => rw [hp] at h; simp at h

set_option maxRecDepth 100000 in
set_option maxHeartbeats 2000000 in
theorem deleteP_any (g : FuncId) (lb : Array Value) (p : Int → Int → Bool) (eg : ∀ args w, (callFunc g args).run Try.prog w = .ok (.enter g args) w) (B n cap : Nat) (u : Option Addr) (f : Nat → Int) (w : World) (hp : PredB B g lb p w) (hd : inD f n) (hB : B ≤ w.heap.size) (hv : IsList w B (.slice u n cap) 2 n (fun i => .int .i8 (f i))) (hn : n ≤ cap) (hn2 : n ≤ 2000000) :
    Calls Try.prog 92 #[.slice u n cap, .func (.func g) #[] lb] w fun e w' => e = .returned (.slice u (kpt p f n).1 cap) ∧ IsList w' B (.slice u (kpt p f n).1 cap) 2 (kpt p f n).1 (fun i => .int .i8 ((kpt p f n).2 i)) ∧ Below B w w' := by
  have CX := idxFuncD_any g lb p eg B n (.slice u n cap) f w hB hp hd hv (by omega)
  have HDm := Lib.hid hd
  clear hd
  have HP := Lib.hid hp
  have HV := Lib.hid hv
  obtain ⟨hz0, hz1⟩ := firstI_bd (fun i => p (f (i * 2)) (f (i * 2 + 1))) n
  obtain ⟨z, HZ⟩ : ∃ z, Hid (z = firstI (fun i => p (f (i * 2)) (f (i * 2 + 1))) n) := ⟨_, Lib.hid rfl⟩
  rw [← HZ.out] at CX hz0 hz1
  clear hp hv

  by_cases hz : z = -1
  · obtain ⟨k1, k2⟩ := kpt_all (firstI_of (HZ.out.symm.trans hz))
    have HR : Hid (IsList w B (.slice u (kpt p f n).1 cap) 2 (kpt p f n).1 (fun i => .int .i8 ((kpt p f n).2 i))) := Lib.hid (by
      rw [k1, show (kpt p f n).2 = f from funext k2]; exact HV.out)
    have HK := Lib.hid k1
    clear k1 k2 HP HV
    subst hz
    go_enter Try.func92, Try.ntmps92
    go_wp2_with fail
    refine CX.mono ?_
    rintro e w1 ⟨rfl, b1⟩
    go_wp2_with fail
    go_ret
    exact ⟨by rw [HK.out]; rfl, HR.out.below b1 (Nat.le_refl _), b1.mono hB⟩
  · obtain ⟨k0, hk0, hzk, hF, hT⟩ := firstI_get (show 0 ≤ firstI (fun i => p (f (i * 2)) (f (i * 2 + 1))) n by have := HZ.out; omega)
    obtain rfl : z = k0 := HZ.out.trans hzk
    obtain ⟨m1, m2⟩ := kpt_all hF
    obtain ⟨gg, cur0, rfl, hgg, hr, hs, hf⟩ : ∃ gg cur0, u = some ⟨gg, 0, none⟩ ∧ B ≤ gg ∧ rowAt w gg = some cur0 ∧ n * 2 ≤ cur0.size ∧ ∀ i, i < n * 2 → cur0[i]? = some (.int .i8 (f i)) := by
      rcases HV.out with ⟨h0, _⟩ | ⟨gg, cap', cur0, e, hgg, hr, hs, hf⟩
      · omega
      · cases e; exact ⟨gg, cur0, rfl, hgg, hr, hs, hf⟩
    obtain ⟨ty, hty⟩ := rowAt_some hr
    have H0 : Hid ((kpt p f (k0 + 1)).1 = k0 ∧ ∀ x, (kpt p f (k0 + 1)).2 x = f x) := Lib.hid (by rw [kpt_del hT]; exact ⟨m1, m2⟩)
    have HR0 : Hid (RowT w gg ty cur0) := Lib.hid hty
    have HF0 := Lib.hid hf
    have e1 : ((k0 : Int) == -1) = false := by simp
    clear HZ hz hzk hF hT m1 m2 hr hf hty hz0 hz1
    go_enter Try.func92, Try.ntmps92
    go_wp2_with fail
    refine CX.mono ?_
    rintro e w1 ⟨rfl, b1⟩
    have B1 := Lib.hid (b1.mono hB)
    have HR1 := Lib.hid (HR0.out.below b1)
    clear b1 CX
    go_wp2_with fail
    go_loopw [5, 6] (fun i j W => ∃ (k m : Nat) (cur : Array Value), k ≤ n ∧ m < k ∧ Hid ((kpt p f k).1 = m) ∧ i = .int .i64 m ∧ j = .int .i64 k ∧ Hid (RowT W gg ty cur) ∧ n * 2 ≤ cur.size ∧ Hid (∀ x, x < m * 2 → cur[x]? = some (.int .i8 ((kpt p f k).2 x))) ∧ Hid (∀ x, k * 2 ≤ x → x < n * 2 → cur[x]? = some (.int .i8 (f x))) ∧ Below B w W) (fun _ j _ => n - (intOf j).toNat)
    case atStart => exact ⟨k0 + 1, k0, cur0, by omega, by omega, Lib.hid H0.out.1, rfl, by go_num, HR1, hs, Lib.hid (fun x hx => by rw [H0.out.2]; exact HF0.out x (by omega)), Lib.hid (fun x _ hx => HF0.out x hx), B1.out⟩
    case round =>
      clear H0 HF0 HR0 HR1 B1 hs cur0
      obtain ⟨k, m, cur, hk, hm, HM, rfl, rfl, HRW, hs, HC, HD, hBW⟩ := hrel
      have HBW := Lib.hid hBW
      clear hBW
      have hsz : B ≤ wr.heap.size := Nat.le_trans hB HBW.out.size
      by_cases hlt : k < n
      · have hi0 : 0 ≤ (k : Int) := by omega
        have hi1 : (k : Int) < n := by omega
        have c0 : wr.cell? ⟨gg, k * 2, none⟩ = some (.int .i8 (f (k * 2))) := by rw [cell_of_rowAt HRW.out.row]; exact HD.out _ (by omega) (by omega)
        have c1 : wr.cell? ⟨gg, k * 2 + 1, none⟩ = some (.int .i8 (f (k * 2 + 1))) := by rw [cell_of_rowAt HRW.out.row]; exact HD.out _ (by omega) (by omega)
        have hcall := HP.out.call HDm.out hlt (W := wr.alloc (.cells #[.int .i8 (f (k * 2)), .int .i8 (f (k * 2 + 1))] 68)) (HBW.out.alloc hsz _)
        have RB := Lib.hid (HRW.out.alloc (.cells #[.int .i8 (f (k * 2)), .int .i8 (f (k * 2 + 1))] 68))
        have XB := Lib.hid (rowAt_alloc_at wr #[.int .i8 (f (k * 2)), .int .i8 (f (k * 2 + 1))] 68 wr.heap.size rfl)
        have hgw : gg < wr.heap.size := HRW.out.lt
        cases hq : p (f (k * 2)) (f (k * 2 + 1)) with
        | true =>
          rw [hq] at hcall
          have HQ := Lib.hid (kpt_del hq)
          clear hq
          go_wp2_with (go_at_fn g; refine (hcall).mono ?_; rintro e w' ⟨rfl, b'⟩)
          have B2 := (HBW.out.alloc hsz (.cells #[.int .i8 (f (k * 2)), .int .i8 (f (k * 2 + 1))] 68)).trans (b'.mono (by simp; omega))
          have R2 := Lib.hid (RB.out.below b')
          clear hcall b' c0 c1
          go_roundw
          case rel => exact ⟨k + 1, m, cur, by omega, by omega, Lib.hid (by rw [HQ.out]; exact HM.out), rfl, by go_num, R2, hs, Lib.hid (by rw [HQ.out]; exact HC.out), Lib.hid (fun x h1 h2 => HD.out x (by omega) h2), B2⟩
          case measure => simp [intOf]; omega
        | false =>
          rw [hq] at hcall
          have HQ := Lib.hid (kpt_keep hq)
          clear hq
          have j0 : 0 ≤ (m : Int) := by omega
          have j1 : (m : Int) < n := by omega
          go_wp2_with (go_at_fn g; refine (hcall).mono ?_; rintro e w' ⟨rfl, b'⟩; have R2 := RB.out.below b'; have x0 := cell_of_rowAt (brow b' XB.out) 0; have x1 := cell_of_rowAt (brow b' XB.out) 1; have y0 : w'.cell? ⟨gg, m * 2, none⟩ = some (cur[m * 2]'(by omega)) := by {rw [cell_of_rowAt R2.row]; exact Array.getElem?_eq_getElem _}; have y1 : w'.cell? ⟨gg, m * 2 + 1, none⟩ = some (cur[m * 2 + 1]'(by omega)) := by {rw [cell_of_rowAt R2.row]; exact Array.getElem?_eq_getElem _}; have fz := frozen_of_rowAt R2.row)
          have B2 := (HBW.out.alloc hsz (.cells #[.int .i8 (f (k * 2)), .int .i8 (f (k * 2 + 1))] 68)).trans (b'.mono (by simp; omega))
          have B3 := (B2.setCell (p := ⟨gg, m * 2, none⟩) hgg (.int .i8 (f (k * 2)))).setCell (p := ⟨gg, m * 2 + 1, none⟩) hgg (.int .i8 (f (k * 2 + 1)))
          have R3 := Lib.hid ((R2.set (o := m * 2) (.int .i8 (f (k * 2)))).set (o := m * 2 + 1) (.int .i8 (f (k * 2 + 1))))
          clear hcall b' c0 c1 x0 x1 y0 y1 fz
          go_roundw
          case rel =>
            refine ⟨k + 1, m + 1, _, by omega, by omega, Lib.hid (by rw [HQ.out]; dsimp only; rw [HM.out]), by go_num, by go_num, R3, by simpa using hs, Lib.hid (fun x hx => ?_), Lib.hid (fun x h1 h2 => ?_), B3⟩
            · rw [HQ.out]
              dsimp only
              rw [HM.out, Array.getElem?_setIfInBounds, Array.getElem?_setIfInBounds]
              by_cases e1 : x = m * 2 + 1
              · subst e1
                rw [if_pos rfl, if_pos (by simp; omega), if_neg (by omega), if_pos rfl]
              · by_cases e0 : x = m * 2
                · subst e0
                  rw [if_neg (by omega), if_pos rfl, if_pos (by omega), if_pos rfl]
                · rw [if_neg (Ne.symm e1), if_neg (Ne.symm e0), if_neg e0, if_neg e1]
                  exact HC.out x (by omega)
            · rw [Array.getElem?_setIfInBounds, Array.getElem?_setIfInBounds, if_neg (by omega), if_neg (by omega)]
              exact HD.out x (by omega) h2
          case measure => simp [intOf]; omega
      · obtain rfl : k = n := by omega
        obtain ⟨Y, hcl, hYs, hYx⟩ := run_clear_rowN (P := Try.prog) wr 32 68 (.agg #[.int .i8 0, .int .i8 0]) Try.underlying32 zero_placeD (by intro v hv; simp [Value.cells] at hv; subst hv; rfl) gg (m * 2) (k - m) (cap - m) cur HRW.out.row (by omega) (by simp [Value.cells]; omega)
        have HY := Lib.hid hYx
        have HS := Lib.hid hYs
        have n0 : 0 ≤ (m : Int) := by omega
        have n1 : (m : Int) ≤ k := by omega
        have n2 : (m : Int) ≤ cap := by omega
        have n3 : ¬ cap = m := by omega
        have n4 : ¬ k = m := by omega
        have n5 : (k : Int) ≤ cap := by omega
        clear hYx hYs
        go_wp2_with fail
        go_ret
        rw [HM.out]
        exact ⟨rfl, .inr ⟨gg, cap, Y, rfl, hgg, rowAt_setRow_at _ _ _ (by rw [HRW.out.row]; rfl), by rw [HS.out]; omega, fun i hi => by rw [HY.out i hi]; exact HC.out i hi⟩, below_setRow HBW.out hgg _⟩
end Go.Proofs.Ytoibolmippfcgaa
