/- UnitsOf: contracts of both sides. -/
import Derived.Test.YtdegfcgknppcoaaCrs
import Derived.Test.YtdegfcgknppcoaaRowT
import Derived.Test.YtdegfcgknppcoaaLift
import Derived.Test.YtdegfcgknppcoaaShpM
import Derived.Test.YtdegfcgknppcoaaShpL
import Derived.Maps.AppendAt
namespace Go.Proofs.Ytdegfcgknppcoaa
open Go.RowKit Go.Shelf

/-- How many units some courses have. -/
def coSum {m : Nat} (f : Nat → Int) (l : List (Co m)) : Int := (l.map fun x => f (x.1 * 2 + 1) - f (x.1 * 2)).sum
theorem coSum_snoc {m : Nat} (f : Nat → Int) (l : List (Co m)) (x : Co m) : coSum f (l ++ [x]) = coSum f l + (f (x.1 * 2 + 1) - f (x.1 * 2)) := by simp [coSum]
theorem coSum_bd {m : Nat} {f : Nat → Int} (hf : ∀ i, i < m * 2 → 0 ≤ f i ∧ f i ≤ 200) : ∀ l : List (Co m), -200 * (l.length : Int) ≤ coSum f l ∧ coSum f l ≤ 200 * (l.length : Int)
  | [] => by simp [coSum]
  | x :: l => by
    have h1 := coSum_bd hf l
    have h2 := hf (x.1 * 2) (by have := x.2; omega)
    have h3 := hf (x.1 * 2 + 1) (by have := x.2; omega)
    simp only [coSum, List.map_cons, List.sum_cons, List.length_cons] at *
    omega
/-- The units of the first k courses. -/
def unitsTo (f : Nat → Int) : Nat → Int
  | 0 => 0
  | k + 1 => unitsTo f k + (f (k * 2 + 1) - f (k * 2))
theorem coSum_upto {m : Nat} (f : Nat → Int) : ∀ k, k ≤ m → coSum f (coUpto m k) = unitsTo f k
  | 0, _ => rfl
  | k + 1, hk => by rw [coUpto_succ (show k < m by omega), coSum_snoc, coSum_upto f k (by omega)]; rfl

attribute [local go_sem] Oper.semAt_some

set_option maxRecDepth 100000 in
set_option maxHeartbeats 4000000 in
theorem units_any (s : Int) (B m cp : Nat) (f : Nat → Int) (u : Option Addr) (w : World) (hs : 0 ≤ s ∧ s ≤ 255) (hv : IsList w B (.slice u m cp) 2 m (fun i => .int .i16 (f i))) (hm : m ≤ 12) (hf : ∀ i, i < m * 2 → 0 ≤ f i ∧ f i ≤ 200) :
    Calls Try.prog 60 #[.agg #[.int .u8 s, .slice u m cp]] w fun e w' => e = .returned (.int .i64 (unitsTo f m)) ∧ Below w.heap.size w w' := by
  have hb : ∀ i, i < m * 2 → -32768 ≤ f i ∧ f i ≤ 32767 := fun i hi => by have := hf i hi; omega
  refine (callsIn_wide (n := 3)).1 ?_
  refine callsIn_of_wp_marks Try.func60 rfl trivial ?_ rfl
  simp only [Try.ntmps60, List.size_toArray, List.length_cons, List.length_nil, Nat.reduceAdd, Nat.reduceSub, Array.replicate_succ, Array.replicate_zero, List.push_toArray, List.append_toArray, List.nil_append, List.cons_append]
  gi_wp2
  refine ⟨trivial, (callsIn_wide.2 (courses_any _ _)).mono ?_⟩
  rintro e' w' ⟨rfl, rfl⟩
  gi_wp2
  obtain ⟨W0, hW0⟩ : ∃ W0, ((w.alloc (.cells #[.int .u8 s, .slice u m cp] 29)).alloc (.cells #[.int .i64 0] 2)).alloc (.cells #[.int .u8 s, .slice u m cp] 29) = W0 := ⟨_, rfl⟩
  have rU : RowT W0 (w.heap.size + 1) 2 #[.int .i64 0] := by
    have := (RowT.new (w.alloc (.cells #[.int .u8 s, .slice u m cp] 29)) 2 #[.int .i64 0]).alloc (.cells #[.int .u8 s, .slice u m cp] 29)
    rw [hW0] at this; simpa using this
  have rD : RowT W0 (w.heap.size + 1 + 1) 29 #[.int .u8 s, .slice u m cp] := by
    have := RowT.new ((w.alloc (.cells #[.int .u8 s, .slice u m cp] 29)).alloc (.cells #[.int .i64 0] 2)) 29 #[.int .u8 s, .slice u m cp]
    rw [hW0] at this; simpa using this
  have hB0 : Below w.heap.size w W0 := by rw [← hW0]; exact (((Below.refl _ _).alloc (Nat.le_refl _) _).alloc (by simp) _).alloc (by simp; omega) _
  have hsz : W0.heap.size = w.heap.size + 1 + 1 + 1 := by rw [← hW0]; simp
  rw [hW0]
  clear hW0
  refine wpIn_rangeFunc_ownH rfl (by omega) (gf := 96) (lb := #[.pointer (some ⟨w.heap.size + 1 + 1, 0, none⟩)]) rfl trivial (enters_of Try.func96 (by kernel_rfl) rfl)
    (courses_stops 2 (by omega) (w.heap.size + 1 + 1) w.heap.size s B m cp f u w hs hv (Nat.le_refl _) (by omega) hb W0 rD.row hB0 (by omega)) KpS.trans (KpS.put (by omega) (by omega)) (Below.refl _ _) (fun _ => rfl)
    (fun pre W => (RowT W (w.heap.size + 1) 2 #[.int .i64 (coSum f pre)] ∧ RowT W (w.heap.size + 1 + 1) 29 #[.int .u8 s, .slice u m cp]) ∧ Below w.heap.size w W)
    (fun _ _ _ => False)
    (OwnFrom.and (OwnFrom.and (Own.from (RowT.own _ _ (fun pre => #[Value.int .i64 (coSum f pre)])) _) (Own.from (RowT.own _ _ _) _)) (ownFrom_below (Nat.le_refl _) (by omega)))
    (fun _ _ _ _ _ hs _ _ => hs)
    ⟨⟨rU, rD⟩, hB0⟩
    (fun x a' W => ∃ Bx, w.heap.size + 1 + 1 < Bx ∧ RowT W Bx 86 #[.int .i64 (f (x.1 * 2)), .int .i64 (f (x.1 * 2 + 1)), .int .i64 (crS s x.1)] ∧ a' = { tmps := #[.agg #[.int .u8 s, .slice u m cp], .pointer (some ⟨w.heap.size, 0, none⟩), .int .i64 0, .pointer (some ⟨w.heap.size + 1, 0, none⟩), .pointer (some ⟨Bx, 0, none⟩), .agg #[.int .u8 s, .slice u m cp], .func (.func 96) #[] #[.pointer (some ⟨w.heap.size + 1 + 1, 0, none⟩)], x.enc f s, undef, undef, undef, undef, undef, undef], defers := [] })
    (fun x a' _ X Y row hs hg hr => by obtain ⟨Bx, h1, h2, h3⟩ := hs; exact ⟨Bx, h1, RowT.own Bx 86 (fun (_ : Unit) => #[Value.int .i64 (f (x.1 * 2)), .int .i64 (f (x.1 * 2 + 1)), .int .i64 (crS s x.1)]) () X Y row h2 hg (fun r e => (hr r e).2), h3⟩)
    ?assign ?body ?done ?stop
  case assign =>
    rintro l pre x W K ⟨⟨gU, gD⟩, hB1⟩ hK
    dsimp only [Co.enc, crV]
    gi_wp2
    refine hK _ _ ((KeepsOthers.alloc _ _).from _) ⟨(Below.refl _ W).alloc hB1.size _, fun c' h => (rowAt_alloc_past _ _ _ (rowAt_lt h)).trans h⟩ ⟨⟨gU.alloc _, gD.alloc _⟩, hB1.alloc hB1.size _⟩ ⟨W.heap.size, gD.lt, RowT.new W 86 _, rfl⟩
  case body =>
    rintro l pre x a' W hl ⟨rr, hrr⟩ ⟨⟨gU, gD⟩, hB1⟩ ⟨Bx, hBx, gX, rfl⟩ hlt
    have hx := x.2
    have f0 := hf (x.1 * 2) (by omega)
    have f1 := hf (x.1 * 2 + 1) (by omega)
    have hz := coSum_bd hf pre
    obtain ⟨a, ha⟩ : ∃ a, f (x.1 * 2) = a := ⟨_, rfl⟩
    obtain ⟨b, hbb⟩ : ∃ b, f (x.1 * 2 + 1) = b := ⟨_, rfl⟩
    obtain ⟨z, hzz⟩ : ∃ z, coSum f pre = z := ⟨_, rfl⟩
    have HZ := Lib.hid hzz
    have XA := Lib.hid ha
    have XB := Lib.hid hbb
    rw [ha] at f0 gX
    rw [hbb] at f1 gX
    rw [hzz] at hz gU
    clear ha hbb hzz
    generalize crS s x.1 = cc at *
    have hw : IntKind.i64.wrap (z + (b - a)) = z + (b - a) := IntWalk.i64_in _ (by omega)
    have hBU : Bx ≠ w.heap.size + 1 := by omega
    gi_wp2
    refine wpIn_region_held (S := fun w' => RowT w' Bx 86 #[.int .i64 a, .int .i64 b, .int .i64 cc]) (by kernel_rfl) (by kernel_rfl) gX.drew (fun hH => ?_)
    refine wpAnyH_take (i := 1) (v := .pointer (some ⟨Bx, 0, none⟩)) rfl (by kernel_rfl) (by kernel_rfl) (by kernel_rfl) (fun _ _ _ h => h) (Or.inl ⟨by rfl, ?_⟩) hH ?_
    · intro w1 hS; (try dsimp only at hS); go_simp
    (try simp only [List.getElem_toArray]); (try simp only [List.getElem_cons_succ]); (try simp only [List.getElem_cons_zero]); (try simp only [Act.put]); (try simp only [List.setIfInBounds_toArray]); (try simp only [List.set_cons_succ]); (try simp only [List.set_cons_zero])
    refine wpAnyH_take (i := 2) (v := .agg #[.int .i64 a, .int .i64 b]) rfl (by kernel_rfl) (by kernel_rfl) (by kernel_rfl) (fun _ _ _ h => h) (Or.inl ⟨by rfl, ?_⟩) hH ?_
    · intro w1 hS; (try dsimp only at hS); have s0 := cell_of_rowAt hS.row; go_simp
    (try simp only [List.getElem_toArray]); (try simp only [List.getElem_cons_succ]); (try simp only [List.getElem_cons_zero]); (try simp only [Act.put]); (try simp only [List.setIfInBounds_toArray]); (try simp only [List.set_cons_succ]); (try simp only [List.set_cons_zero])
    generalize hV : W.drew = V at *
    have kV : Below W.heap.size W V := by rw [← hV]; exact (Below.refl _ _).drew
    have vU : RowT V (w.heap.size + 1) 2 #[.int .i64 z] := by rw [← hV]; exact gU.drew
    have vD : RowT V (w.heap.size + 1 + 1) 29 #[.int .u8 s, .slice u m cp] := by rw [← hV]; exact gD.drew
    have cU := cell_of_rowAt vU.row
    clear hV
    refine wpAnyH_ready (rs := [0, 3]) (by kernel_rfl) (by simp) (AllReadyH.cons rfl (fun K hK => ?_) (AllReadyH.cons rfl (fun K hK => ?_) AllReadyH.nil))
    · go_simp
      refine hK.out _ _ (hH) (fun hG => ?_)
      clear hK K hH
      replace hH := hG
      clear hG
      (try simp only [List.getElem_toArray]); (try simp only [List.getElem_cons_succ]); (try simp only [List.getElem_cons_zero]); (try simp only [Act.put]); (try simp only [List.setIfInBounds_toArray]); (try simp only [List.set_cons_succ]); (try simp only [List.set_cons_zero])
      refine wpAnyH_ready (rs := [3]) (by kernel_rfl) (by simp) (AllReadyH.cons rfl (fun K hK => ?_) AllReadyH.nil)
      go_simp
      refine (wide_any a b _ (by omega)).mono ?_
      rintro x wx ⟨rfl, bx⟩
      have wU := vU.below bx
      have wD := vD.below bx
      have kx := kV.trans (bx.mono kV.size)
      have cU2 := cell_of_rowAt wU.row
      have fU := frozen_of_rowAt wU.row
      go_simp
      refine hK.out _ _ (hH.below bx) (fun hG => ?_)
      clear hK K hH
      replace hH := hG
      clear hG
      (try simp only [List.getElem_toArray]); (try simp only [List.getElem_cons_succ]); (try simp only [List.getElem_cons_zero]); (try simp only [Act.put]); (try simp only [List.setIfInBounds_toArray]); (try simp only [List.set_cons_succ]); (try simp only [List.set_cons_zero])
      refine wpAnyH_take (i := 4) (v := .int .i64 (z + (b - a))) rfl (by kernel_rfl) (by kernel_rfl) (by kernel_rfl) (fun _ _ _ h => h) (Or.inl ⟨by rfl, ?_⟩) hH ?_
      · intro w1 hS; (try dsimp only at hS); go_simp
      (try simp only [List.getElem_toArray]); (try simp only [List.getElem_cons_succ]); (try simp only [List.getElem_cons_zero]); (try simp only [Act.put]); (try simp only [List.setIfInBounds_toArray]); (try simp only [List.set_cons_succ]); (try simp only [List.set_cons_zero])
      refine wpAnyH_ready (rs := [5]) (by kernel_rfl) (by simp) (AllReadyH.cons rfl (fun K hK => ?_) AllReadyH.nil)
      go_simp
      refine hK.out _ _ (hH.other hBU _) (fun hG => ?_)
      clear hK K hH
      replace hH := hG
      clear hG
      (try simp only [List.getElem_toArray]); (try simp only [List.getElem_cons_succ]); (try simp only [List.getElem_cons_zero]); (try simp only [Act.put]); (try simp only [List.setIfInBounds_toArray]); (try simp only [List.set_cons_succ]); (try simp only [List.set_cons_zero])
      refine wpAnyH_done (by kernel_rfl) ?_ _
      dsimp only [OnlyN]
      gi_wp2
      refine ⟨((keeps_of_below kx).trans (KeepsOthers.setCell _ _ _)).from _, ⟨(kx.mono hB1.size).setCell (p := ⟨_, _, none⟩) (by simp) _, fun c' h' => ?_⟩, ⟨⟨?_, wD.other (by omega) _⟩, (bnext hB1 kx hB1.size).setCell (p := ⟨_, _, none⟩) (by simp) _⟩⟩
      · rw [rowAt_setCell_ne _ _ _ _ _ (by omega)]; exact brow kx h'
      · rw [coSum_snoc, HZ.out, XA.out, XB.out]; exact wU.set _
    · go_simp
      refine (wide_any a b _ (by omega)).mono ?_
      rintro x wx ⟨rfl, bx⟩
      have wU := vU.below bx
      have wD := vD.below bx
      have kx := kV.trans (bx.mono kV.size)
      have cU2 := cell_of_rowAt wU.row
      have fU := frozen_of_rowAt wU.row
      go_simp
      refine hK.out _ _ (hH.below bx) (fun hG => ?_)
      clear hK K hH
      replace hH := hG
      clear hG
      (try simp only [List.getElem_toArray]); (try simp only [List.getElem_cons_succ]); (try simp only [List.getElem_cons_zero]); (try simp only [Act.put]); (try simp only [List.setIfInBounds_toArray]); (try simp only [List.set_cons_succ]); (try simp only [List.set_cons_zero])
      refine wpAnyH_ready (rs := [0]) (by kernel_rfl) (by simp) (AllReadyH.cons rfl (fun K hK => ?_) AllReadyH.nil)
      go_simp
      refine hK.out _ _ (hH) (fun hG => ?_)
      clear hK K hH
      replace hH := hG
      clear hG
      (try simp only [List.getElem_toArray]); (try simp only [List.getElem_cons_succ]); (try simp only [List.getElem_cons_zero]); (try simp only [Act.put]); (try simp only [List.setIfInBounds_toArray]); (try simp only [List.set_cons_succ]); (try simp only [List.set_cons_zero])
      refine wpAnyH_take (i := 4) (v := .int .i64 (z + (b - a))) rfl (by kernel_rfl) (by kernel_rfl) (by kernel_rfl) (fun _ _ _ h => h) (Or.inl ⟨by rfl, ?_⟩) hH ?_
      · intro w1 hS; (try dsimp only at hS); go_simp
      (try simp only [List.getElem_toArray]); (try simp only [List.getElem_cons_succ]); (try simp only [List.getElem_cons_zero]); (try simp only [Act.put]); (try simp only [List.setIfInBounds_toArray]); (try simp only [List.set_cons_succ]); (try simp only [List.set_cons_zero])
      refine wpAnyH_ready (rs := [5]) (by kernel_rfl) (by simp) (AllReadyH.cons rfl (fun K hK => ?_) AllReadyH.nil)
      go_simp
      refine hK.out _ _ (hH.other hBU _) (fun hG => ?_)
      clear hK K hH
      replace hH := hG
      clear hG
      (try simp only [List.getElem_toArray]); (try simp only [List.getElem_cons_succ]); (try simp only [List.getElem_cons_zero]); (try simp only [Act.put]); (try simp only [List.setIfInBounds_toArray]); (try simp only [List.set_cons_succ]); (try simp only [List.set_cons_zero])
      refine wpAnyH_done (by kernel_rfl) ?_ _
      dsimp only [OnlyN]
      gi_wp2
      refine ⟨((keeps_of_below kx).trans (KeepsOthers.setCell _ _ _)).from _, ⟨(kx.mono hB1.size).setCell (p := ⟨_, _, none⟩) (by simp) _, fun c' h' => ?_⟩, ⟨⟨?_, wD.other (by omega) _⟩, (bnext hB1 kx hB1.size).setCell (p := ⟨_, _, none⟩) (by simp) _⟩⟩
      · rw [rowAt_setCell_ne _ _ _ _ _ (by omega)]; exact brow kx h'
      · rw [coSum_snoc, HZ.out, XA.out, XB.out]; exact wU.set _
  case done =>
    rintro D ys W hD rfl ⟨⟨gU, gD⟩, hB1⟩ hK
    rw [coSum_upto f m (Nat.le_refl _)] at gU
    have hc := cell_of_rowAt gU.row
    gi_wp2
    refine ⟨by simp, .inl ⟨_, _, rfl, run_takeDeferred hK, ?_⟩⟩
    exact ⟨_, results_tmp rfl _ _ _, rfl, hB1.trans (belowK_s (w := w) (Nat.le_refl _) W D _ _ (by omega) hK rfl rfl)⟩
  case stop =>
    rintro D c pre W _ _ h _
    exact h.elim

theorem unitsTo_bd {m : Nat} {f : Nat → Int} (hf : ∀ i, i < m * 2 → 0 ≤ f i ∧ f i ≤ 200) : ∀ k, k ≤ m → -200 * (k : Int) ≤ unitsTo f k ∧ unitsTo f k ≤ 200 * (k : Int)
  | 0, _ => by simp [unitsTo]
  | k + 1, hk => by
    have h1 := unitsTo_bd hf k (by omega)
    have h2 := hf (k * 2) (by omega)
    have h3 := hf (k * 2 + 1) (by omega)
    simp only [unitsTo]
    omega

set_option maxRecDepth 100000 in
set_option maxHeartbeats 2000000 in
theorem l05Units_any (kb : Nat) (s : Int) (B n cp : Nat) (f : Nat → Int) (u : Option Addr) (w : World) (hr : rowAt w kb = some #[.int .u8 s, .slice u n cp]) (hv : IsList w B (.slice u n cp) 2 n (fun i => .int .i16 (f i))) (hn : n ≤ 12) (hf : ∀ i, i < n * 2 → 0 ≤ f i ∧ f i ≤ 200) :
    Calls Try.prog 59 #[.pointer (some ⟨kb, 0, none⟩)] w fun e w' => e = .returned (.int .i64 (unitsTo f n)) ∧ Below w.heap.size w w' := by
  have HV := Lib.hid hv
  have HR := Lib.hid hr
  have HF := Lib.hid hf
  clear hv hr hf
  go_enter Try.func59, Try.ntmps59
  go_wp2_with fail
  go_loopw [3, 4] (fun p i W => ∃ j : Nat, j ≤ n ∧ i = .int .i64 j ∧ p = .int .i64 (unitsTo f j) ∧ Below w.heap.size w W) (fun _ i _ => n - (intOf i).toNat)
  case atStart => exact ⟨0, by omega, rfl, rfl, Below.refl _ _⟩
  case round =>
    obtain ⟨j, hj, rfl, rfl, hB⟩ := hrel
    have c := cell_of_rowAt (brow hB HR.out)
    have HB := Lib.hid hB
    clear hB
    by_cases hlt : j < n
    · obtain ⟨gg, rfl, c0, c1⟩ := (HV.out.below HB.out (Nat.le_refl _)).sp hlt
      have hi0 : 0 ≤ (j : Int) := by omega
      have hi1 : (j : Int) < n := by omega
      have f0 := HF.out (j * 2) (by omega)
      have f1 := HF.out (j * 2 + 1) (by omega)
      have hz := unitsTo_bd HF.out j hj
      have HN : Hid (unitsTo f (j + 1) = unitsTo f j + (f (j * 2 + 1) - f (j * 2))) := Lib.hid rfl
      generalize f (j * 2) = a at *
      generalize f (j * 2 + 1) = b at *
      generalize unitsTo f j = z at *
      go_wp2_with fail
      go_quiet (fail)
      go_wp2_with fail
      refine ⟨⟨j + 1, by omega, by go_num, by rw [HN.out], below_drewN HB.out _⟩, by simp [intOf]; omega⟩
    · obtain rfl : j = n := by omega
      go_wp2_with fail
      go_ret
      exact ⟨rfl, HB.out⟩

def unV (s : Int) (n : Nat) (f : Nat → Int) : Int := if shOk s n f then unitsTo f n else 0
set_option maxRecDepth 100000 in
set_option maxHeartbeats 1000000 in
theorem specUnitsOf_any (s : Int) (B n : Nat) (f : Nat → Int) (u : Option Addr) (w : World) (_hs : 0 ≤ s ∧ s ≤ 255) (hv : IsList w B (.slice u n n) 2 n (fun i => .int .i16 (f i))) (hn : n ≤ 2000000) (_hb : ∀ i, i < n * 2 → -32768 ≤ f i ∧ f i ≤ 32767) :
    Calls Try.prog 25 #[.agg #[.int .u8 s, .slice u n n]] w fun e w' => e = .returned (.tuple #[.int .i64 (unV s n f), .int .i64 (codeOk (shOk s n f))]) ∧ Below w.heap.size w w' := by
  have HV := Lib.hid hv
  clear hv
  go_enter Try.func25, Try.ntmps25
  go_wp2_with fail
  refine gen_callsW fun W hW => ?_
  have B0 := Lib.hid (show Below w.heap.size w W from by rw [hW]; exact (Below.refl _ _).alloc (Nat.le_refl _) _)
  have p0 : rowAt W w.heap.size = some #[.int .u8 s, .slice u n n] := by rw [hW]; exact rowAt_alloc_at _ _ _ _ (by simp)
  clear hW
  have CV := l05Ok_any w.heap.size s B n f u W p0 (HV.out.below B0.out (Nat.le_refl _)) hn
  have CU := fun W h1 h2 h3 h4 => l05Units_any w.heap.size s B n n f u W h1 h2 h3 h4
  cases hk : shOk s n f with
  | true =>
    rw [hk] at CV
    have hn12 := (shOk_in hk).2.1.2
    have hbd := shOk_bd hk
    have HU : Hid (unV s n f = unitsTo f n) := Lib.hid (by simp [unV, hk])
    have HK := Lib.hid hk
    clear hk
    refine CV.mono ?_
    rintro e w1 ⟨rfl, b1⟩
    have B1 := Lib.hid (bnext B0.out b1 B0.out.size)
    have q0 := brow b1 p0
    clear b1 p0 CV
    go_wp2_with fail
    refine (CU _ q0 (HV.out.below B1.out (Nat.le_refl _)) hn12 hbd).mono ?_
    rintro e w2 ⟨rfl, b2⟩
    have B2 := bnext B1.out b2 B1.out.size
    clear b2 CU
    go_wp2_with fail
    go_ret2
    rw [HU.out, HK.out]
    exact ⟨rfl, B2⟩
  | false =>
    rw [hk] at CV
    have HU : Hid (unV s n f = 0) := Lib.hid (by simp [unV, hk])
    have HK := Lib.hid hk
    clear hk
    refine CV.mono ?_
    rintro e w1 ⟨rfl, b1⟩
    have B1 := bnext B0.out b1 B0.out.size
    clear b1 p0 CV CU
    go_wp2_with fail
    go_ret2
    rw [HU.out, HK.out]
    exact ⟨rfl, B1⟩
set_option maxRecDepth 100000 in
set_option maxHeartbeats 1000000 in
theorem implUnitsOf_any (s : Int) (B n : Nat) (f : Nat → Int) (u : Option Addr) (w : World) (hs : 0 ≤ s ∧ s ≤ 255) (hv : IsList w B (.slice u n n) 2 n (fun i => .int .i16 (f i))) (hn : n ≤ 2000000) (hb : ∀ i, i < n * 2 → -32768 ≤ f i ∧ f i ≤ 32767) :
    Calls Try.prog 26 #[.agg #[.int .u8 s, .slice u n n]] w fun e w' => e = .returned (.tuple #[.int .i64 (unV s n f), .int .i64 (codeOk (shOk s n f))]) ∧ Below w.heap.size w w' := by
  have HV := Lib.hid hv
  clear hv
  go_enter Try.func26, Try.ntmps26
  go_wp2_with fail
  refine gen_callsW fun W hW => ?_
  have B0 := Lib.hid (show Below w.heap.size w W from by rw [hW]; exact (Below.refl _ _).alloc (Nat.le_refl _) _)
  have p0 : rowAt W w.heap.size = some #[.int .u8 s, .slice u n n] := by rw [hW]; exact rowAt_alloc_at _ _ _ _ (by simp)
  clear hW
  have CV := implValidShape_any s B n f u W hs (HV.out.below B0.out (Nat.le_refl _)) hn hb
  have CU := fun W h2 h3 h4 => units_any s B n n f u W hs h2 h3 h4
  cases hk : shOk s n f with
  | true =>
    rw [hk] at CV
    have hn12 := (shOk_in hk).2.1.2
    have hbd := shOk_bd hk
    have HU : Hid (unV s n f = unitsTo f n) := Lib.hid (by simp [unV, hk])
    have HK := Lib.hid hk
    clear hk
    refine CV.mono ?_
    rintro e w1 ⟨rfl, b1⟩
    have B1 := Lib.hid (bnext B0.out b1 B0.out.size)
    have q0 := cell_of_rowAt (brow b1 p0)
    clear b1 p0 CV
    go_wp2_with fail
    refine (CU _ (HV.out.below B1.out (Nat.le_refl _)) hn12 hbd).mono ?_
    rintro e w2 ⟨rfl, b2⟩
    have B2 := bnext B1.out b2 B1.out.size
    clear b2 CU
    go_wp2_with fail
    go_ret2
    rw [HU.out, HK.out]
    exact ⟨rfl, B2⟩
  | false =>
    rw [hk] at CV
    have HU : Hid (unV s n f = 0) := Lib.hid (by simp [unV, hk])
    have HK := Lib.hid hk
    clear hk
    refine CV.mono ?_
    rintro e w1 ⟨rfl, b1⟩
    have B1 := bnext B0.out b1 B0.out.size
    clear b1 p0 CV CU
    go_wp2_with fail
    go_ret2
    rw [HU.out, HK.out]
    exact ⟨rfl, B1⟩
end Go.Proofs.Ytdegfcgknppcoaa
