/- WholeIn: contracts of both sides. -/
import Derived.Test.YtdegfcgknppcoaaAllP
import Derived.Test.YtdegfcgknppcoaaUnits
import Derived.RangeFuncNested
namespace Go.Proofs.Ytdegfcgknppcoaa
open Go.RowKit Go.Shelf

/-- How many of some tiles are laid whole. -/
def whoL (L R h : Int) {I N : Nat} (l : List (Til I N)) : Int := (l.map fun x => if tlW L R h x.1 then 1 else 0).sum
theorem whoL_snoc (L R h : Int) {I N : Nat} (l : List (Til I N)) (x : Til I N) : whoL L R h (l ++ [x]) = whoL L R h l + (if tlW L R h x.1 then 1 else 0) := by simp [whoL]
theorem whoL_bd (L R h : Int) {I N : Nat} : ∀ l : List (Til I N), 0 ≤ whoL L R h l ∧ whoL L R h l ≤ l.length
  | [] => by simp [whoL]
  | x :: l => by
    have := whoL_bd L R h l
    simp only [whoL, List.map_cons, List.sum_cons, List.length_cons] at *
    split <;> omega
theorem whoL_up {L R h : Int} (o : LaidOk L R h) : ∀ j, tlI L h + j ≤ tlN R h → whoL L R h (tlUp (tlN R h) (tlI L h) j) = whoTo L R h (tlI L h + j)
  | 0, _ => (whoTo_skip o _ (Nat.le_refl _)).symm
  | j + 1, hj => by
    rw [tlUp_succ (by omega), whoL_snoc, whoL_up o j (by omega), ← Nat.add_assoc, whoTo, tlE_full o (by omega) (by omega)]
    simp
/-- How many tiles of course k, of some courses, of the first k courses, are laid whole. -/
def crWho (s : Int) (f : Nat → Int) (k : Nat) : Int := whoTo (f (k * 2)) (f (k * 2 + 1)) (crS s k) (tlN (f (k * 2 + 1)) (crS s k))
theorem crWho_bd {s : Int} {f : Nat → Int} {k : Nat} (h : LaidOk (f (k * 2)) (f (k * 2 + 1)) (crS s k)) : 0 ≤ crWho s f k ∧ crWho s f k ≤ 26 := by
  have h1 := whoTo_bd (f (k * 2)) (f (k * 2 + 1)) (crS s k) (tlN (f (k * 2 + 1)) (crS s k))
  have h2 := tlN_le h
  unfold crWho
  omega
def wholeL (s : Int) (f : Nat → Int) {m : Nat} (l : List (Co m)) : Int := (l.map fun x => crWho s f x.1).sum
theorem wholeL_snoc (s : Int) (f : Nat → Int) {m : Nat} (l : List (Co m)) (x : Co m) : wholeL s f (l ++ [x]) = wholeL s f l + crWho s f x.1 := by simp [wholeL]
theorem wholeL_bd {s : Int} {f : Nat → Int} {m : Nat} (h : ∀ k, k < m → LaidOk (f (k * 2)) (f (k * 2 + 1)) (crS s k)) : ∀ l : List (Co m), 0 ≤ wholeL s f l ∧ wholeL s f l ≤ 26 * (l.length : Int)
  | [] => by simp [wholeL]
  | x :: l => by
    have h1 := wholeL_bd h l
    have h2 := crWho_bd (h x.1 x.2)
    simp only [wholeL, List.map_cons, List.sum_cons, List.length_cons] at *
    omega
def wholeTo (s : Int) (f : Nat → Int) : Nat → Int
  | 0 => 0
  | k + 1 => wholeTo s f k + crWho s f k
theorem wholeL_up {m : Nat} (s : Int) (f : Nat → Int) : ∀ k, k ≤ m → wholeL s f (coUpto m k) = wholeTo s f k
  | 0, _ => rfl
  | k + 1, hk => by rw [coUpto_succ (show k < m by omega), wholeL_snoc, wholeL_up s f k (by omega)]; rfl
theorem wholeTo_bd {s : Int} {f : Nat → Int} {m : Nat} (h : ∀ k, k < m → LaidOk (f (k * 2)) (f (k * 2 + 1)) (crS s k)) : ∀ k, k ≤ m → 0 ≤ wholeTo s f k ∧ wholeTo s f k ≤ 26 * (k : Int)
  | 0, _ => by simp [wholeTo]
  | k + 1, hk => by
    have h1 := wholeTo_bd h k (by omega)
    have h2 := crWho_bd (h k (by omega))
    simp only [wholeTo]
    omega

attribute [local go_sem] Oper.semAt_some

set_option maxRecDepth 100000 in
set_option maxHeartbeats 8000000 in
theorem whole_any (s : Int) (B m cp : Nat) (f : Nat → Int) (u : Option Addr) (w : World) (hs : 0 ≤ s ∧ s ≤ 255) (hv : IsList w B (.slice u m cp) 2 m (fun i => .int .i16 (f i))) (hm : m ≤ 12) (hb : ∀ i, i < m * 2 → -32768 ≤ f i ∧ f i ≤ 32767) (ok : ∀ k, k < m → LaidOk (f (k * 2)) (f (k * 2 + 1)) (crS s k)) :
    Calls Try.prog 62 #[.agg #[.int .u8 s, .slice u m cp]] w fun e w' => e = .returned (.int .i64 (wholeTo s f m)) ∧ Below w.heap.size w w' := by
  have OK := Lib.hid ok
  refine (callsIn_wide (n := 7)).1 ?_
  refine callsIn_of_wp_marks Try.func62 rfl trivial ?_ rfl
  simp only [Try.ntmps62, List.size_toArray, List.length_cons, List.length_nil, Nat.reduceAdd, Nat.reduceSub, Array.replicate_succ, Array.replicate_zero, List.push_toArray, List.append_toArray, List.nil_append, List.cons_append]
  gi_wp2
  refine ⟨trivial, (callsIn_wide.2 (courses_any _ _)).mono ?_⟩
  rintro e' w' ⟨rfl, rfl⟩
  gi_wp2
  obtain ⟨W0, hW0⟩ : ∃ W0, ((w.alloc (.cells #[.int .u8 s, .slice u m cp] 29)).alloc (.cells #[.int .i64 0] 2)).alloc (.cells #[.int .u8 s, .slice u m cp] 29) = W0 := ⟨_, rfl⟩
  have rU : RowT W0 (w.heap.size + 1) 2 #[.int .i64 0] := by
    have := (RowT.new (w.alloc (.cells #[.int .u8 s, .slice u m cp] 29)) 2 #[.int .i64 0]).alloc (.cells #[.int .u8 s, .slice u m cp] 29)
    rw [hW0] at this; simpa using this
  have rD : RowT W0 (w.heap.size + 1 + 1) 29 #[.int .u8 s, .slice u m cp] := by
    have := RowT.new ((w.alloc (.cells #[.int .u8 s, .slice u m cp] 29)).alloc (.cells #[.int .i64 0] 2)) 29 #[.int .u8 s, .slice u m cp]
    rw [hW0] at this; simpa using this
  have hB0 : Below w.heap.size w W0 := by rw [← hW0]; exact (((Below.refl _ _).alloc (Nat.le_refl _) _).alloc (by simp) _).alloc (by simp; omega) _
  have hsz : W0.heap.size = w.heap.size + 1 + 1 + 1 := by rw [← hW0]; simp
  rw [hW0]
  clear hW0
  refine wpIn_rangeFunc_ownH rfl (by omega) (gf := 96) (lb := #[.pointer (some ⟨w.heap.size + 1 + 1, 0, none⟩)]) rfl trivial (enters_of Try.func96 (by kernel_rfl) rfl)
    (courses_stops 6 (by omega) (w.heap.size + 1 + 1) w.heap.size s B m cp f u w hs hv (Nat.le_refl _) (by omega) hb W0 rD.row hB0 (by omega)) KpS.trans (KpS.put (by omega) (by omega)) (Below.refl _ _) (fun _ => rfl)
    (fun pre W => (RowT W (w.heap.size + 1) 2 #[.int .i64 (wholeL s f pre)] ∧ RowT W (w.heap.size + 1 + 1) 29 #[.int .u8 s, .slice u m cp]) ∧ Below w.heap.size w W)
    (fun _ _ _ => False)
    (OwnFrom.and (OwnFrom.and (Own.from (RowT.own _ _ (fun pre => #[Value.int .i64 (wholeL s f pre)])) _) (Own.from (RowT.own _ _ _) _)) (ownFrom_below (Nat.le_refl _) (by omega)))
    (fun _ _ _ _ _ hs _ _ => hs)
    ⟨⟨rU, rD⟩, hB0⟩
    (fun x a' W => ∃ Bx, w.heap.size + 1 + 1 < Bx ∧ RowT W Bx 86 #[.int .i64 (f (x.1 * 2)), .int .i64 (f (x.1 * 2 + 1)), .int .i64 (crS s x.1)] ∧ a' = { tmps := #[.agg #[.int .u8 s, .slice u m cp], .pointer (some ⟨w.heap.size, 0, none⟩), .int .i64 0, .pointer (some ⟨w.heap.size + 1, 0, none⟩), .pointer (some ⟨Bx, 0, none⟩), undef, .agg #[.int .u8 s, .slice u m cp], .func (.func 96) #[] #[.pointer (some ⟨w.heap.size + 1 + 1, 0, none⟩)], x.enc f s, undef, undef, undef, undef, undef, undef, undef, undef, undef], defers := [] })
    (fun x a' _ X Y row hs hg hr => by obtain ⟨Bx, h1, h2, h3⟩ := hs; exact ⟨Bx, h1, RowT.own Bx 86 (fun (_ : Unit) => #[Value.int .i64 (f (x.1 * 2)), .int .i64 (f (x.1 * 2 + 1)), .int .i64 (crS s x.1)]) () X Y row h2 hg (fun r e => (hr r e).2), h3⟩)
    ?assign ?body ?done ?stop
  case assign =>
    rintro l pre x W K ⟨⟨gU, gD⟩, hB1⟩ hK
    dsimp only [Co.enc, crV]
    gi_wp2
    refine hK _ _ ((KeepsOthers.alloc _ _).from _) ⟨(Below.refl _ W).alloc hB1.size _, fun c' h => (rowAt_alloc_past _ _ _ (rowAt_lt h)).trans h⟩ ⟨⟨gU.alloc _, gD.alloc _⟩, hB1.alloc hB1.size _⟩ ⟨W.heap.size, gD.lt, RowT.new W 86 _, rfl⟩
  case body =>
    rintro l pre x a' W hl ⟨rr, hrr⟩ ⟨⟨gU, gD⟩, hB1⟩ ⟨Bx, hBx, gX, rfl⟩ hlt
    have hx := x.2
    have lo := OK.out x.1 hx
    have HS : Hid (wholeL s f (pre ++ [x]) = wholeL s f pre + crWho s f x.1) := Lib.hid (wholeL_snoc s f pre x)
    have hz := wholeL_bd OK.out pre
    have hcw : crWho s f x.1 = whoTo (f (x.1 * 2)) (f (x.1 * 2 + 1)) (crS s x.1) (tlN (f (x.1 * 2 + 1)) (crS s x.1)) := rfl
    have HE : x.enc f s = .agg #[.int .i64 (f (x.1 * 2)), .int .i64 (f (x.1 * 2 + 1)), .int .i64 (crS s x.1)] := rfl
    rw [HE]
    obtain ⟨L, hL⟩ : ∃ L, f (x.1 * 2) = L := ⟨_, rfl⟩
    obtain ⟨R, hR⟩ : ∃ R, f (x.1 * 2 + 1) = R := ⟨_, rfl⟩
    obtain ⟨h, hh⟩ : ∃ h, crS s x.1 = h := ⟨_, rfl⟩
    obtain ⟨z, hzz⟩ : ∃ z, wholeL s f pre = z := ⟨_, rfl⟩
    rw [hL, hR, hh] at lo gX hcw
    rw [hL, hR, hh]
    rw [hzz] at hz gU HS
    rw [hcw] at HS
    clear hcw HE hzz hL hR hh
    have LO := Lib.hid lo
    have hNN := tlN_le lo
    have hle := tlI_le lo
    have cx := cell_of_rowAt gX.row
    gi_wp2
    refine ⟨trivial, (CallsIn.inRound l (callsIn_wide.2 (tiles_any _ _))).mono ?_⟩
    rintro e w' ⟨rfl, rfl⟩
    clear cx
    gi_wp2
    have hsW := hB1.size
    have gE := RowT.new W 86 #[.int .i64 L, .int .i64 R, .int .i64 h]
    have hr' : (W.alloc (.cells #[.int .i64 L, .int .i64 R, .int .i64 h] 86)).heap[l]? = some (.loop rr) := (Below.heap_alloc W _ l (Array.getElem?_eq_some_iff.1 hrr).1).trans hrr
    refine wpIn_rangeFunc_ownN (l₀ := l) (r₀ := rr) rfl hr' (by omega) (gf := 97) (lb := #[.pointer (some ⟨W.heap.size, 0, none⟩)]) rfl trivial (enters_of Try.func97 (by kernel_rfl) rfl)
      ((tiles_stops 4 (by omega) W.heap.size w.heap.size L R h lo _ gE.row).inRound l) KpS.trans (KpS.put (by simp; omega) (by simp)) (Below.refl _ _) (fun _ => rfl)
      (fun pre' W' => ((RowT W' (w.heap.size + 1) 2 #[.int .i64 (z + whoL L R h pre')] ∧ RowT W' (w.heap.size + 1 + 1) 29 #[.int .u8 s, .slice u m cp]) ∧ RowT W' Bx 86 #[.int .i64 L, .int .i64 R, .int .i64 h]) ∧ Below w.heap.size W W' ∧ KeepsFrom W0.heap.size W W')
      (fun _ _ _ => False)
      (OwnFrom.and (OwnFrom.and (OwnFrom.and (Own.from (RowT.own _ _ (fun pre' => #[Value.int .i64 (z + whoL L R h pre')])) _) (Own.from (RowT.own _ _ _) _)) (Own.from (RowT.own _ _ _) _)) (OwnFrom.and (ownFrom_below hsW (by simp; omega)) (ownFrom_keepsFrom (by simp))))
      (fun _ _ _ _ _ hs _ _ => hs)
      ⟨⟨⟨by rw [show z + whoL L R h ([] : List (Til (tlI L h) (tlN R h))) = z from by simp [whoL]]; exact gU.alloc _, gD.alloc _⟩, gX.alloc _⟩, (Below.refl _ W).alloc hsW _, (KeepsOthers.alloc _ _).from _⟩
      (fun y a'' W' => ∃ By, RowT W' By 84 #[.int .i64 (tlA h y.1), .int .i64 (tlA h y.1 + 8)] ∧ a'' = { tmps := #[.agg #[.int .u8 s, .slice u m cp], .pointer (some ⟨w.heap.size, 0, none⟩), .int .i64 0, .pointer (some ⟨w.heap.size + 1, 0, none⟩), .pointer (some ⟨Bx, 0, none⟩), .pointer (some ⟨By, 0, none⟩), .agg #[.int .u8 s, .slice u m cp], .func (.func 96) #[] #[.pointer (some ⟨w.heap.size + 1 + 1, 0, none⟩)], .agg #[.int .i64 L, .int .i64 R, .int .i64 h], .agg #[.int .i64 L, .int .i64 R, .int .i64 h], .func (.func 97) #[] #[.pointer (some ⟨W.heap.size, 0, none⟩)], y.enc h, undef, undef, undef, undef, undef, undef], defers := [] })
      (fun y a'' _ X Y row hs hg hr => by obtain ⟨By, h2, h3⟩ := hs; exact ⟨By, RowT.own By 84 (fun (_ : Unit) => #[Value.int .i64 (tlA h y.1), .int .i64 (tlA h y.1 + 8)]) () X Y row h2 hg (fun r e => (hr r e).2), h3⟩)
      ?assign2 ?body2 ?done2 ?stop2
    case assign2 =>
      rintro l2 pre' y W' K ⟨⟨⟨hU, hD⟩, hX⟩, hBW, hKF⟩ hK
      dsimp only [Til.enc]
      gi_wp2
      have hsz2 := (hB1.trans hBW).size
      refine hK _ _ ((KeepsOthers.alloc _ _).from _) ⟨(Below.refl _ W').alloc hsz2 _, fun c' h => (rowAt_alloc_past _ _ _ (rowAt_lt h)).trans h⟩ ⟨⟨⟨hU.alloc _, hD.alloc _⟩, hX.alloc _⟩, hBW.alloc hsz2 _, hKF.trans ((KeepsOthers.alloc _ _).from _)⟩ ⟨W'.heap.size, RowT.new W' 84 _, rfl⟩
    case body2 =>
      rintro l2 pre' y a'' W' _ _ ⟨⟨⟨hU, hD⟩, hX⟩, hBW, hKF⟩ ⟨By, hY, rfl⟩ hlt2
      have cX := cell_of_rowAt hX.row
      have cY := cell_of_rowAt hY.row
      have hS2 := whoL_snoc L R h pre' y
      have hwb := whoL_bd L R h pre'
      obtain ⟨A, hA⟩ : ∃ A, tlA h y.1 = A := ⟨_, rfl⟩
      have HW : Hid (tlW L R h y.1 = decide (L ≤ A ∧ A + 8 ≤ R)) := Lib.hid (by unfold tlW; rw [hA])
      have HE2 : y.enc h = .agg #[.int .i64 (tlA h y.1), .int .i64 (tlA h y.1 + 8)] := rfl
      rw [HE2]
      rw [hA] at cY hY
      rw [hA]
      have HS2 := Lib.hid hS2
      have hsz2 := (hB1.trans hBW).size
      clear hS2 HE2 hA
      gi_wp2
      refine ⟨trivial, (CallsIn.inRound l2 (CallsIn.inRound l (callsIn_wide.2 (isWhole_any L R h A (A + 8) _)))).mono ?_⟩
      rintro e w2 ⟨rfl, b2⟩
      have kU := hU.below b2
      have kD := hD.below b2
      have kX := hX.below b2
      have B2 := Lib.hid b2
      have hBW2 := hBW.trans (b2.mono hsz2)
      have hKF2 := hKF.trans ((keeps_of_below b2).from W0.heap.size)
      clear cX cY b2
      by_cases hw : L ≤ A ∧ A + 8 ≤ R
      · have hd : decide (L ≤ A ∧ A + 8 ≤ R) = true := by simp [hw]
        rw [hd]
        have HI : Hid (whoL L R h (pre' ++ [y]) = whoL L R h pre' + 1) := Lib.hid (by rw [HS2.out, HW.out, hd]; simp)
        have cU := cell_of_rowAt kU.row
        have fU := frozen_of_rowAt kU.row
        generalize whoL L R h pre' = q at *
        have hw1 : IntKind.i64.wrap (z + q + 1) = z + q + 1 := IntWalk.i64_in _ (by omega)
        clear hd hw
        gi_wp2
        have hWl : w.heap.size + 1 + 1 < W.heap.size := by have := gD.lt; omega
        refine ⟨((keeps_of_below B2.out).trans (KeepsOthers.setCell _ _ _)).from _, ⟨(B2.out.mono hsz2).setCell (p := ⟨_, _, none⟩) (by simp) _, fun c' h' => ?_⟩, ⟨⟨by rw [HI.out, ← Int.add_assoc]; exact kU.set _, kD.other (by omega) _⟩, kX.other (by omega) _⟩, hBW2.setCell (p := ⟨_, _, none⟩) (by simp) _, hKF2.trans ((KeepsOthers.setCell _ _ _).from _)⟩
        rw [rowAt_setCell_ne _ _ _ _ _ (by omega)]
        exact brow B2.out h'
      · have hd : decide (L ≤ A ∧ A + 8 ≤ R) = false := by simp; omega
        rw [hd]
        have HI : Hid (whoL L R h (pre' ++ [y]) = whoL L R h pre') := Lib.hid (by rw [HS2.out, HW.out, hd]; simp)
        clear hd hw
        gi_wp2
        refine ⟨(keeps_of_below B2.out).from _, ⟨B2.out.mono hsz2, fun c' h' => brow B2.out h'⟩, ⟨⟨by rw [HI.out]; exact kU, kD⟩, kX⟩, hBW2, hKF2⟩
    case done2 =>
      rintro ys' W' rfl ⟨⟨⟨hU, hD⟩, hX⟩, hBW, hKF⟩
      rw [whoL_up LO.out _ (by omega), show tlI L h + (tlN R h - tlI L h) = tlN R h by omega] at hU
      gi_wp2
      exact ⟨hKF, ⟨hBW, fun c' h' => by rw [hD.row, ← gD.row]; exact h'⟩, ⟨⟨by rw [HS.out]; exact hU, hD⟩, hB1.trans hBW⟩⟩
    case stop2 =>
      rintro c pre' W' _ h
      exact h.elim
  case done =>
    rintro D ys W hD rfl ⟨⟨gU, gD⟩, hB1⟩ hK
    rw [wholeL_up s f m (Nat.le_refl _)] at gU
    have hc := cell_of_rowAt gU.row
    gi_wp2
    refine ⟨by simp, .inl ⟨_, _, rfl, run_takeDeferred hK, ?_⟩⟩
    exact ⟨_, results_tmp rfl _ _ _, rfl, hB1.trans (belowK_s (w := w) (Nat.le_refl _) W D _ _ (by omega) hK rfl rfl)⟩
  case stop =>
    rintro D c pre W _ _ h _
    exact h.elim

set_option maxRecDepth 100000 in
set_option maxHeartbeats 2000000 in
theorem implWholeIn_any (s : Int) (B n : Nat) (f : Nat → Int) (u : Option Addr) (w : World) (hs : 0 ≤ s ∧ s ≤ 255) (hv : IsList w B (.slice u n n) 2 n (fun i => .int .i16 (f i))) (hn : n ≤ 2000000) (hb : ∀ i, i < n * 2 → -32768 ≤ f i ∧ f i ≤ 32767) :
    Calls Try.prog 28 #[.agg #[.int .u8 s, .slice u n n]] w fun e w' => e = .returned (.tuple #[.int .i64 (ifOk (shOk s n f) (wholeTo s f n)), .int .i64 (codeOk (shOk s n f))]) ∧ Below w.heap.size w w' := by
  have HV := Lib.hid hv
  clear hv
  go_enter Try.func28, Try.ntmps28
  go_wp2_with fail
  refine gen_callsW fun W hW => ?_
  have B0 := Lib.hid (show Below w.heap.size w W from by rw [hW]; exact (Below.refl _ _).alloc (Nat.le_refl _) _)
  have p0 : rowAt W w.heap.size = some #[.int .u8 s, .slice u n n] := by rw [hW]; exact rowAt_alloc_at _ _ _ _ (by simp)
  clear hW
  have CV := implValidShape_any s B n f u W hs (HV.out.below B0.out (Nat.le_refl _)) hn hb
  cases hk : shOk s n f with
  | true =>
    rw [hk] at CV
    have hn12 := (shOk_in hk).2.1.2
    have ok : ∀ k, k < n → LaidOk (f (k * 2)) (f (k * 2 + 1)) (crS s k) := fun k hkn => laidOk_of hk hkn
    have HK := Lib.hid hk
    clear hk
    refine CV.mono ?_
    rintro e w1 ⟨rfl, b1⟩
    have B1 := Lib.hid (bnext B0.out b1 B0.out.size)
    have q0 := cell_of_rowAt (brow b1 p0)
    clear b1 p0 CV
    go_wp2_with fail
    refine (whole_any s B n n f u _ hs (HV.out.below B1.out (Nat.le_refl _)) hn12 hb ok).mono ?_
    rintro e w2 ⟨rfl, b2⟩
    have B2 := bnext B1.out b2 B1.out.size
    clear b2 q0
    go_wp2_with fail
    go_ret2
    rw [HK.out]
    exact ⟨rfl, B2⟩
  | false =>
    rw [hk] at CV
    have HK := Lib.hid hk
    clear hk
    refine CV.mono ?_
    rintro e w1 ⟨rfl, b1⟩
    have B1 := bnext B0.out b1 B0.out.size
    clear b1 p0 CV
    go_wp2_with fail
    go_ret2
    rw [HK.out]
    exact ⟨rfl, B1⟩

set_option maxRecDepth 100000 in
set_option maxHeartbeats 2000000 in
theorem specWholeIn_any (s : Int) (B n : Nat) (f : Nat → Int) (u : Option Addr) (w : World) (hs : 0 ≤ s ∧ s ≤ 255) (hv : IsList w B (.slice u n n) 2 n (fun i => .int .i16 (f i))) (hn : n ≤ 2000000) (_hb : ∀ i, i < n * 2 → -32768 ≤ f i ∧ f i ≤ 32767) :
    Calls Try.prog 27 #[.agg #[.int .u8 s, .slice u n n]] w fun e w' => e = .returned (.tuple #[.int .i64 (ifOk (shOk s n f) (wholeTo s f n)), .int .i64 (codeOk (shOk s n f))]) ∧ Below w.heap.size w w' := by
  have HV := Lib.hid hv
  clear hv
  go_enter Try.func27, Try.ntmps27
  go_wp2_with fail
  refine gen_callsW fun W hW => ?_
  have B0 := Lib.hid (show Below w.heap.size w W from by rw [hW]; exact (Below.refl _ _).alloc (Nat.le_refl _) _)
  have p0 : rowAt W w.heap.size = some #[.int .u8 s, .slice u n n] := by rw [hW]; exact rowAt_alloc_at _ _ _ _ (by simp)
  clear hW
  have CV := l05Ok_any w.heap.size s B n f u W p0 (HV.out.below B0.out (Nat.le_refl _)) hn
  cases hk : shOk s n f with
  | true =>
    rw [hk] at CV
    have hn12 := (shOk_in hk).2.1.2
    have OK : Hid (∀ k, k < n → LaidOk (f (k * 2)) (f (k * 2 + 1)) (crS s k)) := Lib.hid fun k hkn => laidOk_of hk hkn
    have HK := Lib.hid hk
    clear hk
    refine CV.mono ?_
    rintro e w1 ⟨rfl, b1⟩
    have B1 := Lib.hid (bnext B0.out b1 B0.out.size)
    have Q0 := Lib.hid (brow b1 p0)
    have x0 := cell_of_rowAt Q0.out
    clear b1 p0 CV
    go_wp2_with fail
    clear x0
    go_loopw [4, 5] (fun p i W => ∃ k : Nat, k ≤ n ∧ i = .int .i64 k ∧ p = .int .i64 (wholeTo s f k) ∧ Below w1.heap.size w1 W) (fun _ i _ => n - (intOf i).toNat)
    case atStart => exact ⟨0, by omega, rfl, rfl, Below.refl _ _⟩
    case round =>
      obtain ⟨k, hk, rfl, rfl, hB⟩ := hrel
      have r0 := brow hB Q0.out
      have x0 := cell_of_rowAt r0
      have HB := Lib.hid hB
      have hwt := wholeTo_bd OK.out k hk
      clear hB
      by_cases hlt : k < n
      · have hk1 : (k : Int) < n := by omega
        have CC := l05Course_any w.heap.size s B n n f u k wr r0 (HV.out.below (bnext B1.out HB.out B1.out.size) (Nat.le_refl _)) hn12 hlt hs (OK.out k hlt)
        rw [show whoTo (f (k * 2)) (f (k * 2 + 1)) (crS s k) (tlN (f (k * 2 + 1)) (crS s k)) = crWho s f k from rfl] at CC
        have hcb := crWho_bd (OK.out k hlt)
        have HS : Hid (wholeTo s f (k + 1) = wholeTo s f k + crWho s f k) := Lib.hid rfl
        generalize crWho s f k = cw at *
        generalize wholeTo s f k = wt at *
        have hw1 : IntKind.i64.wrap (wt + cw) = wt + cw := IntWalk.i64_in _ (by omega)
        go_wp2_with fail
        refine CC.mono ?_
        rintro e w2 ⟨v2, rfl, l2, b2⟩
        have B2 := bnext HB.out b2 HB.out.size
        obtain ⟨av, cv, rfl⟩ := l2.shape
        clear CC b2 r0 x0
        go_wp2_with fail
        refine ⟨⟨k + 1, by omega, by go_num, by rw [HS.out], B2⟩, by simp [intOf]; omega⟩
      · obtain rfl : k = n := by omega
        go_wp2_with fail
        go_ret2
        rw [HK.out]
        exact ⟨rfl, bnext B1.out HB.out B1.out.size⟩
  | false =>
    rw [hk] at CV
    have HK := Lib.hid hk
    clear hk
    refine CV.mono ?_
    rintro e w1 ⟨rfl, b1⟩
    have B1 := bnext B0.out b1 B0.out.size
    clear b1 p0 CV
    go_wp2_with fail
    go_ret2
    rw [HK.out]
    exact ⟨rfl, B1⟩
end Go.Proofs.Ytdegfcgknppcoaa
