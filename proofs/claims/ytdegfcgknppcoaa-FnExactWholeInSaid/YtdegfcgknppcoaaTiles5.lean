/- l.tiles(): the iterator over the tiles of a course; l.pieces(). -/
import Derived.Test.YtdegfcgknppcoaaTilI
import Derived.Test.YtdegfcgknppcoaaRowT
import Derived.Test.YtdegfcgknppcoaaLift
import Derived.Maps.AppendAt
namespace Go.Proofs.Ytdegfcgknppcoaa
open Go.RowKit Go.Shelf

/-- A tile from I on, of N. -/
abbrev Til (I N : Nat) := { i : Nat // I ≤ i ∧ i < N }
def Til.enc {I N : Nat} (h : Int) (x : Til I N) : Value := .agg #[.int .i64 (tlA h x.1), .int .i64 (tlA h x.1 + 8)]
/-- The first j tiles from i on. -/
def tlUp (N i : Nat) : Nat → List (Til i N)
  | 0 => []
  | j + 1 => tlUp N i j ++ (if q : i + j < N then [⟨i + j, Nat.le_add_right i j, q⟩] else [])
theorem tlUp_succ {N i j : Nat} (hj : i + j < N) : tlUp N i (j + 1) = tlUp N i j ++ [⟨i + j, Nat.le_add_right i j, hj⟩] := by simp only [tlUp]; rw [dif_pos hj]
theorem tlUp_len (N i : Nat) : ∀ j, (tlUp N i j).length ≤ j
  | 0 => Nat.le_refl _
  | j + 1 => by
    have := tlUp_len N i j
    simp only [tlUp, List.length_append]
    split <;> simp <;> omega
/-- The pieces of some tiles. -/
def pcsL (L R h : Int) {I N : Nat} (l : List (Til I N)) : List (Int × Int) := l.flatMap fun x => if tlW L R h x.1 then [] else [tlP L R h x.1]
theorem pcsL_snoc (L R h : Int) {I N : Nat} (l : List (Til I N)) (x : Til I N) : pcsL L R h (l ++ [x]) = pcsL L R h l ++ (if tlW L R h x.1 then [] else [tlP L R h x.1]) := by simp [pcsL]
theorem pcsL_len (L R h : Int) {I N : Nat} : ∀ l : List (Til I N), (pcsL L R h l).length ≤ l.length
  | [] => by simp [pcsL]
  | x :: l => by
    have := pcsL_len L R h l
    have h1 : (if tlW L R h x.1 then [] else [tlP L R h x.1]).length ≤ 1 := by split <;> simp
    simp only [pcsL, List.flatMap_cons, List.length_append, List.length_cons] at *
    omega
theorem pcsL_up {L R h : Int} (o : LaidOk L R h) : ∀ j, tlI L h + j ≤ tlN R h → pcsL L R h (tlUp (tlN R h) (tlI L h) j) = pcsTo L R h (tlI L h + j)
  | 0, _ => (pcsTo_skip o _ (Nat.le_refl _)).symm
  | j + 1, hj => by
    rw [tlUp_succ (by omega), pcsL_snoc, pcsL_up o j (by omega), ← Nat.add_assoc, pcsTo, tlE_full o (by omega) (by omega), Bool.false_or]

attribute [local go_sem] Oper.semAt_some

set_option maxRecDepth 100000 in
set_option maxHeartbeats 2000000 in
theorem tiles1_in (n : Nat) (hn : 1 ≤ n) (l Bn n0 : Nat) (L R h : Int) (ok : LaidOk L R h) (J Jx : List (Til (tlI L h) (tlN R h)) → World → Prop)
    (hY : ∀ (pre : List (Til (tlI L h) (tlN R h))) (x : Til (tlI L h) (tlN R h)) (W : World), J pre W → pre.length < tlN R h → YieldAt Fence.wide (n - 1) Try.prog l #[x.enc h] W fun e W' =>
      (e = .returned (.bool true) ∧ J (pre ++ [x]) W' ∧ KpS n0 Bn W W') ∨ (e = .returned (.bool false) ∧ Jx (pre ++ [x]) W'))
    (W : World) (hr : rowAt W Bn = some #[.int .i64 L, .int .i64 R, .int .i64 h]) (h0 : J [] W) :
    CallsIn Fence.wide n Try.prog 97 #[.func (.yield l) #[] #[], .pointer (some ⟨Bn, 0, none⟩)] W fun e W' => (∃ v, e = .returned v) ∧
      ((∃ ys, ys = tlUp (tlN R h) (tlI L h) (tlN R h - tlI L h) ∧ J ys W') ∨ (∃ pre, True ∧ Jx pre W')) := by
  have HY := Lib.hid hY
  have OK := Lib.hid ok
  have hle := tlI_le ok
  have hN := tlN_le ok
  have l0 := ok.lo
  have l1 := ok.lr
  have l2 := ok.hi
  have l3 := ok.sh
  have c1 := cell_of_rowAt hr
  have hw1 : IntKind.i64.wrap (L + 8) = L + 8 := IntWalk.i64_in _ (by omega)
  have hw2 : IntKind.i64.wrap (L + 8 - h) = L + 8 - h := IntWalk.i64_in _ (by omega)
  have hst : L - (L + 8 - h) % 8 = tlA h (tlI L h) := by unfold tlA tlI; omega
  have hst2 : IntKind.i64.wrap (tlA h (tlI L h)) = tlA h (tlI L h) := IntWalk.i64_in _ (by unfold tlA; omega)
  clear hY ok
  refine callsIn_of_wp Try.func97 rfl trivial ?_ rfl
  simp only [Try.ntmps97, List.size_toArray, List.length_cons, List.length_nil, Nat.reduceAdd, Nat.reduceSub, Array.replicate_succ, Array.replicate_zero, List.push_toArray, List.append_toArray, List.nil_append, List.cons_append]
  gi_wp2
  clear c1 hw1 hw2 hst hst2
  gi_loopw [4] (fun a wr => ∃ j : Nat, tlI L h + j ≤ tlN R h ∧ a = .int .i64 (tlA h (tlI L h + j)) ∧ J (tlUp (tlN R h) (tlI L h) j) wr ∧ rowAt wr Bn = some #[.int .i64 L, .int .i64 R, .int .i64 h]) (fun a _ => (400 - intOf a).toNat)
  case atStart => exact ⟨0, by omega, by simp, h0, hr⟩
  case round =>
    clear h0 hr
    obtain ⟨j, hj, rfl, hJ, hrow⟩ := hrel
    obtain ⟨wo, rfl⟩ : ∃ wo : World, wo = wr := ⟨_, rfl⟩
    have c0 := cell_of_rowAt hrow
    have HA1 : Hid (tlA h (tlI L h + (j + 1)) = tlA h (tlI L h + j) + 8) := Lib.hid (by unfold tlA; omega)
    have hAb : -8 ≤ tlA h (tlI L h + j) ∧ tlA h (tlI L h + j) ≤ 400 := by unfold tlA; omega
    by_cases hlt : tlI L h + j < tlN R h
    · have hlR := (tlN_lt OK.out).1 hlt
      have hd : decide (tlA h (tlI L h + j) < R) = true := by simpa using hlR
      obtain ⟨fn, tmps, assign, body, hy, hR⟩ := HY.out _ ⟨tlI L h + j, Nat.le_add_right _ _, hlt⟩ _ hJ (by have := tlUp_len (tlN R h) (tlI L h) j; omega)
      dsimp only [Til.enc] at hy
      have HS := Lib.hid (tlUp_succ hlt)
      generalize tlA h (tlI L h + j) = A at *
      have hwA : IntKind.i64.wrap (A + 8) = A + 8 := IntWalk.i64_in _ (by omega)
      gi_wp2
      refine hR.mono ?_
      rintro e W3 (⟨rfl, hJ3, hk3⟩ | ⟨rfl, hJx3⟩)
      · rw [← HS.out] at hJ3
        have hr3 := hk3.2 _ hrow
        clear hy hR hJ hrow hk3 c0
        gi_wp2
        go_roundw
        case rel => exact ⟨j + 1, by omega, by rw [HA1.out], hJ3, hr3⟩
        case measure => simp [intOf]; omega
      · clear hy hR hJ hrow c0
        gi_wp2
        refine bodyPost_ret (results_none rfl _ _ _) rfl ?_
        exact ⟨⟨_, rfl⟩, .inr ⟨_, trivial, hJx3⟩⟩
    · have hd : decide (tlA h (tlI L h + j) < R) = false := by
        have : ¬ tlA h (tlI L h + j) < R := fun hx => hlt ((tlN_lt OK.out).2 hx)
        simpa using this
      have hje : j = tlN R h - tlI L h := by omega
      have HJE := Lib.hid hje
      clear hje
      gi_wp2
      go_end0
      exact ⟨⟨_, rfl⟩, .inl ⟨_, by rw [← HJE.out], hJ⟩⟩
/-- **l.tiles() hands back a value that gives all tiles of which something is laid, in their order.** -/
theorem tiles_stops (n : Nat) (hn : 1 ≤ n) (Bn n0 : Nat) (L R h : Int) (ok : LaidOk L R h) (w : World) (hr : rowAt w Bn = some #[.int .i64 L, .int .i64 R, .int .i64 h]) :
    SeqStopsK Fence.wide n Try.prog 97 #[.pointer (some ⟨Bn, 0, none⟩)] (fun x : Til (tlI L h) (tlN R h) => #[x.enc h]) (KpS n0 Bn) (fun ys => ys = tlUp (tlN R h) (tlI L h) (tlN R h - tlI L h)) (fun _ => True) (tlN R h) w :=
  fun l J Jx W hW _ _ hY h0 => tiles1_in n hn l Bn n0 L R h ok J Jx hY W (brow hW hr) h0
set_option maxHeartbeats 1000000 in
theorem tiles_any (c : Array Value) (w : World) :
    Calls Try.prog 86 #[.agg c] w fun e w' => e = .returned (.func (.func 97) #[] #[.pointer (some ⟨w.heap.size, 0, none⟩)]) ∧ w' = w.alloc (.cells c 86) := by
  go_enter Try.func86, Try.ntmps86
  go_wp2
  go_ret
  exact ⟨rfl, rfl⟩

set_option maxRecDepth 100000 in
set_option maxHeartbeats 4000000 in
theorem laidPieces_any (L R h : Int) (ok : LaidOk L R h) (w : World) :
    Calls Try.prog 64 #[.agg #[.int .i64 L, .int .i64 R, .int .i64 h]] w (GivesPcs w (pcsTo L R h (tlN R h))) := by
  have OK := Lib.hid ok
  have hN := tlN_le ok
  have hle := tlI_le ok
  obtain ⟨i0, hi0, hz0, hz1, hz2⟩ := info_parts A_infoPcs
  refine (callsIn_wide (n := 3)).1 ?_
  refine callsIn_of_wp_marks Try.func64 rfl trivial ?_ rfl
  simp only [Try.ntmps64, List.size_toArray, List.length_cons, List.length_nil, Nat.reduceAdd, Nat.reduceSub, Array.replicate_succ, Array.replicate_zero, List.push_toArray, List.append_toArray, List.nil_append, List.cons_append]
  gi_wp2
  refine ⟨trivial, (callsIn_wide.2 (tiles_any _ _)).mono ?_⟩
  rintro e' w' ⟨rfl, rfl⟩
  gi_wp2
  obtain ⟨W0, hW0⟩ : ∃ W0, ((w.alloc (.cells #[.int .i64 L, .int .i64 R, .int .i64 h] 86)).alloc (.cells #[.slice none 0 0] 45)).alloc (.cells #[.int .i64 L, .int .i64 R, .int .i64 h] 86) = W0 := ⟨_, rfl⟩
  have rA : RowT W0 w.heap.size 86 #[.int .i64 L, .int .i64 R, .int .i64 h] := by rw [← hW0]; exact ((RowT.new w 86 _).alloc _).alloc _
  have rC0 : RowT W0 (w.heap.size + 1) 45 #[.slice none 0 0] := by
    have := (RowT.new (w.alloc (.cells #[.int .i64 L, .int .i64 R, .int .i64 h] 86)) 45 #[.slice none 0 0]).alloc (.cells #[.int .i64 L, .int .i64 R, .int .i64 h] 86)
    rw [hW0] at this; simpa using this
  have rC : Boxed W0 (w.heap.size + 1) 45 (.slice none 0 0) := rC0
  have rD : RowT W0 (w.heap.size + 1 + 1) 86 #[.int .i64 L, .int .i64 R, .int .i64 h] := by
    have := RowT.new ((w.alloc (.cells #[.int .i64 L, .int .i64 R, .int .i64 h] 86)).alloc (.cells #[.slice none 0 0] 45)) 86 #[.int .i64 L, .int .i64 R, .int .i64 h]
    rw [hW0] at this; simpa using this
  have hB0 : Below w.heap.size w W0 := by rw [← hW0]; exact (((Below.refl _ _).alloc (Nat.le_refl _) _).alloc (by simp) _).alloc (by simp; omega) _
  have hsz : W0.heap.size = w.heap.size + 1 + 1 + 1 := by rw [← hW0]; simp
  rw [hW0]
  clear hW0 rC0
  refine wpIn_rangeFunc_ownH rfl (by omega) (gf := 97) (lb := #[.pointer (some ⟨w.heap.size + 1 + 1, 0, none⟩)]) rfl trivial (enters_of Try.func97 (by kernel_rfl) rfl)
    (tiles_stops 2 (by omega) (w.heap.size + 1 + 1) w.heap.size L R h ok W0 rD.row) KpS.trans (KpS.put (by omega) (by omega)) (Below.refl _ _) (fun _ => rfl)
    (fun pre W => ((RowT W w.heap.size 86 #[.int .i64 L, .int .i64 R, .int .i64 h] ∧ RowT W (w.heap.size + 1 + 1) 86 #[.int .i64 L, .int .i64 R, .int .i64 h]) ∧ (∃ v, Boxed W (w.heap.size + 1) 45 v ∧ W.ownsRow w.heap.size 92 2 v (pcsL L R h pre).length (pcCells (pcsL L R h pre)) ∧ True)) ∧ Below w.heap.size w W)
    (fun _ _ _ => False)
    (OwnFrom.and (OwnFrom.and (OwnFrom.and (Own.from (RowT.own _ _ _) _) (Own.from (RowT.own _ _ _) _)) (Own.from (holdsRow_own w.heap.size (w.heap.size + 1) 45 92 2 (fun pre => (pcsL L R h pre).length) (fun pre => pcCells (pcsL L R h pre)) (fun _ _ => True)) _)) (ownFrom_below (Nat.le_refl _) (by omega)))
    (fun _ _ _ _ _ hs _ _ => hs)
    ⟨⟨⟨rA, rD⟩, ⟨_, rC, World.ownsRow_nil _ _ _ _, trivial⟩⟩, hB0⟩
    (fun x a' W => ∃ Bx, w.heap.size + 1 + 1 < Bx ∧ RowT W Bx 84 #[.int .i64 (tlA h x.1), .int .i64 (tlA h x.1 + 8)] ∧ a' = { tmps := #[.agg #[.int .i64 L, .int .i64 R, .int .i64 h], .pointer (some ⟨w.heap.size, 0, none⟩), .slice none 0 0, .pointer (some ⟨w.heap.size + 1, 0, none⟩), .pointer (some ⟨Bx, 0, none⟩), .agg #[.int .i64 L, .int .i64 R, .int .i64 h], .func (.func 97) #[] #[.pointer (some ⟨w.heap.size + 1 + 1, 0, none⟩)], x.enc h, undef, undef, undef, undef, undef, undef, undef, undef, undef, undef, undef], defers := [] })
    (fun x a' _ X Y row hs hg hr => by obtain ⟨Bx, h1, h2, h3⟩ := hs; exact ⟨Bx, h1, RowT.own Bx 84 (fun (_ : Unit) => #[Value.int .i64 (tlA h x.1), .int .i64 (tlA h x.1 + 8)]) () X Y row h2 hg (fun r e => (hr r e).2), h3⟩)
    ?assign ?body ?done ?stop
  case assign =>
    rintro l pre x W K ⟨⟨⟨gA, gD⟩, v, gv, gl, _⟩, hB1⟩ hK
    dsimp only [Til.enc]
    gi_wp2
    refine hK _ _ ((KeepsOthers.alloc _ _).from _) ⟨(Below.refl _ W).alloc hB1.size _, fun c' h => (rowAt_alloc_past _ _ _ (rowAt_lt h)).trans h⟩ ⟨⟨⟨gA.alloc _, gD.alloc _⟩, v, gv.alloc _, gl.alloc _, trivial⟩, hB1.alloc hB1.size _⟩ ⟨W.heap.size, gD.lt, RowT.new W 84 _, rfl⟩
  case body =>
    rintro l pre x a' W hl ⟨rr, hrr⟩ ⟨⟨⟨gA, gD⟩, v, gv, gl, _⟩, hB1⟩ ⟨Bx, hBx, gX, rfl⟩ hlt
    have hx := x.2
    have hpl := pcsL_len L R h pre
    have c0 := cell_of_rowAt gA.row
    have c1 := cell_of_rowAt gX.row
    obtain ⟨A, hA⟩ : ∃ A, tlA h x.1 = A := ⟨_, rfl⟩
    have HX : Hid (tlW L R h x.1 = decide (L ≤ A ∧ A + 8 ≤ R)) := Lib.hid (by unfold tlW; rw [hA])
    have HX3 : Hid (pcsL L R h (pre ++ [x]) = pcsL L R h pre ++ (if tlW L R h x.1 then [] else [tlP L R h x.1])) := Lib.hid (pcsL_snoc L R h pre x)
    have hbA : -8 ≤ tlA h x.1 ∧ tlA h x.1 ≤ 400 := by have := OK.out.sh; unfold tlA; omega
    have HA := Lib.hid hA
    rw [hA] at c1 gX hbA
    clear hA
    gi_wp2
    refine ⟨trivial, (CallsIn.inRound l (callsIn_wide.2 (isWhole_any L R h A (A + 8) _))).mono ?_⟩
    rintro e W2 ⟨rfl, bW⟩
    have gA2 := gA.below bW
    have gD2 := gD.below bW
    have gX2 := gX.below bW
    have hv2 : Boxed W2 (w.heap.size + 1) 45 v := RowT.below gv bW
    have gl2 := owns_below gl bW
    clear c0 c1 gA gX gv gl
    by_cases hw : L ≤ A ∧ A + 8 ≤ R
    · have hd : decide (L ≤ A ∧ A + 8 ≤ R) = true := by simp [hw]
      rw [hd]
      have HX2 : Hid (tlW L R h x.1 = true) := Lib.hid (HX.out.trans hd)
      clear hd hw
      gi_wp2
      exact ⟨(keeps_of_below bW).from _, ⟨bW.mono hB1.size, fun c' h' => brow bW h'⟩, ⟨⟨gA2, gD2⟩, v, hv2, by rw [HX3.out, HX2.out]; simpa using gl2, trivial⟩, bnext hB1 bW hB1.size⟩
    · have hd : decide (L ≤ A ∧ A + 8 ≤ R) = false := by simp; omega
      rw [hd]
      have hE := tlP_bd OK.out (i := x.1) (tlE_full OK.out hx.1 hx.2) (by rw [HX.out, hd])
      obtain ⟨F, hF⟩ : ∃ F, F = if A < L then L else A := ⟨_, rfl⟩
      obtain ⟨T, hT⟩ : ∃ T, T = if R < A + 8 then R else A + 8 := ⟨_, rfl⟩
      obtain ⟨H, hHH⟩ : ∃ H : Int, Hid (H = if L ≤ A then 0 else if A + 8 ≤ R then 1 else 2) := ⟨_, Lib.hid rfl⟩
      have eF : tlF L h x.1 = F := by unfold tlF; rw [HA.out, hF]
      have eT : tlT R h x.1 = T := by unfold tlT; rw [HA.out, hT]
      have eH : tlH L R h x.1 = H := by unfold tlH; rw [HA.out, hHH.out]
      have HX2 : Hid ((if tlW L R h x.1 then [] else [tlP L R h x.1]) = [(H, T - F)]) := Lib.hid (by rw [HX.out, hd]; simp [tlP, eF, eT, eH])
      rw [eF, eT] at hE
      have hTF := hE.2
      clear hd hw hE eF eT eH
      have F1 := Lib.hid hF
      have T1 := Lib.hid hT
      clear hF hT
      gi_wp2
      refine wpIn_region_held (S := fun w' => RowT w' w.heap.size 86 #[.int .i64 L, .int .i64 R, .int .i64 h] ∧ RowT w' Bx 84 #[.int .i64 A, .int .i64 (A + 8)]) (by kernel_rfl) (by kernel_rfl) ⟨gA2.drew, gX2.drew⟩ (fun hH => ?_)
      refine wpAnyH_take (i := 1) (v := .agg #[.int .i64 L, .int .i64 R, .int .i64 h]) rfl (by kernel_rfl) (by kernel_rfl) (by kernel_rfl) (fun _ _ _ h => h) (Or.inl ⟨by rfl, ?_⟩) hH ?_
      · intro w1 hS; (try dsimp only at hS); have s0 := cell_of_rowAt hS.1.row; go_simp
      (try simp only [List.getElem_toArray]); (try simp only [List.getElem_cons_succ]); (try simp only [List.getElem_cons_zero]); (try simp only [Act.put]); (try simp only [List.setIfInBounds_toArray]); (try simp only [List.set_cons_succ]); (try simp only [List.set_cons_zero])
      refine wpAnyH_take (i := 2) (v := .agg #[.int .i64 A, .int .i64 (A + 8)]) rfl (by kernel_rfl) (by kernel_rfl) (by kernel_rfl) (fun _ _ _ h => h) (Or.inl ⟨by rfl, ?_⟩) hH ?_
      · intro w1 hS; (try dsimp only at hS); have s0 := cell_of_rowAt hS.2.row; go_simp
      (try simp only [List.getElem_toArray]); (try simp only [List.getElem_cons_succ]); (try simp only [List.getElem_cons_zero]); (try simp only [Act.put]); (try simp only [List.setIfInBounds_toArray]); (try simp only [List.set_cons_succ]); (try simp only [List.set_cons_zero])
      generalize hV : W2.drew = V at *
      have kV : Below W.heap.size W V := by rw [← hV]; exact bW.drew
      have vv : Boxed V (w.heap.size + 1) 45 v := by rw [← hV]; exact hv2
      have vl : V.ownsRow w.heap.size 92 2 v (pcsL L R h pre).length (pcCells (pcsL L R h pre)) := by rw [← hV]; exact gl2
      have vD : RowT V (w.heap.size + 1 + 1) 86 #[.int .i64 L, .int .i64 R, .int .i64 h] := by rw [← hV]; exact gD2.drew
      have cv := vv.cell
      clear hV hv2 gl2 gD2 gA2 gX2
      refine wpAnyH_ready (rs := [0, 3]) (by kernel_rfl) (by simp) (AllReadyH.cons rfl (fun K hK => ?_) (AllReadyH.cons rfl (fun K hK => ?_) AllReadyH.nil))
      · go_simp
        refine hK.out _ _ (hH) (fun hG => ?_)
        clear hK K hH
        replace hH := hG
        clear hG
        (try simp only [List.getElem_toArray]); (try simp only [List.getElem_cons_succ]); (try simp only [List.getElem_cons_zero]); (try simp only [Act.put]); (try simp only [List.setIfInBounds_toArray]); (try simp only [List.set_cons_succ]); (try simp only [List.set_cons_zero])
        refine wpAnyH_ready (rs := [3]) (by kernel_rfl) (by simp) (AllReadyH.cons rfl (fun K hK => ?_) AllReadyH.nil)
        go_simp
        refine (pieceOf_go L R h A (A + 8) F T H F1.out T1.out hTF hHH _).mono ?_
        rintro x wx ⟨rfl, bx⟩
        have wv : Boxed wx (w.heap.size + 1) 45 v := RowT.below vv bx
        have wl := owns_below vl bx
        have wD := vD.below bx
        have kx := kV.trans (bx.mono kV.size)
        have cv2 := wv.cell
        have hs5 := kx.size
        have hs6 := hB1.size
        go_simp
        refine hK.out _ _ (⟨hH.1.below bx, hH.2.below bx⟩) (fun hG => ?_)
        clear hK K hH
        replace hH := hG
        clear hG
        (try simp only [List.getElem_toArray]); (try simp only [List.getElem_cons_succ]); (try simp only [List.getElem_cons_zero]); (try simp only [Act.put]); (try simp only [List.setIfInBounds_toArray]); (try simp only [List.set_cons_succ]); (try simp only [List.set_cons_zero])
        have wA := hH.1
        have wX := hH.2
        refine wpAnyH_ready (rs := [4]) (by kernel_rfl) (by simp) (AllReadyH.cons rfl (fun K hK => ?_) AllReadyH.nil)
        go_simp
        refine hK.out _ _ (⟨hH.1.alloc _, hH.2.alloc _⟩) (fun hG => ?_)
        clear hK K hH
        replace hH := hG
        clear hG
        (try simp only [List.getElem_toArray]); (try simp only [List.getElem_cons_succ]); (try simp only [List.getElem_cons_zero]); (try simp only [Act.put]); (try simp only [List.setIfInBounds_toArray]); (try simp only [List.set_cons_succ]); (try simp only [List.set_cons_zero])
        refine wpAnyH_ready (rs := [5]) (by kernel_rfl) (by simp) (AllReadyH.cons rfl (fun K hK => ?_) AllReadyH.nil)
        refine step_append_own rfl (.tmp 12) (.tmp 16) 45 rfl w.heap.size 92 i0 (.agg #[.int .i8 0, .int .i8 0]) 2 2 Try.underlying45 hi0 hz0 hz1 hz2 rfl (by decide) _ _ _ rfl (wl.alloc _) ⟨wx.heap.size, 0, none⟩ 1 1 [.int .i8 H, .int .i8 (T - F)] rfl rfl (cells_new2 rfl _ _ _) (by simp [Value.oneCell']) (by unfold maxLen; omega) (by omega) (by simp; omega) ?_
        intro v' w1 hown' hgrow
        obtain ⟨g', cap', rfl⟩ := ownsRow_succ hown'
        obtain ⟨hv1, hv2, hr2, hk2, hb3⟩ := wv.appended (by decide) wl (by omega) (by omega) hown' hgrow
        have hc1 := hv1.cell
        have hf1 := hv1.frozen
        have zA := (wA.appended (by decide) wl hgrow).other (B' := w.heap.size + 1) (o := 0) (by omega) (.slice (some ⟨g', 0, none⟩) ((pcsL L R h pre).length + 1) cap')
        have zD := (wD.appended (by decide) wl hgrow).other (B' := w.heap.size + 1) (o := 0) (by omega) (.slice (some ⟨g', 0, none⟩) ((pcsL L R h pre).length + 1) cap')
        refine hK.out _ _ (⟨wA.appended (by decide) wl hgrow, wX.appended (by decide) wl hgrow⟩) (fun hG => ?_)
        clear hK K hH
        replace hH := hG
        clear hG
        (try simp only [List.getElem_toArray]); (try simp only [List.getElem_cons_succ]); (try simp only [List.getElem_cons_zero]); (try simp only [Act.put]); (try simp only [List.setIfInBounds_toArray]); (try simp only [List.set_cons_succ]); (try simp only [List.set_cons_zero])
        refine wpAnyH_ready (rs := [6]) (by kernel_rfl) (by simp) (AllReadyH.cons rfl (fun K hK => ?_) AllReadyH.nil)
        go_simp
        refine hK.out _ _ (⟨hH.1.other (by omega) _, hH.2.other (by omega) _⟩) (fun hG => ?_)
        clear hK K hH
        replace hH := hG
        clear hG
        (try simp only [List.getElem_toArray]); (try simp only [List.getElem_cons_succ]); (try simp only [List.getElem_cons_zero]); (try simp only [Act.put]); (try simp only [List.setIfInBounds_toArray]); (try simp only [List.set_cons_succ]); (try simp only [List.set_cons_zero])
        refine wpAnyH_done (by kernel_rfl) ?_ _
        dsimp only [OnlyN]
        gi_wp2
        refine ⟨((keeps_of_below kx).trans hk2).from _, ⟨(kx.mono (by omega)).trans hb3, fun c' h' => ?_⟩, ⟨⟨zA, zD⟩, _, hv2, by rw [pcsL_snoc, HX2.out, pcCells_app]; simpa [pcCells] using hr2, trivial⟩, (bnext hB1 kx hB1.size).trans hb3⟩
        rw [zD.row, ← gD.row]
        exact h'
      · go_simp
        refine (pieceOf_go L R h A (A + 8) F T H F1.out T1.out hTF hHH _).mono ?_
        rintro x wx ⟨rfl, bx⟩
        have wv : Boxed wx (w.heap.size + 1) 45 v := RowT.below vv bx
        have wl := owns_below vl bx
        have wD := vD.below bx
        have kx := kV.trans (bx.mono kV.size)
        have cv2 := wv.cell
        have hs5 := kx.size
        have hs6 := hB1.size
        go_simp
        refine hK.out _ _ (⟨hH.1.below bx, hH.2.below bx⟩) (fun hG => ?_)
        clear hK K hH
        replace hH := hG
        clear hG
        (try simp only [List.getElem_toArray]); (try simp only [List.getElem_cons_succ]); (try simp only [List.getElem_cons_zero]); (try simp only [Act.put]); (try simp only [List.setIfInBounds_toArray]); (try simp only [List.set_cons_succ]); (try simp only [List.set_cons_zero])
        have wA := hH.1
        have wX := hH.2
        have lw := wv.lt
        have nw := Nat.ne_of_lt lw
        refine wpAnyH_ready (rs := [0, 4]) (by kernel_rfl) (by simp) (AllReadyH.cons rfl (fun K hK => ?_) (AllReadyH.cons rfl (fun K hK => ?_) AllReadyH.nil))
        · go_simp
          refine hK.out _ _ (hH) (fun hG => ?_)
          clear hK K hH
          replace hH := hG
          clear hG
          (try simp only [List.getElem_toArray]); (try simp only [List.getElem_cons_succ]); (try simp only [List.getElem_cons_zero]); (try simp only [Act.put]); (try simp only [List.setIfInBounds_toArray]); (try simp only [List.set_cons_succ]); (try simp only [List.set_cons_zero])
          refine wpAnyH_ready (rs := [4]) (by kernel_rfl) (by simp) (AllReadyH.cons rfl (fun K hK => ?_) AllReadyH.nil)
          go_simp
          refine hK.out _ _ (⟨hH.1.alloc _, hH.2.alloc _⟩) (fun hG => ?_)
          clear hK K hH
          replace hH := hG
          clear hG
          (try simp only [List.getElem_toArray]); (try simp only [List.getElem_cons_succ]); (try simp only [List.getElem_cons_zero]); (try simp only [Act.put]); (try simp only [List.setIfInBounds_toArray]); (try simp only [List.set_cons_succ]); (try simp only [List.set_cons_zero])
          refine wpAnyH_ready (rs := [5]) (by kernel_rfl) (by simp) (AllReadyH.cons rfl (fun K hK => ?_) AllReadyH.nil)
          refine step_append_own rfl (.tmp 12) (.tmp 16) 45 rfl w.heap.size 92 i0 (.agg #[.int .i8 0, .int .i8 0]) 2 2 Try.underlying45 hi0 hz0 hz1 hz2 rfl (by decide) _ _ _ rfl (wl.alloc _) ⟨wx.heap.size, 0, none⟩ 1 1 [.int .i8 H, .int .i8 (T - F)] rfl rfl (cells_new2 rfl _ _ _) (by simp [Value.oneCell']) (by unfold maxLen; omega) (by omega) (by simp; omega) ?_
          intro v' w1 hown' hgrow
          obtain ⟨g', cap', rfl⟩ := ownsRow_succ hown'
          obtain ⟨hv1, hv2, hr2, hk2, hb3⟩ := wv.appended (by decide) wl (by omega) (by omega) hown' hgrow
          have hc1 := hv1.cell
          have hf1 := hv1.frozen
          have zA := (wA.appended (by decide) wl hgrow).other (B' := w.heap.size + 1) (o := 0) (by omega) (.slice (some ⟨g', 0, none⟩) ((pcsL L R h pre).length + 1) cap')
          have zD := (wD.appended (by decide) wl hgrow).other (B' := w.heap.size + 1) (o := 0) (by omega) (.slice (some ⟨g', 0, none⟩) ((pcsL L R h pre).length + 1) cap')
          refine hK.out _ _ (⟨wA.appended (by decide) wl hgrow, wX.appended (by decide) wl hgrow⟩) (fun hG => ?_)
          clear hK K hH
          replace hH := hG
          clear hG
          (try simp only [List.getElem_toArray]); (try simp only [List.getElem_cons_succ]); (try simp only [List.getElem_cons_zero]); (try simp only [Act.put]); (try simp only [List.setIfInBounds_toArray]); (try simp only [List.set_cons_succ]); (try simp only [List.set_cons_zero])
          refine wpAnyH_ready (rs := [6]) (by kernel_rfl) (by simp) (AllReadyH.cons rfl (fun K hK => ?_) AllReadyH.nil)
          go_simp
          refine hK.out _ _ (⟨hH.1.other (by omega) _, hH.2.other (by omega) _⟩) (fun hG => ?_)
          clear hK K hH
          replace hH := hG
          clear hG
          (try simp only [List.getElem_toArray]); (try simp only [List.getElem_cons_succ]); (try simp only [List.getElem_cons_zero]); (try simp only [Act.put]); (try simp only [List.setIfInBounds_toArray]); (try simp only [List.set_cons_succ]); (try simp only [List.set_cons_zero])
          refine wpAnyH_done (by kernel_rfl) ?_ _
          dsimp only [OnlyN]
          gi_wp2
          refine ⟨((keeps_of_below kx).trans hk2).from _, ⟨(kx.mono (by omega)).trans hb3, fun c' h' => ?_⟩, ⟨⟨zA, zD⟩, _, hv2, by rw [pcsL_snoc, HX2.out, pcCells_app]; simpa [pcCells] using hr2, trivial⟩, (bnext hB1 kx hB1.size).trans hb3⟩
          rw [zD.row, ← gD.row]
          exact h'
        · go_simp
          refine hK.out _ _ (⟨hH.1.alloc _, hH.2.alloc _⟩) (fun hG => ?_)
          clear hK K hH
          replace hH := hG
          clear hG
          (try simp only [List.getElem_toArray]); (try simp only [List.getElem_cons_succ]); (try simp only [List.getElem_cons_zero]); (try simp only [Act.put]); (try simp only [List.setIfInBounds_toArray]); (try simp only [List.set_cons_succ]); (try simp only [List.set_cons_zero])
          refine wpAnyH_ready (rs := [0]) (by kernel_rfl) (by simp) (AllReadyH.cons rfl (fun K hK => ?_) AllReadyH.nil)
          go_simp
          refine hK.out _ _ (hH) (fun hG => ?_)
          clear hK K hH
          replace hH := hG
          clear hG
          (try simp only [List.getElem_toArray]); (try simp only [List.getElem_cons_succ]); (try simp only [List.getElem_cons_zero]); (try simp only [Act.put]); (try simp only [List.setIfInBounds_toArray]); (try simp only [List.set_cons_succ]); (try simp only [List.set_cons_zero])
          refine wpAnyH_ready (rs := [5]) (by kernel_rfl) (by simp) (AllReadyH.cons rfl (fun K hK => ?_) AllReadyH.nil)
          refine step_append_own rfl (.tmp 12) (.tmp 16) 45 rfl w.heap.size 92 i0 (.agg #[.int .i8 0, .int .i8 0]) 2 2 Try.underlying45 hi0 hz0 hz1 hz2 rfl (by decide) _ _ _ rfl (wl.alloc _) ⟨wx.heap.size, 0, none⟩ 1 1 [.int .i8 H, .int .i8 (T - F)] rfl rfl (cells_new2 rfl _ _ _) (by simp [Value.oneCell']) (by unfold maxLen; omega) (by omega) (by simp; omega) ?_
          intro v' w1 hown' hgrow
          obtain ⟨g', cap', rfl⟩ := ownsRow_succ hown'
          obtain ⟨hv1, hv2, hr2, hk2, hb3⟩ := wv.appended (by decide) wl (by omega) (by omega) hown' hgrow
          have hc1 := hv1.cell
          have hf1 := hv1.frozen
          have zA := (wA.appended (by decide) wl hgrow).other (B' := w.heap.size + 1) (o := 0) (by omega) (.slice (some ⟨g', 0, none⟩) ((pcsL L R h pre).length + 1) cap')
          have zD := (wD.appended (by decide) wl hgrow).other (B' := w.heap.size + 1) (o := 0) (by omega) (.slice (some ⟨g', 0, none⟩) ((pcsL L R h pre).length + 1) cap')
          refine hK.out _ _ (⟨wA.appended (by decide) wl hgrow, wX.appended (by decide) wl hgrow⟩) (fun hG => ?_)
          clear hK K hH
          replace hH := hG
          clear hG
          (try simp only [List.getElem_toArray]); (try simp only [List.getElem_cons_succ]); (try simp only [List.getElem_cons_zero]); (try simp only [Act.put]); (try simp only [List.setIfInBounds_toArray]); (try simp only [List.set_cons_succ]); (try simp only [List.set_cons_zero])
          refine wpAnyH_ready (rs := [6]) (by kernel_rfl) (by simp) (AllReadyH.cons rfl (fun K hK => ?_) AllReadyH.nil)
          go_simp
          refine hK.out _ _ (⟨hH.1.other (by omega) _, hH.2.other (by omega) _⟩) (fun hG => ?_)
          clear hK K hH
          replace hH := hG
          clear hG
          (try simp only [List.getElem_toArray]); (try simp only [List.getElem_cons_succ]); (try simp only [List.getElem_cons_zero]); (try simp only [Act.put]); (try simp only [List.setIfInBounds_toArray]); (try simp only [List.set_cons_succ]); (try simp only [List.set_cons_zero])
          refine wpAnyH_done (by kernel_rfl) ?_ _
          dsimp only [OnlyN]
          gi_wp2
          refine ⟨((keeps_of_below kx).trans hk2).from _, ⟨(kx.mono (by omega)).trans hb3, fun c' h' => ?_⟩, ⟨⟨zA, zD⟩, _, hv2, by rw [pcsL_snoc, HX2.out, pcCells_app]; simpa [pcCells] using hr2, trivial⟩, (bnext hB1 kx hB1.size).trans hb3⟩
          rw [zD.row, ← gD.row]
          exact h'
  case done =>
    rintro D ys W hD rfl ⟨⟨⟨gA, gD⟩, v, gv, gl, _⟩, hB1⟩ hK
    have hc := gv.cell
    gi_wp2
    refine ⟨by simp, .inl ⟨_, _, rfl, run_takeDeferred hK, ?_⟩⟩
    rw [pcsL_up OK.out _ (by omega), show tlI L h + (tlN R h - tlI L h) = tlN R h by omega] at gl
    exact ⟨_, results_tmp rfl _ _ _, v, rfl, IsList.of_pcs (ownsRow_putObj gl _ hK rfl), hB1.trans (belowK_s (w := w) (Nat.le_refl _) W D _ _ (by omega) hK rfl rfl)⟩
  case stop =>
    rintro D c pre W _ _ h _
    exact h.elim
end Go.Proofs.Ytdegfcgknppcoaa
