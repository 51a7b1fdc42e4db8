import Derived.Test.YtgdhfcpmeaeioaaDoorCards
import Derived.Test.YtgdhfcpmeaeioaaDoorTie
import Derived.Test.YtgdhfcpmeaeioaaDoorLaidN
import Derived.Test.YtgdhfcpmeaeioaaDoorEqRoof
import Derived.Test.YtgdhfcpmeaeioaaDoorSame
import Derived.Test.YtgdhfcpmeaeioaaDoorRrJ
import Derived.Test.YtgdhfcpmeaeioaaDoorRrS
import Derived.ShutString
import Derived.HandedShaped
import Derived.Shelf.Vars
import Derived.Lay
import Derived.LaidOnce

/- laws.FnExactReadRoof returns true for every text. The tables of Go's own that are listed are tied by the card. -/
namespace Go.Proofs.YtgdhfcpmeaeioaaDoor
open Go.RowKit
open Go.ChangeMaps (open_string shut_string)

set_option maxRecDepth 100000 in
set_option maxHeartbeats 2000000 in
theorem law_walk_FnExactReadRoof {w : World} {s : ByteArray} (hs : s.size ≤ maxLen) {mx : Int} (hmx : w.cell? ⟨4, 0, none⟩ = some (.int .i64 mx)) :
    Calls Tryd.prog 3 #[.string s] w fun e w' => e = .returned (.bool true) ∧ Below w.heap.size w w' := by
  unfold maxLen at hs
  by_cases hl : s.size ≤ 1048576
  rotate_left
  · have hl1 : (1048576 : Int) < s.size := by omega
    go_enter Tryd.func3, Tryd.ntmps3
    go_wp2_with fail
    go_ret
    exact ⟨rfl, Below.refl _ _⟩
  have hl1 : ¬ (1048576 : Int) < s.size := by omega
  obtain ⟨X, hX⟩ : ∃ X, rrA s.data.toList = X := ⟨_, rfl⟩
  have hI : IsRoof X (rrQ s.data.toList) := by rw [← hX]; exact rrA_is _
  have CS := fun W => specReadRoof_any s W (by omega) X hX
  have CI := fun W H => implReadRoof_any s W mx H (by omega) X hX
  have hne : ((rrC s.data.toList) != (rrC s.data.toList)) = false := by simp
  generalize rrC s.data.toList = v0 at *
  have hXs := hI.size
  have hXo := hI.ones
  have CE := fun w => eqRoof_same X _ w hI
  have hlm := World.block_lt_of_cell? _ _ hmx
  clear hX hl
  go_enter Tryd.func3, Tryd.ntmps3
  go_wp2_with fail
  refine (CS _).mono ?_
  rintro e w2 ⟨rfl, B2⟩
  clear CS
  go_wp2_with fail
  refine gen_callsW fun W3 hW => ?_
  have x3 : rowAt W3 w2.heap.size = some X := by rw [hW]; exact rowAt_alloc_at _ _ _ _ rfl
  have B3 : Below w.heap.size w W3 := by rw [hW]; exact B2.alloc B2.size _
  clear hW B2
  refine (CI _ ((World.cell?_of_block (a := ⟨4, 0, none⟩) (B3.block _ hlm)).trans hmx)).mono ?_
  rintro e w5 ⟨rfl, b5⟩
  have x5 := brow b5 x3
  have B5 := bnext B3 b5 B3.size
  clear b5 x3 B3 CI
  have lx := rowAt_lt x5
  have nx : w2.heap.size ≠ w5.heap.size := Nat.ne_of_lt lx
  go_wp2_with fail
  refine gen_callsW fun W6 hW => ?_
  have B6 : Below w.heap.size w W6 := by rw [hW]; first | exact B5.alloc B5.size _ | exact (B5.alloc B5.size _).drew
  clear hW x5
  refine (CE _).mono ?_
  rintro e w7 ⟨rfl, b7⟩
  have B7 := bnext B6 b7 B6.size
  clear b7 B6
  go_wp2_with fail
  go_ret
  exact ⟨rfl, B7⟩

/-- The frame of a row that lists tables, the world's shape kept. -/
theorem returnsInHanded_of_change_both {H : Type} {enc : TypeId × Value → H} {a : Assume} {C : Checked} {os : Os} {f : FuncId} {fn : Func} {s : ChangeSpec} {conds : List PathCond} {apart fresh handsOn again : Bool} {X : World → Array Value → Prop}
    (own : ownKnob C.prog.godebug = none) (started : os.Started) (noInit : C.prog.inits.idxOf? f = none) (hfn : C.prog.funcs[f]? = some fn)
    (witness : ∃ (w : World) (tape : Tape) (i : Input), w.os = os ∧ (w.forCall tape i).Shaped C.prog ∧ i.vars = [] ∧ Input.okWide C.prog (w.forCall tape i) .any w.heap.size f i ∧
      ((s.pre enc C.prog fn conds apart (w.forCall tape i).memory i.args ∧ X (w.forCall tape i).memory i.args) ∧ sizedMet enc C.prog fn (OpenSpec.ofChange s) apart (w.forCall tape i).memory i.args) ∧ a.holds C.prog (lone (Frame.enter C.prog f i.args .normal) [] (w.forCall tape i)))
    (contract : ∀ (W : World) (base : Nat) (args : Array Value) (ds gs : List (DataW H)) (before : List MemPlace),
      (∀ (j : Nat) t v, fn.params[j]? = some t → args[j]? = some v → Value.okWide C.prog W .any base t v) →
      DataW.Whole enc C.prog fn.params.toList s.vars apart W args.toList ds gs before →
      W.ShapedOpen C.prog →
      Calls C.prog f args W fun e W' => ∃ v, e = .returned v ∧ s.post enc C.prog fn apart fresh handsOn again W args v W') :
    ReturnsInHanded a C os f .any (fun w args => (s.pre enc C.prog fn conds apart w args ∧ X w args) ∧ sizedMet enc C.prog fn (OpenSpec.ofChange s) apart w args) (s.post enc C.prog fn apart fresh handsOn again) := by
  refine returnsInHanded_of_calls own started noInit witness fun w tape i _ hsh _ hok hpre _ => ?_
  obtain ⟨_, _, _, fn', hfn', _, _, _, _, hval⟩ := hok
  obtain rfl : fn' = fn := Option.some.inj (hfn'.symm.trans hfn)
  obtain ⟨⟨⟨ds, gs, before, hw, _⟩, _⟩, _⟩ := hpre
  refine (contract (w.forCall tape i) w.heap.size i.args ds gs before hval (DataW.Whole.of_heap (w' := w.forCall tape i) (by rfl) hw) hsh).mono fun e W' ⟨v, he, hp⟩ => ?_
  subst he
  exact ChangeSpec.post_blind hp

namespace LFnExactReadRoof
open Go.RowKit Go.ChangeShapes Go.WideShapes Go.ChangeAt
theorem maxLen_cell (W : World) (h : W.ShapedOpen Tryd.prog) : ∃ m, W.cell? ⟨4, 0, none⟩ = some (.int .i64 m) :=
  cell_of_shapedOpen_int (t := 3) (zero := #[.int .i64 0]) h (of_decide_eq_true (by kernel_rfl)) (by kernel_rfl) (by kernel_rfl) (by kernel_rfl) (by kernel_rfl) Tryd.underlying3
theorem own : ownKnob Tryd.prog.godebug = none := by kernel_rfl
theorem laidOut : laidOutB Tryd.prog = true := by kernel_rfl
set_option maxRecDepth 100000 in
theorem lifted (os : Os) (started : os.Started) (H : Type) (enc : TypeId × Value → H) :
    ReturnsInHanded {} Tryd.checked os 3 .any (fun w args => (Rows.fnExactReadRoofSpec.pre enc Tryd.prog Tryd.f3 [] false w args ∧ laidMetH Tryd.prog Rows.fnExactReadRoofRow.laid w) ∧ sizedMet enc Tryd.prog Tryd.f3 (OpenSpec.ofChange Rows.fnExactReadRoofSpec) false w args)
      (Rows.fnExactReadRoofSpec.post enc Tryd.prog Tryd.f3 false true false false) := by
  refine returnsInHanded_of_change_both (C := Tryd.checked) (X := fun w _ => laidMetH Tryd.prog Rows.fnExactReadRoofRow.laid w) own started (by kernel_rfl) Tryd.func3
    (ChangeSpec.witness_shaped (enc := enc) (C := Tryd.checked) (os := os) (X := fun w _ => laidMetH Tryd.prog Rows.fnExactReadRoofRow.laid w) false (World.laidAll Tryd.prog os Rows.fnExactReadRoofRow.laid) #[.string ByteArray.empty] 8 (World.laidAll_os _ _ _) (World.shaped_of_ZipB (by kernel_rfl) (by kernel_rfl)) (by kernel_rfl) (by kernel_rfl) (by kernel_rfl) (by rw [MakeChecks.laidMetH_plain _ _ _ (by kernel_rfl)]; exact laidMet_laidAll _ (by kernel_rfl) (by kernel_rfl))) ?_
  intro W base args ds gs before hval0 hW hShp
  obtain ⟨mx, hmx⟩ := maxLen_cell W hShp
  have hval : ∀ (j : Nat) t v, Tryd.f3.params[j]? = some t → args[j]? = some v → Value.okWide Tryd.prog W .any base t v := hval0
  have hW' := hW
  obtain ⟨p, q, hA0, hV, rfl, hfz, hnd⟩ := hW
  have hA : DataW.TrodAll enc Tryd.prog W 0 (fun _ => true) true Tryd.f3.params.toList args.toList ds p := hA0
  rw [Tryd.params3] at hA hval
  obtain ⟨v0, vs0, d0, ds0, p0, q0, hargs, rfl, rfl, h0, r0⟩ := trodAll_cons hA
  obtain ⟨rfl, rfl, rfl⟩ := trodAll_nil r0
  obtain rfl : args = #[v0] := by cases args; simp_all
  obtain ⟨rfl, rfl⟩ := trodVars_none hV
  obtain ⟨s1, rfl, rfl, rfl, ws1⟩ := open_string Tryd.underlying9 (hval 0 9 v0 rfl rfl) h0
  clear hA0 hval0
  refine (law_walk_FnExactReadRoof ws1 hmx).mono fun e W' ⟨he, bel⟩ => ?_
  subst he
  exact ⟨_, rfl, _, _, _, [], _, [], hW', trodAll_mk1 (shut_bool Tryd.underlying4 _), (trodAll_cons_mk (shut_string (s := s1) Tryd.underlying9 ws1) trodAll_mk0), rfl, bel.frame _, fun h => by cases h⟩

theorem over : Rows.FnExactReadRoofSaid :=
  OpenClaim.holds_of_wide 3 Tryd.f3 rfl rfl rfl rfl rfl rfl rfl ⟨rfl, rfl, rfl, rfl, rfl⟩ rfl rfl rfl rfl rfl (by kernel_rfl) Tryd.func3 (by kernel_rfl)
    (of_decide_eq_true (by kernel_rfl)) (by unfold Func.isWrapper; first | (rw [if_pos (by decide +kernel)]; kernel_rfl) | (rw [if_neg (by decide +kernel)]; exact ⟨rfl, rfl⟩))
    (fun os started H enc _ => lifted os started H enc)

theorem proved : Rows.FnExactReadRoofCardSaid :=
  Claim7.holds_tied_plain_at .later [] Rows.fnExactReadRoofCard.laidKinds true Rows.fnExactReadRoofCard.stood.harness Rows.fnExactReadRoofCard.stood.looks
    over (fun _ h => by cases h) (by kernel_rfl) (fun _ h => by cases h) fnExactReadRoof_row_tie rfl ⟨rfl, rfl⟩ (by kernel_rfl) rfl
    (fun f fn hf hfn => by
      obtain rfl : f = 3 := Option.some.inj ((show Tryd.prog.funcNamed "loop.example/g01376/laws.FnExactReadRoof" = some 3 by kernel_rfl).symm.trans hf) |>.symm
      obtain rfl : fn = Tryd.f3 := (Option.some.inj (Tryd.func3.symm.trans hfn)).symm
      exact ⟨by kernel_rfl, fun j t ht => by
        rw [Tryd.params3] at ht
        have hm : t ∈ [9] := by simpa using Array.mem_of_getElem? ht
        have hall : ([9].all fun u => !Tryd.prog.wantsStandIn u) = true := by kernel_rfl
        exact (show Tryd.prog.wantsStandIn t = false by simpa using List.all_eq_true.1 hall t hm)⟩)
    (by kernel_rfl)
end LFnExactReadRoof

end Go.Proofs.YtgdhfcpmeaeioaaDoor
