/- Chapter 4: places none of which may come twice: the code; both sides' checks. -/
import Derived.Test.YtkbacpkpgfppiaaLadA
import Derived.Test.YtkbacpkpgfppiaaMarks
namespace Go.Proofs.Ytkbacpkpgfppiaa
open Go.RowKit Go.Maps

/-- Whether one of the first k places is a, b. -/
def hasP (f : Nat → Int) (k : Nat) (a b : Int) : Bool := anyI (fun q => decide (f (q * 2) = a ∧ f (q * 2 + 1) = b)) k
theorem hasP_succ (f : Nat → Int) (k : Nat) : hasP f (k + 1) = fun a b => if a = f (k * 2) ∧ b = f (k * 2 + 1) then true else hasP f k a b := by
  funext a b
  unfold hasP
  rw [anyI_succ]
  by_cases h : a = f (k * 2) ∧ b = f (k * 2 + 1)
  · rw [if_pos h]; simp [h.1.symm, h.2.symm]
  · have h' : ¬ (f (k * 2) = a ∧ f (k * 2 + 1) = b) := fun e => h ⟨e.1.symm, e.2.symm⟩
    rw [if_neg h, decide_eq_false h', Bool.or_false]
/-- Whether a place comes twice. -/
def dupP (f : Nat → Int) (n : Nat) : Bool := anyI (fun i => hasP f i (f (i * 2)) (f (i * 2 + 1))) n
noncomputable def Rf.ocode (r : Rf) (f : Nat → Int) (n : Nat) (fine : Bool) : Int := if r.wcode (fun _ => 0) 0 f n fine ≠ 0 then r.wcode (fun _ => 0) 0 f n fine else if dupP f n = true then 4 else 0
theorem Rf.ocode_w {r : Rf} {f : Nat → Int} {n : Nat} {fine : Bool} (h : r.wcode (fun _ => 0) 0 f n fine ≠ 0) : r.ocode f n fine = r.wcode (fun _ => 0) 0 f n fine := if_pos h
theorem Rf.ocode_d {r : Rf} {f : Nat → Int} {n : Nat} {fine : Bool} (h : r.wcode (fun _ => 0) 0 f n fine = 0) (hd : dupP f n = true) : r.ocode f n fine = 4 := by unfold Rf.ocode; rw [if_neg (by omega), if_pos hd]
theorem Rf.ocode_o {r : Rf} {f : Nat → Int} {n : Nat} {fine : Bool} (h : r.wcode (fun _ => 0) 0 f n fine = 0) (hd : dupP f n = false) : r.ocode f n fine = 0 := by unfold Rf.ocode; rw [if_neg (by omega), hd]; rfl
theorem Rf.ocode_zero {r : Rf} {f : Nat → Int} {n : Nat} {fine : Bool} (h : r.ocode f n fine = 0) : r.Ok ∧ fine = true ∧ r.okP f n ∧ n ≤ 8 ∧ dupP f n = false := by
  unfold Rf.ocode at h
  split at h
  · rename_i h1; exact absurd h h1
  · rename_i h1
    obtain ⟨ho, hf, _, hp, _, hn⟩ := Rf.wcode_zero (Decidable.not_not.1 h1)
    split at h
    · simp at h
    · rename_i h2; exact ⟨ho, hf, hp, hn, by simpa using h2⟩

/-- 'm[at] = x' at the operation. -/
theorem wpList_marks (w : World) {ops : Array Oper} {rest : List Oper} {o : Oper} {a : Act} {Q : Exit → Act → World → Prop} (hg : o.guard = none) (m x v : Operand) (hop : o.op = Op.mapUpdate 140 m x v)
    (B n : Nat) (p : Int → Int → Bool) (hm : a.eval m = .map (some B)) (h : Marks w B n p) (hn : n < maxLen) (c d : Int) (hp : inP8 c d) (y : Bool) (hx : a.eval x = .agg #[.int .i8 c, .int .i8 d]) (hv : a.eval v = .bool y)
    (hK : ∀ w', Marks w' B (n + 1) (fun a b => if a = c ∧ b = d then y else p a b) → w.grownBy w' (some B) → wpList Try.prog ops Q rest (a.put o.dst undef) w') : wpList Try.prog ops Q (o :: rest) a w := by
  refine wpList_plain hg fun K' hK' => ?_
  obtain ⟨w', hrun, r1, r2⟩ := h.put hn hp y
  unfold Oper.wp
  simp [execOp, hop, hm, hx, hv, hrun, Result.andThen]
  exact hK' _ _ (hK w' r1 r2)

set_option maxRecDepth 100000 in
set_option maxHeartbeats 2000000 in
theorem checkOrder_any (b2 b3 n k0 : Nat) (c : Array Value) (r : Rf) (f h : Nat → Int) (v2 v3 : Value) (w : World) (hR : IsRoof c r)
    (hv2 : IsList w b2 v2 2 n (fun i => .int .i8 (f i))) (hn : n ≤ 2000000) (hf : ∀ i, i < n * 2 → -128 ≤ f i ∧ f i ≤ 127) (hv3 : IsList w b3 v3 3 k0 (fun i => .int .i64 (h i))) (hk0 : k0 ≤ 2000000) :
    Calls Try.prog 55 #[.agg c, v2, v3] w fun e w' => e = .returned (.int .i64 (r.ocode f n (fineB h k0))) ∧ Below w.heap.size w w' := by
  have hc := hR.size
  have p0 := rowAt_alloc_at w c 31 w.heap.size rfl
  have PB := Lib.hid (show Below w.heap.size w (w.alloc (.cells c 31)) from (Below.refl _ _).alloc (Nat.le_refl _) _)
  have HV2 := Lib.hid (hv2.below PB.out (Nat.le_refl _))
  have HV3 := Lib.hid (hv3.below PB.out (Nat.le_refl _))
  have HF := Lib.hid hf
  obtain ⟨a2, c2, rfl⟩ := hv2.shape
  obtain ⟨a3, c3, rfl⟩ := hv3.shape
  have CW := fun W H2 H3 => checkWork_any b2 b3 0 n k0 c r (fun _ => 0) f h (.slice none 0 0) (.slice a2 n c2) (.slice a3 k0 c3) W hR (NumsAt.none0 _ _ _ _) (by omega) H2 hn H3 hk0
  generalize hfin : fineB h k0 = fine at *
  clear hv2 hv3 hf hfin
  by_cases hk : r.wcode (fun _ => 0) 0 f n fine = 0
  · have hb : (r.wcode (fun _ => 0) 0 f n fine != 0) = false := by simp [hk]
    have HK := Lib.hid hk
    clear hk
    have hmm := @run_makeMap Try.prog
    go_enter Try.func55, Try.ntmps55
    go_wp2_with fail
    refine (CW _ HV2.out HV3.out).mono ?_
    rintro e w1 ⟨rfl, b1⟩
    have B1 := Lib.hid (bnext PB.out b1 PB.out.size)
    have HV := Lib.hid (HV2.out.below b1 (Nat.le_refl _))
    have M1 := Lib.hid (Marks.made w1)
    clear b1 p0 CW
    go_wp2_with fail
    have BM := Lib.hid ((Below.refl w1.heap.size w1).alloc (Nat.le_refl _) (.map #[] 0))
    go_loopw [21] (fun i W => ∃ k : Nat, k ≤ n ∧ i = .int .i64 k ∧ Marks W w1.heap.size k (hasP f k) ∧ Hid (∀ q, q < k → hasP f q (f (q * 2)) (f (q * 2 + 1)) = false) ∧ Below w1.heap.size w1 W) (fun i _ => n - (intOf i).toNat)
    case atStart => exact ⟨0, by omega, rfl, M1.out, Lib.hid (by omega), BM.out⟩
    case round =>
      obtain ⟨k, hk, rfl, hM, hF, hB⟩ := hrel
      have HM := Lib.hid hM
      have HB := Lib.hid hB
      clear hM hB hmm
      by_cases hlt : k < n
      · obtain ⟨gg, rfl, k0', k1'⟩ := (HV.out.below HB.out (Nat.le_refl _)).pl hlt
        have hi0' : 0 ≤ (k : Int) := by omega
        have hi1 : (k : Int) < n := by omega
        have hp8 : inP8 (f (k * 2)) (f (k * 2 + 1)) := ⟨HF.out _ (by omega), HF.out _ (by omega)⟩
        have H8 := Lib.hid hp8
        have hlook := (HM.out.below ((Below.refl wr.heap.size wr).alloc (Nat.le_refl _) (.cells #[.int .i8 (f (k * 2)), .int .i8 (f (k * 2 + 1))] 58))).look hp8
        have HM2 := Lib.hid (HM.out.below ((Below.refl wr.heap.size wr).alloc (Nat.le_refl _) (.cells #[.int .i8 (f (k * 2)), .int .i8 (f (k * 2 + 1))] 58)))
        have HB2 := Lib.hid (HB.out.alloc HB.out.size (.cells #[.int .i8 (f (k * 2)), .int .i8 (f (k * 2 + 1))] 58))
        clear hp8
        cases hx : hasP f k (f (k * 2)) (f (k * 2 + 1)) with
        | true =>
          rw [hx] at hlook
          have HX : Hid (dupP f n = true) := Lib.hid (anyI_t hlt hx)
          clear hx
          go_wp2_with fail
          go_ret
          exact ⟨by rw [Rf.ocode_d HK.out HX.out]; rfl, B1.out.trans (HB2.out.mono B1.out.size)⟩
        | false =>
          rw [hx] at hlook
          have HX := Lib.hid hx
          clear hx
          go_wp2_with (at_mapUpdate; refine wpList_marks _ rfl _ _ _ rfl w1.heap.size k (hasP f k) rfl HM2.out (by unfold maxLen; omega) (f (k * 2)) (f (k * 2 + 1)) H8.out true rfl rfl ?_; intro w3 hM3 hg3)
          have hM4 : Marks w3 w1.heap.size (k + 1) (hasP f (k + 1)) := by rw [hasP_succ]; exact hM3
          have hB3 := Lib.hid (HB2.out.grown hg3 HB2.out.size (fun x hx => by cases hx; exact Nat.le_refl _))
          clear hM3 hg3 hlook
          go_wp2_with fail
          refine ⟨⟨k + 1, by omega, by go_num, hM4, Lib.hid (fun q hq => ?_), hB3.out⟩, by simp [intOf]; omega⟩
          by_cases e : q = k
          · subst e; exact HX.out
          · exact hF.out q (by omega)
      · obtain rfl : k = n := by omega
        have HD : Hid (dupP f k = false) := Lib.hid (anyI_f.2 hF.out)
        go_wp2_with fail
        go_ret
        exact ⟨by rw [Rf.ocode_o HK.out HD.out]; rfl, B1.out.trans (HB.out.mono B1.out.size)⟩
  · have hb : (r.wcode (fun _ => 0) 0 f n fine != 0) = true := by simp [hk]
    have HC : Hid (r.ocode f n fine = r.wcode (fun _ => 0) 0 f n fine) := Lib.hid (Rf.ocode_w hk)
    clear hk
    go_enter Try.func55, Try.ntmps55
    go_wp2_with fail
    refine (CW _ HV2.out HV3.out).mono ?_
    rintro e w1 ⟨rfl, b1⟩
    have B1 := Lib.hid (bnext PB.out b1 PB.out.size)
    clear b1 p0 CW
    go_wp2_with fail
    go_ret
    exact ⟨by rw [HC.out]; rfl, B1.out⟩
end Go.Proofs.Ytkbacpkpgfppiaa
