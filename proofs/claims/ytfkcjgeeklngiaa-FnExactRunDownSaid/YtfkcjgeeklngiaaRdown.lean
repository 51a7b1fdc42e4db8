/- RunDown: contracts of both sides. -/
import Derived.Test.YtfkcjgeeklngiaaCellS
import Derived.Deep.RegionWith
import Derived.Lib.SliceRun
import Derived.Deep.DrawnRows
namespace Go.Proofs.Ytfkcjgeeklngiaa
open Go.RowKit
attribute [local go_sem ↓] Go.wp_at_zero Go.wp_at_succ

set_option maxRecDepth 100000 in
set_option maxHeartbeats 1000000 in
theorem clone_any (nf o q : Nat) (F : Array Value) (f : Nat → Int) (w : World) (hF : rowAt w nf = some F) (hc : ∀ i, i < q → F[o + i]? = some (.int .i64 (f i))) (q1 : 1 ≤ q) (q17 : q ≤ 17) :
    Calls Try.prog 60 #[.slice (some ⟨nf, o, none⟩) q 17] w (GivesL w q f) := by
  have hnf := rowAt_lt hF
  obtain ⟨i0, hi0, hz0, hz1, hz2⟩ := info_parts A_infoI
  have hnil := fun W : World => Lib.run_eql_slice_nil (P := Try.prog) W 43 2 (some ⟨nf, o, none⟩) q 17 0 0 Try.underlying43
  have hlen : (intsOf f q).length = q * 1 := by simp [intsOf]
  have hnews : ∀ j u, (intsOf f q)[j]? = some u → (w.alloc (.cells #[] 2)).cell? ((⟨nf, o, none⟩ : Addr).add j) = some u := by
    intro j u hj
    have hjq : j < q := by have := (List.getElem?_eq_some_iff.1 hj).1; omega
    have hadd : (⟨nf, o, none⟩ : Addr).add j = ⟨nf, o + j, none⟩ := by unfold Addr.add; split <;> simp_all
    rw [hadd, cell_of_rowAt ((rowAt_alloc_past _ _ _ hnf).trans hF), hc j hjq, ← hj, intsOf, List.getElem?_map, List.getElem?_range hjq]; rfl
  have own : (w.alloc (.cells #[] 2)).ownsRow w.heap.size 2 1 (.slice (some ⟨w.heap.size, 0, none⟩) 0 0) 0 [] :=
    ⟨rfl, .inr ⟨_, 0, #[], rfl, Nat.le_refl _, heap_alloc_new w _, Nat.le_refl _, Nat.zero_le _, rfl, rfl⟩⟩
  have hone : ∀ u ∈ intsOf f q, u.oneCell' = true := by
    intro u hu
    simp only [intsOf, List.mem_map] at hu
    obtain ⟨i, _, rfl⟩ := hu
    rfl
  have HN := Lib.hid hnews
  have HL := Lib.hid hlen
  have HO := Lib.hid hone
  have HW := Lib.hid own
  clear hnews hlen hone own hF hc
  go_enter Try.func60, Try.ntmps60
  go_wp2_with (at_builtin; refine wpList_append_own _ rfl _ _ 43 rfl w.heap.size 2 i0 (.int .i64 0) 1 8 Try.underlying43 hi0 hz0 hz1 hz2 rfl (by decide) _ _ _ rfl HW.out ⟨nf, o, none⟩ q 17 (intsOf f q) rfl HL.out HN.out HO.out (by unfold maxLen; omega) (by omega) (by simp) ?_)
  intro v3 w3 own3 grow3 _
  have B3 : Below w.heap.size w w3 := ((Below.refl w.heap.size w).alloc (Nat.le_refl _) _).grown grow3 (by simp) (by intro x hx; cases hx; exact Nat.le_refl _)
  have hl := IsList.of_ints own3
  clear own3 grow3
  go_wp2_with fail
  go_ret
  exact ⟨_, rfl, hl, B3⟩

theorem IsList.of_rows2 {w w' : World} {base sz n : Nat} {v : Value} {f : Nat → Value} (h : IsList w base v sz n f) (hb : ∀ g, base ≤ g → g < w.heap.size → rowAt w' g = rowAt w g) : IsList w' base v sz n f := by
  rcases h with h | ⟨g, cap, cur, rfl, hg, hr, hs, hf⟩
  · exact .inl h
  · exact .inr ⟨g, cap, cur, rfl, hg, (hb g hg (rowAt_lt hr)).trans hr, hs, hf⟩

noncomputable def Rf.rdF (r : Rf) (t : Nat → Int) : Nat → Int := if r.rok t = true then r.drips t else fun _ => 0
noncomputable def Rf.rdA (r : Rf) (t : Nat → Int) : Array Value := mkI .i32 136 (r.rdF t)
theorem Rf.rdA_t {r : Rf} {t : Nat → Int} (h : r.Rains t) : r.rdA t = mkI .i32 136 (r.drips t) := by unfold Rf.rdA Rf.rdF; rw [if_pos (Rf.rok_true h)]
theorem Rf.rdA_f {r : Rf} {t : Nat → Int} (h : ¬ r.Rains t) : r.rdA t = mkI .i32 136 fun _ => 0 := by
  unfold Rf.rdA Rf.rdF
  rw [if_neg (by rw [Rf.rok_false h]; decide)]

def RdEnd (w : World) (A : Array Value) (n : Nat) (f : Nat → Int) (code : Int) (e : Ending) (w' : World) : Prop :=
  ∃ v, e = .returned (.tuple #[.agg A, v, .int .i64 code]) ∧ IsList w' w.heap.size v 1 n (fun i => .int .i64 (f i)) ∧ Below w.heap.size w w'

set_option maxRecDepth 100000 in
set_option maxHeartbeats 1000000 in
theorem specRunDown_any (c d : Array Value) (r : Rf) (t : Nat → Int) (w : World) (hR : IsRoof c r) (hT : IsRain d t) :
    Calls Try.prog 20 #[.agg c, .agg d] w (RdEnd w (r.rdA t) (r.rlen t (2 * r.w + 1).toNat) (r.gut t) (r.rcode t)) := by
  obtain ⟨p0, p1, pB⟩ := two_boxes w c d 33 35
  have hz : Try.zeroCells42 = mkI .i32 136 (fun _ => 0) := by kernel_rfl
  have hzs : Try.zeroCells42.size = 136 := by rw [hz]; simp
  have hzo : Ones Try.zeroCells42 := by rw [hz]; exact (isK_mkI _ _ _).ones
  have q2 := rowAt_alloc_at ((w.alloc (.cells c 33)).alloc (.cells d 35)) Try.zeroCells42 42 (w.heap.size + 1 + 1) (by simp)
  have hB3 : Below w.heap.size w (((w.alloc (.cells c 33)).alloc (.cells d 35)).alloc (.cells Try.zeroCells42 42)) := pB.alloc (by simp; omega) _
  replace p0 := (rowAt_alloc_past _ (.cells Try.zeroCells42 42) _ (by simp; omega)).trans p0
  replace p1 := (rowAt_alloc_past _ (.cells Try.zeroCells42 42) _ (by simp)).trans p1
  by_cases ho : r.Rains t
  · rw [Rf.rcode_t ho, Rf.rlen_t ho, Rf.rdA_t ho]
    clear hz
    go_enter Try.func20, Try.ntmps20
    go_wp2_with fail
    refine (l02Ok_t w.heap.size (w.heap.size + 1) c d r t _ p0 hR p1 hT ho).mono ?_
    rintro e w0 ⟨rfl, b0⟩
    have s0 := brow b0 p0
    have s1 := brow b0 p1
    have s2 := brow b0 q2
    have B0 := bnext hB3 b0 hB3.size
    clear b0 p0 p1 pB q2 hB3
    go_wp2_with fail
    refine (l02Run_any w.heap.size (w.heap.size + 1) c d r t _ s0 hR s1 hT ho).mono ?_
    rintro e w1 ⟨v, rfl, hl, b1⟩
    have z2 : (mkI .i32 136 (r.drips t)).size = 136 := by simp
    have z3 : (mkI .i32 136 (r.comeAll t)).size = 136 := by simp
    have o2 := (isK_mkI .i32 136 (r.drips t)).ones
    have o3 := (isK_mkI .i32 136 (r.comeAll t)).ones
    generalize mkI .i32 136 (r.drips t) = X at *
    generalize mkI .i32 136 (r.comeAll t) = Y at *
    have u2 := brow b1 s2
    have B1 := bnext B0 b1 B0.size
    have lt2 := rowAt_lt u2
    have HL := Lib.hid hl
    have HS := Lib.hid (show w.heap.size ≤ w0.heap.size ∧ w.heap.size + 1 + 1 < w0.heap.size from ⟨B0.size, rowAt_lt s2⟩)
    clear b1 s0 s1 s2 B0 hl
    have hne : w1.heap.size ≠ w.heap.size + 1 + 1 := by omega
    have hne2 : w1.heap.size + 1 ≠ w.heap.size + 1 + 1 := by omega
    have lt3 : w.heap.size + 1 + 1 < w1.heap.size + 1 := by omega
    go_wp2_with fail
    refine bodyPost_ret (v := .tuple #[.agg X, v, .int .i64 0]) (results_row3 (m := 136) rfl _ _ (w.heap.size + 1 + 1) _ _ _ rfl rfl rfl ?_ Try.underlying42 rfl (by kernel_rfl) z2) rfl ⟨_, rfl, ?_, ?_⟩
    · exact (rowAt_alloc_past _ _ _ (by simp; omega)).trans ((rowAt_alloc_past _ _ _ (by simpa using lt2)).trans (rowAt_setRow_at _ _ _ (by rw [u2]; rfl)))
    · exact (HL.out.of_rows2 fun g hg hl => (rowAt_alloc_past _ _ _ (by simp; omega)).trans ((rowAt_alloc_past _ _ _ (by simpa using hl)).trans (rowAt_setRow_ne _ _ _ _ (by have := HS.out.2; omega)))).mono HS.out.1
    · exact ((below_setRow B1 (by omega) _).alloc (by have := B1.size; simpa using this) _).alloc (by have := B1.size; simp; omega) _
  · rw [Rf.rcode_f ho, Rf.rlen_f ho, Rf.rdA_f ho]
    have HZ := Lib.hid hz
    clear hz
    go_enter Try.func20, Try.ntmps20
    go_wp2_with fail
    refine (l02Ok_f w.heap.size (w.heap.size + 1) c d r t _ p0 hR p1 hT ho).mono ?_
    rintro e w0 ⟨rfl, b0⟩
    have s2 := brow b0 q2
    have B0 := bnext hB3 b0 hB3.size
    have lt2 := rowAt_lt s2
    clear b0 p0 p1 pB q2 hB3
    go_wp2_with fail
    refine bodyPost_ret (v := .tuple #[.agg Try.zeroCells42, .slice (some ⟨w0.heap.size, 0, none⟩) 0 0, .int .i64 1]) (results_row3 (m := 136) rfl _ _ (w.heap.size + 1 + 1) _ _ _ rfl rfl rfl ?_ Try.underlying42 rfl (by kernel_rfl) hzs) rfl ⟨_, by rw [HZ.out], .inl ⟨rfl, _, _, rfl⟩, ?_⟩
    · exact (rowAt_alloc_past _ _ _ (by simpa using lt2)).trans (rowAt_setRow_at _ _ _ (by rw [s2]; rfl))
    · exact (below_setRow B0 (by omega) _).alloc (by have := B0.size; simpa using this) _
end Go.Proofs.Ytfkcjgeeklngiaa
