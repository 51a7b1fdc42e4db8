/- The text of a word that is told by its number. -/
import Derived.Test.YtppohghejhcilaaDoorPatT
import Derived.Laws.MakeOwn
import Derived.Laws.OwnMore
namespace Go.Proofs.YtppohghejhcilaaDoor
open Go.RowKit

theorem made_bytesX {w : World} {base g q : Nat} {e : TypeId} (h : w.ownsRow base e 1 (.slice (some ⟨g, 0, none⟩) q q) q (madeCells #[.int .u8 0] q).toList) : rowAt w g = some (mkI .u8 q fun _ => 0) := by
  obtain ⟨hl, ⟨h, _⟩ | ⟨g', cap, cur, he, hg, hh, hn, hm, hs, ht⟩⟩ := h
  · cases h
  · cases he
    rw [rowAt_of_heap hh]
    refine congrArg some (IsK.of_get (by omega) fun i hi => ?_).eq
    have h1 : cur[i]? = (cur.toList.take (q * 1))[i]? := by rw [List.getElem?_take, if_pos (by omega), Array.getElem?_toList]
    rw [h1, ht, toList_madeCells_one, List.getElem?_replicate, if_pos hi]
theorem A_infoB8 : (Tryd.prog.info? 5).map (fun i => (i.zero, i.size, i.bytes)) = some (some (.int .u8 0), 1, 1) := by kernel_rfl
def ltrTo (s : ByteArray) (k j : Nat) : Int := if j < k then (ltr s j : Int) else 0
set_option maxRecDepth 100000 in
set_option maxHeartbeats 2000000 in
theorem textOfT_any (n num : Nat) (w : World) (hn1 : 1 ≤ n) (hn5 : n ≤ 5) (hnum : num < 32) :
    Calls Tryd.prog 76 #[triedV n num] w fun e w' => e = .returned (.string (trS n num)) ∧ Below w.heap.size w w' := by
  obtain ⟨i0, hi0, hz0, hz1, hz2⟩ := info_parts A_infoB8
  have CM := fun W => manyT_any n num W
  have CL := fun k W hk => letterT_any n num k W hn5 hnum hk
  have hsz := trS_size n num
  unfold triedV at CL ⊢
  obtain ⟨S, hS⟩ : ∃ S, trS n num = S := ⟨_, rfl⟩
  rw [hS] at CL hsz ⊢
  clear hS
  have n1 : (1 : Int) ≤ n := by omega
  have n5 : (n : Int) ≤ 5 := by omega
  go_enter Tryd.func76, Tryd.ntmps76
  go_wp2_with fail
  refine (CM _).mono ?_
  rintro e w0 ⟨rfl, b0⟩
  clear CM
  go_wp2_with (at_make; refine wpList_make_full _ rfl _ _ 22 rfl w0.heap.size 5 i0 (.int .u8 0) 1 Tryd.underlying22 hi0 hz0 hz1 .i64 .i64 n n n rfl rfl rfl rfl (by rw [hz2]; omega) (by unfold maxLen; omega) (by simp) ?_)
  intro w1 own1 grow1
  have rg := made_bytesX own1
  have B1 : Below w.heap.size w w1 := b0.trans ((Below.refl w.heap.size w0).grown grow1 b0.size (by intro x hx; cases hx))
  have l0 := b0.size
  clear own1 grow1 b0
  go_wp2_with fail
  go_loopw [10] (fun i W => ∃ k : Nat, k ≤ n ∧ i = .int .i64 k ∧ rowAt W w0.heap.size = some (mkI .u8 n (ltrTo S k)) ∧ Below w.heap.size w W) (fun i _ => n - (intOf i).toNat)
  case atStart => exact ⟨0, by omega, rfl, rg.trans (congrArg some (mkI_congr fun i _ => by unfold ltrTo; rw [if_neg (by omega)])), B1⟩
  case round =>
    clear rg B1
    obtain ⟨k, hk, rfl, r0, hB⟩ := hrel
    by_cases hlt : k < n
    · have k0 : (0 : Int) ≤ k := by omega
      have k1 : (k : Int) < n := by omega
      have CK := fun W => CL k W hlt
      have HS : Hid ((mkI .u8 n (ltrTo S k)).setIfInBounds k (.int .u8 (ltr S k : Int)) = mkI .u8 n (ltrTo S (k + 1))) := Lib.hid (by
        refine (((isK_mkI _ _ _).set k _).congr fun i hi => ?_).eq
        unfold ltrTo
        by_cases e : i = k
        · subst e; rw [upd_at, if_pos (by omega)]
        · rw [upd_ne _ _ e]
          by_cases h : i < k
          · rw [if_pos h, if_pos (by omega)]
          · rw [if_neg h, if_neg (by omega)])
      go_wp2_with fail
      refine (CK _).mono ?_
      rintro e w2 ⟨rfl, b2⟩
      have r2 := brow b2 r0
      have B2 := bnext hB b2 hB.size
      have cg : (w2.cell? ⟨w0.heap.size, k, none⟩).isSome = true := by rw [cell_of_rowAt r2, (isK_mkI _ _ _).get hlt]; rfl
      obtain ⟨y, hy⟩ := Option.isSome_iff_exists.1 cg
      have fg := frozen_of_rowAt r2 k
      have R2 := Lib.hid r2
      clear b2 r0 hB CK cg r2
      go_wp2_with fail
      refine ⟨⟨k + 1, by omega, by go_num, ?_, B2.setCell (p := ⟨w0.heap.size, k, none⟩) l0 _⟩, by simp [intOf]; omega⟩
      rw [rowAt_setCell_at _ _ _ _ (by rw [R2.out]; rfl), R2.out, Option.getD_some]
      exact congrArg some HS.out
    · obtain rfl : k = n := by omega
      have hcv : (convert 22 9 (.slice (some ⟨w0.heap.size, 0, none⟩) k k)).run Tryd.prog wr = .ok (.string S) wr := by
        have hSl : S.data.toList.length = k := hsz
        have := run_convert_bytes_back (P := Tryd.prog) wr 22 9 5 ⟨w0.heap.size, 0, none⟩ k S.data.toList Tryd.underlying22 Tryd.underlying5 Tryd.underlying9 (fun j hj => by
          have hj' : j < k := by omega
          rw [Addr.add_lit, Nat.zero_add, cell_of_rowAt r0, (isK_mkI _ _ _).get hj']
          unfold ltrTo
          rw [if_pos hj']
          unfold ltr
          rw [List.getD_eq_getElem?_getD, List.getElem?_eq_getElem hj, Option.getD_some])
        rwa [hSl] at this
      clear r0
      go_wp2_with fail
      go_ret
      exact ⟨rfl, hB⟩
end Go.Proofs.YtppohghejhcilaaDoor
