/- Colours read from a text: the model's side. -/
import Derived.Test.YtgdhfcpmeaeioaaTcL
import Derived.Test.YtgdhfcpmeaeioaaColX
import Derived.Test.YtgdhfcpmeaeioaaEnd
import Derived.Test.YtgdhfcpmeaeioaaSpecB
import Derived.Deep.QuietTactic
import Derived.BigQuiet
import Derived.StillTailTactics
namespace Go.Proofs.Ytgdhfcpmeaeioaa
open Go.RowKit Go.Shelf

/-- The colours while they are read: n lines and k letters of the next. -/
def rdX (ls : List (List UInt8)) (ww n k i : Nat) : Nat := if i < n then bitsUp (ls.getD i []) ww else if i = n then bitsUp (ls.getD n []) k else 0
theorem rdX_lt {ls : List (List UInt8)} {ww n k : Nat} (w8 : ww ≤ 8) (k8 : k ≤ 8) (i : Nat) : rdX ls ww n k i < 256 := by
  unfold rdX
  split
  · exact bitsUp_lt _ w8
  · split
    · exact bitsUp_lt _ k8
    · decide
theorem rdX_next (ls : List (List UInt8)) (ww n : Nat) : rdX ls ww n ww = rdX ls ww (n + 1) 0 := by
  funext i
  unfold rdX
  by_cases h : i < n
  · rw [if_pos h, if_pos (by omega)]
  · rw [if_neg h]
    by_cases e : i = n
    · subst e; rw [if_pos rfl, if_pos (by omega)]
    · rw [if_neg e, if_neg (by omega)]
      split <;> rfl
theorem rdX_miss {ls : List (List UInt8)} {ww n k : Nat} (h : (ls.getD n []).getD k 0 ≠ 114) : rdX ls ww n (k + 1) = rdX ls ww n k := by
  funext i
  unfold rdX
  have : bitsUp (ls.getD n []) (k + 1) = bitsUp (ls.getD n []) k := by unfold bitsUp; rw [if_neg h]; cases k <;> rfl
  rw [this]
theorem rdX_hit {ls : List (List UInt8)} {ww n k : Nat} (h : (ls.getD n []).getD k 0 = 114) : updN (rdX ls ww n k) n (rdX ls ww n k n ||| 2 ^ k) = rdX ls ww n (k + 1) := by
  funext i
  unfold updN
  have e1 : rdX ls ww n k n = bitsUp (ls.getD n []) k := by unfold rdX; rw [if_neg (by omega), if_pos rfl]
  have e2 : rdX ls ww n (k + 1) n = bitsUp (ls.getD n []) k ||| 2 ^ k := by unfold rdX; rw [if_neg (by omega), if_pos rfl]; show (if _ then _ else _) = _; rw [if_pos h]
  by_cases e : i = n
  · subst e; rw [if_pos rfl, e1, e2]
  · rw [if_neg e]
    unfold rdX
    by_cases h : i < n
    · rw [if_pos h, if_pos h]
    · rw [if_neg h, if_neg h, if_neg e, if_neg e]

set_option maxRecDepth 100000 in
set_option maxHeartbeats 4000000 in
theorem specReadColours_any (c : Array Value) (r : Rf) (s : ByteArray) (w : World) (hR : IsRoof c r) (hs : s.size ≤ 2000000) (X : Array Value) (hX : mkC (r.rcG s.data.toList) = X) :
    Calls Try.prog 12 #[.agg c, .string s] w fun e w' => e = .returned (.tuple #[.agg X, .int .i64 (r.rcC s.data.toList)]) ∧ Below w.heap.size w w' := by
  have hc := hR.size
  obtain ⟨V, hV⟩ : ∃ V, r.rcC s.data.toList = V := ⟨_, rfl⟩
  rw [hV]
  have hXs : X.size = 8 := by rw [← hX]; exact size_mkI _ _ _
  have hXo : Ones X := by rw [← hX]; exact (isK_mkI _ _ _).ones
  have hz : (#[.int .u8 0, .int .u8 0, .int .u8 0, .int .u8 0, .int .u8 0, .int .u8 0, .int .u8 0, .int .u8 0] : Array Value) = mkC (fun _ => 0) := by kernel_rfl
  have hzo : Ones (#[.int .u8 0, .int .u8 0, .int .u8 0, .int .u8 0, .int .u8 0, .int .u8 0, .int .u8 0, .int .u8 0] : Array Value) := by rw [hz]; exact (isK_mkI _ _ _).ones
  have HZ := Lib.hid hz
  have zs : (mkC (fun _ => 0)).size = 8 := size_mkI _ _ _
  have CV := fun W H0 => l01Ok_any w.heap.size c r W H0 hR
  have HX := Lib.hid hX
  have HV := Lib.hid hV
  clear hz hX hV
  have hFz : V ≠ 0 → Hid (X = mkC (fun _ => 0)) := fun h => Lib.hid (by rw [← HX.out, rcG_no (by rw [HV.out]; exact h)])
  by_cases h : r.Ok
  · obtain ⟨hh, hhe⟩ : ∃ hh : Nat, r.h = hh := Int.eq_ofNat_of_zero_le (by have := h.2.2.1; omega)
    obtain ⟨ww, hwe⟩ : ∃ ww : Nat, r.w = ww := Int.eq_ofNat_of_zero_le (by have := h.1; omega)
    have h8 : hh ≤ 8 := by have := h.2.2.2.1; omega
    have w8 : ww ≤ 8 := by have := h.2.1; omega
    have h1 : 1 ≤ hh := by have := h.2.2.1; omega
    have k0 : ∀ W n, rowAt W n = some c → W.cell? ⟨n, 0, none⟩ = some (.int .i8 ww) ∧ W.cell? ⟨n, 1, none⟩ = some (.int .i8 hh) := fun W n h => by
      rw [cell_of_rowAt h, cell_of_rowAt h, Array.getElem?_eq_getElem (by omega), Array.getElem?_eq_getElem (by omega), hR.wide (by omega), hR.high (by omega), hwe, hhe]
      exact ⟨rfl, rfl⟩
    have K0 := Lib.hid k0
    clear k0
    have GL : ∀ ls last, IsSplit 10 s.data.toList ls last → r.goodT s.data.toList → last = [] ∧ ls.length = hh ∧ ∀ i, i < ls.length → lineOk ww (ls.getD i []) := fun ls last hS g => by
      have := good_lines hS g; rwa [hhe, hwe] at this
    have LG : ∀ ls, IsSplit 10 s.data.toList ls [] → ls.length = hh → (∀ i, i < ls.length → lineOk ww (ls.getD i [])) → r.goodT s.data.toList ∧ ∀ i, r.txG s.data.toList i = if i < hh then bitsUp (ls.getD i []) ww else 0 := fun ls hS hl ho => by
      have e1 : ls.length = r.h.toNat := by rw [hhe]; exact hl
      have e2 : ∀ i, i < ls.length → lineOk r.w.toNat (ls.getD i []) := by rw [hwe]; exact ho
      refine ⟨lines_good hS e1 e2, fun i => ?_⟩
      have := lines_bits hS e1 e2 (i := i)
      rwa [hhe, hwe] at this
    have HGL := Lib.hid GL
    have HLG := Lib.hid LG
    have HB : Hid (¬ r.goodT s.data.toList → V = 5) := Lib.hid fun g => by rw [← HV.out]; exact rcC_syn h g
    have HA : Hid (r.goodT s.data.toList → V = 0) := Lib.hid fun g => by rw [← HV.out]; exact rcC_ok h g
    rw [Rf.ok_true h] at CV
    have CS := fun W => l01Split_any s 10 W hs
    clear GL LG h hhe hwe
    go_enter Try.func12, Try.ntmps12
    go_wp2_with fail
    refine gen_callsW fun W hW => ?_
    have p0 : rowAt W w.heap.size = some c := by rw [hW]; exact (rowAt_alloc_past _ _ _ (by simp)).trans (rowAt_alloc_at _ _ _ _ rfl)
    have p2 : rowAt W (w.heap.size + 1) = some (mkC (fun _ => 0)) := by rw [hW, ← HZ.out]; exact rowAt_alloc_at _ _ _ _ (by simp)
    have pB : Below w.heap.size w W := by rw [hW]; exact ((Below.refl _ _).alloc (Nat.le_refl _) _).alloc (by simp) _
    clear hW
    refine (CV _ p0).mono ?_
    rintro e w1 ⟨rfl, b1⟩
    have q0 := brow b1 p0
    have q2 := brow b1 p2
    have B1 := bnext pB b1 pB.size
    clear b1 p0 p2 pB CV
    go_wp2_with fail
    refine (CS _).mono ?_
    rintro e w2 ⟨v, ls, last, rfl, hS, own, b2⟩
    obtain ⟨g, cap, cur, rfl, hcap, hg, hrow, hcell⟩ := strs_row own
    have s0 := brow b2 q0
    have s2 := brow b2 q2
    have B2 := bnext B1 b2 B1.size
    have c1 := (K0.out _ _ s0).2
    have hgl : w.heap.size + 1 < g := by have := rowAt_lt q2; omega
    have HS := Lib.hid hS
    have hcl := hcell ls.length (by simp)
    have elast : (ls ++ [last]).getD ls.length [] = last := by simp [List.getD_eq_getElem?_getD]
    rw [elast] at hcl
    have cl : w2.cell? ⟨g, ls.length, none⟩ = some (.string ⟨last.toArray⟩) := (cell_of_rowAt hrow _).trans hcl
    have i0 : (0 : Int) ≤ ls.length := by omega
    have i1 : (ls.length : Int) < ls.length + 1 := by omega
    have i2 : (ls.length : Int) ≤ 2000000 := by have := hS.len; rw [str_len] at this; omega
    have HCL := Lib.hid hcell
    clear b2 q0 q2 B1 CS own hS hcl elast hcell
    by_cases hl : last = []
    · subst hl
      by_cases hn : ls.length = hh
      · subst hn
        have e1 : ((ls.length : Int) != ls.length) = false := by simp
        have hline : Hid (∀ j, j < ls.length → cur[j]? = some (.string ⟨(ls.getD j []).toArray⟩)) := Lib.hid fun j hj => by
          have := HCL.out j (by simp; omega)
          rw [this]
          congr 4
          simp [List.getD_eq_getElem?_getD, List.getElem?_append_left hj]
        clear HCL
        go_wp2_with fail
        refine gen_world fun W3 hW => ?_
        have r0 : rowAt W3 w.heap.size = some c := by rw [hW]; exact (rowAt_alloc_past _ _ _ (rowAt_lt s0)).trans s0
        have r2 : rowAt W3 (w.heap.size + 1) = some (mkC (fun _ => 0)) := by rw [hW]; exact (rowAt_alloc_past _ _ _ (rowAt_lt s2)).trans s2
        have r3 : rowAt W3 g = some cur := by rw [hW]; exact (rowAt_alloc_past _ _ _ (rowAt_lt hrow)).trans hrow
        have r8 : rowAt W3 w2.heap.size = some (mkC (rdX ls ww 0 0)) := by
          have e : mkC (rdX ls ww 0 0) = mkC (fun _ => 0) := mkI_congr fun i _ => by unfold rdX; rw [if_neg (by omega)]; split <;> rfl
          rw [hW, e, ← HZ.out]; exact rowAt_alloc_at _ _ _ _ rfl
        have rB : Below w.heap.size w W3 := by rw [hW]; exact B2.alloc B2.size _
        have gl2 := rowAt_lt hrow
        have ll2 := rowAt_lt s2
        have d8 : w2.heap.size ≠ w.heap.size := by omega
        have d9 : w2.heap.size ≠ w.heap.size + 1 := by omega
        have d7 : w2.heap.size ≠ g := by omega
        clear hW s0 s2 hrow B2 c1 cl e1 i0 i1
        go_loopw [9] (fun i W' => ∃ n : Nat, n ≤ ls.length ∧ i = .int .i64 n ∧ Hid (∀ i, i < n → lineOk ww (ls.getD i [])) ∧ rowAt W' w.heap.size = some c ∧ rowAt W' (w.heap.size + 1) = some (mkC (fun _ => 0)) ∧ rowAt W' g = some cur ∧ rowAt W' w2.heap.size = some (mkC (rdX ls ww n 0)) ∧ Below w.heap.size w W') (fun i _ => ls.length - (intOf i).toNat)
        case atStart => exact ⟨0, by omega, rfl, Lib.hid (fun i hi => by omega), r0, r2, r3, r8, rB⟩
        case round =>
          clear r0 r2 r3 r8 rB
          obtain ⟨n, hn, rfl, hok, r0, r2, r3, r8, rB⟩ := hrel
          by_cases hlt : n < ls.length
          · have c0 := (K0.out _ _ r0).1
            have cn : wr.cell? ⟨g, n, none⟩ = some (.string ⟨(ls.getD n []).toArray⟩) := (cell_of_rowAt r3 n).trans (hline.out n hlt)
            have n0 : (0 : Int) ≤ n := by omega
            have n1 : (n : Int) < ls.length := by omega
            have n2 : (n : Int) < ls.length + 1 := by omega
            have hsz : (⟨(ls.getD n []).toArray⟩ : ByteArray).size = (ls.getD n []).length := txt_size _
            by_cases hlen : (ls.getD n []).length = ww
            · have e1 : (((ls.getD n []).length : Int) != ww) = false := by rw [hlen]; simp
              obtain ⟨L, hL⟩ : ∃ L, ls.getD n [] = L := ⟨_, rfl⟩
              rw [hL] at cn hsz hlen e1
              go_wp2_with fail
              go_quiet (fail)
              generalize hW : World.drewN wr _ = W5
              have t0 : rowAt W5 w.heap.size = some c := by rw [← hW]; exact r0
              have t2 : rowAt W5 (w.heap.size + 1) = some (mkC (fun _ => 0)) := by rw [← hW]; exact r2
              have t3 : rowAt W5 g = some cur := by rw [← hW]; exact r3
              have t8 : rowAt W5 w2.heap.size = some (mkC (rdX ls ww n 0)) := by rw [← hW]; exact r8
              have tB : Below w.heap.size w W5 := by rw [← hW]; exact below_drewN rB _
              clear hW r0 r2 r3 r8 rB c0 cn
              go_wp2_with fail
              go_loopw [10] (fun i W' => ∃ k : Nat, k ≤ ww ∧ i = .int .i64 k ∧ Hid (∀ j, j < k → L.getD j 0 = 114 ∨ L.getD j 0 = 98) ∧ rowAt W' w.heap.size = some c ∧ rowAt W' (w.heap.size + 1) = some (mkC (fun _ => 0)) ∧ rowAt W' g = some cur ∧ rowAt W' w2.heap.size = some (mkC (rdX ls ww n k)) ∧ Below w.heap.size w W') (fun i _ => ww - (intOf i).toNat)
              case atStart => exact ⟨0, by omega, rfl, Lib.hid (fun j hj => by omega), t0, t2, t3, t8, tB⟩
              case round =>
                clear t0 t2 t3 t8 tB
                obtain ⟨k, hk, rfl, hlk, t0, t2, t3, t8, tB⟩ := hrel
                have cn : wr.cell? ⟨g, n, none⟩ = some (.string ⟨L.toArray⟩) := (cell_of_rowAt t3 n).trans (by rw [← hL]; exact hline.out n hlt)
                have hszL : ((⟨L.toArray⟩ : ByteArray).size : Int) = ww := by rw [txt_size, hlen]
                by_cases hkl : k < ww
                · have y0 : (0 : Int) ≤ k := by omega
                  have y1 : (k : Int) < ww := by omega
                  have y8 : (k : Int) < 8 := by omega
                  have n8 : (n : Int) < 8 := by omega
                  have hx : L[k]'(by omega) = L.getD k 0 := by rw [List.getD_eq_getElem?_getD, List.getElem?_eq_getElem (by omega), Option.getD_some]
                  have hks : k < (⟨L.toArray⟩ : ByteArray).size := by rw [txt_size]; omega
                  have hx2 : (((⟨L.toArray⟩ : ByteArray)[k]'hks).toNat : Int) = ((L.getD k 0).toNat : Int) := by rw [← hx]; rfl
                  have HLk := Lib.hid (fun (h : L.getD k 0 = 114 ∨ L.getD k 0 = 98) => (show ∀ j, j < k + 1 → L.getD j 0 = 114 ∨ L.getD j 0 = 98 from fun j hj => by
                    by_cases e : j = k
                    · subst e; exact h
                    · exact hlk.out j (by omega)))
                  by_cases h114 : L.getD k 0 = 114
                  · rw [h114] at hx2
                    have hx3 : (((⟨L.toArray⟩ : ByteArray)[k]'hks).toNat : Int) = 114 := hx2
                    have hit := Lib.hid (rdX_hit (ls := ls) (ww := ww) (n := n) (k := k) (by rw [hL]; exact h114))
                    have HL2 := Lib.hid (HLk.out (.inl h114))
                    clear hx hx2 h114 HLk
                    have q8 := rdX_lt (ls := ls) (n := n) w8 (show k ≤ 8 by omega) n
                    obtain ⟨f, hf⟩ : ∃ f, rdX ls ww n k = f := ⟨_, rfl⟩
                    rw [hf] at hit q8 t8
                    have cf : wr.cell? ⟨w2.heap.size, n, none⟩ = some (.int .u8 (f n)) := (cell_of_rowAt t8 n).trans ((isK_mkI .u8 8 (fun i => (f i : Int))).get (by omega))
                    have ff := frozen_of_rowAt t8 n
                    have hor := or8_num ⟨f n, q8⟩ ⟨k, by omega⟩
                    dsimp only at hor
                    have e4 : min k 8 = k := by omega
                    clear hf
                    go_wp2_with fail
                    refine ⟨⟨k + 1, by omega, by go_num, HL2, (rowAt_setCell_ne wr _ _ _ _ d8.symm).trans t0, (rowAt_setCell_ne wr _ _ _ _ d9.symm).trans t2, (rowAt_setCell_ne wr _ _ _ _ d7.symm).trans t3, ?_, tB.setCell (p := ⟨w2.heap.size, n, none⟩) (by simp; omega) _⟩, by simp [intOf]; omega⟩
                    have := rowAt_setCell_at wr w2.heap.size n (.int .u8 ((f n ||| 2 ^ k : Nat) : Int)) (by rw [t8]; rfl)
                    rw [t8, Option.getD_some, mkC_set, hit.out] at this
                    exact this
                  · have hms := rdX_miss (ls := ls) (ww := ww) (n := n) (k := k) (by rw [hL]; exact h114)
                    rw [← hms] at t8
                    clear hms
                    have e114 : ((((⟨L.toArray⟩ : ByteArray)[k]'hks).toNat : Int) == 114) = false := by
                      rw [hx2, beq_eq_false_iff_ne]; exact fun e => h114 (UInt8.toNat_inj.1 (by rw [show (114 : UInt8).toNat = 114 from rfl]; omega))
                    by_cases h98 : L.getD k 0 = 98
                    · rw [h98] at hx2
                      have hx3 : (((⟨L.toArray⟩ : ByteArray)[k]'hks).toNat : Int) = 98 := hx2
                      have HL2 := Lib.hid (HLk.out (.inr h98))
                      clear hx hx2 h114 HLk e114 h98
                      go_wp2_with fail
                      refine ⟨⟨k + 1, by omega, by go_num, HL2, t0, t2, t3, t8, tB⟩, by simp [intOf]; omega⟩
                    · have e98 : ((((⟨L.toArray⟩ : ByteArray)[k]'hks).toNat : Int) == 98) = false := by
                        rw [hx2, beq_eq_false_iff_ne]; exact fun e => h98 (UInt8.toNat_inj.1 (by rw [show (98 : UInt8).toNat = 98 from rfl]; omega))
                      obtain rfl : V = 5 := HB.out fun g => by
                        have := ((HGL.out _ _ HS.out g).2.2 n hlt).2 k hkl
                        rw [hL] at this
                        exact this.elim h114 h98
                      have hF := (hFz (by decide)).out
                      clear hx hx2 h114 HLk h98 t8
                      go_wp2_with fail
                      rw [HZ.out, ← hF]
                      refine bodyPost_ret (v := .tuple #[.agg X, .int .i64 5]) (results_row2 (m := 8) rfl _ _ (w.heap.size + 1) _ _ rfl rfl (rowAt_setRow_at _ _ _ (Option.isSome_iff_exists.2 ⟨_, t2⟩)) Try.underlying32 rfl (by kernel_rfl) hXs) rfl ⟨rfl, ?_⟩
                      exact below_setRow tB (by omega) _
                · obtain rfl : k = ww := by omega
                  have hok2 : Hid (∀ i, i < n + 1 → lineOk k (ls.getD i [])) := Lib.hid fun i hi => by
                    by_cases e : i = n
                    · subst e; rw [hL]; exact ⟨hlen, hlk.out⟩
                    · exact hok.out i (by omega)
                  rw [rdX_next] at t8
                  go_wp2_with fail
                  refine ⟨⟨n + 1, by omega, by go_num, hok2, t0, t2, t3, t8, tB⟩, by simp [intOf]; omega⟩
            · obtain rfl : V = 5 := HB.out fun g => hlen ((HGL.out _ _ HS.out g).2.2 n hlt).1
              have hF := (hFz (by decide)).out
              have e1 : (((ls.getD n []).length : Int) != ww) = true := by simp only [bne_iff_ne, ne_eq]; omega
              obtain ⟨L, hL⟩ : ∃ L, ls.getD n [] = L := ⟨_, rfl⟩
              rw [hL] at cn hsz hlen e1
              go_wp2_with fail
              go_quiet (fail)
              generalize hW : World.drewN wr _ = W5
              have t2 : rowAt W5 (w.heap.size + 1) = some (mkC (fun _ => 0)) := by rw [← hW]; exact r2
              have tB : Below w.heap.size w W5 := by rw [← hW]; exact below_drewN rB _
              clear hW r0 r2 r3 r8 rB c0 cn
              go_wp2_with fail
              rw [HZ.out, ← hF]
              refine bodyPost_ret (v := .tuple #[.agg X, .int .i64 5]) (results_row2 (m := 8) rfl _ _ (w.heap.size + 1) _ _ rfl rfl (rowAt_setRow_at _ _ _ (Option.isSome_iff_exists.2 ⟨_, t2⟩)) Try.underlying32 rfl (by kernel_rfl) hXs) rfl ⟨rfl, ?_⟩
              exact below_setRow tB (by omega) _
          · obtain rfl : n = ls.length := by omega
            have hLG := HLG.out ls HS.out rfl (fun i hi => hok.out i hi)
            obtain rfl : V = 0 := HA.out hLG.1
            have hXe : mkC (rdX ls ww ls.length 0) = X := by
              rw [← HX.out, rcG_ok HV.out]
              refine mkI_congr fun i _ => ?_
              rw [hLG.2 i]
              unfold rdX
              by_cases h : i < ls.length
              · rw [if_pos h, if_pos h]
              · rw [if_neg h, if_neg h]
                split <;> rfl
            rw [hXe] at r8
            clear hLG hXe
            go_wp2_with fail
            refine bodyPost_ret (v := .tuple #[.agg X, .int .i64 0]) (results_row2 (m := 8) rfl _ _ (w.heap.size + 1) _ _ rfl rfl (rowAt_setRow_at _ _ _ (Option.isSome_iff_exists.2 ⟨_, r2⟩)) Try.underlying32 rfl (by kernel_rfl) hXs) rfl ⟨rfl, ?_⟩
            exact below_setRow rB (by omega) _
      · obtain rfl : V = 5 := HB.out fun g => hn (HGL.out _ _ HS.out g).2.1
        have hF := (hFz (by decide)).out
        have e1 : ((ls.length : Int) != hh) = true := by simp only [bne_iff_ne, ne_eq]; omega
        clear hn
        go_wp2_with fail
        rw [HZ.out, ← hF]
        refine bodyPost_ret (v := .tuple #[.agg X, .int .i64 5]) (results_row2 (m := 8) rfl _ _ (w.heap.size + 1) _ _ rfl rfl (rowAt_setRow_at _ _ _ (Option.isSome_iff_exists.2 ⟨_, s2⟩)) Try.underlying32 rfl (by kernel_rfl) hXs) rfl ⟨rfl, ?_⟩
        exact below_setRow B2 (by omega) _
    · obtain rfl : V = 5 := HB.out fun g => hl (HGL.out _ _ HS.out g).1
      have hF := (hFz (by decide)).out
      have hl2 : last.isEmpty = false := by cases last with | nil => exact absurd rfl hl | cons x l => rfl
      clear hl
      go_wp2_with fail
      rw [HZ.out, ← hF]
      refine bodyPost_ret (v := .tuple #[.agg X, .int .i64 5]) (results_row2 (m := 8) rfl _ _ (w.heap.size + 1) _ _ rfl rfl (rowAt_setRow_at _ _ _ (Option.isSome_iff_exists.2 ⟨_, s2⟩)) Try.underlying32 rfl (by kernel_rfl) hXs) rfl ⟨rfl, ?_⟩
      exact below_setRow B2 (by omega) _
  · obtain rfl : V = 1 := by rw [← HV.out]; exact rcC_bad h
    have hF := (hFz (by decide)).out
    rw [Rf.ok_false h] at CV
    clear h
    go_enter Try.func12, Try.ntmps12
    go_wp2_with fail
    refine gen_callsW fun W hW => ?_
    have p0 : rowAt W w.heap.size = some c := by rw [hW]; exact (rowAt_alloc_past _ _ _ (by simp)).trans (rowAt_alloc_at _ _ _ _ rfl)
    have p2 : rowAt W (w.heap.size + 1) = some (mkC (fun _ => 0)) := by rw [hW, ← HZ.out]; exact rowAt_alloc_at _ _ _ _ (by simp)
    have pB : Below w.heap.size w W := by rw [hW]; exact ((Below.refl _ _).alloc (Nat.le_refl _) _).alloc (by simp) _
    clear hW
    refine (CV _ p0).mono ?_
    rintro e w1 ⟨rfl, b1⟩
    have q2 := brow b1 p2
    have B1 := bnext pB b1 pB.size
    clear b1 p0 p2 pB CV
    go_wp2_with fail
    rw [HZ.out, ← hF]
    refine bodyPost_ret (v := .tuple #[.agg X, .int .i64 1]) (results_row2 (m := 8) rfl _ _ (w.heap.size + 1) _ _ rfl rfl (rowAt_setRow_at _ _ _ (Option.isSome_iff_exists.2 ⟨_, q2⟩)) Try.underlying32 rfl (by kernel_rfl) hXs) rfl ⟨rfl, ?_⟩
    exact below_setRow B1 (by omega) _
end Go.Proofs.Ytgdhfcpmeaeioaa
