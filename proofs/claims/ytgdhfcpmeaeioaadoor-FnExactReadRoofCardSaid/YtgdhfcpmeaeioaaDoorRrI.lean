/- A row with a text: the program's side. -/
import Derived.Test.YtgdhfcpmeaeioaaDoorRrM
import Derived.Test.YtgdhfcpmeaeioaaDoorShr
import Derived.Test.YtgdhfcpmeaeioaaDoorCol
import Derived.Test.YtgdhfcpmeaeioaaDoorEnd
import Derived.Test.YtgdhfcpmeaeioaaDoorGive
namespace Go.Proofs.YtgdhfcpmeaeioaaDoor
open Go.RowKit

theorem suffix_yes (m : List UInt8) : Lib.hasSuffix (m ++ [45]) [45] = true ∧ Lib.trimSuffix (m ++ [45]) [45] = m := by
  have h : Lib.hasSuffix (m ++ [45]) [45] = true := by unfold Lib.hasSuffix; rw [List.isSuffixOf_iff_suffix]; exact List.suffix_append _ _
  refine ⟨h, ?_⟩
  unfold Lib.trimSuffix
  rw [if_pos h]
  simp
theorem suffix_no {l : List UInt8} (h : ¬ ∃ m, l = m ++ [45]) : Lib.hasSuffix l [45] = false := by
  cases e : Lib.hasSuffix l [45] with
  | false => rfl
  | true =>
    unfold Lib.hasSuffix at e
    rw [List.isSuffixOf_iff_suffix] at e
    obtain ⟨m, hm⟩ := e
    exact absurd ⟨m, hm.symm⟩ h
theorem prefix_yes (m : List UInt8) : Lib.hasPrefix (45 :: m) [45] = true ∧ Lib.trimPrefix (45 :: m) [45] = m := by
  have h : Lib.hasPrefix (45 :: m) [45] = true := by unfold Lib.hasPrefix; rfl
  refine ⟨h, ?_⟩
  unfold Lib.trimPrefix
  rw [if_pos h]
  rfl
theorem prefix_no {l : List UInt8} (h : ¬ ∃ m, l = 45 :: m) : Lib.hasPrefix l [45] = false := by
  cases e : Lib.hasPrefix l [45] with
  | false => rfl
  | true =>
    unfold Lib.hasPrefix at e
    rw [List.isPrefixOf_iff_prefix] at e
    obtain ⟨m, hm⟩ := e
    exact absurd ⟨m, hm.symm⟩ h
theorem line0 {wi : Nat} {l : List UInt8} : lineR wi 0 l ↔ ∃ m, l = m ++ [45] ∧ m.length = wi ∧ ∀ k, k < wi → kl (m.getD k 0) < 4 := by
  constructor
  · rintro ⟨h1, h2, h3⟩
    have hne : l ≠ [] := by intro e; rw [e] at h1; simp at h1
    have hl : l.getLast hne = 45 := by
      rw [List.getLast_eq_getElem]
      have : l.length - 1 = (1 - 0) * wi := by omega
      rw [List.getD_eq_getElem?_getD, List.getElem?_eq_getElem (by omega), Option.getD_some] at h2
      simpa [this] using h2
    refine ⟨l.dropLast, by rw [← hl]; exact (List.dropLast_concat_getLast hne).symm, by rw [List.length_dropLast]; omega, fun k hk => ?_⟩
    have := h3 k hk
    rw [Nat.add_zero, List.getD_eq_getElem?_getD, List.getElem?_eq_getElem (by omega), Option.getD_some] at this
    rw [List.getD_eq_getElem?_getD, List.getElem?_eq_getElem (by rw [List.length_dropLast]; omega), Option.getD_some, List.getElem_dropLast]
    exact this
  · rintro ⟨m, rfl, h1, h2⟩
    refine ⟨by simp [h1], ?_, fun k hk => ?_⟩
    · have : (1 - 0) * wi = m.length := by omega
      rw [this]; simp [List.getD_eq_getElem?_getD]
    · have := h2 k hk
      rw [Nat.add_zero, List.getD_eq_getElem?_getD, List.getElem?_append_left (by omega), ← List.getD_eq_getElem?_getD]
      exact this
theorem line1 {wi : Nat} {l : List UInt8} : lineR wi 1 l ↔ ∃ m, l = 45 :: m ∧ m.length = wi ∧ ∀ k, k < wi → kl (m.getD k 0) < 4 := by
  constructor
  · rintro ⟨h1, h2, h3⟩
    cases l with
    | nil => simp at h1
    | cons x m =>
      have hx : x = 45 := by simpa using h2
      subst hx
      exact ⟨m, rfl, by simpa using h1, fun k hk => by simpa using h3 k hk⟩
  · rintro ⟨m, rfl, h1, h2⟩
    exact ⟨by simp [h1], by simp, fun k hk => by simpa using h2 k hk⟩
def klR (m : List UInt8) (n k : Nat) : Int := if k < n then (kl (m.getD k 0) : Int) else 0
theorem toU8_back (b : UInt8) : ((b.toNat : Int)).toNat.toUInt8 = b := by simp

set_option maxRecDepth 100000 in
set_option maxHeartbeats 4000000 in
theorem readRow0 (l : List UInt8) (wi : Nat) (w : World) (hs : l.length ≤ 2000000) (h1 : 1 ≤ wi) (h8 : wi ≤ 8) :
    Calls Tryd.prog 33 #[.string ⟨l.toArray⟩, .int .i64 wi, .bool false] w fun e w' => ((lineR wi 0 l ∧ e = .returned (.tuple #[.agg (mkI .u8 8 (fun k => if k < wi then (kl (l.getD (k + 0) 0) : Int) else 0)), .bool true])) ∨ (¬ lineR wi 0 l ∧ e = .returned (.tuple #[.agg (mkI .u8 8 (fun _ => 0)), .bool false]))) ∧ Below w.heap.size w w' := by
  have hz : (#[.int .u8 0, .int .u8 0, .int .u8 0, .int .u8 0, .int .u8 0, .int .u8 0, .int .u8 0, .int .u8 0] : Array Value) = mkI .u8 8 (fun _ => 0) := by kernel_rfl
  have hzo : Ones (#[.int .u8 0, .int .u8 0, .int .u8 0, .int .u8 0, .int .u8 0, .int .u8 0, .int .u8 0, .int .u8 0] : Array Value) := by rw [hz]; exact (isK_mkI _ _ _).ones
  have zs : (mkI .u8 8 (fun _ => 0)).size = 8 := size_mkI _ _ _
  have HZ := Lib.hid hz
  clear hz
  have CC : ∀ W, Calls Tryd.prog 30 #[.string ⟨l.toArray⟩, .string ⟨#[45]⟩] W fun e w' => e = .returned (.tuple #[.string ⟨(Lib.trimSuffix l [45]).toArray⟩, .bool (Lib.hasSuffix l [45])]) ∧ w' = W := fun W => Any.strings_CutSuffix Tryd.lays104 ⟨l.toArray⟩ ⟨#[45]⟩ W (by rw [txt_size]; omega)
  have HLR := Lib.hid (line0 (wi := wi) (l := l))
  by_cases hm : ∃ m, l = m ++ [45]
  · obtain ⟨m, rfl⟩ := hm
    rw [(suffix_yes m).1, (suffix_yes m).2] at CC
    have hml : m.length ≤ 2000000 := by simp at hs; omega
    have hsz : (⟨m.toArray⟩ : ByteArray).size = m.length := txt_size m
    have hR : ∀ (h : lineR wi 0 (m ++ [45])), m.length = wi ∧ ∀ k, k < wi → kl (m.getD k 0) < 4 := fun h => by
      obtain ⟨m2, e, a, b⟩ := HLR.out.1 h
      have : m = m2 := by simpa using e
      subst this; exact ⟨a, b⟩
    have HR := Lib.hid hR
    clear hR
    by_cases hl : m.length = wi
    · have e1 : ((m.length : Int) != wi) = false := by rw [hl]; simp
      go_enter Tryd.func33, Tryd.ntmps33
      go_wp2_with fail
      refine gen_callsW fun W0 hW => ?_
      have p0 : rowAt W0 w.heap.size = some (mkI .u8 8 (fun _ => 0)) := by rw [hW, ← HZ.out]; exact rowAt_alloc_at _ _ _ _ rfl
      have pB : Below w.heap.size w W0 := by rw [hW]; exact (Below.refl _ _).alloc (Nat.le_refl _) _
      clear hW
      refine (CC _).mono ?_
      rintro e w1 ⟨rfl, rfl⟩
      clear CC
      go_wp2_with fail
      refine gen_world fun W2 hW => ?_
      have q0 : rowAt W2 w.heap.size = some (mkI .u8 8 (fun _ => 0)) := by rw [hW]; exact (rowAt_alloc_past _ _ _ (rowAt_lt p0)).trans p0
      have q1 : rowAt W2 w1.heap.size = some (mkI .u8 8 (klR m 0)) := by
        have e : mkI .u8 8 (klR m 0) = mkI .u8 8 (fun _ => 0) := mkI_congr fun i _ => by unfold klR; rw [if_neg (by omega)]
        rw [hW, e, ← HZ.out]; exact rowAt_alloc_at _ _ _ _ rfl
      have qB : Below w.heap.size w W2 := by rw [hW]; exact pB.alloc pB.size _
      have l1 := rowAt_lt p0
      have ne : w.heap.size ≠ w1.heap.size := by omega
      clear hW p0 pB
      go_loopw [31] (fun i W' => ∃ k : Nat, k ≤ wi ∧ i = .int .i64 k ∧ Hid (∀ j, j < k → kl (m.getD j 0) < 4) ∧ rowAt W' w.heap.size = some (mkI .u8 8 (fun _ => 0)) ∧ rowAt W' w1.heap.size = some (mkI .u8 8 (klR m k)) ∧ Below w.heap.size w W') (fun i _ => wi - (intOf i).toNat)
      case atStart => exact ⟨0, by omega, rfl, Lib.hid (fun j hj => by omega), q0, q1, qB⟩
      case round =>
        clear q0 q1 qB
        obtain ⟨k, hk, rfl, hok, q0, q1, qB⟩ := hrel
        by_cases hkl : k < wi
        · have k0 : (0 : Int) ≤ k := by omega
          have k1 : (k : Int) < wi := by omega
          have k8 : (k : Int) < 8 := by omega
          have hks : k < (⟨m.toArray⟩ : ByteArray).size := by rw [txt_size]; omega
          have k2 : (k : Int) < (⟨m.toArray⟩ : ByteArray).size := by omega
          have hx : (⟨m.toArray⟩ : ByteArray)[k]'hks = m.getD k 0 := by
            have e : (⟨m.toArray⟩ : ByteArray)[k]'hks = m[k]'(by omega) := rfl
            rw [e, List.getD_eq_getElem?_getD, List.getElem?_eq_getElem (by omega), Option.getD_some]
          have CI : ∀ W, Calls Tryd.prog 64 #[.string ⟨#[46, 120, 115, 111]⟩, .int .u8 ((⟨m.toArray⟩ : ByteArray)[k]'hks).toNat] W fun e w' => e = .returned (.int .i64 (if kl (m.getD k 0) < 4 then (kl (m.getD k 0) : Int) else -1)) ∧ w' = W := fun W => by
            have := Any.strings_IndexByte Tryd.lays137 ⟨#[46, 120, 115, 111]⟩ ((⟨m.toArray⟩ : ByteArray)[k]'hks).toNat W
            rw [toU8_back, hx] at this
            rw [hx, ← kl_index]
            exact this
          have cg : (wr.cell? ⟨w1.heap.size, k, none⟩).isSome = true := by rw [cell_of_rowAt q1, (isK_mkI _ _ _).get (by omega)]; rfl
          obtain ⟨y, hy⟩ := Option.isSome_iff_exists.1 cg
          have fg := frozen_of_rowAt q1 k
          clear cg hx
          by_cases h4 : kl (m.getD k 0) < 4
          · rw [if_pos h4] at CI
            have HS : Hid ((mkI .u8 8 (klR m k)).setIfInBounds k (.int .u8 (kl (m.getD k 0) : Int)) = mkI .u8 8 (klR m (k + 1))) := Lib.hid (by
              refine (((isK_mkI _ _ _).set k _).congr fun i hi => ?_).eq
              unfold klR
              by_cases e : i = k
              · subst e; rw [upd_at, if_pos (by omega)]
              · rw [upd_ne _ _ e]
                by_cases h : i < k
                · rw [if_pos h, if_pos (by omega)]
                · rw [if_neg h, if_neg (by omega)])
            have HOK : Hid (∀ j, j < k + 1 → kl (m.getD j 0) < 4) := Lib.hid fun j hj => by
              by_cases e : j = k
              · subst e; exact h4
              · exact hok.out j (by omega)
            generalize kl (m.getD k 0) = x at *
            have x0 : (0 : Int) ≤ x := by omega
            have x4 : (x : Int) < 4 := by omega
            have xn : ¬ (x : Int) < 0 := by omega
            have HQ := Lib.hid q1
            clear h4 hok q1
            go_wp2_with fail
            refine (CI _).mono ?_
            rintro e w2 ⟨rfl, rfl⟩
            clear CI
            go_wp2_with fail
            refine ⟨⟨k + 1, by omega, by go_num, HOK, (rowAt_setCell_ne _ _ _ _ _ ne).trans q0, ?_, qB.setCell (p := ⟨w1.heap.size, k, none⟩) (by simp; omega) _⟩, by simp [intOf]; omega⟩
            rw [rowAt_setCell_at _ _ _ _ (by rw [HQ.out]; rfl), HQ.out, Option.getD_some]
            exact congrArg some HS.out
          · rw [if_neg h4] at CI
            have HN := Lib.hid (fun (h : lineR wi 0 (m ++ [45])) => h4 ((HR.out h).2 k hkl))
            clear h4
            go_wp2_with fail
            refine (CI _).mono ?_
            rintro e w2 ⟨rfl, rfl⟩
            clear CI
            go_wp2_with fail
            rw [HZ.out]
            refine bodyPost_ret (v := .tuple #[.agg (mkI .u8 8 (fun _ => 0)), .bool false]) (results_row2 (m := 8) rfl _ _ w.heap.size _ _ rfl rfl (rowAt_setRow_at _ _ _ (Option.isSome_iff_exists.2 ⟨_, q0⟩)) Tryd.underlying23 rfl (by kernel_rfl) (size_mkI _ _ _)) rfl ⟨.inr ⟨HN.out, rfl⟩, ?_⟩
            exact below_setRow qB (Nat.le_refl _) _
        · obtain rfl : k = wi := by omega
          have hL : lineR k 0 (m ++ [45]) := HLR.out.2 ⟨m, rfl, hl, hok.out⟩
          have hX : mkI .u8 8 (klR m k) = mkI .u8 8 (fun j => if j < k then (kl ((m ++ [45]).getD (j + 0) 0) : Int) else 0) := mkI_congr fun i _ => by
            unfold klR
            by_cases e : i < k
            · rw [if_pos e, if_pos e]
              rw [Nat.add_zero, List.getD_eq_getElem?_getD (l := m ++ [45]), List.getElem?_append_left (by omega), ← List.getD_eq_getElem?_getD]
            · rw [if_neg e, if_neg e]
          have hXs : (mkI .u8 8 (klR m k)).size = 8 := size_mkI _ _ _
          have hXo : Ones (mkI .u8 8 (klR m k)) := (isK_mkI _ _ _).ones
          have HX := Lib.hid hX
          clear hX hok
          generalize mkI .u8 8 (klR m k) = X at *
          go_wp2_with fail
          refine bodyPost_ret (v := .tuple #[.agg X, .bool true]) (results_row2 (m := 8) rfl _ _ w.heap.size _ _ rfl rfl (rowAt_setRow_at _ _ _ (Option.isSome_iff_exists.2 ⟨_, q0⟩)) Tryd.underlying23 rfl (by kernel_rfl) hXs) rfl ⟨.inl ⟨hL, by rw [HX.out]⟩, ?_⟩
          exact below_setRow qB (Nat.le_refl _) _
    · have HN := Lib.hid (fun (h : lineR wi 0 (m ++ [45])) => hl (HR.out h).1)
      have e1 : ((m.length : Int) != wi) = true := by simp only [bne_iff_ne, ne_eq]; omega
      go_enter Tryd.func33, Tryd.ntmps33
      go_wp2_with fail
      refine gen_callsW fun W0 hW => ?_
      have p0 : rowAt W0 w.heap.size = some (mkI .u8 8 (fun _ => 0)) := by rw [hW, ← HZ.out]; exact rowAt_alloc_at _ _ _ _ rfl
      have pB : Below w.heap.size w W0 := by rw [hW]; exact (Below.refl _ _).alloc (Nat.le_refl _) _
      clear hW
      refine (CC _).mono ?_
      rintro e w1 ⟨rfl, rfl⟩
      clear CC
      go_wp2_with fail
      rw [HZ.out]
      refine bodyPost_ret (v := .tuple #[.agg (mkI .u8 8 (fun _ => 0)), .bool false]) (results_row2 (m := 8) rfl _ _ w.heap.size _ _ rfl rfl (rowAt_setRow_at _ _ _ (Option.isSome_iff_exists.2 ⟨_, p0⟩)) Tryd.underlying23 rfl (by kernel_rfl) (size_mkI _ _ _)) rfl ⟨.inr ⟨HN.out, rfl⟩, ?_⟩
      exact below_setRow pB (Nat.le_refl _) _
  · have HN : Hid (¬ lineR wi 0 l) := Lib.hid fun h => by obtain ⟨m, e, _⟩ := HLR.out.1 h; exact hm ⟨m, e⟩
    rw [suffix_no hm] at CC
    go_enter Tryd.func33, Tryd.ntmps33
    go_wp2_with fail
    refine gen_callsW fun W0 hW => ?_
    have p0 : rowAt W0 w.heap.size = some (mkI .u8 8 (fun _ => 0)) := by rw [hW, ← HZ.out]; exact rowAt_alloc_at _ _ _ _ rfl
    have pB : Below w.heap.size w W0 := by rw [hW]; exact (Below.refl _ _).alloc (Nat.le_refl _) _
    clear hW
    refine (CC _).mono ?_
    rintro e w1 ⟨rfl, rfl⟩
    clear CC
    go_wp2_with fail
    rw [HZ.out]
    refine bodyPost_ret (v := .tuple #[.agg (mkI .u8 8 (fun _ => 0)), .bool false]) (results_row2 (m := 8) rfl _ _ w.heap.size _ _ rfl rfl (rowAt_setRow_at _ _ _ (Option.isSome_iff_exists.2 ⟨_, p0⟩)) Tryd.underlying23 rfl (by kernel_rfl) (size_mkI _ _ _)) rfl ⟨.inr ⟨HN.out, rfl⟩, ?_⟩
    exact below_setRow pB (Nat.le_refl _) _

set_option maxRecDepth 100000 in
set_option maxHeartbeats 4000000 in
theorem readRow1 (l : List UInt8) (wi : Nat) (w : World) (hs : l.length ≤ 2000000) (h1 : 1 ≤ wi) (h8 : wi ≤ 8) :
    Calls Tryd.prog 33 #[.string ⟨l.toArray⟩, .int .i64 wi, .bool true] w fun e w' => ((lineR wi 1 l ∧ e = .returned (.tuple #[.agg (mkI .u8 8 (fun k => if k < wi then (kl (l.getD (k + 1) 0) : Int) else 0)), .bool true])) ∨ (¬ lineR wi 1 l ∧ e = .returned (.tuple #[.agg (mkI .u8 8 (fun _ => 0)), .bool false]))) ∧ Below w.heap.size w w' := by
  have hz : (#[.int .u8 0, .int .u8 0, .int .u8 0, .int .u8 0, .int .u8 0, .int .u8 0, .int .u8 0, .int .u8 0] : Array Value) = mkI .u8 8 (fun _ => 0) := by kernel_rfl
  have hzo : Ones (#[.int .u8 0, .int .u8 0, .int .u8 0, .int .u8 0, .int .u8 0, .int .u8 0, .int .u8 0, .int .u8 0] : Array Value) := by rw [hz]; exact (isK_mkI _ _ _).ones
  have zs : (mkI .u8 8 (fun _ => 0)).size = 8 := size_mkI _ _ _
  have HZ := Lib.hid hz
  clear hz
  have CC : ∀ W, Calls Tryd.prog 63 #[.string ⟨l.toArray⟩, .string ⟨#[45]⟩] W fun e w' => e = .returned (.tuple #[.string ⟨(Lib.trimPrefix l [45]).toArray⟩, .bool (Lib.hasPrefix l [45])]) ∧ w' = W := fun W => Any.strings_CutPrefix Tryd.lays103 ⟨l.toArray⟩ ⟨#[45]⟩ W
  have HLR := Lib.hid (line1 (wi := wi) (l := l))
  by_cases hm : ∃ m, l = 45 :: m
  · obtain ⟨m, rfl⟩ := hm
    rw [(prefix_yes m).1, (prefix_yes m).2] at CC
    have hml : m.length ≤ 2000000 := by simp at hs; omega
    have hsz : (⟨m.toArray⟩ : ByteArray).size = m.length := txt_size m
    have hR : ∀ (h : lineR wi 1 (45 :: m)), m.length = wi ∧ ∀ k, k < wi → kl (m.getD k 0) < 4 := fun h => by
      obtain ⟨m2, e, a, b⟩ := HLR.out.1 h
      have : m = m2 := by simpa using e
      subst this; exact ⟨a, b⟩
    have HR := Lib.hid hR
    clear hR
    by_cases hl : m.length = wi
    · have e1 : ((m.length : Int) != wi) = false := by rw [hl]; simp
      go_enter Tryd.func33, Tryd.ntmps33
      go_wp2_with fail
      refine gen_callsW fun W0 hW => ?_
      have p0 : rowAt W0 w.heap.size = some (mkI .u8 8 (fun _ => 0)) := by rw [hW, ← HZ.out]; exact rowAt_alloc_at _ _ _ _ rfl
      have pB : Below w.heap.size w W0 := by rw [hW]; exact (Below.refl _ _).alloc (Nat.le_refl _) _
      clear hW
      refine (CC _).mono ?_
      rintro e w1 ⟨rfl, rfl⟩
      clear CC
      go_wp2_with fail
      refine gen_world fun W2 hW => ?_
      have q0 : rowAt W2 w.heap.size = some (mkI .u8 8 (fun _ => 0)) := by rw [hW]; exact (rowAt_alloc_past _ _ _ (rowAt_lt p0)).trans p0
      have q1 : rowAt W2 w1.heap.size = some (mkI .u8 8 (klR m 0)) := by
        have e : mkI .u8 8 (klR m 0) = mkI .u8 8 (fun _ => 0) := mkI_congr fun i _ => by unfold klR; rw [if_neg (by omega)]
        rw [hW, e, ← HZ.out]; exact rowAt_alloc_at _ _ _ _ rfl
      have qB : Below w.heap.size w W2 := by rw [hW]; exact pB.alloc pB.size _
      have l1 := rowAt_lt p0
      have ne : w.heap.size ≠ w1.heap.size := by omega
      clear hW p0 pB
      go_loopw [31] (fun i W' => ∃ k : Nat, k ≤ wi ∧ i = .int .i64 k ∧ Hid (∀ j, j < k → kl (m.getD j 0) < 4) ∧ rowAt W' w.heap.size = some (mkI .u8 8 (fun _ => 0)) ∧ rowAt W' w1.heap.size = some (mkI .u8 8 (klR m k)) ∧ Below w.heap.size w W') (fun i _ => wi - (intOf i).toNat)
      case atStart => exact ⟨0, by omega, rfl, Lib.hid (fun j hj => by omega), q0, q1, qB⟩
      case round =>
        clear q0 q1 qB
        obtain ⟨k, hk, rfl, hok, q0, q1, qB⟩ := hrel
        by_cases hkl : k < wi
        · have k0 : (0 : Int) ≤ k := by omega
          have k1 : (k : Int) < wi := by omega
          have k8 : (k : Int) < 8 := by omega
          have hks : k < (⟨m.toArray⟩ : ByteArray).size := by rw [txt_size]; omega
          have k2 : (k : Int) < (⟨m.toArray⟩ : ByteArray).size := by omega
          have hx : (⟨m.toArray⟩ : ByteArray)[k]'hks = m.getD k 0 := by
            have e : (⟨m.toArray⟩ : ByteArray)[k]'hks = m[k]'(by omega) := rfl
            rw [e, List.getD_eq_getElem?_getD, List.getElem?_eq_getElem (by omega), Option.getD_some]
          have CI : ∀ W, Calls Tryd.prog 64 #[.string ⟨#[46, 120, 115, 111]⟩, .int .u8 ((⟨m.toArray⟩ : ByteArray)[k]'hks).toNat] W fun e w' => e = .returned (.int .i64 (if kl (m.getD k 0) < 4 then (kl (m.getD k 0) : Int) else -1)) ∧ w' = W := fun W => by
            have := Any.strings_IndexByte Tryd.lays137 ⟨#[46, 120, 115, 111]⟩ ((⟨m.toArray⟩ : ByteArray)[k]'hks).toNat W
            rw [toU8_back, hx] at this
            rw [hx, ← kl_index]
            exact this
          have cg : (wr.cell? ⟨w1.heap.size, k, none⟩).isSome = true := by rw [cell_of_rowAt q1, (isK_mkI _ _ _).get (by omega)]; rfl
          obtain ⟨y, hy⟩ := Option.isSome_iff_exists.1 cg
          have fg := frozen_of_rowAt q1 k
          clear cg hx
          by_cases h4 : kl (m.getD k 0) < 4
          · rw [if_pos h4] at CI
            have HS : Hid ((mkI .u8 8 (klR m k)).setIfInBounds k (.int .u8 (kl (m.getD k 0) : Int)) = mkI .u8 8 (klR m (k + 1))) := Lib.hid (by
              refine (((isK_mkI _ _ _).set k _).congr fun i hi => ?_).eq
              unfold klR
              by_cases e : i = k
              · subst e; rw [upd_at, if_pos (by omega)]
              · rw [upd_ne _ _ e]
                by_cases h : i < k
                · rw [if_pos h, if_pos (by omega)]
                · rw [if_neg h, if_neg (by omega)])
            have HOK : Hid (∀ j, j < k + 1 → kl (m.getD j 0) < 4) := Lib.hid fun j hj => by
              by_cases e : j = k
              · subst e; exact h4
              · exact hok.out j (by omega)
            generalize kl (m.getD k 0) = x at *
            have x0 : (0 : Int) ≤ x := by omega
            have x4 : (x : Int) < 4 := by omega
            have xn : ¬ (x : Int) < 0 := by omega
            have HQ := Lib.hid q1
            clear h4 hok q1
            go_wp2_with fail
            refine (CI _).mono ?_
            rintro e w2 ⟨rfl, rfl⟩
            clear CI
            go_wp2_with fail
            refine ⟨⟨k + 1, by omega, by go_num, HOK, (rowAt_setCell_ne _ _ _ _ _ ne).trans q0, ?_, qB.setCell (p := ⟨w1.heap.size, k, none⟩) (by simp; omega) _⟩, by simp [intOf]; omega⟩
            rw [rowAt_setCell_at _ _ _ _ (by rw [HQ.out]; rfl), HQ.out, Option.getD_some]
            exact congrArg some HS.out
          · rw [if_neg h4] at CI
            have HN := Lib.hid (fun (h : lineR wi 1 (45 :: m)) => h4 ((HR.out h).2 k hkl))
            clear h4
            go_wp2_with fail
            refine (CI _).mono ?_
            rintro e w2 ⟨rfl, rfl⟩
            clear CI
            go_wp2_with fail
            rw [HZ.out]
            refine bodyPost_ret (v := .tuple #[.agg (mkI .u8 8 (fun _ => 0)), .bool false]) (results_row2 (m := 8) rfl _ _ w.heap.size _ _ rfl rfl (rowAt_setRow_at _ _ _ (Option.isSome_iff_exists.2 ⟨_, q0⟩)) Tryd.underlying23 rfl (by kernel_rfl) (size_mkI _ _ _)) rfl ⟨.inr ⟨HN.out, rfl⟩, ?_⟩
            exact below_setRow qB (Nat.le_refl _) _
        · obtain rfl : k = wi := by omega
          have hL : lineR k 1 (45 :: m) := HLR.out.2 ⟨m, rfl, hl, hok.out⟩
          have hX : mkI .u8 8 (klR m k) = mkI .u8 8 (fun j => if j < k then (kl ((45 :: m).getD (j + 1) 0) : Int) else 0) := mkI_congr fun i _ => by
            unfold klR
            by_cases e : i < k
            · rw [if_pos e, if_pos e]
              rw [List.getD_cons_succ]
            · rw [if_neg e, if_neg e]
          have hXs : (mkI .u8 8 (klR m k)).size = 8 := size_mkI _ _ _
          have hXo : Ones (mkI .u8 8 (klR m k)) := (isK_mkI _ _ _).ones
          have HX := Lib.hid hX
          clear hX hok
          generalize mkI .u8 8 (klR m k) = X at *
          go_wp2_with fail
          refine bodyPost_ret (v := .tuple #[.agg X, .bool true]) (results_row2 (m := 8) rfl _ _ w.heap.size _ _ rfl rfl (rowAt_setRow_at _ _ _ (Option.isSome_iff_exists.2 ⟨_, q0⟩)) Tryd.underlying23 rfl (by kernel_rfl) hXs) rfl ⟨.inl ⟨hL, by rw [HX.out]⟩, ?_⟩
          exact below_setRow qB (Nat.le_refl _) _
    · have HN := Lib.hid (fun (h : lineR wi 1 (45 :: m)) => hl (HR.out h).1)
      have e1 : ((m.length : Int) != wi) = true := by simp only [bne_iff_ne, ne_eq]; omega
      go_enter Tryd.func33, Tryd.ntmps33
      go_wp2_with fail
      refine gen_callsW fun W0 hW => ?_
      have p0 : rowAt W0 w.heap.size = some (mkI .u8 8 (fun _ => 0)) := by rw [hW, ← HZ.out]; exact rowAt_alloc_at _ _ _ _ rfl
      have pB : Below w.heap.size w W0 := by rw [hW]; exact (Below.refl _ _).alloc (Nat.le_refl _) _
      clear hW
      refine (CC _).mono ?_
      rintro e w1 ⟨rfl, rfl⟩
      clear CC
      go_wp2_with fail
      rw [HZ.out]
      refine bodyPost_ret (v := .tuple #[.agg (mkI .u8 8 (fun _ => 0)), .bool false]) (results_row2 (m := 8) rfl _ _ w.heap.size _ _ rfl rfl (rowAt_setRow_at _ _ _ (Option.isSome_iff_exists.2 ⟨_, p0⟩)) Tryd.underlying23 rfl (by kernel_rfl) (size_mkI _ _ _)) rfl ⟨.inr ⟨HN.out, rfl⟩, ?_⟩
      exact below_setRow pB (Nat.le_refl _) _
  · have HN : Hid (¬ lineR wi 1 l) := Lib.hid fun h => by obtain ⟨m, e, _⟩ := HLR.out.1 h; exact hm ⟨m, e⟩
    rw [prefix_no hm] at CC
    go_enter Tryd.func33, Tryd.ntmps33
    go_wp2_with fail
    refine gen_callsW fun W0 hW => ?_
    have p0 : rowAt W0 w.heap.size = some (mkI .u8 8 (fun _ => 0)) := by rw [hW, ← HZ.out]; exact rowAt_alloc_at _ _ _ _ rfl
    have pB : Below w.heap.size w W0 := by rw [hW]; exact (Below.refl _ _).alloc (Nat.le_refl _) _
    clear hW
    refine (CC _).mono ?_
    rintro e w1 ⟨rfl, rfl⟩
    clear CC
    go_wp2_with fail
    rw [HZ.out]
    refine bodyPost_ret (v := .tuple #[.agg (mkI .u8 8 (fun _ => 0)), .bool false]) (results_row2 (m := 8) rfl _ _ w.heap.size _ _ rfl rfl (rowAt_setRow_at _ _ _ (Option.isSome_iff_exists.2 ⟨_, p0⟩)) Tryd.underlying23 rfl (by kernel_rfl) (size_mkI _ _ _)) rfl ⟨.inr ⟨HN.out, rfl⟩, ?_⟩
    exact below_setRow pB (Nat.le_refl _) _
end Go.Proofs.YtgdhfcpmeaeioaaDoor
