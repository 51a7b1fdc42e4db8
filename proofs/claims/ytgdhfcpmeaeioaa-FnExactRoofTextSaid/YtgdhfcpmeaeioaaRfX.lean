/- The marks of a row of tiles; the text of a roof, both sides. -/
import Derived.Test.YtgdhfcpmeaeioaaBld
import Derived.Test.YtgdhfcpmeaeioaaTxt
import Derived.Test.YtgdhfcpmeaeioaaCourse
import Derived.Test.YtgdhfcpmeaeioaaImplB
import Derived.Test.YtgdhfcpmeaeioaaSpecB
import Derived.Test.YtgdhfcpmeaeioaaGive
import Derived.Deep.RegionHeld3
import Derived.Laws.MakeOwn
import Derived.Laws.OwnMore
namespace Go.Proofs.Ytgdhfcpmeaeioaa
open Go.RowKit

theorem made_bytes {w : World} {base g q : Nat} {e : TypeId} (h : w.ownsRow base e 1 (.slice (some ⟨g, 0, none⟩) q q) q (madeCells #[.int .u8 0] q).toList) : rowAt w g = some (mkI .u8 q fun _ => 0) := by
  obtain ⟨hl, ⟨h, _⟩ | ⟨g', cap, cur, he, hg, hh, hn, hm, hs, ht⟩⟩ := h
  · cases h
  · cases he
    rw [rowAt_of_heap hh]
    refine congrArg some (IsK.of_get (by omega) fun i hi => ?_).eq
    have h1 : cur[i]? = (cur.toList.take (q * 1))[i]? := by rw [List.getElem?_take, if_pos (by omega), Array.getElem?_toList]
    rw [h1, ht, toList_madeCells_one, List.getElem?_replicate, if_pos hi]
def marked (K : Nat → Nat) (k j : Nat) : Int := if j < k then ((mark (K j)).toNat : Int) else 0
theorem marked_set {K : Nat → Nat} {n k : Nat} (hk : k < n) (x : Int) (hx : x = (mark (K k)).toNat) : (mkI .u8 n (marked K k)).setIfInBounds k (.int .u8 x) = mkI .u8 n (marked K (k + 1)) := by
  refine (((isK_mkI _ _ _).set k _).congr fun i hi => ?_).eq
  unfold marked
  by_cases e : i = k
  · subst e; rw [upd_at, if_pos (by omega), hx]
  · rw [upd_ne _ _ e]
    by_cases h : i < k
    · rw [if_pos h, if_pos (by omega)]
    · rw [if_neg h, if_neg (by omega)]

set_option maxRecDepth 100000 in
set_option maxHeartbeats 2000000 in
theorem rowText_any (n o ww cap : Nat) (c : Array Value) (K : Nat → Nat) (w : World) (hr : rowAt w n = some c) (hk : ∀ j, j < ww → c[o + j]? = some (.int .u8 (K j)) ∧ K j ≤ 3) (h8 : 1 ≤ ww ∧ ww ≤ 8) :
    Calls Try.prog 19 #[.slice (some ⟨n, o, none⟩) ww cap] w fun e w' => e = .returned (.string ⟨(kindTx K ww).toArray⟩) ∧ Below w.heap.size w w' := by
  obtain ⟨i0, hi0, hz0, hz1, hz2⟩ := info_parts bld_extra.infoByte
  have HK := Lib.hid hk
  clear hk
  have ln := rowAt_lt hr
  go_enter Try.func19, Try.ntmps19
  go_wp2_with (at_make; refine wpList_make_full _ rfl _ _ 45 rfl w.heap.size 5 i0 (.int .u8 0) 1 Try.underlying45 hi0 hz0 hz1 .i64 .i64 ww ww ww rfl rfl rfl rfl (by rw [hz2]; omega) (by unfold maxLen; omega) (by simp) ?_)
  intro w1 own1 grow1
  have rg := made_bytes own1
  have B1 : Below w.heap.size w w1 := (Below.refl w.heap.size w).grown grow1 (by simp) (by intro x hx; cases hx)
  have rk := brow B1 hr
  clear own1 grow1
  go_wp2_with fail
  go_loopw [11] (fun i W => ∃ k : Nat, k ≤ ww ∧ i = .int .i64 k ∧ rowAt W w.heap.size = some (mkI .u8 ww (marked K k)) ∧ Below w.heap.size w W) (fun i _ => ww - (intOf i).toNat)
  case atStart => exact ⟨0, by omega, rfl, rg.trans (congrArg some (mkI_congr fun i _ => by unfold marked; rw [if_neg (by omega)])), B1⟩
  case round =>
    clear rg B1 rk
    obtain ⟨k, hk, rfl, r0, hB⟩ := hrel
    by_cases hlt : k < ww
    · have rn := brow hB hr
      have hck := HK.out k hlt
      have ck : wr.cell? ⟨n, o + k, none⟩ = some (.int .u8 (K k)) := (cell_of_rowAt rn _).trans hck.1
      have cg : (wr.cell? ⟨w.heap.size, k, none⟩).isSome = true := by rw [cell_of_rowAt r0, (isK_mkI _ _ _).get hlt]; rfl
      have fg := frozen_of_rowAt r0 k
      have k0 : (0 : Int) ≤ k := by omega
      have k1 : (k : Int) < ww := by omega
      obtain ⟨y, hy⟩ := Option.isSome_iff_exists.1 cg
      clear cg
      have HS := Lib.hid (fun (x : Int) hx => marked_set (K := K) hlt x hx)
      have R0 := Lib.hid r0
      rcases mark_cases hck.2 with ⟨e1, e2⟩ | ⟨e1, e2⟩ | ⟨e1, e2⟩ | ⟨e1, e2⟩
      all_goals
        rw [e1] at ck
        rw [e2] at HS
        clear e1 e2 hck r0
        go_wp2_with fail
        refine ⟨⟨k + 1, by omega, by go_num, ?_, hB.setCell (p := ⟨w.heap.size, k, none⟩) (Nat.le_refl _) _⟩, by simp [intOf]; omega⟩
        rw [rowAt_setCell_at _ _ _ _ (by rw [R0.out]; rfl), R0.out, Option.getD_some]
        exact congrArg some (HS.out _ rfl)
    · obtain rfl : k = ww := by omega
      have hcv : (convert 45 9 (.slice (some ⟨w.heap.size, 0, none⟩) k k)).run Try.prog wr = .ok (.string ⟨(kindTx K k).toArray⟩) wr := by
        have := run_convert_bytes_back (P := Try.prog) wr 45 9 5 ⟨w.heap.size, 0, none⟩ k (kindTx K k) Try.underlying45 Try.underlying5 Try.underlying9 (fun j hj => by
          have hj' : j < k := by rw [kindTx_len] at hj; exact hj
          rw [Addr.add_lit, Nat.zero_add, cell_of_rowAt r0, (isK_mkI _ _ _).get hj', kindTx_get]
          unfold marked
          rw [if_pos hj'])
        rwa [kindTx_len] at this
      clear r0
      go_wp2_with fail
      go_ret
      exact ⟨rfl, hB⟩

theorem writeList_any {B b : Nat} {l : List UInt8} (s : ByteArray) (m : List UInt8) (hs : s = ⟨m.toArray⟩) {w : World} (h : Bld B b l w) (hlen : l.length + m.length ≤ 1000000) (hB : B ≤ w.heap.size) :
    Calls Try.prog 21 #[.pointer (some ⟨b, 0, none⟩), .string s] w fun e w' => (∃ v, e = .returned v) ∧ (Bld B b (l ++ m) w' ∧ Below B w w') := by
  subst hs
  refine (writeString_any ⟨m.toArray⟩ h (by rw [txt_size]; exact hlen) hB).mono ?_
  rintro e w' ⟨rfl, h⟩
  exact ⟨⟨_, rfl⟩, by simpa using h⟩
theorem Bld.below {B b : Nat} {l : List UInt8} {w w' : World} (h : Bld B b l w) (hb : Below w.heap.size w w') : Bld B b l w' := by
  have key : ∀ p, Lib.BuilderAt 47 5 B b p (Lib.byteCells l) w → Lib.BuilderAt 47 5 B b p (Lib.byteCells l) w' := fun p h => by
    have hlt := h.lt
    obtain ⟨hB, v, hbk, ⟨hl, hv⟩, hne⟩ := h
    refine ⟨hB, v, (hb.block b hlt).trans hbk, ⟨hl, ?_⟩, hne⟩
    rcases hv with hv | ⟨g, cap, cur, rfl, hg, hh, hr⟩
    · exact .inl hv
    · exact .inr ⟨g, cap, cur, rfl, hg, (hb.block g (rowAt_lt (rowAt_of_heap hh))).trans hh, hr⟩
  exact h.imp (key _) (key _)
theorem keepC {n : Nat} {x : Value} {w W w1 : World} {c : Array Value} (b : Below W.heap.size W w1) (h : W.cell? ⟨n, 0, none⟩ = some x ∧ rowAt W n = some c ∧ Below w.heap.size w W ∧ w.heap.size ≤ W.heap.size) :
    w1.cell? ⟨n, 0, none⟩ = some x ∧ rowAt w1 n = some c ∧ Below w.heap.size w w1 ∧ w.heap.size ≤ w1.heap.size :=
  ⟨by rw [cell_of_rowAt (brow b h.2.1), ← cell_of_rowAt h.2.1]; exact h.1, brow b h.2.1, bnext h.2.2.1 b h.2.2.2, Nat.le_trans h.2.2.2 b.size⟩

/-- The kind of a tile; the text of a course; that of all. -/
def Rf.kd (r : Rf) (i j : Nat) : Nat := (r.t (i * 8 + j)).toNat
def Rf.pre (r : Rf) (i : Nat) : List UInt8 := if r.by i == 1 then [45] else []
def Rf.post (r : Rf) (i : Nat) : List UInt8 := if r.by i == 1 then [] else [45]
def Rf.rows (r : Rf) (ww : Nat) : Nat → List UInt8
  | 0 => []
  | i + 1 => r.rows ww i ++ r.pre i ++ kindTx (r.kd i) ww ++ r.post i ++ [10]
theorem Rf.rows_len (r : Rf) (ww : Nat) : ∀ i, (r.rows ww i).length = i * (ww + 2)
  | 0 => by simp [Rf.rows]
  | i + 1 => by
    simp only [Rf.rows, List.length_append, List.length_singleton, r.rows_len ww i, kindTx_len, Rf.pre, Rf.post]
    rw [Nat.add_mul]
    by_cases h : (r.by i == 1) = true
    · simp only [h, if_pos]; simp; omega
    · simp only [h]; simp; omega
noncomputable def Rf.text (r : Rf) : List UInt8 := if r.ok = true then r.rows r.w.toNat r.h.toNat else []
theorem Rf.kd_eq {r : Rf} {c : Array Value} (hR : IsRoof c r) (ho : r.Ok) {i j : Nat} (hi : i < 8) (hj : j < 8) : c[3 + i * 8 + j]? = some (.int .u8 (r.kd i j)) ∧ r.kd i j ≤ 3 := by
  have hs := hR.size
  have ht := hR.tile (3 + i * 8 + j) (by omega) (by omega)
  have h3 := (ho.2.2.2.2.2 (i * 8 + j) (by omega)).1
  have h0 := hR.tiles.lo (i * 8 + j) (by omega)
  unfold Rf.kd
  refine ⟨?_, by omega⟩
  rw [Array.getElem?_eq_getElem (by omega), ht, show 3 + i * 8 + j - 3 = i * 8 + j from by omega, Int.toNat_of_nonneg h0]

set_option maxRecDepth 100000 in
set_option maxHeartbeats 2000000 in
theorem implRoofText_any (c : Array Value) (r : Rf) (w : World) (hR : IsRoof c r) :
    Calls Try.prog 8 #[.agg c] w fun e w' => e = .returned (.string ⟨r.text.toArray⟩) ∧ Below w.heap.size w w' := by
  have hc := hR.size
  obtain ⟨F, hF⟩ : ∃ F, r.text = F := ⟨_, rfl⟩
  rw [hF]
  have HFF := Lib.hid hF
  clear hF
  by_cases ho : r.Ok
  · obtain ⟨ww, hwe⟩ := Int.eq_ofNat_of_zero_le (show 0 ≤ r.w by have := ho.1; omega)
    obtain ⟨hh, hhe⟩ := Int.eq_ofNat_of_zero_le (show 0 ≤ r.h by have := ho.2.2.1; omega)
    have w8 : ww ≤ 8 := by have := ho.2.1; omega
    have w1' : 1 ≤ ww := by have := ho.1; omega
    have h8 : hh ≤ 8 := by have := ho.2.2.2.1; omega
    have HX : Hid (F = r.rows ww hh) := Lib.hid (by rw [← HFF.out]; unfold Rf.text; rw [if_pos (Rf.ok_true ho), hwe, hhe]; rfl)
    have k0 : ∀ W n, rowAt W n = some c → W.cell? ⟨n, 0, none⟩ = some (.int .i8 ww) ∧ W.cell? ⟨n, 1, none⟩ = some (.int .i8 hh) := fun W n h => by
      rw [cell_of_rowAt h, cell_of_rowAt h, Array.getElem?_eq_getElem (by omega), Array.getElem?_eq_getElem (by omega), hR.wide (by omega), hR.high (by omega), hwe, hhe]
      exact ⟨rfl, rfl⟩
    have K0 := Lib.hid k0
    clear k0 hwe hhe
    have CV := fun W => implValid_t c r W hR ho
    go_enter Try.func8, Try.ntmps8
    go_wp2_with fail
    refine gen_callsW fun W hW => ?_
    have p0 : rowAt W w.heap.size = some c := by rw [hW]; exact rowAt_alloc_at _ _ _ _ rfl
    have pB : Below w.heap.size w W := by rw [hW]; exact (Below.refl _ _).alloc (Nat.le_refl _) _
    clear hW
    refine (CV _).mono ?_
    rintro e w1 ⟨rfl, b1⟩
    have q0 := brow b1 p0
    have B1 := bnext pB b1 pB.size
    clear b1 p0 pB CV
    have l1 := rowAt_lt q0
    have cc := fun o => (K0.out (w1.alloc o) _ ((rowAt_alloc_past _ _ _ (rowAt_lt q0)).trans q0)).2
    have i0 : (0 : Int) ≤ hh := by omega
    have i8 : (hh : Int) ≤ 8 := by omega
    go_wp2_with fail
    refine gen_world fun W2 hW => ?_
    have r0 : rowAt W2 w.heap.size = some c := by rw [hW]; exact (rowAt_alloc_past _ _ _ (rowAt_lt q0)).trans q0
    have r2 : Bld w1.heap.size w1.heap.size [] W2 := by rw [hW]; exact bld_new w1 _ (Nat.le_refl _)
    have rB : Below w.heap.size w W2 := by rw [hW]; exact B1.alloc B1.size _
    have rS : w1.heap.size ≤ W2.heap.size := by rw [hW]; simp
    clear hW q0 B1 cc
    go_loopw [11] (fun i W' => ∃ n : Nat, n ≤ hh ∧ i = .int .i8 n ∧ rowAt W' w.heap.size = some c ∧ Bld w1.heap.size w1.heap.size (r.rows ww n) W' ∧ Below w.heap.size w W' ∧ w1.heap.size ≤ W'.heap.size) (fun i _ => hh - (intOf i).toNat)
    case atStart => exact ⟨0, by omega, rfl, r0, r2, rB, rS⟩
    case round =>
      clear r0 r2 rB rS
      obtain ⟨n, hn, rfl, r0, r2, rB, rS⟩ := hrel
      by_cases hlt : n < hh
      · have c0 := (K0.out _ _ r0).1
        have n0 : (0 : Int) ≤ n := by omega
        have n1 : (n : Int) < hh := by omega
        have n8 : (n : Int) < 8 := by omega
        have z0 : (0 : Int) ≤ ww := by omega
        have z8 : (ww : Int) ≤ 8 := by omega
        have CR := fun W (h : rowAt W w.heap.size = some c) => rowText_any w.heap.size (3 + n * 8) ww 8 c (r.kd n) W h (fun j hj => Rf.kd_eq hR ho (by omega) (by omega)) ⟨w1', w8⟩
        go_wp2_with fail
        have r0d : rowAt wr.drew w.heap.size = some c := r0
        go_region_held3 (fun w' => w'.cell? ⟨w.heap.size, 0, none⟩ = some (.int .i8 ww) ∧ rowAt w' w.heap.size = some c ∧ Below wr.heap.size wr w' ∧ wr.heap.size ≤ w'.heap.size)
          (first | exact ⟨c0, r0, (Below.refl _ _).drew, Nat.le_refl _⟩ | exact keepC (by assumption) (by assumption))
          (first | (go_at_call 19; (with_reducible refine (CR _ (by assumption)).mono ?_); rintro x wx ⟨rfl, bx⟩))
        rename_i g
        obtain ⟨_, q0, qB, qS⟩ := g
        have q2 := r2.below qB
        have QB : Below w.heap.size w wx := rB.trans (qB.mono (by omega))
        clear r0 r0d r2 c0 CR rB
        have CS := fun W => shifted_any c r n W hR (by omega)
        have by01 := r.by_bd n
        have hr : r.rows ww (n + 1) = r.rows ww n ++ r.pre n ++ kindTx (r.kd n) ww ++ r.post n ++ [10] := rfl
        have hT := kindTx_len (r.kd n) ww
        have hN := r.rows_len ww n
        have hNb : n * (ww + 2) ≤ 8 * 10 := Nat.mul_le_mul (by omega) (by omega)
        unfold Rf.pre Rf.post at hr
        have HRr := Lib.hid hr
        clear hr by01
        obtain ⟨T, hTT⟩ : ∃ T, kindTx (r.kd n) ww = T := ⟨_, rfl⟩
        rw [hTT] at HRr hT
        rw [hTT]
        clear hTT
        cases hb : (r.by n == 1) with
        | true =>
          rw [hb] at CS HRr
          have A1 := fun W => run_string_add_lists (P := Try.prog) W [45] T (by simp) (by omega)
          have A2 := fun W => run_string_add_lists (P := Try.prog) W (45 :: T) [10] (by simp; omega) (by simp)
          clear hb
          go_wp2_with fail
          refine (CS _).mono ?_
          rintro e w3 ⟨rfl, b3⟩
          have s0 := brow b3 q0
          have s2 := q2.below b3
          have sB := bnext QB b3 QB.size
          have ss := b3.size
          clear q0 q2 b3
          go_wp2_with fail
          refine (writeList_any _ (45 :: T ++ [10]) (by simp) s2 (by simp; omega) (by omega)).mono ?_
          rintro e w4 ⟨⟨v, rfl⟩, b2, bb⟩
          have hs4 := bb.size
          go_wp2_with fail
          refine ⟨⟨n + 1, by omega, by go_num, brow' bb (by omega) s0, ?_, sB.trans (bb.mono (by omega)), by omega⟩, by simp [intOf]; omega⟩
          rw [HRr.out]
          simpa using b2
        | false =>
          rw [hb] at CS HRr
          have A1 := fun W => run_string_add_lists (P := Try.prog) W T [45] (by omega) (by simp)
          have A2 := fun W => run_string_add_lists (P := Try.prog) W (T ++ [45]) [10] (by simp; omega) (by simp)
          clear hb
          go_wp2_with fail
          refine (CS _).mono ?_
          rintro e w3 ⟨rfl, b3⟩
          have s0 := brow b3 q0
          have s2 := q2.below b3
          have sB := bnext QB b3 QB.size
          have ss := b3.size
          clear q0 q2 b3
          go_wp2_with fail
          refine (writeList_any _ (T ++ [45] ++ [10]) (by simp) s2 (by simp; omega) (by omega)).mono ?_
          rintro e w4 ⟨⟨v, rfl⟩, b2, bb⟩
          have hs4 := bb.size
          go_wp2_with fail
          refine ⟨⟨n + 1, by omega, by go_num, brow' bb (by omega) s0, ?_, sB.trans (bb.mono (by omega)), by omega⟩, by simp [intOf]; omega⟩
          rw [HRr.out]
          simpa using b2
      · obtain rfl : n = hh := by omega
        have CS := string_any r2 rS
        rw [← HX.out] at CS
        go_wp2_with fail
        refine CS.mono ?_
        rintro e w2 ⟨rfl, bb⟩
        go_wp2_with fail
        go_ret
        exact ⟨rfl, rB.trans (bb.mono (by omega))⟩
  · have HX : Hid (F = []) := Lib.hid (by rw [← HFF.out]; unfold Rf.text; rw [if_neg (by rw [Rf.ok_false ho]; decide)])
    have CV := fun W => implValid_f c r W hR ho
    go_enter Try.func8, Try.ntmps8
    go_wp2_with fail
    refine gen_callsW fun W hW => ?_
    have pB : Below w.heap.size w W := by rw [hW]; exact (Below.refl _ _).alloc (Nat.le_refl _) _
    clear hW
    refine (CV _).mono ?_
    rintro e w1 ⟨rfl, b1⟩
    have B1 := bnext pB b1 pB.size
    go_wp2_with fail
    go_ret
    exact ⟨by rw [HX.out]; rfl, B1⟩
end Go.Proofs.Ytgdhfcpmeaeioaa
