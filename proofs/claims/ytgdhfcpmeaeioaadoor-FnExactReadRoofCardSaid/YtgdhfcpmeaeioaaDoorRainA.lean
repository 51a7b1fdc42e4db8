/- Valid rain: contracts of both sides. -/
import Derived.Test.YtgdhfcpmeaeioaaDoorRain
import Derived.Test.YtgdhfcpmeaeioaaDoorTile
import Derived.Deep.RegionHeld3
import Derived.Laws.CopyOwn
import Derived.Deep.RegionLaw
namespace Go.Proofs.YtgdhfcpmeaeioaaDoor
open Go.RowKit

/-- Rain as a valid roof has it. -/
def Rf.rfine (r : Rf) (t : Nat → Int) (i : Nat) : Prop := (0 ≤ t i ∧ t i ≤ 1000) ∧ ((i : Int) < 2 * r.w + 1 ∨ t i = 0)
def Rf.Rains (r : Rf) (t : Nat → Int) : Prop := r.Ok ∧ ∀ i, i < 17 → r.rfine t i
open Classical in
noncomputable def Rf.rok (r : Rf) (t : Nat → Int) : Bool := decide (r.Rains t)
theorem Rf.rok_true {r : Rf} {t : Nat → Int} (h : r.Rains t) : r.rok t = true := by simp [Rf.rok, h]
theorem Rf.rok_false {r : Rf} {t : Nat → Int} (h : ¬ r.Rains t) : r.rok t = false := by simp [Rf.rok, h]
theorem Rf.Rains_of {r : Rf} {t : Nat → Int} (h : r.rok t = true) : r.Rains t := by simpa [Rf.rok] using h
theorem Rf.not_rains {r : Rf} {t : Nat → Int} (h : r.rok t = false) : ¬ r.Rains t := by simpa [Rf.rok] using h

theorem l02Amount_any (k : Int) (w : World) :
    Calls Tryd.prog 57 #[.int .i64 k] w fun e w' => e = .returned (.bool (inB k 0 1000)) ∧ w = w' := by
  go_enter Tryd.func57, Tryd.ntmps57
  go_wp2_with fail
  refine (l00In_any _ _ _ _).mono ?_
  rintro e w' ⟨rfl, rfl⟩
  go_wp2
  go_ret
  exact ⟨rfl, rfl⟩
theorem l02Amount_t (k : Int) (w : World) (h : 0 ≤ k ∧ k ≤ 1000) :
    Calls Tryd.prog 57 #[.int .i64 k] w fun e w' => e = .returned (.bool true) ∧ w = w' := by
  have := l02Amount_any k w; rwa [inB_true h] at this
theorem l02Amount_f (k : Int) (w : World) (h : ¬ (0 ≤ k ∧ k ≤ 1000)) :
    Calls Tryd.prog 57 #[.int .i64 k] w fun e w' => e = .returned (.bool false) ∧ w = w' := by
  have := l02Amount_any k w; rwa [inB_false h] at this

set_option maxRecDepth 100000 in
set_option maxHeartbeats 1000000 in
theorem l02Ok_any (n m : Nat) (c d : Array Value) (r : Rf) (t : Nat → Int) (w : World) (hr : rowAt w n = some c) (hR : IsRoof c r) (hd : rowAt w m = some d) (hT : IsRain d t) :
    Calls Tryd.prog 48 #[.pointer (some ⟨n, 0, none⟩), .pointer (some ⟨m, 0, none⟩)] w fun e w' => e = .returned (.bool (r.rok t)) ∧ Below w.heap.size w w' := by
  have hn := rowAt_lt hr
  have hm := rowAt_lt hd
  by_cases ho : r.Ok
  · have hw1 := ho.1
    have hw8 := ho.2.1
    go_enter Tryd.func48, Tryd.ntmps48
    go_wp2_with fail
    refine (l01Ok_t n c r _ hr hR ho).mono ?_
    rintro e w1 ⟨rfl, b1⟩
    go_wp2_with fail
    go_loopw [5] (fun i W => ∃ k : Nat, k ≤ 17 ∧ i = .int .i64 k ∧ Hid (∀ j, j < k → r.rfine t j) ∧ Below w.heap.size w W) (fun i _ => 17 - (intOf i).toNat)
    case atStart => exact ⟨0, by omega, rfl, Lib.hid (by omega), b1⟩
    case round =>
      obtain ⟨k, hk, rfl, hf, hB⟩ := hrel
      clear b1
      by_cases hlt : k < 17
      · have rN := brow' hB hn hr
        have rM := brow' hB hm hd
        have hcm : wr.cell? ⟨m, k, none⟩ = some (.int .i16 (t k)) := (cell_of_rowAt rM k).trans (hT.isK.get hlt)
        have b0 := hT.lo k hlt
        have b1 := hT.hi k hlt
        by_cases ha : 0 ≤ t k ∧ t k ≤ 1000
        · by_cases hq : (k : Int) < 2 * r.w + 1
          · go_wp2_with fail
            refine (l02Amount_t _ _ (by omega)).mono ?_
            rintro e w2 ⟨rfl, rfl⟩
            go_wp2_with fail
            refine (l01Cells_any n c r _ rN hR).mono ?_
            rintro e w2 ⟨rfl, rfl⟩
            go_wp2_with fail
            refine ⟨⟨k + 1, by omega, by go_num, Lib.hid ?_, hB⟩, by simp [intOf]; omega⟩
            intro j hj
            by_cases hjk : j < k
            · exact hf.out j hjk
            · obtain rfl : j = k := by omega
              exact ⟨ha, .inl hq⟩
          · by_cases hz : t k = 0
            · have hzb : (t k != 0) = false := by simpa using hz
              go_wp2_with fail
              refine (l02Amount_t _ _ (by omega)).mono ?_
              rintro e w2 ⟨rfl, rfl⟩
              go_wp2_with fail
              refine (l01Cells_any n c r _ rN hR).mono ?_
              rintro e w2 ⟨rfl, rfl⟩
              go_wp2_with fail
              refine ⟨⟨k + 1, by omega, by go_num, Lib.hid ?_, hB⟩, by simp [intOf]; omega⟩
              intro j hj
              by_cases hjk : j < k
              · exact hf.out j hjk
              · obtain rfl : j = k := by omega
                exact ⟨ha, .inr hz⟩
            · have hzb : (t k != 0) = true := by simpa using hz
              have ha0 := ha.1
              go_wp2_with fail
              refine (l02Amount_t _ _ (by omega)).mono ?_
              rintro e w2 ⟨rfl, rfl⟩
              go_wp2_with fail
              refine (l01Cells_any n c r _ rN hR).mono ?_
              rintro e w2 ⟨rfl, rfl⟩
              go_wp2_with fail
              go_ret
              refine ⟨?_, hB⟩
              rw [Rf.rok_false fun g => by rcases (g.2 k hlt).2 with g | g <;> omega]
              rfl
        · go_wp2_with fail
          refine (l02Amount_f _ _ ha).mono ?_
          rintro e w2 ⟨rfl, rfl⟩
          go_wp2_with fail
          go_ret
          refine ⟨?_, hB⟩
          rw [Rf.rok_false fun g => ha (g.2 k hlt).1]
          rfl
      · go_wp2_with fail
        go_ret
        refine ⟨?_, hB⟩
        rw [Rf.rok_true ⟨ho, fun i hi => hf.out i (by omega)⟩]
        rfl
  · rw [Rf.rok_false fun g => ho g.1]
    go_enter Tryd.func48, Tryd.ntmps48
    go_wp2_with fail
    refine (l01Ok_f n c r _ hr hR ho).mono ?_
    rintro e w1 ⟨rfl, b1⟩
    go_wp2_with fail
    go_ret
    exact ⟨rfl, b1⟩

theorem l02Ok_t (n m : Nat) (c d : Array Value) (r : Rf) (t : Nat → Int) (w : World) (hr : rowAt w n = some c) (hR : IsRoof c r) (hd : rowAt w m = some d) (hT : IsRain d t) (h : r.Rains t) :
    Calls Tryd.prog 48 #[.pointer (some ⟨n, 0, none⟩), .pointer (some ⟨m, 0, none⟩)] w fun e w' => e = .returned (.bool true) ∧ Below w.heap.size w w' := by
  have := l02Ok_any n m c d r t w hr hR hd hT; rwa [Rf.rok_true h] at this
theorem l02Ok_f (n m : Nat) (c d : Array Value) (r : Rf) (t : Nat → Int) (w : World) (hr : rowAt w n = some c) (hR : IsRoof c r) (hd : rowAt w m = some d) (hT : IsRain d t) (h : ¬ r.Rains t) :
    Calls Tryd.prog 48 #[.pointer (some ⟨n, 0, none⟩), .pointer (some ⟨m, 0, none⟩)] w fun e w' => e = .returned (.bool false) ∧ Below w.heap.size w w' := by
  have := l02Ok_any n m c d r t w hr hR hd hT; rwa [Rf.rok_false h] at this

/-- Two boxed arguments: both rows. -/
theorem two_boxes (w : World) (c d : Array Value) (t1 t2 : TypeId) :
    rowAt ((w.alloc (.cells c t1)).alloc (.cells d t2)) w.heap.size = some c ∧ rowAt ((w.alloc (.cells c t1)).alloc (.cells d t2)) (w.heap.size + 1) = some d ∧ Below w.heap.size w ((w.alloc (.cells c t1)).alloc (.cells d t2)) :=
  ⟨(rowAt_alloc_past _ _ _ (by simp)).trans (rowAt_alloc_at _ _ _ _ rfl), rowAt_alloc_at _ _ _ _ (by simp), ((Below.refl _ _).alloc (Nat.le_refl _) _).alloc (by simp) _⟩

end Go.Proofs.YtgdhfcpmeaeioaaDoor
