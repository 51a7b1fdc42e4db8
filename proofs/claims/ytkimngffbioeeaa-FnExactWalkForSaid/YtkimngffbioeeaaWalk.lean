/- Carrying a ladder: contracts of both sides. -/
import Derived.Test.YtkimngffbioeeaaLadA
import Derived.Test.YtkimngffbioeeaaArgN
namespace Go.Proofs.Ytkimngffbioeeaa
open Go.RowKit

def farI (a b : Int) : Int := if b ≤ a then a - b else b - a
theorem farI_bd {a b : Int} (ha : 0 ≤ a ∧ a ≤ 1000) (hb : 0 ≤ b ∧ b ≤ 1000) : 0 ≤ farI a b ∧ farI a b ≤ 1000 := by unfold farI; split <;> omega
/-- Where the ladder stands ahead of step k; how far it has been carried. -/
def wlkAt (g : Nat → Int) (s : Int) : Nat → Int
  | 0 => s
  | k + 1 => g k
def wlk (g : Nat → Int) (s : Int) : Nat → Int
  | 0 => 0
  | k + 1 => wlk g s k + farI (wlkAt g s k) (g k)
theorem wlkAt_bd {g : Nat → Int} {s : Int} {m : Nat} (hs : 0 ≤ s ∧ s ≤ 1000) (hg : ∀ i, i < m → 0 ≤ g i ∧ g i ≤ 1000) : ∀ k, k ≤ m → 0 ≤ wlkAt g s k ∧ wlkAt g s k ≤ 1000
  | 0, _ => hs
  | k + 1, h => hg k (by omega)
theorem wlk_bd {g : Nat → Int} {s : Int} {m : Nat} (hs : 0 ≤ s ∧ s ≤ 1000) (hg : ∀ i, i < m → 0 ≤ g i ∧ g i ≤ 1000) : ∀ k, k ≤ m → 0 ≤ wlk g s k ∧ wlk g s k ≤ 1000 * k
  | 0, _ => by simp [wlk]
  | k + 1, h => by
    have h1 := wlk_bd hs hg k (by omega)
    have h2 := farI_bd (wlkAt_bd hs hg k (by omega)) (hg k (by omega))
    unfold wlk
    omega

theorem l00Max_any (a b : Int) (w : World) :
    Calls Try.prog 107 #[.int .i64 a, .int .i64 b] w fun e w' => e = .returned (.int .i64 (if b < a then a else b)) ∧ w = w' := by
  by_cases h : b < a
  · rw [if_pos h]
    go_enter Try.func107, Try.ntmps107
    go_wp2
    go_ret
    exact ⟨rfl, rfl⟩
  · rw [if_neg h]
    go_enter Try.func107, Try.ntmps107
    go_wp2
    go_ret
    exact ⟨rfl, rfl⟩
theorem l04Far_any (a b : Int) (w : World) (ha : 0 ≤ a ∧ a ≤ 1000) (hb : 0 ≤ b ∧ b ≤ 1000) :
    Calls Try.prog 65 #[.int .i64 a, .int .i64 b] w fun e w' => e = .returned (.int .i64 (farI a b)) ∧ w = w' := by
  have hv : (if b - a < a - b then a - b else b - a) = farI a b := by unfold farI; split <;> split <;> omega
  go_enter Try.func65, Try.ntmps65
  go_wp2_with fail
  refine (l00Max_any _ _ _).mono ?_
  rintro e w' ⟨rfl, rfl⟩
  rw [hv]
  clear hv
  go_wp2_with fail
  go_ret
  exact ⟨rfl, rfl⟩

/-- What the walk of cells costs, and the code. -/
noncomputable def Rf.walkC (r : Rf) (g : Nat → Int) (m : Nat) (y : Int) : Int := r.wcode g m (fun _ => 0) 0 (inB y 0 (2 * r.w))
noncomputable def Rf.walkV (r : Rf) (g : Nat → Int) (m : Nat) (y : Int) : Int := if r.walkC g m y = 0 then wlk g y m else 0
theorem Rf.walk_in {r : Rf} {g : Nat → Int} {m : Nat} {y : Int} (h : r.walkC g m y = 0) : (0 ≤ y ∧ y ≤ 1000) ∧ (∀ i, i < m → 0 ≤ g i ∧ g i ≤ 1000) ∧ m ≤ 8 := by
  obtain ⟨ho, hf, hg, _, hm, _⟩ := Rf.wcode_zero h
  have hw := ho.2.1
  have hy : 0 ≤ y ∧ y ≤ 2 * r.w := by simpa [inB] using hf
  exact ⟨by omega, fun i hi => by have := hg i hi; unfold Rf.inC at this; omega, hm⟩

set_option maxRecDepth 100000 in
set_option maxHeartbeats 1000000 in
theorem specWalkFor_any (c : Array Value) (r : Rf) (B m : Nat) (g : Nat → Int) (u : Option Addr) (y : Int) (w : World) (hR : IsRoof c r) (hv : IsList w B (.slice u m m) 1 m (fun i => .int .i64 (g i))) (hm : m ≤ 2000000) (_hg : ∀ i, i < m → -9223372036854775808 ≤ g i ∧ g i ≤ 9223372036854775807) :
    Calls Try.prog 31 #[.agg c, .slice u m m, .int .i64 y] w fun e w' => e = .returned (.tuple #[.int .i64 (r.walkV g m y), .int .i64 (r.walkC g m y)]) ∧ Below w.heap.size w w' := by
  have hc := hR.size
  have HV := Lib.hid hv
  clear hv
  have p0 := rowAt_alloc_at w c 30 w.heap.size rfl
  have LA := fun W k hr H1 => l04Asked_any w.heap.size B 0 m 0 c r g (fun _ => 0) (.slice u m m) (.slice k 0 0) (inB y 0 (2 * r.w)) W hr hR H1 hm (IsList.none0 _ _ _ _ _ _) (by omega) (fun i hi => by omega)
  rw [show r.wcode g m (fun _ => 0) 0 (inB y 0 (2 * r.w)) = r.walkC g m y from rfl] at LA
  by_cases hk : r.walkC g m y = 0
  · have hb1 : (r.walkC g m y != 0) = false := by simp [hk]
    have hV : r.walkV g m y = wlk g y m := by unfold Rf.walkV; rw [if_pos hk]
    obtain ⟨hy, hg, hm8⟩ := Rf.walk_in hk
    have HG := Lib.hid hg
    have HK := Lib.hid hk
    rw [hV]
    clear hk hV hg
    go_enter Try.func31, Try.ntmps31
    go_wp2_with fail
    refine gen_callsC fun W hW => ?_
    have P0 : rowAt W w.heap.size = some c := by rw [hW]; exact (rowAt_alloc_past _ _ _ (by simp <;> omega)).trans p0
    have PB : Below w.heap.size w W := by rw [hW]; exact ((Below.refl _ _).alloc (Nat.le_refl _) _).alloc (by simp) _
    clear hW p0
    refine (l04Cell_any w.heap.size c r y _ P0 hR).mono ?_
    rintro e w1 ⟨rfl, b1⟩
    have P1 := Lib.hid (brow b1 P0)
    have PB1 := Lib.hid (bnext PB b1 PB.size)
    clear b1 P0 PB
    go_wp2_with fail
    refine (LA _ _ P1.out (HV.out.below PB1.out (Nat.le_refl _))).mono ?_
    rintro e w2 ⟨rfl, b2⟩
    have PB2 := Lib.hid (bnext PB1.out b2 PB1.out.size)
    clear b2
    have HV2 := Lib.hid (HV.out.below PB2.out (Nat.le_refl _))
    clear P1 PB1 LA
    go_wp2_with fail
    go_loop [2, 9, 10] (fun s q i => ∃ k : Nat, k ≤ m ∧ i = .int .i64 k ∧ q = .int .i64 (wlk g y k) ∧ s = .int .i64 (wlkAt g y k)) (fun _ _ i => m - (intOf i).toNat)
    case atStart => exact ⟨0, by omega, rfl, rfl, rfl⟩
    case round =>
      obtain ⟨k, hk, rfl, rfl, rfl⟩ := hrel
      by_cases hlt : k < m
      · obtain ⟨gg, rfl, cc⟩ := HV2.out.num hlt
        have hi0 : 0 ≤ (k : Int) := by omega
        have hi1 : (k : Int) < m := by omega
        have s1 := wlkAt_bd hy HG.out k (by omega)
        have s2 := HG.out k (by omega)
        obtain ⟨s3, s4⟩ := wlk_bd hy HG.out k (by omega)
        obtain ⟨s5, s6⟩ := farI_bd s1 s2
        go_wp2_with fail
        refine (l04Far_any _ _ _ s1 s2).mono ?_
        rintro e w' ⟨rfl, rfl⟩
        go_wp2_with fail
        exact ⟨⟨k + 1, by omega, by go_num, rfl, rfl⟩, by simp [intOf]; omega⟩
      · obtain rfl : k = m := by omega
        go_wp2_with fail
        go_ret2
        exact ⟨by simp [HK.out], PB2.out⟩
  · have hb1 : (r.walkC g m y != 0) = true := by simp [hk]
    have hV : r.walkV g m y = 0 := by unfold Rf.walkV; rw [if_neg hk]
    rw [hV]
    clear hk hV
    go_enter Try.func31, Try.ntmps31
    go_wp2_with fail
    refine gen_callsC fun W hW => ?_
    have P0 : rowAt W w.heap.size = some c := by rw [hW]; exact (rowAt_alloc_past _ _ _ (by simp <;> omega)).trans p0
    have PB : Below w.heap.size w W := by rw [hW]; exact ((Below.refl _ _).alloc (Nat.le_refl _) _).alloc (by simp) _
    clear hW p0
    refine (l04Cell_any w.heap.size c r y _ P0 hR).mono ?_
    rintro e w1 ⟨rfl, b1⟩
    have P1 := Lib.hid (brow b1 P0)
    have PB1 := Lib.hid (bnext PB b1 PB.size)
    clear b1 P0 PB
    go_wp2_with fail
    refine (LA _ _ P1.out (HV.out.below PB1.out (Nat.le_refl _))).mono ?_
    rintro e w2 ⟨rfl, b2⟩
    have PB2 := Lib.hid (bnext PB1.out b2 PB1.out.size)
    clear b2 P1 PB1 LA
    go_wp2_with fail
    go_ret2
    exact ⟨rfl, PB2.out⟩

/-- One step of the walk, as the program's closure tells it. -/
theorem walkStep_any (B k : Nat) (a : Option Addr) (g : Nat → Int) (y x : Int) (w : World) (hb : w.cell? ⟨B, 0, none⟩ = some (.int .i64 y)) (hv : NumsAt w (.slice a k k) k g) (hk : k ≤ 2000000) (hs : 0 ≤ wlkAt g y k ∧ wlkAt g y k ≤ 1000) (hx : 0 ≤ x ∧ x ≤ 1000) :
    Calls Try.prog 109 #[.slice a k k, .int .i64 x, .pointer (some ⟨B, 0, none⟩)] w fun e w' => e = .returned (.int .i64 (farI (wlkAt g y k) x)) ∧ w = w' := by
  obtain ⟨hs0, hs1⟩ := hs
  obtain ⟨hx0, hx1⟩ := hx
  cases k with
  | zero =>
    clear hv
    simp only [wlkAt] at *
    by_cases h : y - x < x - y
    · have HM : Hid (farI y x = x - y) := Lib.hid (by unfold farI; split <;> omega)
      go_enter Try.func109, Try.ntmps109
      go_wp2_with fail
      go_ret
      exact ⟨by rw [HM.out]; rfl, rfl⟩
    · have HM : Hid (farI y x = y - x) := Lib.hid (by unfold farI; split <;> omega)
      go_enter Try.func109, Try.ntmps109
      go_wp2_with fail
      go_ret
      exact ⟨by rw [HM.out]; rfl, rfl⟩
  | succ k =>
    obtain ⟨gg, o, rfl, cc⟩ := hv.at (k := k) (by omega)
    clear hv
    simp only [wlkAt] at *
    by_cases h : g k - x < x - g k
    · have HM : Hid (farI (g k) x = x - g k) := Lib.hid (by unfold farI; split <;> omega)
      go_enter Try.func109, Try.ntmps109
      go_wp2_with fail
      go_ret
      exact ⟨by rw [HM.out]; rfl, rfl⟩
    · have HM : Hid (farI (g k) x = g k - x) := Lib.hid (by unfold farI; split <;> omega)
      go_enter Try.func109, Try.ntmps109
      go_wp2_with fail
      go_ret
      exact ⟨by rw [HM.out]; rfl, rfl⟩

theorem walkFrom_any (y : Int) (w : World) :
    Calls Try.prog 68 #[.int .i64 y] w fun e w' => e = .returned (.func (.func 109) #[] #[.pointer (some ⟨w.heap.size, 0, none⟩)]) ∧ w' = w.alloc (.cells #[.int .i64 y] 2) := by
  go_enter Try.func68, Try.ntmps68
  go_wp2_with fail
  go_ret
  exact ⟨rfl, rfl⟩

/-- The list's first k numbers, cut with three indexes. -/
theorem NumsAt.cut {w : World} {a : Option Addr} {cap n : Nat} {f : Nat → Int} (h : NumsAt w (.slice a n cap) n f) {k : Nat} (hk : k ≤ n) : NumsAt w (.slice a k k) k f := by
  obtain ⟨a', cap', e, h⟩ := h
  cases e
  refine ⟨a, k, rfl, ?_⟩
  rcases h with h | ⟨g, o, rfl, hg, h⟩
  · exact .inl (by omega)
  · exact .inr ⟨g, o, rfl, hg, fun i hi => h i (by omega)⟩

set_option maxRecDepth 100000 in
set_option maxHeartbeats 1000000 in
theorem costWalk_any (B m : Nat) (a : Option Addr) (g : Nat → Int) (y : Int) (w : World) (hb : w.cell? ⟨B, 0, none⟩ = some (.int .i64 y)) (hv : NumsAt w (.slice a m m) m g) (hm : m ≤ 8) (hy : 0 ≤ y ∧ y ≤ 1000) (hg : ∀ i, i < m → 0 ≤ g i ∧ g i ≤ 1000) :
    Calls Try.prog 67 #[.slice a m m, .func (.func 109) #[] #[.pointer (some ⟨B, 0, none⟩)]] w fun e w' => e = .returned (.int .i64 (wlk g y m)) ∧ w = w' := by
  have HV := Lib.hid hv
  have HG := Lib.hid hg
  have HB := Lib.hid hb
  clear hv hg hb
  go_enter Try.func67, Try.ntmps67
  go_wp2_with fail
  go_loop [5, 6, 7, 10] (fun q _ _ i => ∃ k : Nat, k ≤ m ∧ i = .int .i64 k ∧ q = .int .i64 (wlk g y k)) (fun _ _ _ i => m - (intOf i).toNat)
  case atStart => exact ⟨0, by omega, rfl, rfl⟩
  case round =>
    obtain ⟨k, hk, rfl, rfl⟩ := hrel
    by_cases hlt : k < m
    · obtain ⟨gg, o, rfl, cc⟩ := HV.out.at hlt
      have hi0 : 0 ≤ (k : Int) := by omega
      have hi1 : (k : Int) < m := by omega
      have s1 := wlkAt_bd hy HG.out k (by omega)
      have s2 := HG.out k (by omega)
      obtain ⟨s3, s4⟩ := wlk_bd hy HG.out k (by omega)
      obtain ⟨s5, s6⟩ := farI_bd s1 s2
      go_wp2_with fail
      refine (walkStep_any B k _ g y _ _ HB.out (HV.out.cut (by omega)) (by omega) s1 s2).mono ?_
      rintro e w' ⟨rfl, rfl⟩
      go_wp2_with fail
      exact ⟨⟨k + 1, by omega, by go_num, rfl⟩, by simp [intOf]; omega⟩
    · obtain rfl : k = m := by omega
      go_wp2_with fail
      go_ret
      exact ⟨rfl, rfl⟩

set_option maxRecDepth 100000 in
set_option maxHeartbeats 1000000 in
theorem implWalkFor_any (c : Array Value) (r : Rf) (B m : Nat) (g : Nat → Int) (u : Option Addr) (y : Int) (w : World) (hR : IsRoof c r) (hv : IsList w B (.slice u m m) 1 m (fun i => .int .i64 (g i))) (hm : m ≤ 2000000) (_hg : ∀ i, i < m → -9223372036854775808 ≤ g i ∧ g i ≤ 9223372036854775807) :
    Calls Try.prog 32 #[.agg c, .slice u m m, .int .i64 y] w fun e w' => e = .returned (.tuple #[.int .i64 (r.walkV g m y), .int .i64 (r.walkC g m y)]) ∧ Below w.heap.size w w' := by
  have hc := hR.size
  have p0 := rowAt_alloc_at w c 30 w.heap.size rfl
  have PB0 : Below w.heap.size w (w.alloc (.cells c 30)) := (Below.refl _ _).alloc (Nat.le_refl _) _
  have HV := Lib.hid (hv.below PB0 (Nat.le_refl _)).nums
  have CW := fun W H1 => checkWalk_any m c r g (.slice u m m) y W hR H1 hm
  rw [show r.wcode g m (fun _ => 0) 0 (inB y 0 (2 * r.w)) = r.walkC g m y from rfl] at CW
  have PB := Lib.hid PB0
  clear hv PB0
  by_cases hk : r.walkC g m y = 0
  · have hb1 : (r.walkC g m y != 0) = false := by simp [hk]
    have hV : r.walkV g m y = wlk g y m := by unfold Rf.walkV; rw [if_pos hk]
    obtain ⟨hy, hg, hm8⟩ := Rf.walk_in hk
    have HG := Lib.hid hg
    have HK := Lib.hid hk
    rw [hV]
    clear hk hV hg
    go_enter Try.func32, Try.ntmps32
    go_wp2_with fail
    refine (CW _ HV.out).mono ?_
    rintro e w1 ⟨rfl, b1⟩
    have PB1 := Lib.hid (bnext PB.out b1 PB.out.size)
    have HV1 := Lib.hid (HV.out.below b1 (Nat.le_refl _))
    clear b1 p0
    go_wp2_with fail
    refine (walkFrom_any y _).mono ?_
    rintro e w2 ⟨rfl, hw2⟩
    have hcell : w2.cell? ⟨w1.heap.size, 0, none⟩ = some (.int .i64 y) := by rw [hw2]; simp
    have b2 : Below w1.heap.size w1 w2 := by rw [hw2]; exact (Below.refl _ _).alloc (Nat.le_refl _) _
    have PB2 := Lib.hid (bnext PB1.out b2 PB1.out.size)
    have HV2 := Lib.hid (HV1.out.below b2 (Nat.le_refl _))
    clear b2 hw2
    go_wp2_with fail
    refine (costWalk_any _ m u g y _ hcell HV2.out hm8 hy HG.out).mono ?_
    rintro e w3 ⟨rfl, rfl⟩
    clear hcell
    go_wp2_with fail
    go_ret2
    exact ⟨by simp [HK.out], PB2.out⟩
  · have hb1 : (r.walkC g m y != 0) = true := by simp [hk]
    have hV : r.walkV g m y = 0 := by unfold Rf.walkV; rw [if_neg hk]
    rw [hV]
    clear hk hV
    go_enter Try.func32, Try.ntmps32
    go_wp2_with fail
    refine (CW _ HV.out).mono ?_
    rintro e w1 ⟨rfl, b1⟩
    have PB1 := Lib.hid (bnext PB.out b1 PB.out.size)
    clear b1 p0
    go_wp2_with fail
    go_ret2
    exact ⟨rfl, PB1.out⟩
end Go.Proofs.Ytkimngffbioeeaa
