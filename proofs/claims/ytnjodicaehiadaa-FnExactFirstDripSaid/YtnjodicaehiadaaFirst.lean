/- The first drip: contracts of both sides. -/
import Derived.Test.YtnjodicaehiadaaDripS
import Derived.Test.YtnjodicaehiadaaEqRoof
namespace Go.Proofs.Ytnjodicaehiadaa
open Go.RowKit

/-- The first of the first n that is greater than 0. -/
def firstTo (D : Nat → Int) : Nat → Option Nat
  | 0 => none
  | n + 1 => match firstTo D n with
    | some i => some i
    | none => if 0 < D n then some n else none
theorem firstTo_none {D : Nat → Int} : ∀ {n : Nat}, (∀ j, j < n → D j ≤ 0) → firstTo D n = none
  | 0, _ => rfl
  | n + 1, h => by
    have h1 := firstTo_none (n := n) fun j hj => h j (by omega)
    have h2 := h n (by omega)
    simp only [firstTo, h1]
    rw [if_neg (by omega)]
theorem firstTo_at {D : Nat → Int} {i : Nat} (hp : 0 < D i) (hm : ∀ j, j < i → D j ≤ 0) : ∀ {n : Nat}, i < n → firstTo D n = some i
  | n + 1, h => by
    by_cases hi : i = n
    · subst hi
      simp only [firstTo, firstTo_none hm]
      rw [if_pos hp]
    · have h1 := firstTo_at hp hm (n := n) (by omega)
      simp only [firstTo, h1]
def firstI (D : Nat → Int) : Nat := (firstTo D 136).getD 136
theorem firstI_at {D : Nat → Int} {i : Nat} (hi : i < 136) (hp : 0 < D i) (hm : ∀ j, j < i → D j ≤ 0) : firstI D = i := by
  unfold firstI; rw [firstTo_at hp hm hi]; rfl
theorem firstI_none {D : Nat → Int} (hm : ∀ j, j < 136 → D j ≤ 0) : firstI D = 136 := by
  unfold firstI; rw [firstTo_none hm]; rfl

noncomputable def Rf.fdc (r : Rf) (t : Nat → Int) : Int := if r.rok t = true then (if firstI (r.drips t) < 136 then 0 else 6) else 1
noncomputable def Rf.fdv (r : Rf) (t : Nat → Int) (x : Int) : Int := if r.fdc t = 0 then x else 0
theorem Rf.fdc_f {r : Rf} {t : Nat → Int} (h : ¬ r.Rains t) : r.fdc t = 1 := by simp [Rf.fdc, Rf.rok_false h]
/-- The answer, if i is the first. -/
def FdIs (r : Rf) (t : Nat → Int) (a b c : Int) : Prop := (Ending.returned (.tuple #[.int .i64 a, .int .i64 b, .int .i64 c])) = .returned (.tuple #[.int .i64 (r.fdv t ((firstI (r.drips t) / 17 : Nat) : Int)), .int .i64 (r.fdv t ((firstI (r.drips t) % 17 : Nat) : Int)), .int .i64 (r.fdc t)])
theorem FdIs.at {r : Rf} {t : Nat → Int} (h : r.Rains t) {c k : Nat} (hc : c < 8) (hk : k < 17) (hp : 0 < r.drips t (c * 17 + k)) (hm : ∀ j, j < c * 17 + k → r.drips t j ≤ 0) : FdIs r t c k 0 := by
  have h1 := firstI_at (by omega) hp hm
  have h2 : r.fdc t = 0 := by rw [Rf.fdc, if_pos (Rf.rok_true h), h1, if_pos (by omega)]
  unfold FdIs
  rw [Rf.fdv, Rf.fdv, if_pos h2, if_pos h2, h1, h2, show (c * 17 + k) / 17 = c from by omega, show (c * 17 + k) % 17 = k from by omega]
theorem FdIs.none {r : Rf} {t : Nat → Int} (h : r.Rains t) (hm : ∀ j, j < 136 → r.drips t j ≤ 0) : FdIs r t 0 0 6 := by
  have h1 := firstI_none hm
  have h2 : r.fdc t = 6 := by rw [Rf.fdc, if_pos (Rf.rok_true h), h1, if_neg (by omega)]
  unfold FdIs
  rw [Rf.fdv, Rf.fdv, if_neg (by omega), if_neg (by omega), h2]

open Classical in
theorem run_eq_drips (x y : Array Value) (f g : Nat → Int) (hx : IsK .i32 x 136 f) (hy : IsK .i32 y 136 g) (w : World) : ∃ b : Bool, (Op.equalIn 10000 43 (.agg x) (.agg y)).run Try.prog w = .ok b w ∧ (b = true ↔ ∀ i, i < 136 → f i = g i) := by
  refine ⟨_, run_equalIn_arr Try.underlying43 (sz := 17) (by kernel_rfl) 9999 x y w (fun i => decide (∀ j, j < 17 → f (i * 17 + j) = g (i * 17 + j))) ?_, ?_⟩
  · intro i hi
    refine ⟨_, _, run_part_agg Try.underlying41 rfl (sz := 17) (by kernel_rfl) x (i * 17) w, run_part_agg Try.underlying41 rfl (sz := 17) (by kernel_rfl) y (i * 17) w, ?_⟩
    have h1 := hx.extract (i * 17) 17 (by omega)
    have h2 := hy.extract (i * 17) 17 (by omega)
    rw [run_equalIn_ints Try.underlying41 Try.underlying21 (by kernel_rfl) _ _ (fun j => f (i * 17 + j)) (fun j => g (i * 17 + j)) (fun j hj => h1.get hj) (fun j hj => h2.get hj) 9997 w]
    congr 1
    rw [Bool.eq_iff_iff]; simp
  · simp only [decide_eq_true_eq]
    constructor
    · intro h j hj
      have := h (j / 17) (by omega) (j % 17) (by omega)
      rwa [show j / 17 * 17 + j % 17 = j from by omega] at this
    · intro h i hi j hj
      exact h _ (by omega)

set_option maxRecDepth 100000 in
set_option maxHeartbeats 1000000 in
theorem specFirstDrip_any (c d : Array Value) (r : Rf) (t : Nat → Int) (w : World) (hR : IsRoof c r) (hT : IsRain d t) :
    Calls Try.prog 36 #[.agg c, .agg d] w fun e w' => e = .returned (.tuple #[.int .i64 (r.fdv t ((firstI (r.drips t) / 17 : Nat) : Int)), .int .i64 (r.fdv t ((firstI (r.drips t) % 17 : Nat) : Int)), .int .i64 (r.fdc t)]) ∧ Below w.heap.size w w' := by
  obtain ⟨p0, p1, pB⟩ := two_boxes w c d 30 32
  by_cases ho : r.Rains t
  · have hz : Try.zeroCells43 = mkI .i32 136 (fun _ => 0) := by kernel_rfl
    have hzs : Try.zeroCells43.size = 136 := by rw [hz]; simp
    have hzo : Ones Try.zeroCells43 := by rw [hz]; exact (isK_mkI _ _ _).ones
    have HB := Lib.hid fun i (_ : i < 136) => ho.drips_bd i
    clear hz
    go_enter Try.func36, Try.ntmps36
    go_wp2_with fail
    refine (l02Ok_t w.heap.size (w.heap.size + 1) c d r t _ p0 hR p1 hT ho).mono ?_
    rintro e w0 ⟨rfl, b0⟩
    have q0 := brow b0 p0
    have q1 := brow b0 p1
    have B0 := bnext pB b0 pB.size
    clear b0 p0 p1 pB
    go_wp2_with fail
    refine (l02Run_any w.heap.size (w.heap.size + 1) c d r t _ q0 hR q1 hT ho).mono ?_
    rintro e w1 ⟨v, rfl, hl, b1⟩
    have z2 : (mkI .i32 136 (r.drips t)).size = 136 := by simp
    have z3 : (mkI .i32 136 (r.comeAll t)).size = 136 := by simp
    have o2 := (isK_mkI .i32 136 (r.drips t)).ones
    have o3 := (isK_mkI .i32 136 (r.comeAll t)).ones
    have hX := isK_mkI .i32 136 (r.drips t)
    generalize mkI .i32 136 (r.drips t) = X at *
    generalize mkI .i32 136 (r.comeAll t) = Y at *
    have B1 := bnext B0 b1 B0.size
    clear hl b1 q0 q1 B0
    go_wp2_with fail
    refine gen_world fun W hW => ?_
    have p0 : rowAt W w1.heap.size = some X := by rw [hW]; exact specRun2 _ _ _ _ _
    have pB : Below w.heap.size w W := by rw [hW]; exact (B1.alloc B1.size _).alloc (by have := B1.size; simp; omega) _
    have HC := Lib.hid (cell_of_rowAt p0)
    clear hW B1 p0 o2 o3 z2 z3 hzs hzo
    go_loop [10] (fun i => ∃ k : Nat, k ≤ 8 ∧ i = .int .i64 k ∧ Hid (∀ j, j < k * 17 → r.drips t j ≤ 0)) (fun i => 8 - (intOf i).toNat)
    case atStart => exact ⟨0, by omega, rfl, Lib.hid (by omega)⟩
    case round =>
      obtain ⟨k, hk, rfl, hf⟩ := hrel
      by_cases hlt : k < 8
      · have k0 : (0 : Int) ≤ k := by omega
        have k1 : (k : Int) < 8 := by omega
        go_wp2_with fail
        go_loop [11] (fun i => ∃ m : Nat, m ≤ 17 ∧ i = .int .i64 m ∧ Hid (∀ j, j < k * 17 + m → r.drips t j ≤ 0)) (fun i => 17 - (intOf i).toNat)
        case atStart => exact ⟨0, by omega, rfl, Lib.hid (by simpa using hf.out)⟩
        case round =>
          obtain ⟨m, hm, rfl, hg⟩ := hrel
          by_cases hml : m < 17
          · have h0 : W.cell? ⟨w1.heap.size, k * 17 + m, none⟩ = some (.int .i32 (r.drips t (k * 17 + m))) := (HC.out _).trans (hX.get (by omega))
            have j0 : (0 : Int) ≤ m := by omega
            have j1 : (m : Int) < 17 := by omega
            by_cases hp : 0 < r.drips t (k * 17 + m)
            · have HF := Lib.hid (FdIs.at ho hlt hml hp hg.out)
              go_wp2_with fail
              go_ret3
              exact ⟨HF.out, pB⟩
            · have hd : decide (0 < r.drips t (k * 17 + m)) = false := by simp; omega
              have HP := Lib.hid hp
              clear hp
              go_wp2_with fail
              refine ⟨⟨m + 1, by omega, by go_num, Lib.hid fun j hj => ?_⟩, by simp [intOf]; omega⟩
              by_cases hjm : j < k * 17 + m
              · exact hg.out j hjm
              · obtain rfl : j = k * 17 + m := by omega
                have := HP.out; omega
          · obtain rfl : m = 17 := by omega
            go_wp2_with fail
            refine ⟨⟨k + 1, by omega, by go_num, Lib.hid fun j hj => hg.out j (by omega)⟩, by simp [intOf]; omega⟩
      · obtain rfl : k = 8 := by omega
        have HF := Lib.hid (FdIs.none ho hf.out)
        go_wp2_with fail
        go_ret3
        exact ⟨HF.out, pB⟩
  · have hc6 := Rf.fdc_f ho
    have hv0 : ∀ y, r.fdv t y = 0 := fun y => if_neg (by rw [hc6]; omega)
    rw [hv0, hv0, hc6]
    clear hc6 hv0
    go_enter Try.func36, Try.ntmps36
    go_wp2_with fail
    refine (l02Ok_f w.heap.size (w.heap.size + 1) c d r t _ p0 hR p1 hT ho).mono ?_
    rintro e w1 ⟨rfl, b1⟩
    have B1 := bnext pB b1 pB.size
    clear b1 p0 p1 pB
    go_wp2_with fail
    go_ret3
    exact ⟨rfl, B1⟩

/-- What first returns. -/
def FirstEnd (D : Nat → Int) (w : World) (e : Ending) (w' : World) : Prop := ∃ c k : Nat, c < 8 ∧ k < 17 ∧ 0 < D (c * 17 + k) ∧ (∀ j, j < c * 17 + k → D j ≤ 0) ∧ e = .returned (.tuple #[.int .i64 c, .int .i64 k]) ∧ Below w.heap.size w w'

set_option maxRecDepth 100000 in
set_option maxHeartbeats 1000000 in
theorem first_any (X : Array Value) (D : Nat → Int) (w : World) (hX : IsK .i32 X 136 D) (hb : ∀ i, i < 136 → 0 ≤ D i ∧ D i ≤ 1000) (hex : ¬ ∀ j, j < 136 → D j ≤ 0) :
    Calls Try.prog 68 #[.agg X] w (FirstEnd D w) := by
  have hd := hX.size
  have hd' : X.size = 8 * 17 := by omega
  have h1 := hX.ones
  have HB := Lib.hid hb; clear hb
  have HE := Lib.hid hex; clear hex
  go_enter Try.func68, Try.ntmps68
  go_wp2_with fail
  go_loopw [9] (fun i W => ∃ k : Nat, k ≤ 8 ∧ i = .int .i64 k ∧ Hid (∀ j, j < k * 17 → D j ≤ 0) ∧ Below w.heap.size w W) (fun i _ => 8 - (intOf i).toNat)
  case atStart => exact ⟨0, by omega, rfl, Lib.hid (by omega), (Below.refl _ _).alloc (Nat.le_refl _) _⟩
  case round =>
    obtain ⟨k, hk, rfl, hf, hB⟩ := hrel
    by_cases hlt : k < 8
    · have hs8 : (X.extract (k * 17) (k * 17 + 17)).size = 17 := by simp; omega
      have ho8 : Ones (X.extract (k * 17) (k * 17 + 17)) := h1.extract _ _
      have hrow := hX.extract (k * 17) 17 (by omega)
      have k0 : (0 : Int) ≤ k := by omega
      have k1 : (k : Int) < 8 := by omega
      go_wp2_with fail
      go_loop [14] (fun i => ∃ m : Nat, m ≤ 17 ∧ i = .int .i64 m ∧ Hid (∀ j, j < k * 17 + m → D j ≤ 0)) (fun i => 17 - (intOf i).toNat)
      case atStart => exact ⟨0, by omega, rfl, Lib.hid (by simpa using hf.out)⟩
      case round =>
        obtain ⟨m, hm, rfl, hg⟩ := hrel
        by_cases hml : m < 17
        · have hj1 : m < (X.extract (k * 17) (k * 17 + 17)).size := by omega
          have h0 := hrow.cell m hj1
          have x0 := HB.out (k * 17 + m) (by omega)
          by_cases hp : 0 < D (k * 17 + m)
          · have HP := Lib.hid hp
            go_wp2_with fail
            go_ret2
            exact ⟨k, m, hlt, hml, HP.out, hg.out, rfl, hB.alloc hB.size _⟩
          · have hdd : decide (0 < D (k * 17 + m)) = false := by simp; omega
            have HP := Lib.hid hp
            clear hp
            go_wp2_with fail
            refine ⟨⟨m + 1, by omega, by go_num, Lib.hid fun j hj => ?_⟩, by simp [intOf]; omega⟩
            by_cases hjm : j < k * 17 + m
            · exact hg.out j hjm
            · obtain rfl : j = k * 17 + m := by omega
              have := HP.out; omega
        · obtain rfl : m = 17 := by omega
          go_wp2_with fail
          refine ⟨⟨k + 1, by omega, by go_num, Lib.hid fun j hj => hg.out j (by omega), hB.alloc hB.size _⟩, by simp [intOf]; omega⟩
    · obtain rfl : k = 8 := by omega
      exact absurd (fun j hj => hf.out j (by omega)) HE.out

set_option maxRecDepth 100000 in
set_option maxHeartbeats 1000000 in
theorem implFirstDrip_any (c d : Array Value) (r : Rf) (t : Nat → Int) (w : World) (hR : IsRoof c r) (hT : IsRain d t) :
    Calls Try.prog 37 #[.agg c, .agg d] w fun e w' => e = .returned (.tuple #[.int .i64 (r.fdv t ((firstI (r.drips t) / 17 : Nat) : Int)), .int .i64 (r.fdv t ((firstI (r.drips t) % 17 : Nat) : Int)), .int .i64 (r.fdc t)]) ∧ Below w.heap.size w w' := by
  have hc := hR.size
  have hd := hT.size
  obtain ⟨p0, p1, pB⟩ := two_boxes w c d 30 32
  by_cases ho : r.Rains t
  · have hz : Try.zeroCells43 = mkI .i32 136 (fun _ => 0) := by kernel_rfl
    have hzs : Try.zeroCells43.size = 136 := by rw [hz]; simp
    have CR := fun w => runDown_any c d r t w hR hT ho
    have hF := (isFlow_mkF (r.comes t) (r.drips t)).size
    have hE := (isFlow_mkF (r.comes t) (r.drips t)).dripsK
    generalize mkF (r.comes t) (r.drips t) = F at CR hF hE
    have hX := isK_mkI .i32 136 (r.drips t)
    generalize mkI .i32 136 (r.drips t) = X at hX hE
    have hX1 := hX.size
    have hX2 := hX.ones
    have heq := fun W : World => run_eq_drips X Try.zeroCells43 (r.drips t) (fun _ => 0) hX (by rw [hz]; exact isK_mkI _ _ _) W
    by_cases hall : ∀ j, j < 136 → r.drips t j ≤ 0
    · have hq : ∀ W : World, (Op.equalIn 10000 43 (.agg X) (.agg Try.zeroCells43)).run Try.prog W = .ok true W := fun W => by
        obtain ⟨b, hb, hi⟩ := heq W
        rw [hb, hi.2 fun i hi => by have := hall i hi; have := (ho.drips_bd i).1; omega]
      have HF := Lib.hid (FdIs.none ho hall)
      clear heq hall hz
      go_enter Try.func37, Try.ntmps37
      go_wp2_with fail
      refine (implValidRain_t c d r t _ hR hT ho).mono ?_
      rintro e w1 ⟨rfl, b1⟩
      have q0 := brow b1 p0
      have q1 := brow b1 p1
      have B1 := bnext pB b1 pB.size
      clear b1 p0 p1 pB
      go_wp2_with fail
      refine (CR _).mono ?_
      rintro e w2 ⟨rfl, b2⟩
      have B2 := bnext B1 b2 B1.size
      clear b2 q0 q1
      go_wp2_with fail
      go_ret3
      exact ⟨HF.out, B2.alloc B2.size _⟩
    · have hq : ∀ W : World, (Op.equalIn 10000 43 (.agg X) (.agg Try.zeroCells43)).run Try.prog W = .ok false W := fun W => by
        obtain ⟨b, hb, hi⟩ := heq W
        cases b with
        | true => exact absurd (fun j hj => by have := hi.1 rfl j hj; omega) hall
        | false => exact hb
      have CF := fun w => first_any X (r.drips t) w hX (fun i _ => ho.drips_bd i) hall
      clear heq hall hz
      go_enter Try.func37, Try.ntmps37
      go_wp2_with fail
      refine (implValidRain_t c d r t _ hR hT ho).mono ?_
      rintro e w1 ⟨rfl, b1⟩
      have q0 := brow b1 p0
      have q1 := brow b1 p1
      have B1 := bnext pB b1 pB.size
      clear b1 p0 p1 pB
      go_wp2_with fail
      refine (CR _).mono ?_
      rintro e w2 ⟨rfl, b2⟩
      have B2 := bnext B1 b2 B1.size
      clear b2 q0 q1
      go_wp2_with fail
      refine (CF _).mono ?_
      rintro e w3 ⟨a, k, ha, hk, hp, hm, rfl, b3⟩
      have HF := Lib.hid (FdIs.at ho ha hk hp hm)
      have B3 : Below w.heap.size w w3 := bnext (B2.alloc B2.size _) b3 (by have := B2.size; simp; omega)
      clear b3 hp hm
      go_wp2_with fail
      go_ret3
      exact ⟨HF.out, B3⟩
  · have hc6 := Rf.fdc_f ho
    have hv0 : ∀ y, r.fdv t y = 0 := fun y => if_neg (by rw [hc6]; omega)
    rw [hv0, hv0, hc6]
    clear hc6 hv0
    go_enter Try.func37, Try.ntmps37
    go_wp2_with fail
    refine (implValidRain_f c d r t _ hR hT ho).mono ?_
    rintro e w1 ⟨rfl, b1⟩
    have B1 := bnext pB b1 pB.size
    clear b1 p0 p1 pB
    go_wp2_with fail
    go_ret3
    exact ⟨rfl, B1⟩
end Go.Proofs.Ytnjodicaehiadaa
