/- Minutes of the program: the shower, and minutes one behind the other. -/
import Derived.Test.YtfdoehakpeddnaaMinP
import Derived.Test.YtfdoehakpeddnaaFlu
namespace Go.Proofs.Ytfdoehakpeddnaa
open Go.RowKit

@[go_sem ↓] theorem loadAt_shw (v : Value) : Instr.loadAt 80 v = loadWhole 80 v := rfl
@[go_sem ↓] theorem storeAt_shw (a v : Value) : Instr.storeAt 80 a v = storeWhole 80 a v := rfl
@[go_sem] theorem load_shw (w : World) (n o : Nat) : (loadWhole 80 (.pointer (some ⟨n, o, none⟩))).run Try.prog w = rowLoad Try.prog 80 4 n o w (rowAt w n) := run_load_by Try.underlying80 rfl (by kernel_rfl) w n o
@[go_sem] theorem store_shw (vs : Array Value) (w : World) (n o : Nat) : (storeWhole 80 (.pointer (some ⟨n, o, none⟩)) (.agg vs)).run Try.prog w = rowStore Try.prog 80 4 n o vs w (rowAt w n) := run_store_by (by kernel_rfl) vs w n o

/-- Water, what pipes took, and what ran over, behind k minutes. -/
noncomputable def Gt.itT (g : Gt) (t r : Nat → Int) (n : Nat) : Nat → Nat → Int
  | 0 => t
  | k + 1 => g.minT (g.itT t r n k) r n
noncomputable def Gt.itS (g : Gt) (t r : Nat → Int) (n : Nat) : Nat → Int
  | 0 => 0
  | k + 1 => g.itS t r n k + g.minS (g.itT t r n k) r n
noncomputable def Gt.itO (g : Gt) (t r : Nat → Int) (n : Nat) : Nat → Int
  | 0 => 0
  | k + 1 => g.itO t r n k + g.minO (g.itT t r n k) r n
theorem Gt.itT_bd {g : Gt} {t r : Nat → Int} {n : Nat} (hok : g.Ok) (ht : ∀ i, i < 17 → 0 ≤ t i ∧ t i ≤ 1000) (hr : ∀ i, i < n → 0 ≤ r i ∧ r i ≤ 1000) : ∀ k : Nat, ∀ i, i < 17 → 0 ≤ g.itT t r n k i ∧ g.itT t r n k i ≤ 1000
  | 0 => ht
  | k + 1 => Gt.minT_bd hok (Gt.itT_bd hok ht hr k) hr
theorem Gt.itS_bd {g : Gt} {t r : Nat → Int} {n : Nat} (hok : g.Ok) (ht : ∀ i, i < 17 → 0 ≤ t i ∧ t i ≤ 1000) (hr : ∀ i, i < n → 0 ≤ r i ∧ r i ≤ 1000) : ∀ k : Nat, 0 ≤ g.itS t r n k ∧ g.itS t r n k ≤ k * 8000
  | 0 => by unfold Gt.itS; simp
  | k + 1 => by
    have a := Gt.itS_bd hok ht hr k
    have b := Gt.minS_bd hok (Gt.itT_bd hok ht hr k) hr
    unfold Gt.itS
    omega
theorem Gt.itO_bd {g : Gt} {t r : Nat → Int} {n : Nat} (hok : g.Ok) (ht : ∀ i, i < 17 → 0 ≤ t i ∧ t i ≤ 1000) (hr : ∀ i, i < n → 0 ≤ r i ∧ r i ≤ 1000) : ∀ k : Nat, 0 ≤ g.itO t r n k ∧ g.itO t r n k ≤ k * 578000
  | 0 => by unfold Gt.itO; simp
  | k + 1 => by
    have a := Gt.itO_bd hok ht hr k
    have b := Gt.minO_bd hok (Gt.itT_bd hok ht hr k) hr
    unfold Gt.itO
    omega

/-- A shower: a gutter's depth, outlets, flows, and rain. -/
def IsShw (w : World) (b : Nat) (x : Array Value) (g : Gt) (n : Nat) (r : Nat → Int) : Prop :=
  ∃ vo vf vr, x = #[.int .i32 g.d, vo, vf, vr] ∧ IsList w b vo 2 g.m (outC g.p) ∧ IsList w b vf 1 g.n.toNat (fun i => .int .i64 (g.to i)) ∧ IsList w b vr 1 n (fun i => .int .i64 (r i))
theorem IsShw.below {w w' : World} {b : Nat} {x : Array Value} {g : Gt} {n : Nat} {r : Nat → Int} (h : IsShw w b x g n r) (hb : Below w.heap.size w w') : IsShw w' b x g n r := by
  obtain ⟨vo, vf, vr, e, a, f, c⟩ := h
  exact ⟨vo, vf, vr, e, a.below hb (Nat.le_refl _), f.below hb (Nat.le_refl _), c.below hb (Nat.le_refl _)⟩
/-- A list's block is another one. -/
def Away (K n : Nat) (v : Value) : Prop := 0 < n → ∀ gb cap, v = .slice (some ⟨gb, 0, none⟩) n cap → gb ≠ K
theorem IsList.setRowA {w : World} {base sz n : Nat} {v : Value} {f : Nat → Value} (h : IsList w base v sz n f) {K : Nat} (hK : Away K n v) (c : Array Value) : IsList (w.setRow K c) base v sz n f := by
  rcases Nat.eq_zero_or_pos n with h0 | h0
  · obtain ⟨a, cap, rfl⟩ := h.shape
    subst h0
    exact .inl ⟨rfl, a, cap, rfl⟩
  · rcases h with ⟨h1, _⟩ | ⟨g, cap, cur, rfl, hg, hr, hs, hf⟩
    · omega
    · exact .inr ⟨g, cap, cur, rfl, hg, (rowAt_setRow_ne _ _ _ _ (hK h0 _ _ rfl)).trans hr, hs, hf⟩
theorem IsList.away {w : World} {b sz n : Nat} {v : Value} {f : Nat → Value} (h : IsList w b v sz n f) {K : Nat} (hK : w.heap.size ≤ K) : Away K n v := by
  intro h0 gb cap e
  rcases h with ⟨h1, _⟩ | ⟨g, c, cur, e2, hg, hr, _⟩
  · omega
  · rw [e] at e2
    cases e2
    have := rowAt_lt hr
    omega
theorem IsList.awayB {w : World} {b sz n : Nat} {v : Value} {f : Nat → Value} (h : IsList w b v sz n f) {K : Nat} (hK : K < b) : Away K n v := by
  intro h0 gb cap e
  rcases h with ⟨h1, _⟩ | ⟨g, c, cur, e2, hg, hr, _⟩
  · omega
  · rw [e] at e2
    cases e2
    omega
/-- A shower none of whose lists lies in block K. -/
def IsShwK (w : World) (K : Nat) (x : Array Value) (g : Gt) (n : Nat) (r : Nat → Int) : Prop :=
  ∃ vo vf vr, x = #[.int .i32 g.d, vo, vf, vr] ∧ (IsList w 0 vo 2 g.m (outC g.p) ∧ Away K g.m vo) ∧ (IsList w 0 vf 1 g.n.toNat (fun i => .int .i64 (g.to i)) ∧ Away K g.n.toNat vf) ∧ (IsList w 0 vr 1 n (fun i => .int .i64 (r i)) ∧ Away K n vr)
theorem IsShwK.shw {w : World} {K : Nat} {x : Array Value} {g : Gt} {n : Nat} {r : Nat → Int} (h : IsShwK w K x g n r) : IsShw w 0 x g n r := by
  obtain ⟨vo, vf, vr, e, a, f, c⟩ := h
  exact ⟨vo, vf, vr, e, a.1, f.1, c.1⟩
theorem IsShwK.below {w w' : World} {K : Nat} {x : Array Value} {g : Gt} {n : Nat} {r : Nat → Int} (h : IsShwK w K x g n r) (hb : Below w.heap.size w w') : IsShwK w' K x g n r := by
  obtain ⟨vo, vf, vr, e, a, f, c⟩ := h
  exact ⟨vo, vf, vr, e, ⟨a.1.below hb (Nat.le_refl _), a.2⟩, ⟨f.1.below hb (Nat.le_refl _), f.2⟩, ⟨c.1.below hb (Nat.le_refl _), c.2⟩⟩
theorem IsShwK.setRow {w : World} {K : Nat} {x : Array Value} {g : Gt} {n : Nat} {r : Nat → Int} (h : IsShwK w K x g n r) (d : Array Value) : IsShwK (w.setRow K d) K x g n r := by
  obtain ⟨vo, vf, vr, e, a, f, c⟩ := h
  exact ⟨vo, vf, vr, e, ⟨a.1.setRowA a.2 d, a.2⟩, ⟨f.1.setRowA f.2 d, f.2⟩, ⟨c.1.setRowA c.2 d, c.2⟩⟩
theorem IsShw.ones {w : World} {b : Nat} {x : Array Value} {g : Gt} {n : Nat} {r : Nat → Int} (h : IsShw w b x g n r) : Ones x := by
  obtain ⟨vo, vf, vr, rfl, a, f, c⟩ := h
  obtain ⟨a1, c1, rfl⟩ := a.shape
  obtain ⟨a2, c2, rfl⟩ := f.shape
  obtain ⟨a3, c3, rfl⟩ := c.shape
  intro v hv
  simp at hv
  rcases hv with rfl | rfl | rfl | rfl <;> rfl
theorem minuteW_any (b n : Nat) (x : Array Value) (g : Gt) (r t : Nat → Int) (d : Array Value) (w : World) (hS : IsShw w b x g n r)
    (hn : n ≤ g.n.toNat) (hok : g.Ok) (hD : IsK .i32 d 17 t) (ht : ∀ i, i < 17 → 0 ≤ t i ∧ t i ≤ 1000) (hrb : ∀ i, i < n → 0 ≤ r i ∧ r i ≤ 1000) :
    Calls Try.prog 59 #[.agg x, .agg d] w fun e w' => ∃ cur, e = .returned (.tuple #[.agg cur, .int .i64 (g.minS t r n), .int .i64 (g.minO t r n)]) ∧ IsK .i32 cur 17 (g.minT t r n) ∧ Below w.heap.size w w' := by
  obtain ⟨vo, vf, vr, rfl, a, f, c⟩ := hS
  have h1 := hok.n1
  exact minute_any b g.n.toNat n g vo vf vr r t d w a f c (by omega) hn hok hD ht hrb

theorem IsList.setRow {w : World} {base sz n : Nat} {v : Value} {f : Nat → Value} (h : IsList w base v sz n f) (K : Nat) (hK : K < base) (c : Array Value) : IsList (w.setRow K c) base v sz n f := by
  rcases h with h | ⟨g, cap, cur, rfl, hg, hr, hs, hf⟩
  · exact .inl h
  · exact .inr ⟨g, cap, cur, rfl, hg, (rowAt_setRow_ne _ _ _ _ (by omega)).trans hr, hs, hf⟩
theorem results_c1 {P : Program} {fn : Func} {p : Tmp} {ty : TypeId} (h : fn.results = #[.cell p ty]) (tmps : Array Value) (w : World) (a : Addr) (x : Value)
    (h1 : tmps.getD p undef = .pointer (some a)) (k1 : (loadVar ty a).run P w = .ok x w) : (results fn tmps).run P w = .ok x w := by
  have e1 : (asAddr (tmps.getD p undef)).run P w = .ok a w := by rw [h1]; rfl
  simp only [results, h]
  rw [Array.getD_eq_getD_getElem?] at e1
  simp [Sem.run_bind, Result.andThen, e1, k1]
theorem results_cttm {P : Program} {fn : Func} {p u q : Tmp} {ty : TypeId} (h : fn.results = #[.cell p ty, .tmp u, .tmp q]) (tmps : Array Value) (w : World) (a : Addr) (x : Value)
    (h1 : tmps.getD p undef = .pointer (some a)) (k1 : (loadVar ty a).run P w = .ok x w) : (results fn tmps).run P w = .ok (.tuple #[x, tmps.getD u undef, tmps.getD q undef]) w := by
  have e1 : (asAddr (tmps.getD p undef)).run P w = .ok a w := by rw [h1]; rfl
  simp only [results, h]
  rw [Array.getD_eq_getD_getElem?] at e1
  simp [Sem.run_bind, Result.andThen, e1, k1]

set_option maxRecDepth 100000 in
set_option maxHeartbeats 4000000 in
theorem minutes_any (b n k : Nat) (x : Array Value) (g : Gt) (r t : Nat → Int) (d : Array Value) (w : World) (hS : IsShw w b x g n r)
    (hn : n ≤ g.n.toNat) (hok : g.Ok) (hD : IsK .i32 d 17 t) (ht : ∀ i, i < 17 → 0 ≤ t i ∧ t i ≤ 1000) (hrb : ∀ i, i < n → 0 ≤ r i ∧ r i ≤ 1000) (hk : k ≤ 200) :
    Calls Try.prog 52 #[.agg x, .agg d, .int .i64 k] w fun e w' => ∃ cur, e = .returned (.tuple #[.agg cur, .int .i64 (g.itS t r n k), .int .i64 (g.itO t r n k)]) ∧ IsK .i32 cur 17 (g.itT t r n k) ∧ Below w.heap.size w w' := by
  have HS := Lib.hid hS
  have HT := Lib.hid (Gt.itT_bd hok ht hrb)
  have HSB := Lib.hid (Gt.itS_bd hok ht hrb)
  have HOB := Lib.hid (Gt.itO_bd hok ht hrb)
  have CM := fun W (dd : Array Value) (tt : Nat → Int) (a : IsShw W b x g n r) (bb : IsK .i32 dd 17 tt) (c : ∀ i, i < 17 → 0 ≤ tt i ∧ tt i ≤ 1000) => minuteW_any b n x g r tt dd W a hn hok bb c hrb
  have HD := Lib.hid hD
  have hds := hD.size
  have hdo := hD.ones
  have xs : x.size = 4 := by obtain ⟨vo, vf, vr, rfl, _⟩ := hS; rfl
  have xo : Ones x := by
    obtain ⟨vo, vf, vr, rfl, a, f, c⟩ := hS
    obtain ⟨a1, c1, rfl⟩ := a.shape
    obtain ⟨a2, c2, rfl⟩ := f.shape
    obtain ⟨a3, c3, rfl⟩ := c.shape
    intro v hv
    simp at hv
    rcases hv with rfl | rfl | rfl | rfl <;> rfl
  have hzo := zeroW_is.ones
  unfold zeroW at hzo
  clear hS ht hrb hD
  go_enter Try.func52, Try.ntmps52
  go_wp2_with fail
  refine gen_world fun W hW => ?_
  have q0 : rowAt W w.heap.size = some x := by rw [hW]; exact (rowAt_alloc_past _ _ _ (by simp; try omega)).trans ((rowAt_alloc_past _ _ _ (by simp)).trans (rowAt_alloc_at _ _ _ _ (by simp)))
  have q1 : rowAt W (w.heap.size + 1) = some d := by rw [hW]; exact (rowAt_alloc_past _ _ _ (by simp)).trans (rowAt_alloc_at _ _ _ _ (by simp))
  have q2 : rowAt W (w.heap.size + 1 + 1) = some zeroW := by rw [hW]; exact rowAt_alloc_at _ _ _ _ (by simp)
  have BW : Below w.heap.size w W := by rw [hW]; exact (((Below.refl _ _).alloc (Nat.le_refl _) _).alloc (by simp) _).alloc (by simp; omega) _
  have k01 : w.heap.size ≠ w.heap.size + 1 := by omega
  have k12 : w.heap.size + 1 ≠ w.heap.size + 1 + 1 := by omega
  have k02 : w.heap.size ≠ w.heap.size + 1 + 1 := by omega
  have b1 : w.heap.size ≤ w.heap.size + 1 := by omega
  have b2 : w.heap.size ≤ w.heap.size + 1 + 1 := by omega
  clear hW
  generalize w.heap.size + 1 + 1 = K2 at *
  generalize w.heap.size + 1 = K1 at *
  go_loopw [9, 10, 11, 12, 13, 15] (fun tk ov _ _ _ i V => ∃ (j : Nat) (cur : Array Value), j ≤ k ∧ i = .int .i64 j ∧ tk = .int .i64 (g.itS t r n j) ∧ ov = .int .i64 (g.itO t r n j) ∧ rowAt V K1 = some cur ∧ Hid (IsK .i32 cur 17 (g.itT t r n j)) ∧ rowAt V w.heap.size = some x ∧ rowAt V K2 = some zeroW ∧ Below w.heap.size w V) (fun _ _ _ _ _ i _ => k - (intOf i).toNat)
  case atStart => exact ⟨0, d, by omega, rfl, rfl, rfl, q1, HD, q0, q2, BW⟩
  case round =>
    clear q0 q1 q2 BW
    obtain ⟨j, cur, hj, rfl, rfl, rfl, q1, hI, q0, q2, hB⟩ := hrel
    by_cases hlt : j < k
    · have hS0 := HS.out.below hB
      have j0 : 0 ≤ (j : Int) := by omega
      have j1 : (j : Int) < k := by omega
      have hcs := hI.out.size
      have hco := hI.out.ones
      have HSH := Lib.hid (show IsShw wr b x g n r from HS.out.below hB)
      have sb := HSB.out j
      have ob := HOB.out j
      have sb' := HSB.out (j + 1)
      have ob' := HOB.out (j + 1)
      have eS : g.itS t r n (j + 1) = g.itS t r n j + g.minS (g.itT t r n j) r n := rfl
      have eO : g.itO t r n (j + 1) = g.itO t r n j + g.minO (g.itT t r n j) r n := rfl
      have CMj := CM wr cur (g.itT t r n j) HSH.out hI.out (HT.out j)
      have ts : 0 ≤ g.itS t r n (j + 1) ∧ g.itS t r n (j + 1) ≤ 1608000 := by omega
      have to : 0 ≤ g.itO t r n (j + 1) ∧ g.itO t r n (j + 1) ≤ 116178000 := by omega
      have HTJ := Lib.hid (show g.itT t r n (j + 1) = g.minT (g.itT t r n j) r n from rfl)
      have ES := Lib.hid eS
      have EO := Lib.hid eO
      rw [eS] at ts
      rw [eO] at to
      clear eS eO sb ob sb' ob'
      generalize g.itS t r n j = s0 at *
      generalize g.itO t r n j = o0 at *
      generalize g.minS (g.itT t r n j) r n = s1 at *
      generalize g.minO (g.itT t r n j) r n = o1 at *
      have HB := Lib.hid hB
      clear hB CM
      go_wp2_with fail
      refine CMj.mono ?_
      rintro e w1 ⟨cur2, rfl, i2, b9⟩
      have r0 := brow b9 q0
      have r1 := brow b9 q1
      have r2 := brow b9 q2
      have B1 := bnext HB.out b9 HB.out.size
      have I2 := Lib.hid i2
      have c2s := i2.size
      have c2o := i2.ones
      have l1 := rowAt_lt r1
      have l0 := rowAt_lt r0
      have l2 := rowAt_lt r2
      have n0 := Nat.ne_of_lt l0
      have n1 := Nat.ne_of_lt l1
      have n2 := Nat.ne_of_lt l2
      clear CMj b9 q0 q1 q2 i2
      go_wp2_with fail
      refine ⟨⟨j + 1, cur2, by omega, by go_num, by rw [ES.out], by rw [EO.out], ?_, by rw [HTJ.out]; exact I2, ?_, ?_, ?_⟩, by simp [intOf]; omega⟩
      · exact (rowAt_alloc_past _ _ _ (by simpa using l1)).trans (rowAt_setRow_at _ _ _ (by rw [r1]; rfl))
      · exact (rowAt_alloc_past _ _ _ (by simpa using l0)).trans ((rowAt_setRow_ne _ _ _ _ k01).trans r0)
      · exact (rowAt_alloc_past _ _ _ (by simpa using l2)).trans ((rowAt_setRow_ne _ _ _ _ (Ne.symm k12)).trans r2)
      · exact (below_setRow B1 b1 _).alloc (by simpa using B1.size) _
    · obtain rfl : j = k := by omega
      have his := hI.out.size
      have hio := hI.out.ones
      have hzs : zeroW.size = 17 := rfl
      have l1 := rowAt_lt q1
      have l0 := rowAt_lt q0
      have l2 := rowAt_lt q2
      go_wp2_with fail
      refine bodyPost_ret (results_cttm (fn := Try.f52) (p := 6) (u := 7) (q := 8) (ty := 32) rfl _ _ ⟨K2, 0, none⟩ (.agg cur) rfl (loadVar_wat _ K2 cur (rowAt_setRow_at _ _ _ (by rw [q2]; rfl)) his)) rfl ?_
      exact ⟨cur, rfl, hI.out, below_setRow hB b2 _⟩

set_option maxRecDepth 100000 in
set_option maxHeartbeats 4000000 in
theorem shower_any (b n : Nat) (c : Array Value) (g : Gt) (v vr : Value) (r : Nat → Int) (w : World) (hG : IsGut c g v) (hv : IsList w b v 2 g.m (pipeV g.p)) (hok : g.Ok) (hr : IsList w b vr 1 n (fun i => .int .i64 (r i))) :
    Calls Try.prog 51 #[.agg c, vr] w fun e w' => ∃ x, e = .returned (.agg x) ∧ IsShw w' 0 x g n r ∧ (∀ K, K < w.heap.size → Away K n vr → IsShwK w' K x g n r) ∧ Below w.heap.size w w' := by
  have hN := hok.n1
  obtain ⟨N, hNe⟩ := Int.eq_ofNat_of_zero_le (show 0 ≤ g.n by omega)
  have CO := fun W H => outlets_any b c g v W hG H hok.m4
  have CF := fun W H => flows_any b c g v N W hG H hok hNe
  have hds := hok.d0
  have hd1 := hok.d1
  have HV := Lib.hid hv
  have HR := Lib.hid hr
  have hcs := hG.size
  have hco := hG.ones
  have HG := Lib.hid hG
  obtain ⟨ar, cr, rfl⟩ := hr.shape
  clear hv hr hok hG
  go_enter Try.func51, Try.ntmps51
  go_wp2_with fail
  refine gen_world fun W hW => ?_
  have q0 : rowAt W w.heap.size = some c := by rw [hW]; exact (rowAt_alloc_past _ _ _ (by simp)).trans (rowAt_alloc_at _ _ _ _ (by simp))
  have q1 : rowAt W (w.heap.size + 1) = some #[.int .i32 0, .slice none 0 0, .slice none 0 0, .slice none 0 0] := by rw [hW]; exact rowAt_alloc_at _ _ _ _ (by simp)
  have BW : Below w.heap.size w W := by rw [hW]; exact ((Below.refl _ _).alloc (Nat.le_refl _) _).alloc (by simp) _
  have k01 : w.heap.size ≠ w.heap.size + 1 := by omega
  have b1 : w.heap.size ≤ w.heap.size + 1 := by omega
  have yd : IntKind.i32.wrap g.d = g.d := IntWalk.i32_in _ (by omega)
  clear hW
  generalize w.heap.size + 1 = K1 at *
  refine Code.wp_mono onlyN_out6 ?_
  refine wp_region_held_drew (S := fun w' => ∃ z : Array Value, rowAt w' K1 = some z ∧ z.size = 4 ∧ rowAt w' w.heap.size = some c ∧ Below w.heap.size w w') (by kernel_rfl) (⟨_, q1, rfl, q0, BW.drew⟩) (fun hH => ?_)
  refine wpAnyH_take (i := 0) (v := .pointer (some ⟨w.heap.size, 1, none⟩)) rfl (by kernel_rfl) (by kernel_rfl) (by kernel_rfl) (fun _ _ _ h => h) (Or.inl ⟨by rfl, ?_⟩) hH ?_
  · intro w1 hS; (try dsimp only at hS); obtain ⟨z, g1, gz, g0, gb⟩ := hS; go_simp
  (try simp only [List.getElem_toArray]); (try simp only [List.getElem_cons_succ]); (try simp only [List.getElem_cons_zero]); (try simp only [Act.put]); (try simp only [List.setIfInBounds_toArray]); (try simp only [List.set_cons_succ]); (try simp only [List.set_cons_zero])
  refine wpAnyH_take (i := 1) (v := .int .i16 g.d) rfl (by kernel_rfl) (by kernel_rfl) (by kernel_rfl) (fun _ _ _ h => h) (Or.inl ⟨by rfl, ?_⟩) hH ?_
  · intro w1 hS; (try dsimp only at hS); obtain ⟨z, g1, gz, g0, gb⟩ := hS; have s0 : w1.cell? ⟨w.heap.size, 1, none⟩ = some (.int .i16 g.d) := (by rw [cell_of_rowAt g0]; exact HG.out.get1); go_simp
  (try simp only [List.getElem_toArray]); (try simp only [List.getElem_cons_succ]); (try simp only [List.getElem_cons_zero]); (try simp only [Act.put]); (try simp only [List.setIfInBounds_toArray]); (try simp only [List.set_cons_succ]); (try simp only [List.set_cons_zero])
  refine wpAnyH_take (i := 2) (v := .int .i32 g.d) rfl (by kernel_rfl) (by kernel_rfl) (by kernel_rfl) (fun _ _ _ h => h) (Or.inl ⟨by rfl, ?_⟩) hH ?_
  · intro w1 hS; (try dsimp only at hS); obtain ⟨z, g1, gz, g0, gb⟩ := hS; go_simp
  (try simp only [List.getElem_toArray]); (try simp only [List.getElem_cons_succ]); (try simp only [List.getElem_cons_zero]); (try simp only [Act.put]); (try simp only [List.setIfInBounds_toArray]); (try simp only [List.set_cons_succ]); (try simp only [List.set_cons_zero])
  refine wpAnyH_take (i := 3) (v := .agg c) rfl (by kernel_rfl) (by kernel_rfl) (by kernel_rfl) (fun _ _ _ h => h) (Or.inl ⟨by rfl, ?_⟩) hH ?_
  · intro w1 hS; (try dsimp only at hS); obtain ⟨z, g1, gz, g0, gb⟩ := hS; go_simp
  (try simp only [List.getElem_toArray]); (try simp only [List.getElem_cons_succ]); (try simp only [List.getElem_cons_zero]); (try simp only [Act.put]); (try simp only [List.setIfInBounds_toArray]); (try simp only [List.set_cons_succ]); (try simp only [List.set_cons_zero])
  refine wpAnyH_take (i := 5) (v := .agg c) rfl (by kernel_rfl) (by kernel_rfl) (by kernel_rfl) (fun _ _ _ h => h) (Or.inl ⟨by rfl, ?_⟩) hH ?_
  · intro w1 hS; (try dsimp only at hS); obtain ⟨z, g1, gz, g0, gb⟩ := hS; go_simp
  (try simp only [List.getElem_toArray]); (try simp only [List.getElem_cons_succ]); (try simp only [List.getElem_cons_zero]); (try simp only [Act.put]); (try simp only [List.setIfInBounds_toArray]); (try simp only [List.set_cons_succ]); (try simp only [List.set_cons_zero])
  refine wpAnyH_take (i := 7) (v := .slice ar n cr) rfl (by kernel_rfl) (by kernel_rfl) (by kernel_rfl) (fun _ _ _ h => h) (Or.inl ⟨by rfl, ?_⟩) hH ?_
  · intro w1 hS; (try dsimp only at hS); obtain ⟨z, g1, gz, g0, gb⟩ := hS; go_simp
  (try simp only [List.getElem_toArray]); (try simp only [List.getElem_cons_succ]); (try simp only [List.getElem_cons_zero]); (try simp only [Act.put]); (try simp only [List.setIfInBounds_toArray]); (try simp only [List.set_cons_succ]); (try simp only [List.set_cons_zero])
  refine wpAnyH_ready (rs := [4]) (by kernel_rfl) (by simp) (AllReadyH.cons rfl (fun K hK => ?_) AllReadyH.nil)
  obtain ⟨z, g1, gz, g0, gb⟩ := hH
  go_simp
  refine (CO _ (HV.out.below gb (Nat.le_refl _))).mono ?_
  rintro x wx ⟨a1, rfl, l1, bx⟩
  have l1 := Lib.hid l1
  have e1 := rowAt_lt g1
  have f1 := gb.size
  go_simp
  refine hK.out _ _ (⟨z, brow bx g1, gz, brow bx g0, bnext gb bx gb.size⟩) (fun hG => ?_)
  clear hK K bx
  have hH := hG
  clear hG
  (try simp only [List.getElem_toArray]); (try simp only [List.getElem_cons_succ]); (try simp only [List.getElem_cons_zero]); (try simp only [Act.put]); (try simp only [List.setIfInBounds_toArray]); (try simp only [List.set_cons_succ]); (try simp only [List.set_cons_zero])
  refine wpAnyH_ready (rs := [6]) (by kernel_rfl) (by simp) (AllReadyH.cons rfl (fun K hK => ?_) AllReadyH.nil)
  obtain ⟨z, g1, gz, g0, gb⟩ := hH
  go_simp
  refine (CF _ (HV.out.below gb (Nat.le_refl _))).mono ?_
  rintro x wx ⟨a2, rfl, l2, bx⟩
  have l1 := Lib.hid (l1.out.below bx (Nat.le_refl _))
  have l2 := Lib.hid l2
  have e2 := rowAt_lt g1
  have f2 := gb.size
  go_simp
  refine hK.out _ _ (⟨z, brow bx g1, gz, brow bx g0, bnext gb bx gb.size⟩) (fun hG => ?_)
  clear hK K bx
  have hH := hG
  clear hG
  (try simp only [List.getElem_toArray]); (try simp only [List.getElem_cons_succ]); (try simp only [List.getElem_cons_zero]); (try simp only [Act.put]); (try simp only [List.setIfInBounds_toArray]); (try simp only [List.set_cons_succ]); (try simp only [List.set_cons_zero])
  refine wpAnyH_take (i := 8) (v := .agg #[.int .i32 g.d, .slice a1 g.m g.m, .slice a2 N N, .slice ar n cr]) rfl (by kernel_rfl) (by kernel_rfl) (by kernel_rfl) (fun _ _ _ h => h) (Or.inl ⟨by rfl, ?_⟩) hH ?_
  · intro w1 hS; (try dsimp only at hS); obtain ⟨z, g1, gz, g0, gb⟩ := hS; go_simp
  (try simp only [List.getElem_toArray]); (try simp only [List.getElem_cons_succ]); (try simp only [List.getElem_cons_zero]); (try simp only [Act.put]); (try simp only [List.setIfInBounds_toArray]); (try simp only [List.set_cons_succ]); (try simp only [List.set_cons_zero])
  refine wpAnyH_ready (rs := [9]) (by kernel_rfl) (by simp) (AllReadyH.cons rfl (fun K hK => ?_) AllReadyH.nil)
  obtain ⟨z, g1, gz, g0, gb⟩ := hH
  have hsx : (#[.int .i32 g.d, .slice a1 g.m g.m, .slice a2 N N, .slice ar n cr] : Array Value).size = 4 := rfl
  have l9 := rowAt_lt g1
  have hxo : Ones #[.int .i32 g.d, .slice a1 g.m g.m, .slice a2 N N, .slice ar n cr] := by
    intro v hv
    simp at hv
    rcases hv with rfl | rfl | rfl | rfl <;> rfl
  go_simp
  refine hK.out _ _ (⟨#[.int .i32 g.d, .slice a1 g.m g.m, .slice a2 N N, .slice ar n cr], rowAt_setRow_at _ _ _ (congrArg Option.isSome g1), rfl, (rowAt_setRow_ne _ _ _ _ k01).trans g0, below_setRow gb b1 _⟩) (fun hG => ?_)
  clear hK K
  have hH := hG
  clear hG
  (try simp only [List.getElem_toArray]); (try simp only [List.getElem_cons_succ]); (try simp only [List.getElem_cons_zero]); (try simp only [Act.put]); (try simp only [List.setIfInBounds_toArray]); (try simp only [List.set_cons_succ]); (try simp only [List.set_cons_zero])
  refine wpAnyH_done (by kernel_rfl) ?_ _
  dsimp only [OnlyN6]
  have G1 : rowAt (wx.setRow K1 #[.int .i32 g.d, .slice a1 g.m g.m, .slice a2 N N, .slice ar n cr]) K1 = some #[.int .i32 g.d, .slice a1 g.m g.m, .slice a2 N N, .slice ar n cr] := rowAt_setRow_at _ _ _ (congrArg Option.isSome g1)
  have L1 := Lib.hid ((l1.out.setRow K1 e1 #[.int .i32 g.d, .slice a1 g.m g.m, .slice a2 N N, .slice ar n cr]).mono (Nat.zero_le _))
  have L2 := Lib.hid ((l2.out.setRow K1 e2 #[.int .i32 g.d, .slice a1 g.m g.m, .slice a2 N N, .slice ar n cr]).mono (Nat.zero_le _))
  have A1 := Lib.hid (fun K (hK : K < w.heap.size) => l1.out.awayB (Nat.lt_of_lt_of_le hK f1))
  have A2 := Lib.hid (fun K (hK : K < w.heap.size) => l2.out.awayB (Nat.lt_of_lt_of_le hK f2))
  obtain ⟨_, _, _, _, gB⟩ := hH
  have L3 := Lib.hid ((HR.out.below gB (Nat.le_refl _)).mono (Nat.zero_le _))
  have GB := Lib.hid gB
  have l9 := rowAt_lt G1
  have HG1 := Lib.hid G1
  clear l1 l2 gB
  go_wp2_with fail
  have kk : ∀ W : World, rowAt W K1 = some #[.int .i32 g.d, .slice a1 g.m g.m, .slice a2 N N, .slice ar n cr] → (loadVar 80 ⟨K1, 0, none⟩).run Try.prog W = .ok (.agg #[.int .i32 g.d, .slice a1 g.m g.m, .slice a2 N N, .slice ar n cr]) W := fun W hW => by
    have h := load_shw W K1 0
    rw [hW] at h
    exact h
  refine bodyPost_ret (results_c1 (fn := Try.f51) (p := 4) (ty := 80) rfl _ _ ⟨K1, 0, none⟩ (.agg #[.int .i32 g.d, .slice a1 g.m g.m, .slice a2 N N, .slice ar n cr]) rfl (kk _ HG1.out)) rfl ?_
  exact ⟨_, rfl, ⟨_, _, _, rfl, L1.out, by rw [hNe]; exact L2.out, L3.out⟩, fun K hK hA => ⟨_, _, _, rfl, ⟨L1.out, A1.out K hK⟩, ⟨by rw [hNe]; exact L2.out, by rw [hNe]; exact A2.out K hK⟩, ⟨L3.out, hA⟩⟩, GB.out⟩
end Go.Proofs.Ytfdoehakpeddnaa
