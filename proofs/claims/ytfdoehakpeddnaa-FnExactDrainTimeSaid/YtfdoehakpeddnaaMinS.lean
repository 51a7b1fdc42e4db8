/- A minute: mathematics, and the model's l06Minute. -/
import Derived.Test.YtfdoehakpeddnaaRn6
import Derived.Test.YtfdoehakpeddnaaSloA
namespace Go.Proofs.Ytfdoehakpeddnaa
open Go.RowKit

/-- Water after the rain on the first k cells. -/
def rnT (t r : Nat → Int) (k i : Nat) : Int := if i < k then t i + r i else t i
theorem rnT_succ (t r : Nat → Int) (k : Nat) : (fun i => if i = k then rnT t r k k + r k else rnT t r k i) = rnT t r (k + 1) := by
  funext i
  unfold rnT
  by_cases h : i = k
  · subst h; rw [if_pos rfl, if_neg (by omega), if_pos (by omega)]
  · rw [if_neg h]
    by_cases h2 : i < k
    · rw [if_pos h2, if_pos (by omega)]
    · rw [if_neg h2, if_neg (by omega)]
def minC (a x : Int) : Int := if x < a then x else a
def zeroW : Array Value := #[.int .i32 0, .int .i32 0, .int .i32 0, .int .i32 0, .int .i32 0, .int .i32 0, .int .i32 0, .int .i32 0, .int .i32 0, .int .i32 0, .int .i32 0, .int .i32 0, .int .i32 0, .int .i32 0, .int .i32 0, .int .i32 0, .int .i32 0]
theorem zeroW_is : IsK .i32 zeroW 17 (fun _ => 0) := IsK.of_get rfl fun i hi => by
  match i with
  | 0 => rfl
  | 1 => rfl
  | 2 => rfl
  | 3 => rfl
  | 4 => rfl
  | 5 => rfl
  | 6 => rfl
  | 7 => rfl
  | 8 => rfl
  | 9 => rfl
  | 10 => rfl
  | 11 => rfl
  | 12 => rfl
  | 13 => rfl
  | 14 => rfl
  | 15 => rfl
  | 16 => rfl
  | n + 17 => omega
/-- Water, of whose first k cells that which is too much has run over, and how much this is. -/
def oT (dp : Int) (t : Nat → Int) (k i : Nat) : Int := if i < k then (if dp < t i then dp else t i) else t i
def oS (dp : Int) (t : Nat → Int) : Nat → Int
  | 0 => 0
  | k + 1 => oS dp t k + (if dp < t k then t k - dp else 0)
theorem oT_hi {dp : Int} {t : Nat → Int} {k : Nat} (h : dp < t k) : oT dp t (k + 1) = upd (oT dp t k) k dp := by
  funext i
  unfold oT upd
  dsimp only
  by_cases e : i = k
  · subst e; rw [if_pos (by omega), if_pos h, if_pos rfl]
  · rw [if_neg e]
    by_cases e2 : i < k
    · rw [if_pos e2, if_pos (by omega)]
    · rw [if_neg e2, if_neg (by omega)]
theorem oT_lo {dp : Int} {t : Nat → Int} {k : Nat} (h : ¬ dp < t k) : oT dp t (k + 1) = oT dp t k := by
  funext i
  unfold oT
  by_cases e : i = k
  · subst e; rw [if_pos (by omega), if_neg h, if_neg (by omega)]
  · by_cases e2 : i < k
    · rw [if_pos e2, if_pos (by omega)]
    · rw [if_neg e2, if_neg (by omega)]
theorem oS_succ (dp : Int) (t : Nat → Int) (k : Nat) : oS dp t (k + 1) = oS dp t k + (if dp < t k then t k - dp else 0) := rfl
theorem oS_bd {dp B : Int} {t : Nat → Int} (hd : 0 ≤ dp) (ht : ∀ i, i < 17 → 0 ≤ t i ∧ t i ≤ B) : ∀ k : Nat, k ≤ 17 → 0 ≤ oS dp t k ∧ oS dp t k ≤ k * B
  | 0, _ => by unfold oS; simp
  | k + 1, h => by
    have a := oS_bd hd ht k (by omega)
    have b := ht k (by omega)
    have f : ((k + 1 : Nat) : Int) * B = k * B + B := by rw [Int.natCast_add, Int.add_mul]; simp
    rw [f]
    unfold oS
    split <;> omega
/-- Where the water of a cell goes. -/
noncomputable def Gt.nx (g : Gt) (j : Nat) : Nat := if g.to j < 0 then j else (g.to j).toNat
/-- The water that has come from k cells. -/
noncomputable def Gt.nT (g : Gt) (t : Nat → Int) : Nat → Nat → Int
  | 0 => fun _ => 0
  | k + 1 => upd (g.nT t k) (g.nx k) (g.nT t k (g.nx k) + t k)
theorem Gt.nT_bd {g : Gt} {t : Nat → Int} {B : Int} (ht : ∀ i, i < 17 → 0 ≤ t i ∧ t i ≤ B) : ∀ k : Nat, k ≤ 17 → ∀ i, 0 ≤ g.nT t k i ∧ g.nT t k i ≤ k * B
  | 0, _, i => by unfold Gt.nT; simp
  | k + 1, h, i => by
    have a := Gt.nT_bd (g := g) ht k (by omega)
    have b := ht k (by omega)
    have f : ((k + 1 : Nat) : Int) * B = k * B + B := by rw [Int.natCast_add, Int.add_mul]; simp
    rw [f]
    unfold Gt.nT upd
    split
    · have c := a (g.nx k); omega
    · have c := a i; omega
theorem Gt.nx_lt {g : Gt} {j : Nat} (hj : (j : Int) < g.n) : (g.nx j : Int) < g.n := by
  unfold Gt.nx
  split
  · exact hj
  · rcases Gt.to_cases hj with h | ⟨q, hq, hn, _⟩
    · omega
    · rw [hq]; omega
/-- Water behind k pipes, and what they took. -/
def pT (p t : Nat → Int) : Nat → Nat → Int
  | 0 => t
  | q + 1 => fun i => if i = (p (q * 2)).toNat then pT p t q i - minC (pT p t q i) (p (q * 2 + 1)) else pT p t q i
def pS (p t : Nat → Int) : Nat → Int
  | 0 => 0
  | q + 1 => pS p t q + minC (pT p t q (p (q * 2)).toNat) (p (q * 2 + 1))
theorem pT_bd {p t : Nat → Int} {B : Int} (ht : ∀ i, i < 17 → 0 ≤ t i ∧ t i ≤ B) : ∀ q : Nat, (∀ x, x < q → 0 ≤ p (x * 2 + 1)) → ∀ i, i < 17 → 0 ≤ pT p t q i ∧ pT p t q i ≤ B
  | 0, _, i, hi => ht i hi
  | q + 1, h, i, hi => by
    have a := pT_bd ht q (fun x hx => h x (by omega)) i hi
    have b := h q (by omega)
    unfold pT minC
    split
    · split <;> omega
    · exact a
theorem pS_bd {p t : Nat → Int} {B : Int} (ht : ∀ i, i < 17 → 0 ≤ t i ∧ t i ≤ B) : ∀ q : Nat, (∀ x, x < q → 0 ≤ p (x * 2 + 1) ∧ 0 ≤ p (x * 2) ∧ p (x * 2) < 17) → 0 ≤ pS p t q ∧ pS p t q ≤ q * B
  | 0, _ => by unfold pS; simp
  | q + 1, h => by
    have a := pS_bd ht q (fun x hx => h x (by omega))
    obtain ⟨b, c, d⟩ := h q (by omega)
    have e := pT_bd ht q (fun x hx => (h x (by omega)).1) (p (q * 2)).toNat (by omega)
    have f : ((q + 1 : Nat) : Int) * B = q * B + B := by rw [Int.natCast_add, Int.add_mul]; simp
    rw [f]
    unfold pS minC
    split <;> omega

/-- A minute: what the pipes take, the water afterwards, and what runs over. -/
def Gt.minS (g : Gt) (t r : Nat → Int) (n : Nat) : Int := pS g.p (rnT t r n) g.m
noncomputable def Gt.minN (g : Gt) (t r : Nat → Int) (n : Nat) : Nat → Int := g.nT (pT g.p (rnT t r n) g.m) g.n.toNat
noncomputable def Gt.minT (g : Gt) (t r : Nat → Int) (n : Nat) : Nat → Int := oT g.d (g.minN t r n) g.n.toNat
noncomputable def Gt.minO (g : Gt) (t r : Nat → Int) (n : Nat) : Int := oS g.d (g.minN t r n) g.n.toNat
/-- Nothing below B has changed for whatever B below a row that is written and the heap's end. -/
def LeB (kw : Nat) (w W : World) : Prop := w.heap.size ≤ W.heap.size ∧ ∀ B, B ≤ kw → B ≤ w.heap.size → Below B w W
theorem LeB.refl (kw : Nat) (w : World) : LeB kw w w := ⟨Nat.le_refl _, fun _ _ _ => Below.refl _ _⟩
theorem LeB.setC {kw : Nat} {w W : World} (h : LeB kw w W) {p : Addr} (u : Value) (hp : p.block = kw ∨ w.heap.size ≤ p.block) : LeB kw w (W.setCell p u) :=
  ⟨by simpa using h.1, fun B b1 b2 => (h.2 B b1 b2).setCell (by omega) _⟩
theorem LeB.setR {kw : Nat} {w W : World} (h : LeB kw w W) (c : Array Value) : LeB kw w (W.setRow kw c) := ⟨by simpa using h.1, fun B b1 b2 => below_setRow (h.2 B b1 b2) b1 _⟩
theorem LeB.drew {kw : Nat} {w W : World} (h : LeB kw w W) : LeB kw w W.drew := ⟨h.1, fun B b1 b2 => (h.2 B b1 b2).drew⟩
theorem LeB.drewN {kw : Nat} {w W : World} (h : LeB kw w W) (n : Nat) : LeB kw w (W.drewN n) := ⟨h.1, fun B b1 b2 => below_drewN (h.2 B b1 b2) _⟩
theorem LeB.alloc {kw : Nat} {w W : World} (h : LeB kw w W) (o : Obj) : LeB kw w (W.alloc o) := ⟨by have := h.1; simp; omega, fun B b1 b2 => (h.2 B b1 b2).alloc (Nat.le_trans b2 h.1) _⟩
theorem LeB.bel {kw : Nat} {w W X : World} (h : LeB kw w W) (b : Below W.heap.size W X) : LeB kw w X := ⟨Nat.le_trans h.1 b.size, fun B b1 b2 => (h.2 B b1 b2).trans (b.mono (Nat.le_trans b2 h.1))⟩

set_option maxRecDepth 100000 in
set_option maxHeartbeats 4000000 in
theorem l06Minute_1 (k b kw br n : Nat) (c d : Array Value) (g : Gt) (t r : Nat → Int) (v u : Value) (w : World) (hA : GutAt w k c g v b) (hR : rowAt w kw = some d) (hD : IsK .i32 d 17 t) (hr : IsList w br u 1 n (fun i => .int .i64 (r i)))
    (hn : n ≤ 17) (ht : ∀ i, i < 17 → 0 ≤ t i ∧ t i ≤ 1000) (hrb : ∀ i, i < n → 0 ≤ r i ∧ r i ≤ 1000) (hk : k ≠ kw) (huk : 0 < n → ∀ gb cap, u = .slice (some ⟨gb, 0, none⟩) n cap → gb ≠ kw) (hvk : 0 < g.m → ∀ gb cap, v = .slice (some ⟨gb, 0, none⟩) g.m cap → gb ≠ kw) (hok : g.Ok) (hm : g.m ≤ 2000000) :
    Calls Try.prog 49 #[.pointer (some ⟨k, 0, none⟩), .pointer (some ⟨kw, 0, none⟩), u] w fun e w' => e = .returned (.tuple #[.int .i64 (g.minS t r n), .int .i64 (g.minO t r n)]) ∧ (∃ cur, rowAt w' kw = some cur ∧ IsK .i32 cur 17 (g.minT t r n)) ∧ (∀ gb, gb ≠ kw → gb < w.heap.size → rowAt w' gb = rowAt w gb) ∧ LeB kw w w' := by
  have HL := Lib.hid hr
  have lt := rowAt_lt hR
  obtain ⟨a, cap, rfl⟩ := hr.shape
  obtain ⟨pa, pc, rfl⟩ := hA.pipes.shape
  have HT := Lib.hid ht
  have HRB := Lib.hid hrb
  clear hr ht hrb
  go_enter Try.func49, Try.ntmps49
  go_wp2_with fail
  go_loopw [8] (fun i W => ∃ (j : Nat) (cur : Array Value), j ≤ n ∧ i = .int .i64 j ∧ rowAt W kw = some cur ∧ Hid (IsK .i32 cur 17 (rnT t r j)) ∧ Hid (∀ gb, gb ≠ kw → gb < w.heap.size → rowAt W gb = rowAt w gb) ∧ LeB kw w W) (fun i _ => n - (intOf i).toNat)
  case atStart => exact ⟨0, d, by omega, rfl, hR, Lib.hid hD, Lib.hid (fun _ _ _ => rfl), LeB.refl _ _⟩
  case round =>
    obtain ⟨j, cur, hj, rfl, hr, hI, hO, hsz⟩ := hrel
    have hLB := Lib.hid hsz
    replace hsz := hsz.1
    by_cases hlt : j < n
    · obtain ⟨g', rfl, c0⟩ : ∃ g', a = some ⟨g', 0, none⟩ ∧ wr.cell? ⟨g', j, none⟩ = some (.int .i64 (r j)) := by
        rcases HL.out with ⟨h0, _⟩ | ⟨g', cap', cur', e, hg, hr', hs', hf'⟩
        · omega
        · cases e
          have lg := rowAt_lt hr'
          exact ⟨g', rfl, by rw [cell_of_rowAt ((hO.out g' (huk (by omega) g' _ rfl) lg).trans hr')]; exact hf' _ (by omega)⟩
      have j0 : 0 ≤ (j : Int) := by omega
      have j1 : (j : Int) < n := by omega
      have j17 : (j : Int) < 17 := by omega
      have d0 : wr.cell? ⟨kw, j, none⟩ = some (.int .i32 (rnT t r j j)) := by rw [cell_of_rowAt hr]; exact hI.out.get (by omega)
      have fr := frozen_of_rowAt hr
      have lk := rowAt_lt hr
      have tb := HT.out j (by omega)
      have rb := HRB.out j hlt
      have e0 : rnT t r j j = t j := if_neg (by omega)
      have x0 : IntKind.i32.wrap (r j) = r j := IntWalk.i32_in _ (by omega)
      have x1 : IntKind.i32.wrap (rnT t r j j + r j) = rnT t r j j + r j := IntWalk.i32_in _ (by omega)
      have HE := Lib.hid e0
      have nx := Lib.hid (show IsK .i32 (cur.setIfInBounds j (.int .i32 (rnT t r j j + r j))) 17 (rnT t r (j + 1)) by rw [← rnT_succ]; exact hI.out.set j _)
      have HRR := Lib.hid hr
      clear e0
      generalize rnT t r j j = tj at *
      generalize r j = rj at *
      go_wp2_with fail
      go_still_tail 13, (by kernel_rfl)
      change wpList _ _ _ _ _ wr.drew
      repeat go_step
      have R3 := rowAt_setCell_at wr kw j (.int .i32 (tj + rj)) (by rw [HRR.out]; rfl)
      rw [HRR.out, Option.getD_some] at R3
      refine ⟨⟨j + 1, _, by omega, by go_num, R3, nx, Lib.hid fun gb h1 h2 => (rowAt_setCell_ne _ _ _ _ _ h1).trans (hO.out gb h1 h2), by first | exact hLB.out.setC _ (.inl rfl) | exact hLB.out.drew.setC _ (.inl rfl)⟩, by simp [intOf]; omega⟩
    · obtain rfl : j = n := by omega
      have HT2 := Lib.hid (show ∀ i, i < 17 → 0 ≤ rnT t r j i ∧ rnT t r j i ≤ 2000 from fun i hi => by
        have a := HT.out i hi
        unfold rnT
        split
        · rename_i h; have b := HRB.out i h; omega
        · omega)
      go_wp2_with fail
      obtain ⟨T, hTT⟩ : ∃ T, T = rnT t r j := ⟨_, rfl⟩
      rw [← hTT] at hI HT2
      have hO0 := hO
      have hsz0 := hLB.out
      clear hO hsz
      go_loopw [9, 10, 11, 12] (fun s i _ _ W => ∃ (q : Nat) (cur : Array Value), q ≤ g.m ∧ i = .int .i64 q ∧ s = .int .i64 (pS g.p T q) ∧ rowAt W kw = some cur ∧ Hid (IsK .i32 cur 17 (pT g.p T q)) ∧ Hid (∀ gb, gb ≠ kw → gb < w.heap.size → rowAt W gb = rowAt w gb) ∧ LeB kw w W) (fun _ i _ _ _ => g.m - (intOf i).toNat)
      case atStart => exact ⟨0, cur, by omega, rfl, rfl, hr, hI, hO0, hsz0⟩
      case round =>
        clear hr hI
        obtain ⟨q, cur, hq, rfl, rfl, hr, hI, hO, hsz⟩ := hrel
        have hLB := Lib.hid hsz
        replace hsz := hsz.1
        have rk : rowAt wr k = some c := (hO.out k hk (hA.lt)).trans hA.row
        have z20 : wr.cell? ⟨k, 20, none⟩ = some (.slice pa g.m pc) := by rw [cell_of_rowAt rk]; exact hA.is.getP
        have lk := rowAt_lt rk
        by_cases hlt : q < g.m
        · obtain ⟨g2, rfl, c0, c1⟩ : ∃ g2, pa = some ⟨g2, 0, none⟩ ∧ wr.cell? ⟨g2, q * 2, none⟩ = some (.int .i8 (g.p (q * 2))) ∧ wr.cell? ⟨g2, q * 2 + 1, none⟩ = some (.int .i16 (g.p (q * 2 + 1))) := by
            rcases hA.pipes with ⟨h0, _⟩ | ⟨g', cap', cur', e, hg, hr', hs', hf'⟩
            · omega
            · cases e
              have lg := rowAt_lt hr'
              have rr := (hO.out g' (hvk (by omega) g' _ rfl) lg).trans hr'
              exact ⟨g', rfl, by rw [cell_of_rowAt rr, hf' _ (by omega), pipeV_0], by rw [cell_of_rowAt rr, hf' _ (by omega), pipeV_1]⟩
          have hp := hok.ps q hlt
          have hp0 := hp.1
          have hp1 := hp.2.1
          have hp2 := hp.2.2.1
          have hp3 := hp.2.2.2.1
          have h17 := hok.n17
          have q0 : 0 ≤ (q : Int) := by omega
          have q1 : (q : Int) < g.m := by omega
          obtain ⟨P, hP⟩ := Int.eq_ofNat_of_zero_le hp0
          have hP17 : P < 17 := by omega
          have d0 : wr.cell? ⟨kw, P, none⟩ = some (.int .i32 (pT g.p T q P)) := by rw [cell_of_rowAt hr]; exact hI.out.get hP17
          have hPt : (g.p (q * 2)).toNat = P := by omega
          have tb := pT_bd HT2.out q (fun x hx => (hok.ps x (by omega)).2.2.1) P hP17
          have X1 := Lib.hid (show pT g.p T (q + 1) = upd (pT g.p T q) P (pT g.p T q P - minC (pT g.p T q P) (g.p (q * 2 + 1))) by
            funext i
            show (if i = (g.p (q * 2)).toNat then _ else _) = _
            rw [hPt]; unfold upd
            by_cases e : i = P
            · rw [if_pos e, if_pos e, e]
            · rw [if_neg e, if_neg e])
          have X2 := Lib.hid (show pS g.p T (q + 1) = pS g.p T q + minC (pT g.p T q P) (g.p (q * 2 + 1)) by rw [pS, hPt])
          have sb := pS_bd HT2.out q (fun x hx => ⟨(hok.ps x (by omega)).2.2.1, (hok.ps x (by omega)).1, by have := (hok.ps x (by omega)).2.1; omega⟩)
          have lkw := rowAt_lt hr
          have fr := frozen_of_rowAt hr
          have nx := Lib.hid (show IsK .i32 (cur.setIfInBounds P (.int .i32 (pT g.p T q P - minC (pT g.p T q P) (g.p (q * 2 + 1))))) 17 (pT g.p T (q + 1)) by rw [X1.out]; exact hI.out.set P _)
          have HRR := Lib.hid hr
          have HOK := Lib.hid hok
          have HAA := Lib.hid hA
          have m4 := hok.m4
          rw [hP] at c0
          generalize g.p (q * 2 + 1) = takes at *
          generalize pT g.p T q P = tP at *
          clear hp hok hA rk hP hp0 hp1 hPt
          go_wp2_with fail
          refine gen_world fun V hV => ?_
          have y0 : V.cell? ⟨wr.heap.size, 0, none⟩ = some (.int .i8 (P : Int)) := by rw [hV]; simp [go_sem]
          have y1 : V.cell? ⟨wr.heap.size, 1, none⟩ = some (.int .i16 takes) := by rw [hV]; simp [go_sem]
          have rV : rowAt V kw = some cur := by rw [hV]; exact (rowAt_alloc_past _ _ _ lkw).trans hr
          have dV : V.cell? ⟨kw, P, none⟩ = some (.int .i32 tP) := by rw [cell_of_rowAt rV, ← cell_of_rowAt hr]; exact d0
          have lV : w.heap.size ≤ V.heap.size := by rw [hV]; simp; omega
          have OV := Lib.hid (show ∀ gb, gb ≠ kw → gb < w.heap.size → rowAt V gb = rowAt w gb by rw [hV]; exact fun gb h1 h2 => (rowAt_alloc_past _ _ _ (by omega)).trans (hO.out gb h1 h2))
          have fV := frozen_of_rowAt rV
          have nV : wr.heap.size ≠ kw := by omega
          have lkV := rowAt_lt rV
          have P0 : 0 ≤ (P : Int) := by omega
          have P1 : (P : Int) < 17 := by omega
          have RV := Lib.hid rV
          have LV := Lib.hid lV
          have LVB := Lib.hid (show LeB kw w V by rw [hV]; first | exact hLB.out.alloc _ | (simp only [go_sem]; exact hLB.out.alloc _))
          clear hV c0 c1 d0 fr hr hO hsz lV
          go_quiet ((go_at_call 84; exact Calls.quiet_of_same ((l00MinS_any _ _ _).mono fun _ _ h => ⟨h.1, h.2.symm⟩)))
          have hmc : (if takes < tP then takes else tP) = minC tP takes := rfl
          rw [hmc]
          have mb : 0 ≤ minC tP takes ∧ minC tP takes ≤ tP := by unfold minC; split <;> omega
          have mb0 := mb.1
          have mb1 := mb.2
          have w1 : IntKind.i32.wrap (minC tP takes) = minC tP takes := IntWalk.i32_in _ (by omega)
          have w2 : IntKind.i32.wrap (tP - minC tP takes) = tP - minC tP takes := IntWalk.i32_in _ (by omega)
          have RV2 := Lib.hid (show rowAt (V.drewN nq) kw = some cur from RV.out)
          have OV2 := Lib.hid (show ∀ gb, gb ≠ kw → gb < w.heap.size → rowAt (V.drewN nq) gb = rowAt w gb from OV.out)
          have LV2 := Lib.hid (show w.heap.size ≤ (V.drewN nq).heap.size from LV.out)
          have LB2 := Lib.hid (show LeB kw w (V.drewN nq) from LVB.out.drewN nq)
          have a0 : (V.drewN nq).cell? ⟨wr.heap.size, 0, none⟩ = some (.int .i8 (P : Int)) := y0
          have a1 : (V.drewN nq).cell? ⟨kw, P, none⟩ = some (.int .i32 tP) := dV
          have aF : ∀ i, (V.drewN nq).frozen? ⟨kw, i, none⟩ = false := fV
          have aL : kw < (V.drewN nq).heap.size := lkV
          have ps0 : -9223372036854775808 ≤ pS g.p T q + minC tP takes ∧ pS g.p T q + minC tP takes ≤ 9223372036854775807 := by
            have : (q : Int) * 2000 ≤ 8000 := by omega
            omega
          generalize V.drewN nq = V2 at *
          generalize minC tP takes = mk at *
          generalize pS g.p T q = s0 at *
          clear y0 y1 rV dV fV lkV RV OV LV hmc mb
          go_wp2_with fail
          go_still_tail 11, (by kernel_rfl)
          change wpList _ _ _ _ _ V2.drew
          repeat go_step
          have R3 := rowAt_setCell_at V2 kw P (.int .i32 (tP - mk)) (by rw [RV2.out]; rfl)
          rw [RV2.out, Option.getD_some] at R3
          refine ⟨⟨q + 1, _, by omega, by go_num, by rw [X2.out], R3, nx, Lib.hid fun gb h1 h2 => (rowAt_setCell_ne _ _ _ _ _ h1).trans (OV2.out gb h1 h2), by first | exact LB2.out.setC _ (.inl rfl) | exact LB2.out.drew.setC _ (.inl rfl)⟩, by simp [intOf]; omega⟩
        · obtain rfl : q = g.m := by omega
          have HT3 := Lib.hid (pT_bd HT2.out g.m (fun x hx => (hok.ps x (by omega)).2.2.1))
          generalize hT3e : pT g.p T g.m = T3 at *
          generalize hS3e : pS g.p T g.m = s3 at *
          replace hT3e := Lib.hid hT3e
          replace hS3e := Lib.hid hS3e
          obtain ⟨N, hN⟩ := Int.eq_ofNat_of_zero_le (show 0 ≤ g.n by have := hok.n1; omega)
          have hN17 : N ≤ 17 := by have := hok.n17; omega
          have hzo := zeroW_is.ones
          unfold zeroW at hzo
          go_wp2_with fail
          have HR3 := Lib.hid hr
          have W3B := Lib.hid hsz
          have lkw := rowAt_lt hr
          obtain ⟨V, hV⟩ : ∃ V, V = wr.alloc (.cells zeroW 32) := ⟨_, rfl⟩
          have v1 : rowAt V kw = some cur := by rw [hV]; exact (rowAt_alloc_past _ _ _ lkw).trans hr
          have v2 : rowAt V wr.heap.size = some zeroW := by rw [hV]; exact rowAt_alloc_at _ _ _ _ rfl
          have v3 := Lib.hid (show ∀ gb, gb ≠ kw → gb < w.heap.size → rowAt V gb = rowAt w gb by rw [hV]; exact fun gb h1 h2 => (rowAt_alloc_past _ _ _ (by omega)).trans (hO.out gb h1 h2))
          have v4 : LeB kw w V := by rw [hV]; exact hLB.out.alloc _
          have nk : kw ≠ wr.heap.size := by omega
          have nw := Lib.hid (show w.heap.size ≤ wr.heap.size from hsz)
          unfold zeroW at hV
          rw [← hV]
          clear hV hr hO hsz lkw rk z20
          generalize wr.heap.size = NB at *
          go_loopw [14, 15] (fun i _ W => ∃ (x : Nat) (nx : Array Value), x ≤ N ∧ i = .int .i64 x ∧ rowAt W NB = some nx ∧ Hid (IsK .i32 nx 17 (g.nT T3 x)) ∧ rowAt W kw = some cur ∧ Hid (∀ gb, gb ≠ kw → gb < w.heap.size → rowAt W gb = rowAt w gb) ∧ LeB kw w W) (fun i _ _ => N - (intOf i).toNat)
          case atStart => exact ⟨0, zeroW, by omega, rfl, v2, Lib.hid zeroW_is, v1, v3, v4⟩
          case round =>
            clear v1 v2 v3 v4
            obtain ⟨x, nx, hx, rfl, hr, hX, hc1, hO, hsz⟩ := hrel
            have hLB := Lib.hid hsz
            replace hsz := hsz.1
            have rk : rowAt wr k = some c := (hO.out k hk hA.lt).trans hA.row
            have z0 : wr.cell? ⟨k, 0, none⟩ = some (.int .i8 (N : Int)) := by rw [cell_of_rowAt rk, ← hN]; exact hA.is.get0
            have lk := rowAt_lt rk
            by_cases hlt : x < N
            · have GA : GutAt wr k c g (.slice pa g.m pc) b := ⟨rk, hA.is, by
                rcases Nat.eq_zero_or_pos g.m with h0 | h0
                · exact .inl ⟨h0, pa, pc, by rw [h0]⟩
                · rcases hA.pipes with h | ⟨g', cap', cur', e, hg, hr', hs', hf'⟩
                  · exact .inl h
                  · exact .inr ⟨g', cap', cur', e, hg, (hO.out g' (hvk h0 g' _ (by rw [e])) (rowAt_lt hr')).trans hr', hs', hf'⟩⟩
              have CT := l06To_any k b c g (.slice pa g.m pc) x wr GA (by omega) (by omega) hm
              have x0 : 0 ≤ (x : Int) := by omega
              have x1 : (x : Int) < N := by omega
              have x17 : (x : Int) < 17 := by omega
              have ny := Gt.nx_lt (g := g) (j := x) (by omega)
              have nyN : g.nx x < 17 := by omega
              have nb := Gt.nT_bd (g := g) (t := T3) HT3.out x (by omega) (g.nx x)
              have tb := HT3.out x (by omega)
              have HXX := Lib.hid (show IsK .i32 (nx.setIfInBounds (g.nx x) (.int .i32 (g.nT T3 x (g.nx x) + T3 x))) 17 (g.nT T3 (x + 1)) from hX.out.set _ _)
              have HTV := Lib.hid (show (if g.to x < 0 then (x : Int) else g.to x) = (g.nx x : Int) by
                unfold Gt.nx
                split
                · rfl
                · omega)
              have hc2 := hX.out.get nyN
              have hc3 := hI.out.get (show x < 17 by omega)
              have nb17 : g.nT T3 x (g.nx x) ≤ 34000 := by
                have : (x : Int) * 2000 ≤ 34000 := by omega
                omega
              have nb0 := nb.1
              by_cases hto : g.to x < 0
              · have hYx : g.nx x = x := if_pos hto
                rw [hYx] at HXX hc2 nb17 nb0 nyN
                have hd : decide (g.to x < 0) = true := by simpa using hto
                clear nb hYx ny HTV
                generalize g.to x = tx at *
                go_wp2_with fail
                refine CT.mono ?_
                rintro e w5 ⟨rfl, b5⟩
                have R5 := brow b5 hr
                have K5 := brow b5 hc1
                have O5 := Lib.hid (show ∀ gb, gb ≠ kw → gb < w.heap.size → rowAt w5 gb = rowAt w gb from fun gb h1 h2 => (rowAt_below b5 gb (by omega)).trans (hO.out gb h1 h2))
                have S5 := Lib.hid (show LeB kw w w5 from hLB.out.bel b5)
                have c2 : w5.cell? ⟨NB, x, none⟩ = some (.int .i32 (g.nT T3 x x)) := by rw [cell_of_rowAt R5]; exact hc2
                have c3 : w5.cell? ⟨kw, x, none⟩ = some (.int .i32 (T3 x)) := by rw [cell_of_rowAt K5]; exact hc3
                have f5 := frozen_of_rowAt R5
                have l5 := rowAt_lt R5
                have l6 := rowAt_lt K5
                have HR5 := Lib.hid R5
                have HK5 := Lib.hid K5
                have wr1 : IntKind.i32.wrap (g.nT T3 x x + T3 x) = g.nT T3 x x + T3 x := IntWalk.i32_in _ (by omega)
                clear b5 hr hc1 hO hsz CT GA R5 K5 hc2 hc3 rk z0
                generalize g.nT T3 x x = nv at *
                generalize T3 x = tv at *
                go_wp2_with fail
                go_still_tail 10, (by kernel_rfl)
                change wpList _ _ _ _ _ w5.drew
                repeat go_step
                have R9 := rowAt_setCell_at w5 NB x (.int .i32 (nv + tv)) (by rw [HR5.out]; rfl)
                rw [HR5.out, Option.getD_some] at R9
                have hnw := nw.out
                refine ⟨⟨x + 1, _, by omega, by go_num, R9, HXX, (rowAt_setCell_ne _ _ _ _ _ nk).trans HK5.out, Lib.hid fun gb h1 h2 => (rowAt_setCell_ne _ _ _ _ _ (by omega)).trans (O5.out gb h1 h2), by first | exact S5.out.setC _ (.inr hnw) | exact S5.out.drew.setC _ (.inr hnw)⟩, by simp [intOf]; omega⟩
              · obtain ⟨Y, hY⟩ := Int.eq_ofNat_of_zero_le (show 0 ≤ g.to x by omega)
                have hYx : g.nx x = Y := by unfold Gt.nx; rw [if_neg hto]; omega
                rw [hYx] at HXX hc2 nb17 nb0 nyN
                have hd : decide ((Y : Int) < 0) = false := by simp
                have Y0 : 0 ≤ (Y : Int) := by omega
                have Y17 : (Y : Int) < 17 := by omega
                rw [hY] at CT
                clear nb hYx ny HTV hto hY
                go_wp2_with fail
                refine CT.mono ?_
                rintro e w5 ⟨rfl, b5⟩
                have R5 := brow b5 hr
                have K5 := brow b5 hc1
                have O5 := Lib.hid (show ∀ gb, gb ≠ kw → gb < w.heap.size → rowAt w5 gb = rowAt w gb from fun gb h1 h2 => (rowAt_below b5 gb (by omega)).trans (hO.out gb h1 h2))
                have S5 := Lib.hid (show LeB kw w w5 from hLB.out.bel b5)
                have c2 : w5.cell? ⟨NB, Y, none⟩ = some (.int .i32 (g.nT T3 x Y)) := by rw [cell_of_rowAt R5]; exact hc2
                have c3 : w5.cell? ⟨kw, x, none⟩ = some (.int .i32 (T3 x)) := by rw [cell_of_rowAt K5]; exact hc3
                have f5 := frozen_of_rowAt R5
                have l5 := rowAt_lt R5
                have l6 := rowAt_lt K5
                have HR5 := Lib.hid R5
                have HK5 := Lib.hid K5
                have wr1 : IntKind.i32.wrap (g.nT T3 x Y + T3 x) = g.nT T3 x Y + T3 x := IntWalk.i32_in _ (by omega)
                clear b5 hr hc1 hO hsz CT GA R5 K5 hc2 hc3 rk z0
                generalize g.nT T3 x Y = nv at *
                generalize T3 x = tv at *
                go_wp2_with fail
                go_still_tail 10, (by kernel_rfl)
                change wpList _ _ _ _ _ w5.drew
                repeat go_step
                have R9 := rowAt_setCell_at w5 NB Y (.int .i32 (nv + tv)) (by rw [HR5.out]; rfl)
                rw [HR5.out, Option.getD_some] at R9
                have hnw := nw.out
                refine ⟨⟨x + 1, _, by omega, by go_num, R9, HXX, (rowAt_setCell_ne _ _ _ _ _ nk).trans HK5.out, Lib.hid fun gb h1 h2 => (rowAt_setCell_ne _ _ _ _ _ (by omega)).trans (O5.out gb h1 h2), by first | exact S5.out.setC _ (.inr hnw) | exact S5.out.drew.setC _ (.inr hnw)⟩, by simp [intOf]; omega⟩
            · obtain rfl : x = N := by omega
              have HT5 := Lib.hid (show ∀ i, i < 17 → 0 ≤ g.nT T3 x i ∧ g.nT T3 x i ≤ 34000 from fun i hi => by
                have a := Gt.nT_bd (g := g) (t := T3) HT3.out x (by omega) i
                have : (x : Int) * 2000 ≤ 34000 := by omega
                omega)
              obtain ⟨T4, hT4⟩ : ∃ T4, T4 = g.nT T3 x := ⟨_, rfl⟩
              rw [← hT4] at hX HT5
              have HNX := Lib.hid (show ∀ i, x ≤ i → True from fun _ _ => trivial)
              have dp0 := hok.d0
              have dp1 := hok.d1
              have hO0 := hO
              have hsz0 := hLB.out
              have hc0 := hc1
              clear hO hsz HNX
              go_wp2_with fail
              clear rk z0 lk hc1
              go_loopw [16, 17, 18] (fun s i _ W => ∃ (y : Nat) (nx : Array Value), y ≤ x ∧ i = .int .i64 y ∧ s = .int .i64 (oS g.d T4 y) ∧ rowAt W NB = some nx ∧ Hid (IsK .i32 nx 17 (oT g.d T4 y)) ∧ rowAt W kw = some cur ∧ Hid (∀ gb, gb ≠ kw → gb < w.heap.size → rowAt W gb = rowAt w gb) ∧ LeB kw w W) (fun _ i _ _ => x - (intOf i).toNat)
              case atStart => exact ⟨0, nx, by omega, rfl, rfl, hr, hX, hc0, hO0, hsz0⟩
              case round =>
                clear hr hX hc0 hO0 hsz0
                obtain ⟨y, nx, hy, rfl, rfl, hr, hX, hc1, hO, hsz⟩ := hrel
                have hLB := Lib.hid hsz
                replace hsz := hsz.1
                have rk : rowAt wr k = some c := (hO.out k hk hA.lt).trans hA.row
                have z0 : wr.cell? ⟨k, 0, none⟩ = some (.int .i8 (x : Int)) := by rw [cell_of_rowAt rk, ← hN]; exact hA.is.get0
                have z1 : wr.cell? ⟨k, 1, none⟩ = some (.int .i16 g.d) := by rw [cell_of_rowAt rk]; exact hA.is.get1
                have lk := rowAt_lt rk
                by_cases hlt : y < x
                · have tb := HT5.out y (by omega)
                  have tb0 := tb.1
                  have tb1 := tb.2
                  have sb := oS_bd (dp := g.d) (t := T4) dp0 HT5.out y (by omega)
                  have sb0 := sb.1
                  have sb1 : oS g.d T4 y ≤ 578000 := by
                    have : (y : Int) * 34000 ≤ 578000 := by omega
                    omega
                  have e0 : oT g.d T4 y y = T4 y := if_neg (by omega)
                  have d0 : wr.cell? ⟨NB, y, none⟩ = some (.int .i32 (T4 y)) := by rw [cell_of_rowAt hr, hX.out.get (by omega), e0]
                  have y0 : 0 ≤ (y : Int) := by omega
                  have y1 : (y : Int) < x := by omega
                  have y17 : (y : Int) < 17 := by omega
                  have fr := frozen_of_rowAt hr
                  have ln := rowAt_lt hr
                  have HRR := Lib.hid hr
                  have HC1 := Lib.hid hc1
                  have HOO := Lib.hid hO.out
                  have HSZ := hLB
                  have hnw := nw.out
                  by_cases hdp : g.d < T4 y
                  · have hd : decide (g.d < T4 y) = true := by simpa using hdp
                    have HXX := Lib.hid (show IsK .i32 (nx.setIfInBounds y (.int .i32 g.d)) 17 (oT g.d T4 (y + 1)) by rw [oT_hi hdp]; exact hX.out.set _ _)
                    have HS := Lib.hid (show oS g.d T4 (y + 1) = oS g.d T4 y + (T4 y - g.d) by rw [oS_succ, if_pos hdp])
                    clear e0 sb tb rk hr hc1 hO hsz hX
                    generalize oS g.d T4 y = sv at *
                    generalize T4 y = tv at *
                    go_wp2_with fail
                    go_quiet (fail)
                    go_wp2_with fail
                    have R9 := rowAt_setCell_at (wr.drewN nq) NB y (.int .i32 g.d) (by rw [show rowAt (wr.drewN nq) NB = some nx from HRR.out]; rfl)
                    rw [show rowAt (wr.drewN nq) NB = some nx from HRR.out, Option.getD_some] at R9
                    refine ⟨⟨y + 1, _, by omega, by go_num, by rw [HS.out], R9, HXX, (rowAt_setCell_ne _ _ _ _ _ nk).trans HC1.out, Lib.hid fun gb h1 h2 => (rowAt_setCell_ne _ _ _ _ _ (by omega)).trans (HOO.out gb h1 h2), by first | exact HSZ.out.setC _ (.inr hnw) | exact (HSZ.out.drewN nq).setC _ (.inr hnw)⟩, by simp [intOf]; omega⟩
                  · have hd : decide (g.d < T4 y) = false := by simpa using hdp
                    have hle : T4 y ≤ g.d := by omega
                    have HXX := Lib.hid (show IsK .i32 nx 17 (oT g.d T4 (y + 1)) by rw [oT_lo hdp]; exact hX.out)
                    have HS := Lib.hid (show oS g.d T4 (y + 1) = oS g.d T4 y by rw [oS_succ, if_neg hdp, Int.add_zero])
                    clear e0 sb tb rk hr hc1 hO hsz hX hdp
                    generalize oS g.d T4 y = sv at *
                    generalize T4 y = tv at *
                    go_wp2_with fail
                    go_quiet (fail)
                    go_wp2_with fail
                    refine ⟨⟨y + 1, nx, by omega, by go_num, by rw [HS.out], HRR.out, HXX, HC1.out, Lib.hid HOO.out, by first | exact HSZ.out | exact HSZ.out.drewN nq⟩, by simp [intOf]; omega⟩
                · obtain rfl : y = x := by omega
                  have xs := hX.out.size
                  have xo := hX.out.ones
                  have cs := hI.out.size
                  have lkw := rowAt_lt hc1
                  have ln := rowAt_lt hr
                  have HC1 := Lib.hid hc1
                  have HOO := Lib.hid hO.out
                  have HSZ := hLB
                  have hyN : g.n.toNat = y := by rw [hN]; rfl
                  clear hsz
                  have es : g.minS t r j = s3 := by unfold Gt.minS; rw [← hTT]; exact hS3e.out
                  have eT4 : g.minN t r j = T4 := by unfold Gt.minN; rw [← hTT, hT3e.out, hyN]; exact hT4.symm
                  have eo : g.minO t r j = oS g.d T4 y := by unfold Gt.minO; rw [eT4, hyN]
                  have et : g.minT t r j = oT g.d T4 y := by unfold Gt.minT; rw [eT4, hyN]
                  have ES := Lib.hid es
                  have EO := Lib.hid eo
                  have ET := Lib.hid et
                  clear es eT4 eo et
                  go_wp2_with fail
                  go_ret2
                  refine ⟨by rw [ES.out, EO.out]; rfl, ⟨nx, rowAt_setRow_at _ _ _ (by rw [HC1.out]; rfl), by rw [ET.out]; exact hX.out⟩, fun gb h1 h2 => (rowAt_setRow_ne _ _ _ _ h1).trans (HOO.out gb h1 h2), by first | exact HSZ.out.setR _ | exact HSZ.out.drew.setR _⟩
end Go.Proofs.Ytfdoehakpeddnaa
