/- Gutters as plain mathematics; their types; what came in. -/
import Derived.Test.YtcdddngdjhjdbaaLsPp
import Derived.Test.YtcdddngdjhjdbaaRain
namespace Go.Proofs.Ytcdddngdjhjdbaa
open Go.RowKit Go.ChangeShapes Go.WideShapes

@[go_sem ↓] theorem loadAt_lgut (v : Value) : Instr.loadAt 50 v = loadWhole 50 v := rfl
@[go_sem ↓] theorem storeAt_lgut (a v : Value) : Instr.storeAt 50 a v = storeWhole 50 a v := rfl
@[go_sem] theorem load_lgut (w : World) (n o : Nat) : (loadWhole 50 (.pointer (some ⟨n, o, none⟩))).run Try.prog w = rowLoad Try.prog 50 21 n o w (rowAt w n) := run_load_by Try.underlying50 rfl (by kernel_rfl) w n o
@[go_sem] theorem store_lgut (vs : Array Value) (w : World) (n o : Nat) : (storeWhole 50 (.pointer (some ⟨n, o, none⟩)) (.agg vs)).run Try.prog w = rowStore Try.prog 50 21 n o vs w (rowAt w n) := run_store_by (by kernel_rfl) vs w n o
@[go_sem ↓] theorem loadAt_gut (v : Value) : Instr.loadAt 54 v = loadWhole 54 v := rfl
@[go_sem ↓] theorem storeAt_gut (a v : Value) : Instr.storeAt 54 a v = storeWhole 54 a v := rfl
@[go_sem] theorem load_gut (w : World) (n o : Nat) : (loadWhole 54 (.pointer (some ⟨n, o, none⟩))).run Try.prog w = rowLoad Try.prog 54 21 n o w (rowAt w n) := run_load_by Try.underlying54 rfl (by kernel_rfl) w n o
@[go_sem] theorem store_gut (vs : Array Value) (w : World) (n o : Nat) : (storeWhole 54 (.pointer (some ⟨n, o, none⟩)) (.agg vs)).run Try.prog w = rowStore Try.prog 54 21 n o vs w (rowAt w n) := run_store_by (by kernel_rfl) vs w n o
@[go_sem ↓] theorem loadAt_h17 (v : Value) : Instr.loadAt 46 v = loadWhole 46 v := rfl
@[go_sem ↓] theorem storeAt_h17 (a v : Value) : Instr.storeAt 46 a v = storeWhole 46 a v := rfl
@[go_sem] theorem load_h17 (w : World) (n o : Nat) : (loadWhole 46 (.pointer (some ⟨n, o, none⟩))).run Try.prog w = rowLoad Try.prog 46 17 n o w (rowAt w n) := run_load_by Try.underlying46 rfl (by kernel_rfl) w n o
@[go_sem] theorem store_h17 (vs : Array Value) (w : World) (n o : Nat) : (storeWhole 46 (.pointer (some ⟨n, o, none⟩)) (.agg vs)).run Try.prog w = rowStore Try.prog 46 17 n o vs w (rowAt w n) := run_store_by (by kernel_rfl) vs w n o
@[go_sem ↓] theorem index_h17 (v i : Value) : Instr.index 46 v i = indexWhole 46 v i := rfl
@[go_sem] theorem run_index_h17 (cs : Array Value) (w : World) (i : Int) (h0 : 0 ≤ i) (h1 : i < (17 : Nat)) (hm : cs.size = 17) :
    (indexWhole 46 (.agg cs) (.int .i64 i)).run Try.prog w = .ok (cs[i.toNat]'(by omega)) w := run_index_int Try.underlying46 Try.underlying29 (by kernel_rfl) cs w i h0 h1 hm
/-- A gutter: cells, deep, heights, leaves, pipes. -/
structure Gt where
  n : Int
  d : Int
  h : Nat → Int
  l : Int
  m : Nat
  p : Nat → Int

/-- The cells of a gutter, whose list of pipes is v. -/
structure IsGut (c : Array Value) (g : Gt) (v : Value) : Prop where
  size : c.size = 21
  cells : ∀ h : 0 < c.size, c[0] = .int .i8 g.n
  deep : ∀ h : 1 < c.size, c[1] = .int .i16 g.d
  heights : IsK .i8 (c.extract 2 19) 17 g.h
  leaves : ∀ h : 19 < c.size, c[19] = .int .u32 g.l
  pipes : ∀ h : 20 < c.size, c[20] = v
  n0 : -128 ≤ g.n
  n1 : g.n ≤ 127
  d0 : -32768 ≤ g.d
  d1 : g.d ≤ 32767
  h0 : ∀ i, i < 17 → -128 ≤ g.h i
  h1 : ∀ i, i < 17 → g.h i ≤ 127
  l0 : 0 ≤ g.l
  l1 : g.l ≤ 4294967295
  p0 : pipeB g.p g.m
  vs : ∃ a cap, v = .slice a g.m cap

theorem IsGut.height {c : Array Value} {g : Gt} {v : Value} (h : IsGut c g v) (i : Nat) (hi : i < c.size) (h2 : 2 ≤ i) (h3 : i < 19) : c[i] = .int .i8 (g.h (i - 2)) := by
  have hs := h.size
  have := h.heights.cell (i - 2) (by simp; omega)
  rw [Array.getElem_extract] at this
  rw [← this]
  congr 1; omega
theorem IsGut.ones {c : Array Value} {g : Gt} {v : Value} (h : IsGut c g v) : Ones c :=
  Ones.of_get fun i hi => by
    by_cases h2 : 2 ≤ i ∧ i < 19
    · rw [h.height i hi h2.1 h2.2]; rfl
    · have hs := h.size
      have : i = 0 ∨ i = 1 ∨ i = 19 ∨ i = 20 := by omega
      rcases this with rfl | rfl | rfl | rfl
      · rw [h.cells hi]; rfl
      · rw [h.deep hi]; rfl
      · rw [h.leaves hi]; rfl
      · obtain ⟨a, cap, e⟩ := h.vs
        rw [h.pipes hi, e]; rfl
theorem IsGut.get0 {c : Array Value} {g : Gt} {v : Value} (h : IsGut c g v) : c[0]? = some (.int .i8 g.n) := by have := h.size; rw [Array.getElem?_eq_getElem (by omega), h.cells]
theorem IsGut.get1 {c : Array Value} {g : Gt} {v : Value} (h : IsGut c g v) : c[1]? = some (.int .i16 g.d) := by have := h.size; rw [Array.getElem?_eq_getElem (by omega), h.deep]
theorem IsGut.getH {c : Array Value} {g : Gt} {v : Value} (h : IsGut c g v) {i : Nat} (hi : i < 17) : c[2 + i]? = some (.int .i8 (g.h i)) := by
  have := h.size
  rw [Array.getElem?_eq_getElem (by omega), h.height _ _ (by omega) (by omega), show 2 + i - 2 = i from by omega]
theorem IsGut.getL {c : Array Value} {g : Gt} {v : Value} (h : IsGut c g v) : c[19]? = some (.int .u32 g.l) := by have := h.size; rw [Array.getElem?_eq_getElem (by omega), h.leaves]
theorem IsGut.getP {c : Array Value} {g : Gt} {v : Value} (h : IsGut c g v) : c[20]? = some v := by have := h.size; rw [Array.getElem?_eq_getElem (by omega), h.pipes]
/-- Cells that are told alike are one. -/
theorem IsGut.of_get {c : Array Value} {g : Gt} {v : Value} (hs : c.size = 21) (h0 : c[0]? = some (.int .i8 g.n)) (h1 : c[1]? = some (.int .i16 g.d)) (hh : ∀ i, i < 17 → c[2 + i]? = some (.int .i8 (g.h i))) (hl : c[19]? = some (.int .u32 g.l)) (hp : c[20]? = some v)
    (n0 : -128 ≤ g.n ∧ g.n ≤ 127) (d0 : -32768 ≤ g.d ∧ g.d ≤ 32767) (b0 : ∀ i, i < 17 → -128 ≤ g.h i ∧ g.h i ≤ 127) (l0 : 0 ≤ g.l ∧ g.l ≤ 4294967295) (p0 : pipeB g.p g.m) (vs : ∃ a cap, v = .slice a g.m cap) : IsGut c g v where
  size := hs
  cells h := by rw [Array.getElem?_eq_getElem h] at h0; exact Option.some.inj h0
  deep h := by rw [Array.getElem?_eq_getElem h] at h1; exact Option.some.inj h1
  heights := IsK.of_get (by simp; omega) fun i hi => by rw [get_extract _ _ _ _ (by omega) (by omega)]; exact hh i hi
  leaves h := by rw [Array.getElem?_eq_getElem h] at hl; exact Option.some.inj hl
  pipes h := by rw [Array.getElem?_eq_getElem h] at hp; exact Option.some.inj hp
  n0 := n0.1
  n1 := n0.2
  d0 := d0.1
  d1 := d0.2
  h0 i hi := (b0 i hi).1
  h1 i hi := (b0 i hi).2
  l0 := l0.1
  l1 := l0.2
  p0 := p0
  vs := vs
theorem IsGut.one {c e : Array Value} {g : Gt} {v : Value} (h : IsGut c g v) (k : IsGut e g v) : c = e := by
  apply Array.ext_getElem?; intro i
  have hs := h.size
  have ks := k.size
  by_cases hi : i < 21
  · by_cases h2 : 2 ≤ i ∧ i < 19
    · obtain ⟨j, rfl⟩ : ∃ j, i = 2 + j := ⟨i - 2, by omega⟩
      rw [h.getH (by omega), k.getH (by omega)]
    · have : i = 0 ∨ i = 1 ∨ i = 19 ∨ i = 20 := by omega
      rcases this with rfl | rfl | rfl | rfl
      · rw [h.get0, k.get0]
      · rw [h.get1, k.get1]
      · rw [h.getL, k.getL]
      · rw [h.getP, k.getP]
  · rw [Array.getElem?_eq_none (by omega), Array.getElem?_eq_none (by omega)]
/-- The cells of a gutter, made. -/
def mkG (g : Gt) (v : Value) : Array Value := #[.int .i8 g.n, .int .i16 g.d] ++ mkI .i8 17 g.h ++ #[.int .u32 g.l, v]

section
variable {H : Type} {enc : TypeId × Value → H} {w : World} {base b0 : Nat} {spare : Nat → Bool} {held : Bool} {r : Reach}
set_option maxRecDepth 100000 in
/-- A list of pipes that came in, as a struct's field. -/
theorem trod_pps {v : Value} {fuel : Nat} {x : DataW H × List MemPlace} (hf : DataW.trod enc Try.prog w base spare held fuel 48 [v] = some x) :
    ∃ (n : Nat) (f : Nat → Int), ArgPp w v n f ∧ n ≤ maxLen ∧ pipeB f n := by
  have hv : ∃ a len cap, v = .slice a len cap := by
    rcases Go.Deep.open_slice_pairs Try.underlying48 Try.underlying144 (by kernel_rfl) rfl rfl (by kernel_rfl) (by kernel_rfl) hf with ⟨hc, _⟩ | ⟨a', len', cap', m, k, V0, V1, D0, D1, P0, P1, hc, _⟩
    · simp at hc; exact ⟨_, _, _, hc⟩
    · simp at hc; exact ⟨_, _, _, hc⟩
  obtain ⟨a, len, cap, rfl⟩ := hv
  exact open_pps_of hf
set_option maxRecDepth 100000 in
/-- A gutter that came in. -/
theorem open_gut {v : Value} {d : DataW H} {p : List MemPlace} (hv : Value.okWide Try.prog w r b0 50 v) (h : DataW.Trod enc Try.prog w base spare held 50 v d p) :
    ∃ (c : Array Value) (g : Gt) (u : Value), v = .agg c ∧ IsGut c g u ∧ ArgPp w u g.m g.p ∧ g.m ≤ maxLen := by
  obtain ⟨c, rfl, hsz⟩ := okWide_struct Try.underlying50 hv
  obtain ⟨fuel, hf⟩ := h
  obtain ⟨xs, n, _, _, hlen, hxl, hg⟩ := DataW.trod_struct Try.underlying50 hf
  have hc : c.size = 21 := hsz.trans (by kernel_rfl)
  have hcl : c.toList.length = 21 := by simpa using hc
  have c8 : Try.prog.cellsOf 29 = 1 := by kernel_rfl
  have c16 : Try.prog.cellsOf 45 = 1 := by kernel_rfl
  have c32 : Try.prog.cellsOf 47 = 1 := by kernel_rfl
  have c17 : Try.prog.cellsOf 46 = 17 := by kernel_rfl
  have cp : Try.prog.cellsOf 48 = 1 := by kernel_rfl
  have hx5 : xs.length = 5 := hxl
  have g0 := hg 0 _ rfl
  have g1 := hg 1 _ rfl
  have g2 := hg 2 _ rfl
  have g3 := hg 3 _ rfl
  have g4 := hg 4 _ rfl
  simp only [Value.cells] at g0 g1 g2 g3 g4
  rw [List.getElem?_eq_getElem (by omega)] at g0 g1 g2 g3 g4
  obtain ⟨a0, q0, _, wf0⟩ := DataW.trod_int Try.underlying29 g0
  obtain ⟨a1, q1, _, wf1⟩ := DataW.trod_int Try.underlying45 g1
  obtain ⟨t, ht⟩ := trod_ints Try.underlying46 Try.underlying29 c8 g2
  obtain ⟨a3, q3, _, wf3⟩ := DataW.trod_int Try.underlying47 g3
  have e0 := congrArg (fun l : List Value => l[0]?) q0
  have e1 := congrArg (fun l : List Value => l[0]?) q1
  have e3 := congrArg (fun l : List Value => l[0]?) q3
  simp [c8, c16, c32] at e0 e1 e3
  have b0 := bounds_i8 wf0
  have b1 := bounds_i16 wf1
  have b3 := bounds_u32 wf3
  obtain ⟨u, hu⟩ : ∃ u, c[20]? = some u := ⟨_, Array.getElem?_eq_getElem (by omega)⟩
  have hl4 : ∀ L : List Value, L = [u] → ∀ x, DataW.trod enc Try.prog w base spare held n 48 L = some x → ∃ (n : Nat) (f : Nat → Int), ArgPp w u n f ∧ n ≤ maxLen ∧ pipeB f n := fun L e x hx => trod_pps (e ▸ hx)
  obtain ⟨m, f, hL, hm, hB⟩ := hl4 (List.take (Try.prog.cellsOf 48) (List.drop 20 c.toList)) (by
    rw [cp]
    apply List.ext_getElem?; intro i
    rw [List.getElem?_take]
    by_cases hi : i < 1
    · obtain rfl : i = 0 := by omega
      rw [if_pos hi, List.getElem?_drop]
      simpa using hu
    · rw [if_neg hi, List.getElem?_eq_none (by simp; omega)]) _ g4
  refine ⟨c, ⟨a0, a1, t, a3, m, f⟩, u, rfl, IsGut.of_get hc e0 e1 (fun i hi => ?_) e3 hu b0 b1 (fun i hi => bounds_i8 (ht i hi).2) b3 hB ⟨_, _, hL.shape.choose_spec.choose_spec⟩, hL, hm⟩
  have := (ht i hi).1
  simp [c17, hi] at this
  exact this
end
end Go.Proofs.Ytcdddngdjhjdbaa
