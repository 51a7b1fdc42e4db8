/- Pipes copied, and gutters without leaves in a cell. -/
import Derived.Test.YtcdddngdjhjdbaaFew
import Derived.Test.YtcdddngdjhjdbaaGrowX
import Derived.Test.YtcdddngdjhjdbaaEnd
import Derived.Lib.SliceRun
namespace Go.Proofs.Ytcdddngdjhjdbaa
open Go.RowKit

def pipesV (f : Nat → Int) (n : Nat) : List Value := (List.range (n * 2)).map (pipeV f)
theorem pipesV_len (f : Nat → Int) (n : Nat) : (pipesV f n).length = n * 2 := by simp [pipesV]
theorem pipesV_get {f : Nat → Int} {n i : Nat} (h : i < n * 2) : (pipesV f n).getD i undef = pipeV f i := by
  rw [List.getD_eq_getElem?_getD, pipesV, List.getElem?_map, List.getElem?_range h]; rfl
theorem pipesV_one (f : Nat → Int) (n : Nat) : ∀ u ∈ pipesV f n, u.oneCell' = true := by
  intro u hu
  simp only [pipesV, List.mem_map] at hu
  obtain ⟨i, _, rfl⟩ := hu
  unfold pipeV
  split <;> rfl
theorem IsList.news {w : World} {b n : Nat} {v : Value} {f : Nat → Int} (h : IsList w b v 2 n (pipeV f)) : IsList w b v 2 n (fun j => (pipesV f n).getD j undef) := by
  rcases h with h | ⟨g, cap, cur, rfl, hg, hr, hs, hf⟩
  · exact .inl h
  · exact .inr ⟨g, cap, cur, rfl, hg, hr, hs, fun i hi => by rw [hf i hi]; exact congrArg some (pipesV_get (by omega)).symm⟩
theorem IsList.of_pipesV {w : World} {base n : Nat} {e : TypeId} {v : Value} {f : Nat → Int} (h : w.ownsRow base e 2 v n (pipesV f n)) : IsList w base v 2 n (pipeV f) := by
  obtain ⟨hl, h | ⟨g, cap, cur, rfl, hg, hh, hn, hm, hs, ht⟩⟩ := h
  · exact .inl ⟨h.2, none, 0, by rw [h.1]⟩
  · refine .inr ⟨g, cap, cur, rfl, hg, rowAt_of_heap hh, by have := Nat.mul_le_mul_right 2 hn; omega, fun i hi => ?_⟩
    have h1 : cur[i]? = (cur.toList.take (n * 2))[i]? := by rw [List.getElem?_take, if_pos (by omega), Array.getElem?_toList]
    rw [h1, ht, pipesV, List.getElem?_map, List.getElem?_range (by omega)]; rfl

theorem grown3 {w w3 : World} {z c : Array Value} {t1 t2 t3 : TypeId} (h : (((w.alloc (.cells z t1)).alloc (.cells c t2)).alloc (.cells #[] t3)).grownBy w3 (some (w.heap.size + 1 + 1))) :
    rowAt w3 w.heap.size = some z ∧ rowAt w3 (w.heap.size + 1) = some c ∧ Below w.heap.size w w3 := by
  refine ⟨rowAt_grown h ((rowAt_alloc_past _ _ _ (by simp; omega)).trans ((rowAt_alloc_past _ _ _ (by simp)).trans (rowAt_alloc_at _ _ _ _ rfl))) (by simp; omega), rowAt_grown h ((rowAt_alloc_past _ _ _ (by simp)).trans (rowAt_alloc_at _ _ _ _ (by simp))) (by simp), ?_⟩
  exact ((((Below.refl _ _).alloc (Nat.le_refl _) _).alloc (by simp) _).alloc (by simp; omega) _).grown h (by simp; omega) (by intro x hx; cases hx; omega)
theorem own_at {W : World} {n : Nat} {e : TypeId} {size : Nat} (h : W.heap.size = n) : (W.alloc (.cells #[] e)).ownsRow n e size (.slice (some ⟨n, 0, none⟩) 0 0) 0 [] := by subst h; exact owns_empty W e size
theorem bits_u32 (op : BinOp) (x y : Int) : 0 ≤ bits op .u32 x y ∧ bits op .u32 x y ≤ 4294967295 := by
  unfold bits IntKind.wrap
  simp only [IntKind.bits, IntKind.signed, Bool.false_and, Bool.false_eq_true, if_false]
  omega
/-- The gutter without leaves in a cell. -/
def Gt.clrL (g : Gt) (j : Nat) : Int := bits .andNot .u32 g.l (IntKind.u32.wrap (2 ^ j))
def Gt.clr (g : Gt) (j : Nat) : Gt := { g with l := g.clrL j }
theorem Gt.clr_m (g : Gt) (j : Nat) : (g.clr j).m = g.m := rfl
theorem Gt.clr_p (g : Gt) (j : Nat) : (g.clr j).p = g.p := rfl
theorem IsGut.clr {c : Array Value} {g : Gt} {v : Value} (h : IsGut c g v) (j : Nat) : IsGut (c.setIfInBounds 19 (.int .u32 (g.clrL j))) (g.clr j) v := by
  have hs := h.size
  refine IsGut.of_get (by simpa using hs) ?_ ?_ (fun i hi => ?_) ?_ ?_ ⟨h.n0, h.n1⟩ ⟨h.d0, h.d1⟩ (fun i hi => ⟨h.h0 i hi, h.h1 i hi⟩) (show 0 ≤ g.clrL j ∧ g.clrL j ≤ 4294967295 from bits_u32 _ _ _) h.p0 h.vs
  · rw [Array.getElem?_setIfInBounds_ne (by omega)]; exact h.get0
  · rw [Array.getElem?_setIfInBounds_ne (by omega)]; exact h.get1
  · rw [Array.getElem?_setIfInBounds_ne (by omega)]; exact h.getH hi
  · rw [Array.getElem?_setIfInBounds_self_of_lt (by omega)]; rfl
  · rw [Array.getElem?_setIfInBounds_ne (by omega)]; exact h.getP

/-- The gutter of nothing. -/
def Gt.zero : Gt := ⟨0, 0, fun _ => 0, 0, 0, fun _ => 0⟩
def zeroG : Array Value := #[.int .i8 0, .int .i16 0, .int .i8 0, .int .i8 0, .int .i8 0, .int .i8 0, .int .i8 0, .int .i8 0, .int .i8 0, .int .i8 0, .int .i8 0, .int .i8 0, .int .i8 0, .int .i8 0, .int .i8 0, .int .i8 0, .int .i8 0, .int .i8 0, .int .i8 0, .int .u32 0, .slice none 0 0]
theorem isGut_zero : IsGut zeroG Gt.zero (.slice none 0 0) := by
  refine IsGut.of_get rfl rfl rfl (fun i hi => ?_) rfl rfl ⟨by decide, by decide⟩ ⟨by decide, by decide⟩ (fun i hi => ⟨by show (-128 : Int) ≤ 0; omega, by show (0 : Int) ≤ 127; omega⟩) ⟨by decide, by decide⟩ (fun i hi => absurd hi (Nat.not_lt_zero i)) ⟨_, _, rfl⟩
  match i with
  | 0 => rfl
  | 1 => rfl
  | 2 => rfl
  | 3 => rfl
  | 4 => rfl
  | 5 => rfl
  | 6 => rfl
  | 7 => rfl
  | 8 => rfl
  | 9 => rfl
  | 10 => rfl
  | 11 => rfl
  | 12 => rfl
  | 13 => rfl
  | 14 => rfl
  | 15 => rfl
  | 16 => rfl
  | n + 17 => omega
/-- The answer of CleanLeaf. -/
noncomputable def Gt.clG (g : Gt) (y : Int) : Gt := if g.ask (inB y 0 (g.n - 1)) = 0 ∧ g.leaf y.toNat = true then g.clr y.toNat else Gt.zero
noncomputable def Gt.clC (g : Gt) (y : Int) : Int := if g.ask (inB y 0 (g.n - 1)) = 0 then (if g.leaf y.toNat = true then 0 else 4) else g.ask (inB y 0 (g.n - 1))
theorem Gt.clG_le (g : Gt) (y : Int) (h : g.m ≤ 2000000) : (g.clG y).m ≤ 2000000 := by
  unfold Gt.clG
  split
  · exact h
  · exact Nat.zero_le _
theorem Gt.cl_a {g : Gt} {y : Int} (h : g.ask (inB y 0 (g.n - 1)) ≠ 0) : g.clG y = Gt.zero ∧ g.clC y = g.ask (inB y 0 (g.n - 1)) := ⟨if_neg fun x => h x.1, if_neg h⟩
theorem Gt.cl_b {g : Gt} {y : Int} (h : g.ask (inB y 0 (g.n - 1)) = 0) (k : g.leaf y.toNat = false) : g.clG y = Gt.zero ∧ g.clC y = 4 := ⟨if_neg (fun x => by rw [k] at x; cases x.2), by unfold Gt.clC; rw [if_pos h, k]; rfl⟩
theorem Gt.cl_c {g : Gt} {y : Int} (h : g.ask (inB y 0 (g.n - 1)) = 0) (k : g.leaf y.toNat = true) : g.clG y = g.clr y.toNat ∧ g.clC y = 0 := ⟨if_pos (And.intro h k), by unfold Gt.clC; rw [if_pos h, k]; rfl⟩
end Go.Proofs.Ytcdddngdjhjdbaa
