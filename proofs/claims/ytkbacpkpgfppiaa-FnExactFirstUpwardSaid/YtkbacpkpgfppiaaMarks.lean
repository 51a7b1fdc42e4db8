/- A map[Place]bool that a call makes: which places it marks. Its key is a struct of two bytes: read as one string. -/
import Derived.Test.YtkbacpkpgfppiaaRowT
import Derived.Maps.OwnOps
import Derived.Maps.Views
import Derived.Maps.OwnSet
import Derived.DeepKeys4
namespace Go.Proofs.Ytkbacpkpgfppiaa
open Go.RowKit Go.Maps

theorem mk_laidOut : laidOutB Try.prog = true := by kernel_rfl
theorem mk_row : (58 : TypeId) < Try.prog.types.size := of_decide_eq_true (by kernel_rfl)
theorem mk_law : Keyed Try.prog 58 :=
  Keyed.of_law (deep_law_laid mk_laidOut (m := 2) (by omega) mk_row (by kernel_rfl) (by rw [Try.underlying58]))
theorem mk_zero (w : World) : (zeroValue 4).run Try.prog w = .ok (.bool false) w := by kernel_rfl
theorem mk_keyType : Try.prog.keyType 58 = true := by kernel_rfl

/-- What a place reads as, as a key. -/
def klP (a b : Int) : Lit := .string (keyBytes [.int .i8 a, .int .i8 b])
set_option maxRecDepth 100000 in
theorem mk_key {a b : Int} (wa : (Lit.int .i8 a).wf = true) (wb : (Lit.int .i8 b).wf = true) : keyOf Try.prog 58 (.agg #[.int .i8 a, .int .i8 b]) = some (klP a b) := by
  have hu := Try.underlying58
  have h8 := Try.underlying22
  have hc : Try.prog.cellsOf 58 = 2 := by kernel_rfl
  have hc8 : Try.prog.cellsOf 22 = 1 := by kernel_rfl
  obtain ⟨m, hm⟩ : ∃ m, Try.prog.types.size = m + 1 := by
    obtain ⟨k, hk⟩ := Nat.exists_eq_add_of_lt mk_row
    exact ⟨_, hk⟩
  unfold keyOf
  rw [hu]
  dsimp only
  rw [if_pos (by simp [mk_keyType, Value.formed, hu, hc]), hm]
  unfold Program.keyLits
  rw [hu]
  simp [Value.cells, hc, Program.keyLits, h8, hc8, wa, wb, klP]
theorem wf8 {a : Int} (h : -128 ≤ a ∧ a ≤ 127) : (Lit.int .i8 a).wf = true := WalkArith.wf_i8 h
theorem klP_ne {a b a' b' : Int} (ha : -128 ≤ a ∧ a ≤ 127) (hb : -128 ≤ b ∧ b ≤ 127) (ha' : -128 ≤ a' ∧ a' ≤ 127) (hb' : -128 ≤ b' ∧ b' ≤ 127) (h : ¬ (a = a' ∧ b = b')) : klP a b ≠ klP a' b' := fun e => by
  have k1 := mk_key (wf8 ha) (wf8 hb)
  have k2 := mk_key (wf8 ha') (wf8 hb')
  rw [← e] at k2
  have := mk_law.inj k1 k2
  simp at this
  exact h this

def inP8 (a b : Int) : Prop := (-128 ≤ a ∧ a ≤ 127) ∧ (-128 ≤ b ∧ b ≤ 127)
/-- Block B is a map of at most n entries; at a place it tells p. -/
def Marks (w : World) (B n : Nat) (p : Int → Int → Bool) : Prop :=
  ∃ D : DataW Unit, w.ownsMap Try.prog 58 (plainElem Try.prog 4) B n D ∧ ∀ a b, inP8 a b → D.atKey (klP a b) (.lit (.bool false)) = .lit (.bool (p a b))
theorem Marks.made (w : World) : Marks (w.alloc (.map #[] 0)) w.heap.size 0 (fun _ _ => false) := ⟨_, World.ownsMap_made _ _ _ _, fun _ _ _ => rfl⟩
theorem Marks.lt {w : World} {B n : Nat} {p : Int → Int → Bool} (h : Marks w B n p) : B < w.heap.size := by obtain ⟨D, h, _⟩ := h; exact h.lt
theorem Marks.block {w w' : World} {B n : Nat} {p : Int → Int → Bool} (h : Marks w B n p) (hb : w'.heap[B]? = w.heap[B]?) : Marks w' B n p := by
  obtain ⟨D, ⟨es, clock, h1, h2⟩, h3⟩ := h
  exact ⟨D, ⟨es, clock, hb.trans h1, h2⟩, h3⟩
theorem Marks.below {w w' : World} {B n : Nat} {p : Int → Int → Bool} (h : Marks w B n p) (b : Below w.heap.size w w') : Marks w' B n p := h.block (b.block B h.lt)
theorem plainElem_bool_inv {P : Program} {e : TypeId} (he : P.underlying e = some .bool) {v : Value} {z : DataW Unit × List MemPlace} (h : plainElem P e v = some z) : ∃ x : Bool, v = .bool x ∧ z.1 = .lit (.bool x) := by
  unfold plainElem at h
  rw [he] at h
  cases v <;> simp at h
  rename_i x
  exact ⟨x, rfl, by rw [← h]⟩
set_option maxRecDepth 100000 in
/-- 'm[at]'. -/
theorem Marks.look {w : World} {B n : Nat} {p : Int → Int → Bool} (h : Marks w B n p) {a b : Int} (hp : inP8 a b) : (Instr.lookup 140 (.map (some B)) (.agg #[.int .i8 a, .int .i8 b]) false).run Try.prog w = .ok (.bool (p a b)) w := by
  obtain ⟨D, hD, hat⟩ := h
  obtain ⟨v, ps, hrun, hv⟩ := hD.lookup mk_law Try.underlying140 (mk_zero w) (plainElem_bool Try.underlying4 false) (mk_key (wf8 hp.1) (wf8 hp.2))
  obtain ⟨x, rfl, hx⟩ := plainElem_bool_inv Try.underlying4 hv
  simp only at hx
  rw [hat a b hp] at hx
  rw [hrun]
  injection hx with hx
  injection hx with hx
  rw [hx]
set_option maxRecDepth 100000 in
/-- 'm[at] = x'. -/
theorem Marks.put {w : World} {B n : Nat} {p : Int → Int → Bool} (h : Marks w B n p) (hn : n < maxLen) {a b : Int} (hp : inP8 a b) (x : Bool) :
    ∃ w', (Instr.mapUpdate 140 (.map (some B)) (.agg #[.int .i8 a, .int .i8 b]) (.bool x)).run Try.prog w = .ok () w' ∧ Marks w' B (n + 1) (fun c d => if c = a ∧ d = b then x else p c d) ∧ w.grownBy w' (some B) := by
  obtain ⟨D, hD, hat⟩ := h
  have hkey := mk_key (wf8 hp.1) (wf8 hp.2)
  obtain ⟨w', hrun, hD', hg⟩ := hD.update mk_law Try.underlying140 hn hkey (plainElem_bool Try.underlying4 x)
  refine ⟨w', hrun, ⟨_, hD', fun c d hcd => ?_⟩, hg⟩
  by_cases e : c = a ∧ d = b
  · obtain ⟨rfl, rfl⟩ := e
    dsimp only; rw [if_pos ⟨rfl, rfl⟩, atKey_put_same hD.isMap (mk_law.key hkey)]
  · dsimp only; rw [if_neg e, atKey_put_other (klP_ne hcd.1 hcd.2 hp.1 hp.2 e), hat c d hcd]
end Go.Proofs.Ytkbacpkpgfppiaa
