/- Bytes that come in. -/
import Derived.Test.YtppohghejhcilaaList
import Derived.Test.YtppohghejhcilaaHelp
import Derived.OwnWalk
import Derived.Laws.MakeOwn
import Derived.ChangeSlices
import Derived.OpenShut
namespace Go.Proofs.Ytppohghejhcilaa
open Go.RowKit Go.ChangeShapes Go.WideShapes

/-- A list of bytes, wherever it lies. -/
def BytsAt (w : World) (v : Value) (n : Nat) (f : Nat → Int) : Prop :=
  ∃ a cap, v = .slice a n cap ∧ (n = 0 ∨ ∃ g o, a = some ⟨g, o, none⟩ ∧ g < w.heap.size ∧ ∀ i, i < n → w.cell? ⟨g, o + i, none⟩ = some (.int .u8 (f i)))
theorem BytsAt.below {w w' : World} {v : Value} {n : Nat} {f : Nat → Int} {B : Nat} (h : BytsAt w v n f) (b : Below B w w') (hB : w.heap.size ≤ B) : BytsAt w' v n f := by
  obtain ⟨a, cap, rfl, h⟩ := h
  refine ⟨a, cap, rfl, ?_⟩
  rcases h with h | ⟨g, o, rfl, hg, h⟩
  · exact .inl h
  · exact .inr ⟨g, o, rfl, Nat.lt_of_lt_of_le hg b.size, fun i hi => (b.cell (p := ⟨g, o + i, none⟩) (Nat.lt_of_lt_of_le hg hB)).trans (h i hi)⟩
theorem BytsAt.shape {w : World} {v : Value} {n : Nat} {f : Nat → Int} (h : BytsAt w v n f) : ∃ a cap, v = .slice a n cap := by
  obtain ⟨a, cap, rfl, _⟩ := h
  exact ⟨a, cap, rfl⟩
theorem BytsAt.at {w : World} {a : Option Addr} {cap n : Nat} {f : Nat → Int} (h : BytsAt w (.slice a n cap) n f) {k : Nat} (hk : k < n) :
    ∃ g o, a = some ⟨g, o, none⟩ ∧ w.cell? ⟨g, o + k, none⟩ = some (.int .u8 (f k)) := by
  obtain ⟨a', cap', e, h⟩ := h
  cases e
  rcases h with h | ⟨g, o, rfl, _, h⟩
  · omega
  · exact ⟨g, o, rfl, h k hk⟩
theorem BytsAt.none0 (w : World) (a : Option Addr) (cap : Nat) (f : Nat → Int) : BytsAt w (.slice a 0 cap) 0 f := ⟨a, cap, rfl, .inl rfl⟩
theorem IsList.byts {w : World} {base n : Nat} {v : Value} {f : Nat → Int} (h : IsList w base v 1 n (fun i => .int .u8 (f i))) : BytsAt w v n f := by
  rcases h with ⟨rfl, a, cap, rfl⟩ | ⟨g, cap, cur, rfl, hg, hr, hs, hf⟩
  · exact ⟨a, cap, rfl, .inl rfl⟩
  · exact ⟨_, cap, rfl, .inr ⟨g, 0, rfl, rowAt_lt hr, fun i hi => by rw [Nat.zero_add, cell_of_rowAt hr]; exact hf i (by omega)⟩⟩

section
variable {H : Type} {enc : TypeId × Value → H} {w : World} {base b0 : Nat} {spare : Nat → Bool} {held : Bool} {r : Reach}
set_option maxRecDepth 100000 in
/-- A list of bytes that came in. -/
theorem open_byts {v : Value} {d : DataW H} {p : List MemPlace} (hv : Value.okWide Try.prog w r b0 22 v) (h : DataW.Trod enc Try.prog w base spare held 22 v d p) :
    ∃ (n : Nat) (f : Nat → Int), BytsAt w v n f ∧ n ≤ maxLen ∧ ∀ i, i < n → 0 ≤ f i ∧ f i ≤ 255 := by
  obtain ⟨a, len, cap, rfl⟩ := okWide_slice Try.underlying22 hv
  obtain ⟨fuel, hf⟩ := h
  rcases open_ints Try.underlying22 Try.underlying5 (by kernel_rfl) hf with ⟨hc, _⟩ | ⟨a', len', cap', zs, hc, _, hl, hm, hmm, _, hcell, hwf⟩
  · simp [Value.cells] at hc
    obtain ⟨rfl, rfl, rfl⟩ := hc
    exact ⟨0, fun _ => 0, ⟨none, 0, rfl, .inl rfl⟩, by omega, by omega⟩
  · simp [Value.cells] at hc
    obtain ⟨rfl, rfl, rfl⟩ := hc
    have hlm : len ≤ zs.length := by rw [hmm]; split <;> omega
    refine ⟨len, fun i => zs.getD i 0, ⟨some a', cap, rfl, ?_⟩, by omega, ?_⟩
    · by_cases h0 : len = 0
      · exact .inl h0
      right
      obtain ⟨g, o, spot⟩ := a'
      have hsp : spot = none := by simpa [Addr.add] using World.cell?_spot (hcell 0 (by omega))
      subst hsp
      have hadd : ∀ x, (⟨g, o, none⟩ : Addr).add x = ⟨g, o + x, none⟩ := fun x => by unfold Addr.add; split <;> simp_all
      refine ⟨g, o, rfl, ?_, fun i hi => by rw [← hadd]; exact hcell i (by omega)⟩
      exact World.block_lt_of_cell? w _ (hcell 0 (by omega))
    · intro i hi
      have : zs.getD i 0 ∈ zs := by
        rw [List.getD_eq_getElem?_getD, List.getElem?_eq_getElem (by omega), Option.getD_some]
        exact List.getElem_mem _
      exact bounds_u8 (hwf _ this)
end
end Go.Proofs.Ytppohghejhcilaa
