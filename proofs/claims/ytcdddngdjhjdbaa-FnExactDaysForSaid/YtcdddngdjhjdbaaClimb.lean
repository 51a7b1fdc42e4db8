/- Climbing to one tile: contracts of both sides. -/
import Derived.Test.YtcdddngdjhjdbaaWork
namespace Go.Proofs.Ytcdddngdjhjdbaa
open Go.RowKit

/-- The cells of one place. -/
def plv (a b : Int) : Nat → Int := fun i => if i = 0 then a else b
theorem plv_bd {a b : Int} (ha : -128 ≤ a ∧ a ≤ 127) (hb : -128 ≤ b ∧ b ≤ 127) (i : Nat) : -128 ≤ plv a b i ∧ plv a b i ≤ 127 := by
  unfold plv; split <;> assumption
theorem IsList.lit1 {w : World} {n base cap : Nat} {a b : Int} (hr : rowAt w n = some #[.int .i8 a, .int .i8 b]) (hb : base ≤ n) : IsList w base (.slice (some ⟨n, 0, none⟩) 1 cap) 2 1 (fun i => .int .i8 (plv a b i)) :=
  .inr ⟨n, cap, _, rfl, hb, hr, by simp, fun i hi => by
    have : i = 0 ∨ i = 1 := by omega
    rcases this with rfl | rfl <;> simp [plv]⟩
theorem IsList.none0 (w : World) (base sz : Nat) (a : Option Addr) (cap : Nat) (f : Nat → Value) : IsList w base (.slice a 0 cap) sz 0 f := .inl ⟨rfl, a, cap, rfl⟩
theorem Rf.wcode_one (r : Rf) (g : Nat → Int) (a b : Int) (fine : Bool) : r.wcode g 0 (plv a b) 1 fine = r.ask a b fine := by
  have e1 : r.ocB g 0 = true := Rf.ocB_t (r.okC_zero g)
  have e2 : r.okB (plv a b) 1 = r.isB a b := by
    by_cases h : r.okP (plv a b) 1
    · rw [Rf.okB_t h]
      have := h 0 (by omega)
      exact (Rf.isB_true (by simpa [Rf.inP, plv] using this)).symm
    · rw [Rf.okB_f h]
      refine (Rf.isB_false fun hh => h fun k hk => ?_).symm
      obtain rfl : k = 0 := by omega
      simpa [Rf.inP, plv] using hh
  unfold Rf.wcode Rf.ask
  rw [e1, e2]
  unfold Rf.told
  cases r.ok <;> cases fine <;> cases r.isB a b <;> simp

theorem gen_callsC {P : Program} {f : FuncId} {args : Array Value} {Q : Ending → World → Prop} {w : World} (h : ∀ W, W = w → Calls P f args W Q) : Calls P f args w Q := h w rfl

noncomputable def Rf.climbAns (r : Rf) (a b : Int) : Int := if r.ask a b true = 0 then r.h - a else 0

end Go.Proofs.Ytcdddngdjhjdbaa
