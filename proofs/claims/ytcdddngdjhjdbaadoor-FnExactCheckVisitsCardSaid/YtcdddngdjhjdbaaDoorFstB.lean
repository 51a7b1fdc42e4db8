/- FirstBreak, OldestOf: both sides. -/
import Derived.Test.YtcdddngdjhjdbaaDoorYear
import Derived.Test.YtcdddngdjhjdbaaDoorOldI
import Derived.Test.YtcdddngdjhjdbaaDoorOldS
import Derived.Deep.RegionHeld3
namespace Go.Proofs.YtcdddngdjhjdbaaDoor
open Go.RowKit

/-- The oldest tile of a roof, and its age. -/
def Rf.oldAt (r : Rf) (t : Nat → Int) : Nat × Nat := oldP t (plUpto r.h.toNat r.w.toNat (r.h.toNat * r.w.toNat))
def Rf.oldV (r : Rf) (t : Nat → Int) : Int := t ((r.oldAt t).1 * 8 + (r.oldAt t).2)
theorem Rf.oldAt_in {r : Rf} {t : Nat → Int} (ho : r.Ok) : (r.oldAt t).1 < 8 ∧ (r.oldAt t).2 < 8 := by
  have h := oldP_in (t := t) (h := r.h.toNat) (w := r.w.toNat) (by have := ho.2.2.1; omega) (by have := ho.1; omega) (plUpto r.h.toNat r.w.toNat (r.h.toNat * r.w.toNat))
  have h1 := ho.2.2.2.1
  have h2 := ho.2.1
  unfold Rf.oldAt
  omega
theorem Rf.oldV_bd {r : Rf} {t : Nat → Int} (h : r.Aged t) (hb : ∀ i, i < 64 → 0 ≤ t i) : 0 ≤ r.oldV t ∧ r.oldV t ≤ 100 := by
  have hi := Rf.oldAt_in (t := t) h.1
  have hl : (r.oldAt t).1 * 8 + (r.oldAt t).2 < 64 := by omega
  exact ⟨hb _ hl, (h.2 _ hl).1⟩
theorem oldest_ok (c d : Array Value) (r : Rf) (t : Nat → Int) (w : World) (hR : IsRoof c r) (hA : IsU8 d 64 t) (ho : r.Ok) :
    Calls Tryd.prog 57 #[.agg c, .func (.func 58) #[.agg d] #[]] w fun e w' => e = .returned (.tuple #[.agg #[.int .i8 ((r.oldAt t).1 : Int), .int .i8 ((r.oldAt t).2 : Int)], .int .i64 (r.oldV t)]) ∧ Below w.heap.size w w' :=
  oldest_any 58 #[.agg d] #[] t (enters_of Tryd.func58 (by kernel_rfl) rfl) c r r.h.toNat r.w.toNat (by have := ho.2.2.1; omega) (by have := ho.1; omega) (by have := ho.2.2.2.1; omega) (by have := ho.2.1; omega) (by have := ho.2.2.1; omega) (by have := ho.1; omega) w hR (ageOf_num d t w hA) _ rfl
theorem l07Oldest_ok (k n : Nat) (c d : Array Value) (r : Rf) (t : Nat → Int) (w : World) (hr : rowAt w k = some c) (hR : IsRoof c r) (hd : rowAt w n = some d) (hA : IsU8 d 64 t) (ho : r.Ok) :
    Calls Tryd.prog 52 #[.pointer (some ⟨k, 0, none⟩), .pointer (some ⟨n, 0, none⟩)] w fun e w' => e = .returned (.tuple #[.agg #[.int .i8 ((r.oldAt t).1 : Int), .int .i8 ((r.oldAt t).2 : Int)], .int .i64 (r.oldV t)]) ∧ Below w.heap.size w w' :=
  l07Oldest_any k n c d r t r.h.toNat r.w.toNat (by have := ho.2.2.1; omega) (by have := ho.1; omega) (by have := ho.2.2.2.1; omega) (by have := ho.2.1; omega) (by have := ho.2.2.1; omega) (by have := ho.1; omega) w hr hR hd hA _ rfl

noncomputable def Rf.fbV (r : Rf) (t : Nat → Int) (y : Int) : Int := if r.ageC t (inB y 1 100) = 0 then maxI 0 (y + 1 - r.oldV t) else 0
noncomputable def Rf.fbC (r : Rf) (t : Nat → Int) (y : Int) : Int := r.ageC t (inB y 1 100)

end Go.Proofs.YtcdddngdjhjdbaaDoor
