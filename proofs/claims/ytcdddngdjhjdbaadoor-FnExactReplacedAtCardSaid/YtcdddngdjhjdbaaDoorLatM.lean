/- Ages some years later: mathematics. -/
import Derived.Test.YtcdddngdjhjdbaaDoorAgeM
import Derived.IntWalk
namespace Go.Proofs.YtcdddngdjhjdbaaDoor
open Go.RowKit

theorem mem_upto {h w : Nat} : ∀ {n : Nat}, n ≤ h * w → ∀ x ∈ plUpto h w n, ∃ k, k < n ∧ x.1 = (k / w, k % w)
  | 0, _, x, hx => by cases hx
  | n + 1, hn, x, hx => by
    rw [plUpto_next (by omega)] at hx
    rcases List.mem_append.1 hx with hx | hx
    · obtain ⟨k, hk, e⟩ := mem_upto (by omega) x hx
      exact ⟨k, by omega, e⟩
    · have e := List.mem_singleton.1 hx
      exact ⟨n, by omega, by rw [e]⟩
/-- The next place is none of those before it. -/
theorem fresh_upto {h w n : Nat} (w8 : w ≤ 8) (hn : n < h * w) : ¬ ∃ x ∈ plUpto h w n, ixP x = (n / w) * 8 + n % w := by
  rintro ⟨x, hx, e⟩
  obtain ⟨k, hk, ex⟩ := mem_upto (by omega) x hx
  have hw : 0 < w := Nat.pos_of_ne_zero fun e => by subst e; simp at hn
  have h1 := Nat.mod_lt k hw
  have h2 := Nat.mod_lt n hw
  unfold ixP at e
  rw [ex] at e
  simp only at e
  have h3 := Nat.div_add_mod k w
  have h4 := Nat.div_add_mod n w
  have h5 : k / w = n / w := by omega
  have h6 : k % w = n % w := by omega
  rw [h5, h6, h4] at h3
  omega
/-- What the program writes: it adds, place by place. -/
def addL (y : Int) (f : Nat → Int) {h w : Nat} (l : List (Pl h w)) : Nat → Int := l.foldl (fun f x => upd f (ixP x) (IntKind.u8.wrap (f (ixP x) + IntKind.u8.wrap y))) f
theorem addL_snoc {y : Int} {f : Nat → Int} {h w : Nat} {l : List (Pl h w)} {x : Pl h w} : addL y f (l ++ [x]) = upd (addL y f l) (ixP x) (IntKind.u8.wrap (addL y f l (ixP x) + IntKind.u8.wrap y)) := by
  unfold addL; rw [List.foldl_append]; rfl
theorem addL_upto {y : Int} {f : Nat → Int} {h w : Nat} (w8 : w ≤ 8) (hy : 0 ≤ y ∧ y ≤ 255) (hf : ∀ x : Pl h w, 0 ≤ f (ixP x) + y ∧ f (ixP x) + y ≤ 255) : ∀ n, n ≤ h * w → addL y f (plUpto h w n) = setL (fun i => f i + y) f (plUpto h w n)
  | 0, _ => rfl
  | n + 1, hn => by
    have hlt : n < h * w := by omega
    rw [plUpto_next hlt, addL_snoc, setL_snoc, addL_upto w8 hy hf n (by omega)]
    have hfr := fresh_upto w8 hlt
    have e : ixP (⟨(n / w, n % w), pl_in hlt⟩ : Pl h w) = (n / w) * 8 + n % w := rfl
    rw [← e] at hfr
    rw [setL_out _ _ hfr, IntWalk.u8_in y hy, IntWalk.u8_in _ (hf _)]
end Go.Proofs.YtcdddngdjhjdbaaDoor
