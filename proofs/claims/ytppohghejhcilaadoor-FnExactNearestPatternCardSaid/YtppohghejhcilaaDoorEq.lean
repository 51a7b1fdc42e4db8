/- '==' and '!=' of whole arrays, and of structs that hold them. Laws over any program. -/
import Derived.Test.YtppohghejhcilaaDoorAgg
namespace Go.Proofs.YtppohghejhcilaaDoor
open Go.RowKit
section
variable {P : Program} {ty e : TypeId} {m sz : Nat}
def loopAns : Bool → Option Bool × PUnit
  | true => (none, ())
  | false => (some false, ())
theorem run_eqLoop (d : Nat) (xs ys : Array Value) (w : World) (E : Nat → Bool) (body : Nat → Option Bool × PUnit → Sem (ForInStep (Option Bool × PUnit)))
    (hbody : ∀ i s, body i s = (do
      let a ← part e xs (i * sz)
      let b ← part e ys (i * sz)
      let c ← Op.equalIn d e a b
      if c = false then pure (ForInStep.done (some false, ())) else pure (ForInStep.yield (none, ()))))
    (h : ∀ i, i < m → ∃ a b, (part e xs (i * sz)).run P w = .ok a w ∧ (part e ys (i * sz)).run P w = .ok b w ∧ (Op.equalIn d e a b).run P w = .ok (E i) w) :
    ∀ (n s : Nat), s + n = m → (forIn (List.range' s n) ((none, ()) : Option Bool × PUnit) body).run P w = .ok (loopAns ((List.range' s n).all E)) w
  | 0, s, hs => rfl
  | n + 1, s, hs => by
    obtain ⟨a, b, ha, hb, hc⟩ := h s (by omega)
    rw [List.range'_succ, List.forIn_cons, hbody]
    simp only [Sem.run_bind, ha, hb, hc, Result.andThen_ok]
    by_cases hE : E s = false
    · rw [if_pos hE, List.all_cons, hE]; rfl
    · have ih := run_eqLoop d xs ys w E body hbody h n (s + 1) (by omega)
      have hE' : E s = true := by simpa using hE
      rw [if_neg hE, List.all_cons, hE', Bool.true_and]
      simp only [Sem.run_pure, Result.andThen_ok, ih]

theorem run_equalIn_arr (hu : P.underlying ty = some (.array m e)) (hi : (P.info? e).map (·.size) = some sz) (d : Nat) (xs ys : Array Value) (w : World) (E : Nat → Bool)
    (h : ∀ i, i < m → ∃ a b, (part e xs (i * sz)).run P w = .ok a w ∧ (part e ys (i * sz)).run P w = .ok b w ∧ (Op.equalIn d e a b).run P w = .ok (E i) w) :
    (Op.equalIn (d + 1) ty (.agg xs) (.agg ys)).run P w = .ok (decide (∀ i, i < m → E i = true)) w := by
  have hall : (List.range' 0 m).all E = decide (∀ i, i < m → E i = true) := by
    rw [Bool.eq_iff_iff]; simp
  unfold Op.equalIn
  rw [Sem.run_bind, run_underlying hu w]
  simp only [Result.andThen_ok]
  cases hq : P.info? e with
  | none => simp [hq] at hi
  | some j =>
    have hsz : j.size = sz := by simpa [hq] using hi
    simp only [sizeOf, typeInfo, Sem.run_bind]
    simp only [hq, hsz, run_program, Result.andThen_ok, Sem.run_pure]
    simp
    have hl := run_eqLoop (m := m) d xs ys w E _ (fun _ _ => rfl) h m 0 (by omega)
    rw [hl, hall]
    cases decide (∀ i, i < m → E i = true) <;> rfl

theorem run_part_int {k : IntKind} (he : P.underlying e = some (.int k)) (xs : Array Value) (i : Nat) (v : Value) (h : xs[i]? = some v) (w : World) : (part e xs i).run P w = .ok v w := by
  have hagg : (isAgg e).run P w = .ok false w := by
    unfold isAgg
    rw [Sem.run_bind, run_underlying he w]
    simp
  simp [part, Sem.run_bind, hagg, h]

theorem run_part_agg {d : TypeDesc} (hu : P.underlying e = some d) (hd : (match d with | .struct _ | .array _ _ => true | _ => false) = true) (hi : (P.info? e).map (·.size) = some sz) (xs : Array Value) (i : Nat) (w : World) :
    (part e xs i).run P w = .ok (.agg (xs.extract i (i + sz))) w := by
  have hagg : (isAgg e).run P w = .ok true w := by
    unfold isAgg
    rw [Sem.run_bind, run_underlying hu w]
    cases d <;> simp_all
  cases hq : P.info? e with
  | none => simp [hq] at hi
  | some j =>
    have hsz : j.size = sz := by simpa [hq] using hi
    simp [part, Sem.run_bind, hagg, sizeOf, typeInfo, hq, hsz]

theorem run_equalIn_ints {k : IntKind} (hu : P.underlying ty = some (.array m e)) (he : P.underlying e = some (.int k)) (hi : (P.info? e).map (·.size) = some 1)
    (xs ys : Array Value) (f g : Nat → Int) (hx : ∀ i, i < m → xs[i]? = some (.int k (f i))) (hy : ∀ i, i < m → ys[i]? = some (.int k (g i))) (d : Nat) (w : World) :
    (Op.equalIn (d + 2) ty (.agg xs) (.agg ys)).run P w = .ok (decide (∀ i, i < m → f i = g i)) w := by
  rw [run_equalIn_arr hu hi (d + 1) xs ys w (fun i => f i == g i) (fun i him => ⟨_, _, run_part_int he xs (i * 1) _ (by rw [Nat.mul_one]; exact hx i him) w, run_part_int he ys (i * 1) _ (by rw [Nat.mul_one]; exact hy i him) w,
    run_equalIn_int w d e k k (f i) (g i) he⟩)]
  simp

theorem run_equalIn_ints_t {k : IntKind} (hu : P.underlying ty = some (.array m e)) (he : P.underlying e = some (.int k)) (hi : (P.info? e).map (·.size) = some 1)
    (xs ys : Array Value) (f g : Nat → Int) (hx : ∀ i, i < m → xs[i]? = some (.int k (f i))) (hy : ∀ i, i < m → ys[i]? = some (.int k (g i))) (h : ∀ i, i < m → f i = g i) (d : Nat) (w : World) :
    (Op.equalIn (d + 2) ty (.agg xs) (.agg ys)).run P w = .ok true w := by
  rw [run_equalIn_ints hu he hi xs ys f g hx hy, decide_eq_true h]
theorem run_equalIn_ints_f {k : IntKind} (hu : P.underlying ty = some (.array m e)) (he : P.underlying e = some (.int k)) (hi : (P.info? e).map (·.size) = some 1)
    (xs ys : Array Value) (f g : Nat → Int) (hx : ∀ i, i < m → xs[i]? = some (.int k (f i))) (hy : ∀ i, i < m → ys[i]? = some (.int k (g i))) (h : ¬ ∀ i, i < m → f i = g i) (d : Nat) (w : World) :
    (Op.equalIn (d + 2) ty (.agg xs) (.agg ys)).run P w = .ok false w := by
  rw [run_equalIn_ints hu he hi xs ys f g hx hy, decide_eq_false h]
end
end Go.Proofs.YtppohghejhcilaaDoor
