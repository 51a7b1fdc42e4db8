/- errors.As at the refusals of chapter 7, walked; the code of a refusal. -/
import Derived.Test.YtppohghejhcilaaDoorAs
import Derived.Lib.Hide
namespace Go.Proofs.YtppohghejhcilaaDoor
open Go.RowKit Go.Extern.Stop Go.Stop Go.Extern

/-- The variable errors.errorType. -/
def ErrT (w : World) : Prop := w.cell? ⟨0, 0, none⟩ = some (.iface 181 (.agg #[.pointer (some ⟨4, 76, none⟩)]))
theorem ErrT.lt {w : World} (h : ErrT w) : 0 < w.heap.size := by
  unfold ErrT at h
  rcases Nat.lt_or_ge 0 w.heap.size with h' | h'
  · exact h'
  · simp [World.cell?, Array.getElem?_eq_none h'] at h
theorem ErrT.below {w w' : World} (h : ErrT w) (b : Below w.heap.size w w') : ErrT w' := (b.cell (p := ⟨_, 0, none⟩) h.lt).trans h

set_option maxHeartbeats 4000000 in
theorem as2_VV (t a : Addr) (w : World) (ha : w.cell? a = some (.pointer (some t))) :
    Calls Tryd.prog 104 #[.iface 130 (.agg #[]), .iface 134 (.pointer (some t)), .agg #[.pointer (some ⟨4, 134, none⟩), .pointer (some a), .int .u64 150], .iface 181 (.agg #[.pointer (some ⟨4, 130, none⟩)])] w fun x w' => x = .returned (.bool true) ∧ Below w.heap.size w w' := by
  have hal : a.block < w.heap.size := by
    rcases Nat.lt_or_ge a.block w.heap.size with h' | h'
    · exact h'
    · simp [World.cell?, Array.getElem?_eq_none h'] at ha
  have hO := @run_callFunc_extern Tryd.prog 111 _ (ReflectliteType.typeOf) Tryd.func111 (by kernel_rfl) (by kernel_rfl) (by kernel_rfl) (by kernel_rfl)
  have hA := @run_callFunc_extern Tryd.prog 164 _ (ReflectliteType.relation "AssignableTo" ReflectliteType.assignableTo) Tryd.func164 (by kernel_rfl) (by kernel_rfl) (by kernel_rfl) (by kernel_rfl)
  have mA := asMethodAssignableTo
  have tO := asTypeOfV
  have aA := asAssignVV
  have hV := @run_callFunc_extern Tryd.prog 101 _ (fun args => ReflectliteValue.unpack (args.getD 0 (.tuple #[]))) Tryd.func101 (by kernel_rfl) (by kernel_rfl) (by kernel_rfl) (by kernel_rfl)
  have hE := @run_callFunc_extern Tryd.prog 112 _ (ReflectliteValue.method (ReflectliteValue.valueError "reflectlite.Value.Elem" 0) ReflectliteValue.elem) Tryd.func112 (by kernel_rfl) (by kernel_rfl) (by kernel_rfl) (by kernel_rfl)
  have hS := @run_callFunc_extern Tryd.prog 113 _ (ReflectliteValue.set) Tryd.func113 (by kernel_rfl) (by kernel_rfl) (by kernel_rfl) (by kernel_rfl)
  have vO := asValueOfV
  have sT := asSetV
  have eV := asElemVV a t (w.alloc (.cells #[.pointer (some ⟨4, 134, none⟩), .pointer (some a), .int .u64 150] 166)) (by rw [World.cell?_alloc_lt _ _ a hal]; exact ha)
  clear ha
  go_enter Tryd.func104, Tryd.ntmps104
  go_wp2
  refine wp_loop_rounds 1 ?_
  rw [rounds_succ]
  go_wp2
  go_ret
  exact ⟨rfl, ((Below.refl _ _).alloc (Nat.le_refl _) _).alloc (by simp) _⟩

set_option maxHeartbeats 4000000 in
theorem as2_RV (t a : Addr) (w : World) (ha : w.cell? a = some (.pointer (some t))) :
    Calls Tryd.prog 104 #[.iface 131 (.agg #[]), .iface 134 (.pointer (some t)), .agg #[.pointer (some ⟨4, 134, none⟩), .pointer (some a), .int .u64 150], .iface 181 (.agg #[.pointer (some ⟨4, 130, none⟩)])] w fun x w' => x = .returned (.bool false) ∧ Below w.heap.size w w' := by
  have hal : a.block < w.heap.size := by
    rcases Nat.lt_or_ge a.block w.heap.size with h' | h'
    · exact h'
    · simp [World.cell?, Array.getElem?_eq_none h'] at ha
  have hO := @run_callFunc_extern Tryd.prog 111 _ (ReflectliteType.typeOf) Tryd.func111 (by kernel_rfl) (by kernel_rfl) (by kernel_rfl) (by kernel_rfl)
  have hA := @run_callFunc_extern Tryd.prog 164 _ (ReflectliteType.relation "AssignableTo" ReflectliteType.assignableTo) Tryd.func164 (by kernel_rfl) (by kernel_rfl) (by kernel_rfl) (by kernel_rfl)
  have mA := asMethodAssignableTo
  have tO := asTypeOfR
  have aA := asAssignRV
  have l1 := asLacksR1
  have l2 := asLacksR2
  have l3 := asLacksR3
  clear ha hal
  go_enter Tryd.func104, Tryd.ntmps104
  go_wp2
  refine wp_loop_rounds 1 ?_
  rw [rounds_succ]
  go_wp2
  go_ret
  exact ⟨rfl, (Below.refl _ _).alloc (Nat.le_refl _) _⟩

set_option maxHeartbeats 4000000 in
theorem as2_LV (t a : Addr) (w : World) (ha : w.cell? a = some (.pointer (some t))) :
    Calls Tryd.prog 104 #[.iface 132 (.agg #[]), .iface 134 (.pointer (some t)), .agg #[.pointer (some ⟨4, 134, none⟩), .pointer (some a), .int .u64 150], .iface 181 (.agg #[.pointer (some ⟨4, 130, none⟩)])] w fun x w' => x = .returned (.bool false) ∧ Below w.heap.size w w' := by
  have hal : a.block < w.heap.size := by
    rcases Nat.lt_or_ge a.block w.heap.size with h' | h'
    · exact h'
    · simp [World.cell?, Array.getElem?_eq_none h'] at ha
  have hO := @run_callFunc_extern Tryd.prog 111 _ (ReflectliteType.typeOf) Tryd.func111 (by kernel_rfl) (by kernel_rfl) (by kernel_rfl) (by kernel_rfl)
  have hA := @run_callFunc_extern Tryd.prog 164 _ (ReflectliteType.relation "AssignableTo" ReflectliteType.assignableTo) Tryd.func164 (by kernel_rfl) (by kernel_rfl) (by kernel_rfl) (by kernel_rfl)
  have mA := asMethodAssignableTo
  have tO := asTypeOfL
  have aA := asAssignLV
  have l1 := asLacksL1
  have l2 := asLacksL2
  have l3 := asLacksL3
  clear ha hal
  go_enter Tryd.func104, Tryd.ntmps104
  go_wp2
  refine wp_loop_rounds 1 ?_
  rw [rounds_succ]
  go_wp2
  go_ret
  exact ⟨rfl, (Below.refl _ _).alloc (Nat.le_refl _) _⟩

set_option maxHeartbeats 4000000 in
theorem as2_TV (t a : Addr) (w : World) (ha : w.cell? a = some (.pointer (some t))) :
    Calls Tryd.prog 104 #[.iface 129 (.agg #[]), .iface 134 (.pointer (some t)), .agg #[.pointer (some ⟨4, 134, none⟩), .pointer (some a), .int .u64 150], .iface 181 (.agg #[.pointer (some ⟨4, 130, none⟩)])] w fun x w' => x = .returned (.bool false) ∧ Below w.heap.size w w' := by
  have hal : a.block < w.heap.size := by
    rcases Nat.lt_or_ge a.block w.heap.size with h' | h'
    · exact h'
    · simp [World.cell?, Array.getElem?_eq_none h'] at ha
  have hO := @run_callFunc_extern Tryd.prog 111 _ (ReflectliteType.typeOf) Tryd.func111 (by kernel_rfl) (by kernel_rfl) (by kernel_rfl) (by kernel_rfl)
  have hA := @run_callFunc_extern Tryd.prog 164 _ (ReflectliteType.relation "AssignableTo" ReflectliteType.assignableTo) Tryd.func164 (by kernel_rfl) (by kernel_rfl) (by kernel_rfl) (by kernel_rfl)
  have mA := asMethodAssignableTo
  have tO := asTypeOfT
  have aA := asAssignTV
  have l1 := asLacksT1
  have l2 := asLacksT2
  have l3 := asLacksT3
  clear ha hal
  go_enter Tryd.func104, Tryd.ntmps104
  go_wp2
  refine wp_loop_rounds 1 ?_
  rw [rounds_succ]
  go_wp2
  go_ret
  exact ⟨rfl, (Below.refl _ _).alloc (Nat.le_refl _) _⟩

set_option maxHeartbeats 4000000 in
theorem as2_RR (t a : Addr) (w : World) (ha : w.cell? a = some (.pointer (some t))) :
    Calls Tryd.prog 104 #[.iface 131 (.agg #[]), .iface 135 (.pointer (some t)), .agg #[.pointer (some ⟨4, 135, none⟩), .pointer (some a), .int .u64 150], .iface 181 (.agg #[.pointer (some ⟨4, 131, none⟩)])] w fun x w' => x = .returned (.bool true) ∧ Below w.heap.size w w' := by
  have hal : a.block < w.heap.size := by
    rcases Nat.lt_or_ge a.block w.heap.size with h' | h'
    · exact h'
    · simp [World.cell?, Array.getElem?_eq_none h'] at ha
  have hO := @run_callFunc_extern Tryd.prog 111 _ (ReflectliteType.typeOf) Tryd.func111 (by kernel_rfl) (by kernel_rfl) (by kernel_rfl) (by kernel_rfl)
  have hA := @run_callFunc_extern Tryd.prog 164 _ (ReflectliteType.relation "AssignableTo" ReflectliteType.assignableTo) Tryd.func164 (by kernel_rfl) (by kernel_rfl) (by kernel_rfl) (by kernel_rfl)
  have mA := asMethodAssignableTo
  have tO := asTypeOfR
  have aA := asAssignRR
  have hV := @run_callFunc_extern Tryd.prog 101 _ (fun args => ReflectliteValue.unpack (args.getD 0 (.tuple #[]))) Tryd.func101 (by kernel_rfl) (by kernel_rfl) (by kernel_rfl) (by kernel_rfl)
  have hE := @run_callFunc_extern Tryd.prog 112 _ (ReflectliteValue.method (ReflectliteValue.valueError "reflectlite.Value.Elem" 0) ReflectliteValue.elem) Tryd.func112 (by kernel_rfl) (by kernel_rfl) (by kernel_rfl) (by kernel_rfl)
  have hS := @run_callFunc_extern Tryd.prog 113 _ (ReflectliteValue.set) Tryd.func113 (by kernel_rfl) (by kernel_rfl) (by kernel_rfl) (by kernel_rfl)
  have vO := asValueOfR
  have sT := asSetR
  have eV := asElemVR a t (w.alloc (.cells #[.pointer (some ⟨4, 135, none⟩), .pointer (some a), .int .u64 150] 166)) (by rw [World.cell?_alloc_lt _ _ a hal]; exact ha)
  clear ha
  go_enter Tryd.func104, Tryd.ntmps104
  go_wp2
  refine wp_loop_rounds 1 ?_
  rw [rounds_succ]
  go_wp2
  go_ret
  exact ⟨rfl, ((Below.refl _ _).alloc (Nat.le_refl _) _).alloc (by simp) _⟩

set_option maxHeartbeats 4000000 in
theorem as2_LR (t a : Addr) (w : World) (ha : w.cell? a = some (.pointer (some t))) :
    Calls Tryd.prog 104 #[.iface 132 (.agg #[]), .iface 135 (.pointer (some t)), .agg #[.pointer (some ⟨4, 135, none⟩), .pointer (some a), .int .u64 150], .iface 181 (.agg #[.pointer (some ⟨4, 131, none⟩)])] w fun x w' => x = .returned (.bool false) ∧ Below w.heap.size w w' := by
  have hal : a.block < w.heap.size := by
    rcases Nat.lt_or_ge a.block w.heap.size with h' | h'
    · exact h'
    · simp [World.cell?, Array.getElem?_eq_none h'] at ha
  have hO := @run_callFunc_extern Tryd.prog 111 _ (ReflectliteType.typeOf) Tryd.func111 (by kernel_rfl) (by kernel_rfl) (by kernel_rfl) (by kernel_rfl)
  have hA := @run_callFunc_extern Tryd.prog 164 _ (ReflectliteType.relation "AssignableTo" ReflectliteType.assignableTo) Tryd.func164 (by kernel_rfl) (by kernel_rfl) (by kernel_rfl) (by kernel_rfl)
  have mA := asMethodAssignableTo
  have tO := asTypeOfL
  have aA := asAssignLR
  have l1 := asLacksL1
  have l2 := asLacksL2
  have l3 := asLacksL3
  clear ha hal
  go_enter Tryd.func104, Tryd.ntmps104
  go_wp2
  refine wp_loop_rounds 1 ?_
  rw [rounds_succ]
  go_wp2
  go_ret
  exact ⟨rfl, (Below.refl _ _).alloc (Nat.le_refl _) _⟩

set_option maxHeartbeats 4000000 in
theorem as2_TR (t a : Addr) (w : World) (ha : w.cell? a = some (.pointer (some t))) :
    Calls Tryd.prog 104 #[.iface 129 (.agg #[]), .iface 135 (.pointer (some t)), .agg #[.pointer (some ⟨4, 135, none⟩), .pointer (some a), .int .u64 150], .iface 181 (.agg #[.pointer (some ⟨4, 131, none⟩)])] w fun x w' => x = .returned (.bool false) ∧ Below w.heap.size w w' := by
  have hal : a.block < w.heap.size := by
    rcases Nat.lt_or_ge a.block w.heap.size with h' | h'
    · exact h'
    · simp [World.cell?, Array.getElem?_eq_none h'] at ha
  have hO := @run_callFunc_extern Tryd.prog 111 _ (ReflectliteType.typeOf) Tryd.func111 (by kernel_rfl) (by kernel_rfl) (by kernel_rfl) (by kernel_rfl)
  have hA := @run_callFunc_extern Tryd.prog 164 _ (ReflectliteType.relation "AssignableTo" ReflectliteType.assignableTo) Tryd.func164 (by kernel_rfl) (by kernel_rfl) (by kernel_rfl) (by kernel_rfl)
  have mA := asMethodAssignableTo
  have tO := asTypeOfT
  have aA := asAssignTR
  have l1 := asLacksT1
  have l2 := asLacksT2
  have l3 := asLacksT3
  clear ha hal
  go_enter Tryd.func104, Tryd.ntmps104
  go_wp2
  refine wp_loop_rounds 1 ?_
  rw [rounds_succ]
  go_wp2
  go_ret
  exact ⟨rfl, (Below.refl _ _).alloc (Nat.le_refl _) _⟩

set_option maxHeartbeats 4000000 in
theorem as2_LL (t a : Addr) (w : World) (ha : w.cell? a = some (.pointer (some t))) :
    Calls Tryd.prog 104 #[.iface 132 (.agg #[]), .iface 136 (.pointer (some t)), .agg #[.pointer (some ⟨4, 136, none⟩), .pointer (some a), .int .u64 150], .iface 181 (.agg #[.pointer (some ⟨4, 132, none⟩)])] w fun x w' => x = .returned (.bool true) ∧ Below w.heap.size w w' := by
  have hal : a.block < w.heap.size := by
    rcases Nat.lt_or_ge a.block w.heap.size with h' | h'
    · exact h'
    · simp [World.cell?, Array.getElem?_eq_none h'] at ha
  have hO := @run_callFunc_extern Tryd.prog 111 _ (ReflectliteType.typeOf) Tryd.func111 (by kernel_rfl) (by kernel_rfl) (by kernel_rfl) (by kernel_rfl)
  have hA := @run_callFunc_extern Tryd.prog 164 _ (ReflectliteType.relation "AssignableTo" ReflectliteType.assignableTo) Tryd.func164 (by kernel_rfl) (by kernel_rfl) (by kernel_rfl) (by kernel_rfl)
  have mA := asMethodAssignableTo
  have tO := asTypeOfL
  have aA := asAssignLL
  have hV := @run_callFunc_extern Tryd.prog 101 _ (fun args => ReflectliteValue.unpack (args.getD 0 (.tuple #[]))) Tryd.func101 (by kernel_rfl) (by kernel_rfl) (by kernel_rfl) (by kernel_rfl)
  have hE := @run_callFunc_extern Tryd.prog 112 _ (ReflectliteValue.method (ReflectliteValue.valueError "reflectlite.Value.Elem" 0) ReflectliteValue.elem) Tryd.func112 (by kernel_rfl) (by kernel_rfl) (by kernel_rfl) (by kernel_rfl)
  have hS := @run_callFunc_extern Tryd.prog 113 _ (ReflectliteValue.set) Tryd.func113 (by kernel_rfl) (by kernel_rfl) (by kernel_rfl) (by kernel_rfl)
  have vO := asValueOfL
  have sT := asSetL
  have eV := asElemVL a t (w.alloc (.cells #[.pointer (some ⟨4, 136, none⟩), .pointer (some a), .int .u64 150] 166)) (by rw [World.cell?_alloc_lt _ _ a hal]; exact ha)
  clear ha
  go_enter Tryd.func104, Tryd.ntmps104
  go_wp2
  refine wp_loop_rounds 1 ?_
  rw [rounds_succ]
  go_wp2
  go_ret
  exact ⟨rfl, ((Below.refl _ _).alloc (Nat.le_refl _) _).alloc (by simp) _⟩

set_option maxHeartbeats 4000000 in
theorem as2_TL (t a : Addr) (w : World) (ha : w.cell? a = some (.pointer (some t))) :
    Calls Tryd.prog 104 #[.iface 129 (.agg #[]), .iface 136 (.pointer (some t)), .agg #[.pointer (some ⟨4, 136, none⟩), .pointer (some a), .int .u64 150], .iface 181 (.agg #[.pointer (some ⟨4, 132, none⟩)])] w fun x w' => x = .returned (.bool false) ∧ Below w.heap.size w w' := by
  have hal : a.block < w.heap.size := by
    rcases Nat.lt_or_ge a.block w.heap.size with h' | h'
    · exact h'
    · simp [World.cell?, Array.getElem?_eq_none h'] at ha
  have hO := @run_callFunc_extern Tryd.prog 111 _ (ReflectliteType.typeOf) Tryd.func111 (by kernel_rfl) (by kernel_rfl) (by kernel_rfl) (by kernel_rfl)
  have hA := @run_callFunc_extern Tryd.prog 164 _ (ReflectliteType.relation "AssignableTo" ReflectliteType.assignableTo) Tryd.func164 (by kernel_rfl) (by kernel_rfl) (by kernel_rfl) (by kernel_rfl)
  have mA := asMethodAssignableTo
  have tO := asTypeOfT
  have aA := asAssignTL
  have l1 := asLacksT1
  have l2 := asLacksT2
  have l3 := asLacksT3
  clear ha hal
  go_enter Tryd.func104, Tryd.ntmps104
  go_wp2
  refine wp_loop_rounds 1 ?_
  rw [rounds_succ]
  go_wp2
  go_ret
  exact ⟨rfl, (Below.refl _ _).alloc (Nat.le_refl _) _⟩

set_option maxHeartbeats 4000000 in
theorem asGen_V (eT : TypeId) (ans : Bool) (t : Addr) (w : World) (hT : ErrT w) (CA : ∀ W, W.cell? ⟨w.heap.size, 0, none⟩ = some (.pointer (some t)) → Calls Tryd.prog 104 #[.iface eT (.agg #[]), .iface 134 (.pointer (some t)), .agg #[.pointer (some ⟨4, 134, none⟩), .pointer (some ⟨w.heap.size, 0, none⟩), .int .u64 150], .iface 181 (.agg #[.pointer (some ⟨4, 130, none⟩)])] W fun x w' => x = .returned (.bool ans) ∧ Below W.heap.size W w') :
    Calls Tryd.prog 79 #[.iface eT (.agg #[]), .iface 134 (.pointer (some t))] w fun x w' => x = .returned (.bool ans) ∧ Below w.heap.size w w' := by
  have hlt := hT.lt
  have hV := @run_callFunc_extern Tryd.prog 101 _ (fun args => ReflectliteValue.unpack (args.getD 0 (.tuple #[]))) Tryd.func101 (by kernel_rfl) (by kernel_rfl) (by kernel_rfl) (by kernel_rfl)
  have hTy := @run_callFunc_extern Tryd.prog 102 _ (ReflectliteValue.methodAny (ReflectliteValue.valueError "reflectlite.Value.Type" 0) (fun t _ _ _ => ReflectliteType.toType t)) Tryd.func102 (by kernel_rfl) (by kernel_rfl) (by kernel_rfl) (by kernel_rfl)
  have hN := @run_callFunc_extern Tryd.prog 103 _ (ReflectliteValue.method (ReflectliteValue.valueError "reflectlite.Value.IsNil" 0) ReflectliteValue.isNil) Tryd.func103 (by kernel_rfl) (by kernel_rfl) (by kernel_rfl) (by kernel_rfl)
  have hK := @run_callFunc_extern Tryd.prog 148 _ (ReflectliteType.abiMethod fun t => do pure (.int .u8 (← Rtype.kind t))) Tryd.func148 (by kernel_rfl) (by kernel_rfl) (by kernel_rfl) (by kernel_rfl)
  have hE := @run_callFunc_extern Tryd.prog 166 _ (ReflectliteType.method ReflectliteType.elem) Tryd.func166 (by kernel_rfl) (by kernel_rfl) (by kernel_rfl) (by kernel_rfl)
  have hI := @run_callFunc_extern Tryd.prog 167 _ (ReflectliteType.relation "Implements" ReflectliteType.implements_) Tryd.func167 (by kernel_rfl) (by kernel_rfl) (by kernel_rfl) (by kernel_rfl)
  have vP := asValueOfPV
  have tP := asTypePV
  have mK := asMethodKind
  have mE := asMethodElem
  have mI := asMethodImplements
  have kP := asKindPV
  have kE := asKindEV
  have eP := asElemPV
  have iE := asImplEV
  have hn1 := run_eql_iface_nil (P := Tryd.prog) (w := w) 76 (by kernel_rfl) eT (.agg #[])
  have hn2 := run_eql_iface_nil (P := Tryd.prog) (w := w) 20 (by kernel_rfl) 134 (.pointer (some t))
  have nI := asIsNilPV ⟨w.heap.size, 0, none⟩ t ((w.alloc (.cells #[.pointer (some t)] 134)).alloc (.cells #[.pointer (some ⟨4, 134, none⟩), .pointer (some ⟨w.heap.size, 0, none⟩), .int .u64 150] 166)) (by simp)
  have hg2 : ((w.alloc (.cells #[.pointer (some t)] 134)).alloc (.cells #[.pointer (some ⟨4, 134, none⟩), .pointer (some ⟨w.heap.size, 0, none⟩), .int .u64 150] 166)).cell? ⟨0, 0, none⟩ = some (.iface 181 (.agg #[.pointer (some ⟨4, 76, none⟩)])) := by
    rw [World.cell?_alloc_lt _ _ ⟨_, 0, none⟩ (by simp <;> omega), World.cell?_alloc_lt _ _ ⟨_, 0, none⟩ hlt]; exact hT
  have HCA := Lib.hid CA
  clear hT hlt CA
  go_enter Tryd.func79, Tryd.ntmps79
  go_wp2_with fail
  refine (HCA.out _ (by rw [World.cell?_alloc_lt _ _ ⟨w.heap.size, 0, none⟩ (by simp)]; first | done | simp)).mono ?_
  rintro x w1 ⟨rfl, b1⟩
  have B1 : Below w.heap.size w w1 := (((Below.refl _ _).alloc (Nat.le_refl _) _).alloc (by simp) _).trans (b1.mono (by simp <;> omega))
  clear b1
  go_wp2
  go_ret
  exact ⟨rfl, B1⟩
theorem as_VV (t : Addr) (w : World) (hT : ErrT w) :
    Calls Tryd.prog 79 #[.iface 130 (.agg #[]), .iface 134 (.pointer (some t))] w fun x w' => x = .returned (.bool true) ∧ Below w.heap.size w w' := asGen_V 130 true t w hT fun W h => as2_VV t ⟨w.heap.size, 0, none⟩ W h
theorem as_RV (t : Addr) (w : World) (hT : ErrT w) :
    Calls Tryd.prog 79 #[.iface 131 (.agg #[]), .iface 134 (.pointer (some t))] w fun x w' => x = .returned (.bool false) ∧ Below w.heap.size w w' := asGen_V 131 false t w hT fun W h => as2_RV t ⟨w.heap.size, 0, none⟩ W h
theorem as_LV (t : Addr) (w : World) (hT : ErrT w) :
    Calls Tryd.prog 79 #[.iface 132 (.agg #[]), .iface 134 (.pointer (some t))] w fun x w' => x = .returned (.bool false) ∧ Below w.heap.size w w' := asGen_V 132 false t w hT fun W h => as2_LV t ⟨w.heap.size, 0, none⟩ W h
theorem as_TV (t : Addr) (w : World) (hT : ErrT w) :
    Calls Tryd.prog 79 #[.iface 129 (.agg #[]), .iface 134 (.pointer (some t))] w fun x w' => x = .returned (.bool false) ∧ Below w.heap.size w w' := asGen_V 129 false t w hT fun W h => as2_TV t ⟨w.heap.size, 0, none⟩ W h

set_option maxHeartbeats 4000000 in
theorem asGen_R (eT : TypeId) (ans : Bool) (t : Addr) (w : World) (hT : ErrT w) (CA : ∀ W, W.cell? ⟨w.heap.size, 0, none⟩ = some (.pointer (some t)) → Calls Tryd.prog 104 #[.iface eT (.agg #[]), .iface 135 (.pointer (some t)), .agg #[.pointer (some ⟨4, 135, none⟩), .pointer (some ⟨w.heap.size, 0, none⟩), .int .u64 150], .iface 181 (.agg #[.pointer (some ⟨4, 131, none⟩)])] W fun x w' => x = .returned (.bool ans) ∧ Below W.heap.size W w') :
    Calls Tryd.prog 79 #[.iface eT (.agg #[]), .iface 135 (.pointer (some t))] w fun x w' => x = .returned (.bool ans) ∧ Below w.heap.size w w' := by
  have hlt := hT.lt
  have hV := @run_callFunc_extern Tryd.prog 101 _ (fun args => ReflectliteValue.unpack (args.getD 0 (.tuple #[]))) Tryd.func101 (by kernel_rfl) (by kernel_rfl) (by kernel_rfl) (by kernel_rfl)
  have hTy := @run_callFunc_extern Tryd.prog 102 _ (ReflectliteValue.methodAny (ReflectliteValue.valueError "reflectlite.Value.Type" 0) (fun t _ _ _ => ReflectliteType.toType t)) Tryd.func102 (by kernel_rfl) (by kernel_rfl) (by kernel_rfl) (by kernel_rfl)
  have hN := @run_callFunc_extern Tryd.prog 103 _ (ReflectliteValue.method (ReflectliteValue.valueError "reflectlite.Value.IsNil" 0) ReflectliteValue.isNil) Tryd.func103 (by kernel_rfl) (by kernel_rfl) (by kernel_rfl) (by kernel_rfl)
  have hK := @run_callFunc_extern Tryd.prog 148 _ (ReflectliteType.abiMethod fun t => do pure (.int .u8 (← Rtype.kind t))) Tryd.func148 (by kernel_rfl) (by kernel_rfl) (by kernel_rfl) (by kernel_rfl)
  have hE := @run_callFunc_extern Tryd.prog 166 _ (ReflectliteType.method ReflectliteType.elem) Tryd.func166 (by kernel_rfl) (by kernel_rfl) (by kernel_rfl) (by kernel_rfl)
  have hI := @run_callFunc_extern Tryd.prog 167 _ (ReflectliteType.relation "Implements" ReflectliteType.implements_) Tryd.func167 (by kernel_rfl) (by kernel_rfl) (by kernel_rfl) (by kernel_rfl)
  have vP := asValueOfPR
  have tP := asTypePR
  have mK := asMethodKind
  have mE := asMethodElem
  have mI := asMethodImplements
  have kP := asKindPR
  have kE := asKindER
  have eP := asElemPR
  have iE := asImplER
  have hn1 := run_eql_iface_nil (P := Tryd.prog) (w := w) 76 (by kernel_rfl) eT (.agg #[])
  have hn2 := run_eql_iface_nil (P := Tryd.prog) (w := w) 20 (by kernel_rfl) 135 (.pointer (some t))
  have nI := asIsNilPR ⟨w.heap.size, 0, none⟩ t ((w.alloc (.cells #[.pointer (some t)] 135)).alloc (.cells #[.pointer (some ⟨4, 135, none⟩), .pointer (some ⟨w.heap.size, 0, none⟩), .int .u64 150] 166)) (by simp)
  have hg2 : ((w.alloc (.cells #[.pointer (some t)] 135)).alloc (.cells #[.pointer (some ⟨4, 135, none⟩), .pointer (some ⟨w.heap.size, 0, none⟩), .int .u64 150] 166)).cell? ⟨0, 0, none⟩ = some (.iface 181 (.agg #[.pointer (some ⟨4, 76, none⟩)])) := by
    rw [World.cell?_alloc_lt _ _ ⟨_, 0, none⟩ (by simp <;> omega), World.cell?_alloc_lt _ _ ⟨_, 0, none⟩ hlt]; exact hT
  have HCA := Lib.hid CA
  clear hT hlt CA
  go_enter Tryd.func79, Tryd.ntmps79
  go_wp2_with fail
  refine (HCA.out _ (by rw [World.cell?_alloc_lt _ _ ⟨w.heap.size, 0, none⟩ (by simp)]; first | done | simp)).mono ?_
  rintro x w1 ⟨rfl, b1⟩
  have B1 : Below w.heap.size w w1 := (((Below.refl _ _).alloc (Nat.le_refl _) _).alloc (by simp) _).trans (b1.mono (by simp <;> omega))
  clear b1
  go_wp2
  go_ret
  exact ⟨rfl, B1⟩
theorem as_RR (t : Addr) (w : World) (hT : ErrT w) :
    Calls Tryd.prog 79 #[.iface 131 (.agg #[]), .iface 135 (.pointer (some t))] w fun x w' => x = .returned (.bool true) ∧ Below w.heap.size w w' := asGen_R 131 true t w hT fun W h => as2_RR t ⟨w.heap.size, 0, none⟩ W h
theorem as_LR (t : Addr) (w : World) (hT : ErrT w) :
    Calls Tryd.prog 79 #[.iface 132 (.agg #[]), .iface 135 (.pointer (some t))] w fun x w' => x = .returned (.bool false) ∧ Below w.heap.size w w' := asGen_R 132 false t w hT fun W h => as2_LR t ⟨w.heap.size, 0, none⟩ W h
theorem as_TR (t : Addr) (w : World) (hT : ErrT w) :
    Calls Tryd.prog 79 #[.iface 129 (.agg #[]), .iface 135 (.pointer (some t))] w fun x w' => x = .returned (.bool false) ∧ Below w.heap.size w w' := asGen_R 129 false t w hT fun W h => as2_TR t ⟨w.heap.size, 0, none⟩ W h

set_option maxHeartbeats 4000000 in
theorem asGen_L (eT : TypeId) (ans : Bool) (t : Addr) (w : World) (hT : ErrT w) (CA : ∀ W, W.cell? ⟨w.heap.size, 0, none⟩ = some (.pointer (some t)) → Calls Tryd.prog 104 #[.iface eT (.agg #[]), .iface 136 (.pointer (some t)), .agg #[.pointer (some ⟨4, 136, none⟩), .pointer (some ⟨w.heap.size, 0, none⟩), .int .u64 150], .iface 181 (.agg #[.pointer (some ⟨4, 132, none⟩)])] W fun x w' => x = .returned (.bool ans) ∧ Below W.heap.size W w') :
    Calls Tryd.prog 79 #[.iface eT (.agg #[]), .iface 136 (.pointer (some t))] w fun x w' => x = .returned (.bool ans) ∧ Below w.heap.size w w' := by
  have hlt := hT.lt
  have hV := @run_callFunc_extern Tryd.prog 101 _ (fun args => ReflectliteValue.unpack (args.getD 0 (.tuple #[]))) Tryd.func101 (by kernel_rfl) (by kernel_rfl) (by kernel_rfl) (by kernel_rfl)
  have hTy := @run_callFunc_extern Tryd.prog 102 _ (ReflectliteValue.methodAny (ReflectliteValue.valueError "reflectlite.Value.Type" 0) (fun t _ _ _ => ReflectliteType.toType t)) Tryd.func102 (by kernel_rfl) (by kernel_rfl) (by kernel_rfl) (by kernel_rfl)
  have hN := @run_callFunc_extern Tryd.prog 103 _ (ReflectliteValue.method (ReflectliteValue.valueError "reflectlite.Value.IsNil" 0) ReflectliteValue.isNil) Tryd.func103 (by kernel_rfl) (by kernel_rfl) (by kernel_rfl) (by kernel_rfl)
  have hK := @run_callFunc_extern Tryd.prog 148 _ (ReflectliteType.abiMethod fun t => do pure (.int .u8 (← Rtype.kind t))) Tryd.func148 (by kernel_rfl) (by kernel_rfl) (by kernel_rfl) (by kernel_rfl)
  have hE := @run_callFunc_extern Tryd.prog 166 _ (ReflectliteType.method ReflectliteType.elem) Tryd.func166 (by kernel_rfl) (by kernel_rfl) (by kernel_rfl) (by kernel_rfl)
  have hI := @run_callFunc_extern Tryd.prog 167 _ (ReflectliteType.relation "Implements" ReflectliteType.implements_) Tryd.func167 (by kernel_rfl) (by kernel_rfl) (by kernel_rfl) (by kernel_rfl)
  have vP := asValueOfPL
  have tP := asTypePL
  have mK := asMethodKind
  have mE := asMethodElem
  have mI := asMethodImplements
  have kP := asKindPL
  have kE := asKindEL
  have eP := asElemPL
  have iE := asImplEL
  have hn1 := run_eql_iface_nil (P := Tryd.prog) (w := w) 76 (by kernel_rfl) eT (.agg #[])
  have hn2 := run_eql_iface_nil (P := Tryd.prog) (w := w) 20 (by kernel_rfl) 136 (.pointer (some t))
  have nI := asIsNilPL ⟨w.heap.size, 0, none⟩ t ((w.alloc (.cells #[.pointer (some t)] 136)).alloc (.cells #[.pointer (some ⟨4, 136, none⟩), .pointer (some ⟨w.heap.size, 0, none⟩), .int .u64 150] 166)) (by simp)
  have hg2 : ((w.alloc (.cells #[.pointer (some t)] 136)).alloc (.cells #[.pointer (some ⟨4, 136, none⟩), .pointer (some ⟨w.heap.size, 0, none⟩), .int .u64 150] 166)).cell? ⟨0, 0, none⟩ = some (.iface 181 (.agg #[.pointer (some ⟨4, 76, none⟩)])) := by
    rw [World.cell?_alloc_lt _ _ ⟨_, 0, none⟩ (by simp <;> omega), World.cell?_alloc_lt _ _ ⟨_, 0, none⟩ hlt]; exact hT
  have HCA := Lib.hid CA
  clear hT hlt CA
  go_enter Tryd.func79, Tryd.ntmps79
  go_wp2_with fail
  refine (HCA.out _ (by rw [World.cell?_alloc_lt _ _ ⟨w.heap.size, 0, none⟩ (by simp)]; first | done | simp)).mono ?_
  rintro x w1 ⟨rfl, b1⟩
  have B1 : Below w.heap.size w w1 := (((Below.refl _ _).alloc (Nat.le_refl _) _).alloc (by simp) _).trans (b1.mono (by simp <;> omega))
  clear b1
  go_wp2
  go_ret
  exact ⟨rfl, B1⟩
theorem as_LL (t : Addr) (w : World) (hT : ErrT w) :
    Calls Tryd.prog 79 #[.iface 132 (.agg #[]), .iface 136 (.pointer (some t))] w fun x w' => x = .returned (.bool true) ∧ Below w.heap.size w w' := asGen_L 132 true t w hT fun W h => as2_LL t ⟨w.heap.size, 0, none⟩ W h
theorem as_TL (t : Addr) (w : World) (hT : ErrT w) :
    Calls Tryd.prog 79 #[.iface 129 (.agg #[]), .iface 136 (.pointer (some t))] w fun x w' => x = .returned (.bool false) ∧ Below w.heap.size w w' := asGen_L 129 false t w hT fun W h => as2_TL t ⟨w.heap.size, 0, none⟩ W h
end Go.Proofs.YtppohghejhcilaaDoor
