/- The program's own array and struct types of many cells. -/
import Derived.Test.YtgdhfcpmeaeioaaDoorRows
import Derived.Test.YtgdhfcpmeaeioaaDoorAgg
namespace Go.Proofs.YtgdhfcpmeaeioaaDoor
open Go.RowKit

@[go_sem ↓] theorem loadAt_b8 (v : Value) : Instr.loadAt 23 v = loadWhole 23 v := rfl
@[go_sem ↓] theorem storeAt_b8 (a v : Value) : Instr.storeAt 23 a v = storeWhole 23 a v := rfl
@[go_sem] theorem load_b8 (w : World) (n o : Nat) : (loadWhole 23 (.pointer (some ⟨n, o, none⟩))).run Tryd.prog w = rowLoad Tryd.prog 23 8 n o w (rowAt w n) := run_load_by Tryd.underlying23 rfl (by kernel_rfl) w n o
@[go_sem] theorem store_b8 (vs : Array Value) (w : World) (n o : Nat) : (storeWhole 23 (.pointer (some ⟨n, o, none⟩)) (.agg vs)).run Tryd.prog w = rowStore Tryd.prog 23 8 n o vs w (rowAt w n) := run_store_by (by kernel_rfl) vs w n o

@[go_sem ↓] theorem loadAt_b64 (v : Value) : Instr.loadAt 24 v = loadWhole 24 v := rfl
@[go_sem ↓] theorem storeAt_b64 (a v : Value) : Instr.storeAt 24 a v = storeWhole 24 a v := rfl
@[go_sem] theorem load_b64 (w : World) (n o : Nat) : (loadWhole 24 (.pointer (some ⟨n, o, none⟩))).run Tryd.prog w = rowLoad Tryd.prog 24 64 n o w (rowAt w n) := run_load_by Tryd.underlying24 rfl (by kernel_rfl) w n o
@[go_sem] theorem store_b64 (vs : Array Value) (w : World) (n o : Nat) : (storeWhole 24 (.pointer (some ⟨n, o, none⟩)) (.agg vs)).run Tryd.prog w = rowStore Tryd.prog 24 64 n o vs w (rowAt w n) := run_store_by (by kernel_rfl) vs w n o

@[go_sem ↓] theorem loadAt_lroof (v : Value) : Instr.loadAt 31 v = loadWhole 31 v := rfl
@[go_sem ↓] theorem storeAt_lroof (a v : Value) : Instr.storeAt 31 a v = storeWhole 31 a v := rfl
@[go_sem] theorem load_lroof (w : World) (n o : Nat) : (loadWhole 31 (.pointer (some ⟨n, o, none⟩))).run Tryd.prog w = rowLoad Tryd.prog 31 67 n o w (rowAt w n) := run_load_by Tryd.underlying31 rfl (by kernel_rfl) w n o
@[go_sem] theorem store_lroof (vs : Array Value) (w : World) (n o : Nat) : (storeWhole 31 (.pointer (some ⟨n, o, none⟩)) (.agg vs)).run Tryd.prog w = rowStore Tryd.prog 31 67 n o vs w (rowAt w n) := run_store_by (by kernel_rfl) vs w n o

@[go_sem ↓] theorem loadAt_roof (v : Value) : Instr.loadAt 26 v = loadWhole 26 v := rfl
@[go_sem ↓] theorem storeAt_roof (a v : Value) : Instr.storeAt 26 a v = storeWhole 26 a v := rfl
@[go_sem] theorem load_roof (w : World) (n o : Nat) : (loadWhole 26 (.pointer (some ⟨n, o, none⟩))).run Tryd.prog w = rowLoad Tryd.prog 26 67 n o w (rowAt w n) := run_load_by Tryd.underlying26 rfl (by kernel_rfl) w n o
@[go_sem] theorem store_roof (vs : Array Value) (w : World) (n o : Nat) : (storeWhole 26 (.pointer (some ⟨n, o, none⟩)) (.agg vs)).run Tryd.prog w = rowStore Tryd.prog 26 67 n o vs w (rowAt w n) := run_store_by (by kernel_rfl) vs w n o

@[go_sem ↓] theorem index_b8 (v i : Value) : Instr.index 23 v i = indexWhole 23 v i := rfl
@[go_sem] theorem run_index_b8 (cs : Array Value) (w : World) (i : Int) (h0 : 0 ≤ i) (h1 : i < (8 : Nat)) (hm : cs.size = 8) :
    (indexWhole 23 (.agg cs) (.int .i64 i)).run Tryd.prog w = .ok (cs[i.toNat]'(by omega)) w := run_index_int Tryd.underlying23 Tryd.underlying5 (by kernel_rfl) cs w i h0 h1 hm
end Go.Proofs.YtgdhfcpmeaeioaaDoor
