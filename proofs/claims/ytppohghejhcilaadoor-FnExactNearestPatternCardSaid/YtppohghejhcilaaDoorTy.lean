/- The program's own array and struct types of many cells. -/
import Derived.Test.YtppohghejhcilaaDoorRows
import Derived.Test.YtppohghejhcilaaDoorAgg
namespace Go.Proofs.YtppohghejhcilaaDoor
open Go.RowKit

@[go_sem ↓] theorem loadAt_b8 (v : Value) : Instr.loadAt 25 v = loadWhole 25 v := rfl
@[go_sem ↓] theorem storeAt_b8 (a v : Value) : Instr.storeAt 25 a v = storeWhole 25 a v := rfl
@[go_sem] theorem load_b8 (w : World) (n o : Nat) : (loadWhole 25 (.pointer (some ⟨n, o, none⟩))).run Tryd.prog w = rowLoad Tryd.prog 25 8 n o w (rowAt w n) := run_load_by Tryd.underlying25 rfl (by kernel_rfl) w n o
@[go_sem] theorem store_b8 (vs : Array Value) (w : World) (n o : Nat) : (storeWhole 25 (.pointer (some ⟨n, o, none⟩)) (.agg vs)).run Tryd.prog w = rowStore Tryd.prog 25 8 n o vs w (rowAt w n) := run_store_by (by kernel_rfl) vs w n o

@[go_sem ↓] theorem loadAt_b64 (v : Value) : Instr.loadAt 26 v = loadWhole 26 v := rfl
@[go_sem ↓] theorem storeAt_b64 (a v : Value) : Instr.storeAt 26 a v = storeWhole 26 a v := rfl
@[go_sem] theorem load_b64 (w : World) (n o : Nat) : (loadWhole 26 (.pointer (some ⟨n, o, none⟩))).run Tryd.prog w = rowLoad Tryd.prog 26 64 n o w (rowAt w n) := run_load_by Tryd.underlying26 rfl (by kernel_rfl) w n o
@[go_sem] theorem store_b64 (vs : Array Value) (w : World) (n o : Nat) : (storeWhole 26 (.pointer (some ⟨n, o, none⟩)) (.agg vs)).run Tryd.prog w = rowStore Tryd.prog 26 64 n o vs w (rowAt w n) := run_store_by (by kernel_rfl) vs w n o

@[go_sem ↓] theorem loadAt_lroof (v : Value) : Instr.loadAt 56 v = loadWhole 56 v := rfl
@[go_sem ↓] theorem storeAt_lroof (a v : Value) : Instr.storeAt 56 a v = storeWhole 56 a v := rfl
@[go_sem] theorem load_lroof (w : World) (n o : Nat) : (loadWhole 56 (.pointer (some ⟨n, o, none⟩))).run Tryd.prog w = rowLoad Tryd.prog 56 67 n o w (rowAt w n) := run_load_by Tryd.underlying56 rfl (by kernel_rfl) w n o
@[go_sem] theorem store_lroof (vs : Array Value) (w : World) (n o : Nat) : (storeWhole 56 (.pointer (some ⟨n, o, none⟩)) (.agg vs)).run Tryd.prog w = rowStore Tryd.prog 56 67 n o vs w (rowAt w n) := run_store_by (by kernel_rfl) vs w n o

@[go_sem ↓] theorem loadAt_roof (v : Value) : Instr.loadAt 28 v = loadWhole 28 v := rfl
@[go_sem ↓] theorem storeAt_roof (a v : Value) : Instr.storeAt 28 a v = storeWhole 28 a v := rfl
@[go_sem] theorem load_roof (w : World) (n o : Nat) : (loadWhole 28 (.pointer (some ⟨n, o, none⟩))).run Tryd.prog w = rowLoad Tryd.prog 28 67 n o w (rowAt w n) := run_load_by Tryd.underlying28 rfl (by kernel_rfl) w n o
@[go_sem] theorem store_roof (vs : Array Value) (w : World) (n o : Nat) : (storeWhole 28 (.pointer (some ⟨n, o, none⟩)) (.agg vs)).run Tryd.prog w = rowStore Tryd.prog 28 67 n o vs w (rowAt w n) := run_store_by (by kernel_rfl) vs w n o

@[go_sem ↓] theorem index_b8 (v i : Value) : Instr.index 25 v i = indexWhole 25 v i := rfl
@[go_sem] theorem run_index_b8 (cs : Array Value) (w : World) (i : Int) (h0 : 0 ≤ i) (h1 : i < (8 : Nat)) (hm : cs.size = 8) :
    (indexWhole 25 (.agg cs) (.int .i64 i)).run Tryd.prog w = .ok (cs[i.toNat]'(by omega)) w := run_index_int Tryd.underlying25 Tryd.underlying5 (by kernel_rfl) cs w i h0 h1 hm
end Go.Proofs.YtppohghejhcilaaDoor
