/- The program's own array and struct types of many cells. -/
import Derived.Test.YtcdddngdjhjdbaaRows
import Derived.Test.YtcdddngdjhjdbaaAgg
namespace Go.Proofs.Ytcdddngdjhjdbaa
open Go.RowKit

@[go_sem ↓] theorem loadAt_b8 (v : Value) : Instr.loadAt 30 v = loadWhole 30 v := rfl
@[go_sem ↓] theorem storeAt_b8 (a v : Value) : Instr.storeAt 30 a v = storeWhole 30 a v := rfl
@[go_sem] theorem load_b8 (w : World) (n o : Nat) : (loadWhole 30 (.pointer (some ⟨n, o, none⟩))).run Try.prog w = rowLoad Try.prog 30 8 n o w (rowAt w n) := run_load_by Try.underlying30 rfl (by kernel_rfl) w n o
@[go_sem] theorem store_b8 (vs : Array Value) (w : World) (n o : Nat) : (storeWhole 30 (.pointer (some ⟨n, o, none⟩)) (.agg vs)).run Try.prog w = rowStore Try.prog 30 8 n o vs w (rowAt w n) := run_store_by (by kernel_rfl) vs w n o

@[go_sem ↓] theorem loadAt_b64 (v : Value) : Instr.loadAt 31 v = loadWhole 31 v := rfl
@[go_sem ↓] theorem storeAt_b64 (a v : Value) : Instr.storeAt 31 a v = storeWhole 31 a v := rfl
@[go_sem] theorem load_b64 (w : World) (n o : Nat) : (loadWhole 31 (.pointer (some ⟨n, o, none⟩))).run Try.prog w = rowLoad Try.prog 31 64 n o w (rowAt w n) := run_load_by Try.underlying31 rfl (by kernel_rfl) w n o
@[go_sem] theorem store_b64 (vs : Array Value) (w : World) (n o : Nat) : (storeWhole 31 (.pointer (some ⟨n, o, none⟩)) (.agg vs)).run Try.prog w = rowStore Try.prog 31 64 n o vs w (rowAt w n) := run_store_by (by kernel_rfl) vs w n o

@[go_sem ↓] theorem loadAt_lroof (v : Value) : Instr.loadAt 33 v = loadWhole 33 v := rfl
@[go_sem ↓] theorem storeAt_lroof (a v : Value) : Instr.storeAt 33 a v = storeWhole 33 a v := rfl
@[go_sem] theorem load_lroof (w : World) (n o : Nat) : (loadWhole 33 (.pointer (some ⟨n, o, none⟩))).run Try.prog w = rowLoad Try.prog 33 67 n o w (rowAt w n) := run_load_by Try.underlying33 rfl (by kernel_rfl) w n o
@[go_sem] theorem store_lroof (vs : Array Value) (w : World) (n o : Nat) : (storeWhole 33 (.pointer (some ⟨n, o, none⟩)) (.agg vs)).run Try.prog w = rowStore Try.prog 33 67 n o vs w (rowAt w n) := run_store_by (by kernel_rfl) vs w n o

@[go_sem ↓] theorem loadAt_roof (v : Value) : Instr.loadAt 38 v = loadWhole 38 v := rfl
@[go_sem ↓] theorem storeAt_roof (a v : Value) : Instr.storeAt 38 a v = storeWhole 38 a v := rfl
@[go_sem] theorem load_roof (w : World) (n o : Nat) : (loadWhole 38 (.pointer (some ⟨n, o, none⟩))).run Try.prog w = rowLoad Try.prog 38 67 n o w (rowAt w n) := run_load_by Try.underlying38 rfl (by kernel_rfl) w n o
@[go_sem] theorem store_roof (vs : Array Value) (w : World) (n o : Nat) : (storeWhole 38 (.pointer (some ⟨n, o, none⟩)) (.agg vs)).run Try.prog w = rowStore Try.prog 38 67 n o vs w (rowAt w n) := run_store_by (by kernel_rfl) vs w n o

@[go_sem ↓] theorem index_b8 (v i : Value) : Instr.index 30 v i = indexWhole 30 v i := rfl
@[go_sem] theorem run_index_b8 (cs : Array Value) (w : World) (i : Int) (h0 : 0 ≤ i) (h1 : i < (8 : Nat)) (hm : cs.size = 8) :
    (indexWhole 30 (.agg cs) (.int .i64 i)).run Try.prog w = .ok (cs[i.toNat]'(by omega)) w := run_index_int Try.underlying30 Try.underlying5 (by kernel_rfl) cs w i h0 h1 hm
end Go.Proofs.Ytcdddngdjhjdbaa
