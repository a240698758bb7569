/- Aids for arguments that are structs. -/
import Derived.Test.YtjccnjfdeedneaaGreatRows
import Derived.OpenShut
import Derived.ProofKit
import Derived.WideShapes
import Derived.DataShut
namespace Go.Proofs.YtjccnjfdeedneaaGreat
open Go Go.RowKit
theorem wf64 {n : Int} (h : (Lit.int .i64 n).wf = true) : -9223372036854775808 ≤ n ∧ n ≤ 9223372036854775807 := (Lit.wf_int_iff .i64 n).1 h
theorem some_of_len {α : Type} {xs : List α} {n i : Nat} (h : xs.length = n) (hi : i < n) : ∃ x, xs[i]? = some x := ⟨_, List.getElem?_eq_getElem (h ▸ hi)⟩
theorem intCells : Tryz.prog.cellsOf 2 = 1 := by kernel_rfl
end Go.Proofs.YtjccnjfdeedneaaGreat
