/- What the row of the statement says of the joined code: a fact about the given program, without a condition. -/
import Derived.Test.YtchfgdiipjbgoaaGreatRows
import Derived.WalkKit
import Derived.JoinedOf
namespace Go.Proofs.YtchfgdiipjbgoaaGreat.fnExactGrantAll
open Go

theorem joined : joinedFacts Tryz.pinned.checked.prog 6 Tryz.f6 Rows.fnExactGrantAllSpec Rows.fnExactGrantAllRow = true := by kernel_rfl
theorem wraps : Func.isWrapper Tryz.pinned.checked.prog Tryz.f6 Rows.fnExactGrantAllRow.wrapper Rows.fnExactGrantAllRow.mainSum := by
 unfold Func.isWrapper
 first | (rw [if_pos (by decide +kernel)]; kernel_rfl) | (rw [if_neg (by decide +kernel)]; exact ⟨rfl, rfl⟩)
end Go.Proofs.YtchfgdiipjbgoaaGreat.fnExactGrantAll
