/- What the row of the statement says of the joined code: a fact about the given program, without a condition. -/
import Derived.Test.YtchfgdiipjbgoaaGreatRows
import Derived.WalkKit
import Derived.JoinedOf
namespace Go.Proofs.YtchfgdiipjbgoaaGreat.fnExactGrantDo
open Go

theorem joined : joinedFacts Tryz.pinned.checked.prog 5 Tryz.f5 Rows.fnExactGrantDoSpec Rows.fnExactGrantDoRow = true := by kernel_rfl
theorem wraps : Func.isWrapper Tryz.pinned.checked.prog Tryz.f5 Rows.fnExactGrantDoRow.wrapper Rows.fnExactGrantDoRow.mainSum := by
 unfold Func.isWrapper
 first | (rw [if_pos (by decide +kernel)]; kernel_rfl) | (rw [if_neg (by decide +kernel)]; exact ⟨rfl, rfl⟩)
end Go.Proofs.YtchfgdiipjbgoaaGreat.fnExactGrantDo
