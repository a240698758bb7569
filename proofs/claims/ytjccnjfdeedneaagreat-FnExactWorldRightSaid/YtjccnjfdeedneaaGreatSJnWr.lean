/- What the row of the statement says of the joined code: a fact about the given program, without a condition. -/
import Derived.Test.YtjccnjfdeedneaaGreatRows
import Derived.WalkKit
import Derived.JoinedOf
namespace Go.Proofs.YtjccnjfdeedneaaGreat.fnExactWorldRight
open Go

theorem joined : joinedFacts Tryz.pinned.checked.prog 6 Tryz.f6 Rows.fnExactWorldRightSpec Rows.fnExactWorldRightRow = true := by kernel_rfl
theorem wraps : Func.isWrapper Tryz.pinned.checked.prog Tryz.f6 Rows.fnExactWorldRightRow.wrapper Rows.fnExactWorldRightRow.mainSum := by
 unfold Func.isWrapper
 first | (rw [if_pos (by decide +kernel)]; kernel_rfl) | (rw [if_neg (by decide +kernel)]; exact ⟨rfl, rfl⟩)
end Go.Proofs.YtjccnjfdeedneaaGreat.fnExactWorldRight
