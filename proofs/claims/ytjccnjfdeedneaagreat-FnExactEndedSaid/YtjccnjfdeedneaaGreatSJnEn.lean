/- What the row of the statement says of the joined code: a fact about the given program, without a condition. -/
import Derived.Test.YtjccnjfdeedneaaGreatRows
import Derived.WalkKit
import Derived.JoinedOf
namespace Go.Proofs.YtjccnjfdeedneaaGreat.fnExactEnded
open Go

theorem joined : joinedFacts Tryz.pinned.checked.prog 8 Tryz.f8 Rows.fnExactEndedSpec Rows.fnExactEndedRow = true := by kernel_rfl
theorem wraps : Func.isWrapper Tryz.pinned.checked.prog Tryz.f8 Rows.fnExactEndedRow.wrapper Rows.fnExactEndedRow.mainSum := by
 unfold Func.isWrapper
 first | (rw [if_pos (by decide +kernel)]; kernel_rfl) | (rw [if_neg (by decide +kernel)]; exact ⟨rfl, rfl⟩)
end Go.Proofs.YtjccnjfdeedneaaGreat.fnExactEnded
