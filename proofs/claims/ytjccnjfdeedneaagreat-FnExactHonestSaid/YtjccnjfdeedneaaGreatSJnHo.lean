/- What the row of the statement says of the joined code: a fact about the given program, without a condition. -/
import Derived.Test.YtjccnjfdeedneaaGreatRows
import Derived.WalkKit
import Derived.JoinedOf
namespace Go.Proofs.YtjccnjfdeedneaaGreat.fnExactHonest
open Go

theorem joined : joinedFacts Tryz.pinned.checked.prog 5 Tryz.f5 Rows.fnExactHonestSpec Rows.fnExactHonestRow = true := by kernel_rfl
theorem wraps : Func.isWrapper Tryz.pinned.checked.prog Tryz.f5 Rows.fnExactHonestRow.wrapper Rows.fnExactHonestRow.mainSum := by
 unfold Func.isWrapper
 first | (rw [if_pos (by decide +kernel)]; kernel_rfl) | (rw [if_neg (by decide +kernel)]; exact ⟨rfl, rfl⟩)
end Go.Proofs.YtjccnjfdeedneaaGreat.fnExactHonest
