/- What is asked: the program's letters, ranges, kinds. -/
import Derived.Test.YtjccnjfdeedneaaGreatSGdD
import Derived.Test.YtjccnjfdeedneaaGreatSGdA
namespace Go.Proofs.YtjccnjfdeedneaaGreat
open Go Go.RowKit Go.Lib
set_option linter.unusedVariables false

theorem issueIn (c : Int) (p : ByteArray) (w : World) (hp : p.size ≤ maxLen) : Calls Tryz.prog 261 #[.agg #[.int .i64 c, .string p]] w (Ret (.bool (isB c 1 3 && proofB p)) w) := by
 cases b1 : isB c 1 3 with
 | false =>
  go_enter Tryz.func261, Tryz.ntmps261
  go_wp2_with (go_at_call 128; refine (upto_at b1).mono ?_; rintro e w' ⟨rfl, rfl⟩)
  go_ret
  exact ⟨rfl, by go_grown⟩
 | true =>
  cases b2 : proofB p with
  | false =>
   go_enter Tryz.func261, Tryz.ntmps261
   go_wp2_with (first | (go_at_call 128; refine (upto_at b1).mono ?_; rintro e w' ⟨rfl, rfl⟩) | (go_at_call 162; refine (proofI_at b2 hp).mono ?_; rintro e w' ⟨rfl, rfl⟩))
   go_ret
   exact ⟨rfl, by go_grown⟩
  | true =>
   go_enter Tryz.func261, Tryz.ntmps261
   go_wp2_with (first | (go_at_call 128; refine (upto_at b1).mono ?_; rintro e w' ⟨rfl, rfl⟩) | (go_at_call 162; refine (proofI_at b2 hp).mono ?_; rintro e w' ⟨rfl, rfl⟩))
   go_ret
   exact ⟨rfl, by go_grown⟩
end Go.Proofs.YtjccnjfdeedneaaGreat
