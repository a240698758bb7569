/- A ledger: whole numbers, who is dead. -/
import Derived.Test.YtchfgdiipjbgoaaLed
import Derived.Test.YtchfgdiipjbgoaaExt
import Derived.Test.YtchfgdiipjbgoaaKept
import Derived.Test.YtchfgdiipjbgoaaStoreTo
namespace Go.Proofs.Ytchfgdiipjbgoaa
open Go Go.RowKit Go.Lib
set_option linter.unusedVariables false

theorem whole_of {n : Int} (h0 : 0 ≤ n) (h1 : n ≤ 1000000) : Whole n := ⟨h0, by omega⟩
/-- The bits of a word's death against those of now. -/
theorem dd_leq {dead : List Int} {td : Int → Int} {now no : Int} (h0 : 0 ≤ now) (h1 : now ≤ 1000000) (ht : 0 ≤ td no ∧ td no ≤ now) :
    (FloatKind.f64.format.order (ddB dead td no) (floatOfInt .f64 now) == some .lt || FloatKind.f64.format.order (ddB dead td no) (floatOfInt .f64 now) == some .eq) = isDeadB dead no := by
  unfold ddB
  cases h : isDeadB dead no with
  | true =>
    rw [if_pos rfl, leq_of (whole_of ht.1 (by omega)) (whole_of h0 h1), decide_eq_true ht.2]
  | false =>
    rw [if_neg (by simp), leq_inf (whole_of h0 h1)]
end Go.Proofs.Ytchfgdiipjbgoaa
