/- A small letter, by the program. -/
import Derived.WalkKit
import Derived.Lib.Hide
import Derived.Test.YtchfgdiipjbgoaaRows
import Derived.WalkSpells
import Derived.WalkLawsBesides
namespace Go.Proofs.Ytchfgdiipjbgoaa
open Go Go.RowKit Go.Lib
set_option linter.unusedVariables false

def smallB (b : Int) : Bool := decide (97 ≤ b ∧ b ≤ 122)
theorem smallB_yes {b : Int} (h : 97 ≤ b) (h' : b ≤ 122) : smallB b = true := decide_eq_true ⟨h, h'⟩
theorem smallB_no {b : Int} (h : b < 97 ∨ 122 < b) : smallB b = false := decide_eq_false (fun g => by omega)
theorem small_any (b : Int) (w : World) : Calls Try.prog 82 #[.int .u8 b] w fun e w' => e = .returned (.bool (smallB b)) ∧ w = w' := by
  by_cases h1 : 97 ≤ b
  · by_cases h2 : b ≤ 122
    · go_enter Try.func82, Try.ntmps82
      go_wp2
      go_ret
      rw [smallB_yes h1 h2]
      exact ⟨rfl, rfl⟩
    · have d1 : decide (b ≤ 122) = false := decide_eq_false h2
      go_enter Try.func82, Try.ntmps82
      go_wp2
      go_ret
      rw [smallB_no (Or.inr (by omega))]
      exact ⟨rfl, rfl⟩
  · go_enter Try.func82, Try.ntmps82
    go_wp2
    go_ret
    rw [smallB_no (Or.inl (by omega))]
    exact ⟨rfl, rfl⟩

end Go.Proofs.Ytchfgdiipjbgoaa
