/- The CRC: the model's two functions and the two laws. -/
import Derived.Test.YtghcolobjfgfgaaDoorCrc
import Derived.Below
namespace Go.Proofs.YtghcolobjfgfgaaDoor
open Go Go.RowKit

theorem crc_spec (s : ByteArray) (w : World) (hs : s.size ≤ 8000) :
    Calls Tryd.prog 46 #[.string s] w fun e w' => e = .returned (.int .i64 (more 0 s : Nat)) ∧ w = w' := by
  have hm : s.size ≤ maxLen := by unfold maxLen; omega
  go_enter Tryd.func46, Tryd.ntmps46
  go_wp2_with (go_at_call 43; refine (crc_spec_in 0 s _ hm (by omega)).mono ?_; rintro e w' ⟨rfl, rfl⟩)
  go_ret
  exact ⟨rfl, rfl⟩
theorem crc_spec_no (s : ByteArray) (w : World) (hs : s.size ≤ maxLen) (h : 8000 < s.size) :
    Calls Tryd.prog 46 #[.string s] w fun e w' => e = .returned (.int .i64 0) ∧ w = w' := by
  unfold maxLen at hs
  go_enter Tryd.func46, Tryd.ntmps46
  go_wp2_with fail
  go_ret
  exact ⟨rfl, rfl⟩
theorem more_spec (c : Nat) (s : ByteArray) (w : World) (hs : s.size ≤ 8000) (h1 : c < 4294967296) :
    Calls Tryd.prog 23 #[.int .i64 c, .string s] w fun e w' => e = .returned (.int .i64 (more c s : Nat)) ∧ w = w' := by
  have hm : s.size ≤ maxLen := by unfold maxLen; omega
  have d0 : decide ((c : Int) < 0) = false := decide_eq_false (by omega)
  have d1 : decide (4294967295 < (c : Int)) = false := decide_eq_false (by omega)
  have d2 : decide (8000 < (s.size : Int)) = false := decide_eq_false (by omega)
  go_enter Tryd.func23, Tryd.ntmps23
  go_wp2_with (go_at_call 43; refine (crc_spec_in c s _ hm h1).mono ?_; rintro e w' ⟨rfl, rfl⟩)
  go_ret
  exact ⟨rfl, rfl⟩
theorem more_spec_no (c : Int) (s : ByteArray) (w : World) (hs : s.size ≤ maxLen) (h1 : 8000 < s.size ∨ c < 0 ∨ 4294967295 < c) :
    Calls Tryd.prog 23 #[.int .i64 c, .string s] w fun e w' => e = .returned (.int .i64 0) ∧ w = w' := by
  unfold maxLen at hs
  by_cases h : 8000 < s.size
  · have d2 : decide (8000 < (s.size : Int)) = true := decide_eq_true (by omega)
    go_enter Tryd.func23, Tryd.ntmps23
    go_wp2_with fail
    go_ret
    exact ⟨rfl, rfl⟩
  · have d2 : decide (8000 < (s.size : Int)) = false := decide_eq_false (by omega)
    by_cases g : c < 0
    · have d0 : decide ((c : Int) < 0) = true := decide_eq_true (by omega)
      go_enter Tryd.func23, Tryd.ntmps23
      go_wp2_with fail
      go_ret
      exact ⟨rfl, rfl⟩
    · have d0 : decide ((c : Int) < 0) = false := decide_eq_false (by omega)
      have d1 : decide (4294967295 < (c : Int)) = true := decide_eq_true (by omega)
      clear h1 h g
      go_enter Tryd.func23, Tryd.ntmps23
      go_wp2_with fail
      go_ret
      exact ⟨rfl, rfl⟩

end Go.Proofs.YtghcolobjfgfgaaDoor
