/- The CRC: the model's two functions and the two laws. -/
import Derived.Test.YtghcolobjfgfgaaCrc
import Derived.Below
namespace Go.Proofs.Ytghcolobjfgfgaa
open Go Go.RowKit

theorem crc_spec (s : ByteArray) (w : World) (hs : s.size ≤ 8000) :
    Calls Try.prog 15 #[.string s] w fun e w' => e = .returned (.int .i64 (more 0 s : Nat)) ∧ w = w' := by
  have hm : s.size ≤ maxLen := by unfold maxLen; omega
  go_enter Try.func15, Try.ntmps15
  go_wp2_with (go_at_call 26; refine (crc_spec_in 0 s _ hm (by omega)).mono ?_; rintro e w' ⟨rfl, rfl⟩)
  go_ret
  exact ⟨rfl, rfl⟩
theorem crc_spec_no (s : ByteArray) (w : World) (hs : s.size ≤ maxLen) (h : 8000 < s.size) :
    Calls Try.prog 15 #[.string s] w fun e w' => e = .returned (.int .i64 0) ∧ w = w' := by
  unfold maxLen at hs
  go_enter Try.func15, Try.ntmps15
  go_wp2_with fail
  go_ret
  exact ⟨rfl, rfl⟩
theorem more_spec (c : Nat) (s : ByteArray) (w : World) (hs : s.size ≤ 8000) (h1 : c < 4294967296) :
    Calls Try.prog 17 #[.int .i64 c, .string s] w fun e w' => e = .returned (.int .i64 (more c s : Nat)) ∧ w = w' := by
  have hm : s.size ≤ maxLen := by unfold maxLen; omega
  have d0 : decide ((c : Int) < 0) = false := decide_eq_false (by omega)
  have d1 : decide (4294967295 < (c : Int)) = false := decide_eq_false (by omega)
  have d2 : decide (8000 < (s.size : Int)) = false := decide_eq_false (by omega)
  go_enter Try.func17, Try.ntmps17
  go_wp2_with (go_at_call 26; refine (crc_spec_in c s _ hm h1).mono ?_; rintro e w' ⟨rfl, rfl⟩)
  go_ret
  exact ⟨rfl, rfl⟩
theorem more_spec_no (c : Int) (s : ByteArray) (w : World) (hs : s.size ≤ maxLen) (h1 : 8000 < s.size ∨ c < 0 ∨ 4294967295 < c) :
    Calls Try.prog 17 #[.int .i64 c, .string s] w fun e w' => e = .returned (.int .i64 0) ∧ w = w' := by
  unfold maxLen at hs
  by_cases h : 8000 < s.size
  · have d2 : decide (8000 < (s.size : Int)) = true := decide_eq_true (by omega)
    go_enter Try.func17, Try.ntmps17
    go_wp2_with fail
    go_ret
    exact ⟨rfl, rfl⟩
  · have d2 : decide (8000 < (s.size : Int)) = false := decide_eq_false (by omega)
    by_cases g : c < 0
    · have d0 : decide ((c : Int) < 0) = true := decide_eq_true (by omega)
      go_enter Try.func17, Try.ntmps17
      go_wp2_with fail
      go_ret
      exact ⟨rfl, rfl⟩
    · have d0 : decide ((c : Int) < 0) = false := decide_eq_false (by omega)
      have d1 : decide (4294967295 < (c : Int)) = true := decide_eq_true (by omega)
      clear h1 h g
      go_enter Try.func17, Try.ntmps17
      go_wp2_with fail
      go_ret
      exact ⟨rfl, rfl⟩

theorem lawCrc (s : ByteArray) (w : World) (hs : s.size ≤ maxLen) :
    Calls Try.prog 6 #[.string s] w fun e w' => e = .returned (.bool true) ∧ Below w.heap.size w w' := by
  have hs' := hs
  unfold maxLen at hs'
  by_cases hb : 1048576 < s.size
  · go_enter Try.func6, Try.ntmps6
    go_wp2
    go_ret
    exact ⟨rfl, Below.refl _ _⟩
  · by_cases h8 : s.size ≤ 8000
    · have hn : (((more 0 s : Nat) : Int) != ((more 0 s : Nat) : Int)) = false := by simp
      go_enter Try.func6, Try.ntmps6
      go_wp2_with (first | (go_at_call 15; refine (crc_spec s _ h8).mono ?_; rintro e w' ⟨rfl, rfl⟩) | (go_at_call 16; refine (crc_impl s _ h8).mono ?_; rintro e w' ⟨rfl, rfl⟩))
      go_ret
      exact ⟨rfl, Below.refl _ _⟩
    · have h9 : 8000 < s.size := by omega
      go_enter Try.func6, Try.ntmps6
      go_wp2_with (first | (go_at_call 15; refine (crc_spec_no s _ hs h9).mono ?_; rintro e w' ⟨rfl, rfl⟩) | (go_at_call 16; refine (crc_impl_no s _ hs h9).mono ?_; rintro e w' ⟨rfl, rfl⟩))
      go_ret
      exact ⟨rfl, Below.refl _ _⟩

theorem lawMore (c : Int) (s : ByteArray) (w : World) (hs : s.size ≤ maxLen) :
    Calls Try.prog 7 #[.int .i64 c, .string s] w fun e w' => e = .returned (.bool true) ∧ Below w.heap.size w w' := by
  have hs' := hs
  unfold maxLen at hs'
  by_cases hb : 1048576 < s.size
  · go_enter Try.func7, Try.ntmps7
    go_wp2
    go_ret
    exact ⟨rfl, Below.refl _ _⟩
  · by_cases h9 : 8000 < s.size ∨ c < 0 ∨ 4294967295 < c
    · have H9 := Lib.hid h9
      clear h9
      go_enter Try.func7, Try.ntmps7
      go_wp2_with (first | (go_at_call 17; refine (more_spec_no c s _ hs H9.out).mono ?_; rintro e w' ⟨rfl, rfl⟩) | (go_at_call 18; refine (more_impl_no c s _ hs H9.out).mono ?_; rintro e w' ⟨rfl, rfl⟩))
      go_ret
      exact ⟨rfl, Below.refl _ _⟩
    · have h8 : s.size ≤ 8000 := by omega
      obtain ⟨n, rfl⟩ := Int.eq_ofNat_of_zero_le (show 0 ≤ c by omega)
      have hn1 : n < 4294967296 := by omega
      clear h9
      have hn : (((more n s : Nat) : Int) != ((more n s : Nat) : Int)) = false := by simp
      go_enter Try.func7, Try.ntmps7
      go_wp2_with (first | (go_at_call 17; refine (more_spec n s _ h8 hn1).mono ?_; rintro e w' ⟨rfl, rfl⟩) | (go_at_call 18; refine (more_impl n s _ h8 hn1).mono ?_; rintro e w' ⟨rfl, rfl⟩))
      go_ret
      exact ⟨rfl, Below.refl _ _⟩
end Go.Proofs.Ytghcolobjfgfgaa
