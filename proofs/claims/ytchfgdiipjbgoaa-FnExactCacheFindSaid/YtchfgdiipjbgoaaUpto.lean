/- Ranges and proofs, by the program. -/
import Derived.Test.YtchfgdiipjbgoaaIs
import Derived.Test.YtchfgdiipjbgoaaSmall
namespace Go.Proofs.Ytchfgdiipjbgoaa
open Go Go.RowKit Go.Lib
set_option linter.unusedVariables false

theorem upto_spec (n most : Int) (w : World) : Calls Try.prog 57 #[.int .i64 n, .int .i64 most] w fun e w' => e = .returned (.bool (isB n 1 most)) ∧ w = w' := by
  by_cases h1 : 1 ≤ n
  · have d : decide (1 ≤ n) = true := decide_eq_true h1
    by_cases h2 : n ≤ most
    · have d2 : decide (n ≤ most) = true := decide_eq_true h2
      go_enter Try.func57, Try.ntmps57
      go_wp2_with fail
      go_ret
      exact ⟨by unfold isB; rw [d, d2]; rfl, rfl⟩
    · have d2 : decide (n ≤ most) = false := decide_eq_false h2
      go_enter Try.func57, Try.ntmps57
      go_wp2_with fail
      go_ret
      exact ⟨by unfold isB; rw [d, d2]; rfl, rfl⟩
  · have d : decide (1 ≤ n) = false := decide_eq_false h1
    go_enter Try.func57, Try.ntmps57
    go_wp2_with fail
    go_ret
    exact ⟨by unfold isB; rw [d]; rfl, rfl⟩

set_option maxHeartbeats 400000 in
theorem proof_impl (s : ByteArray) (w : World) (hs : s.size ≤ maxLen) : Calls Try.prog 70 #[.string s] w fun e w' => e = .returned (.bool (proofB s)) ∧ w = w' := by
  unfold maxLen at hs
  by_cases h1 : s.size < 1
  · have HP : Hid (proofB s = false) := Lib.hid (decide_eq_false fun h => by have := h.1; omega)
    go_enter Try.func70, Try.ntmps70
    go_wp2_with fail
    go_ret
    exact ⟨by rw [HP.out]; rfl, rfl⟩
  by_cases h2 : 8 < s.size
  · have HP : Hid (proofB s = false) := Lib.hid (decide_eq_false fun h => by have := h.2.1; omega)
    have d2 : decide (8 < (s.size : Int)) = true := decide_eq_true (by omega)
    go_enter Try.func70, Try.ntmps70
    go_wp2_with fail
    go_ret
    exact ⟨by rw [HP.out]; rfl, rfl⟩
  have h1' : 1 ≤ s.size := by omega
  have h2' : s.size ≤ 8 := by omega
  have d0 : decide ((s.size : Int) < 1) = false := decide_eq_false (by omega)
  have d2 : decide (8 < (s.size : Int)) = false := decide_eq_false (by omega)
  clear h1 h2
  go_enter Try.func70, Try.ntmps70
  go_wp2_with fail
  go_loop [14] (ProofRel s) (fun i => s.size - (RowKit.intOf i).toNat)
  case atStart => exact ⟨0, by omega, rfl, fun j _ h => by omega⟩
  case round =>
    obtain ⟨k, hk, rfl, hr⟩ := hrel
    have HR := Lib.hid hr
    clear hr
    by_cases hlt : k < s.size
    · by_cases hg : 97 ≤ s[k].toNat ∧ s[k].toNat ≤ 122
      · have e1 : smallB (s[k].toNat : Int) = true := smallB_yes (by omega) (by omega)
        have HG := Lib.hid hg
        clear hg
        go_wp2_with (go_at_call 82; refine (small_any _ _).mono ?_; rintro e w' ⟨rfl, rfl⟩)
        go_round
        case rel =>
          refine ⟨k + 1, by omega, by go_num, fun j hj hjk => ?_⟩
          by_cases e : j = k
          · subst e; exact HG.out
          · exact HR.out j hj (by omega)
        case measure => simp [RowKit.intOf]; omega
      · have e1 : smallB (s[k].toNat : Int) = false := smallB_no (by omega)
        have HG := Lib.hid hg
        clear hg
        go_wp2_with (go_at_call 82; refine (small_any _ _).mono ?_; rintro e w' ⟨rfl, rfl⟩)
        go_ret
        exact ⟨by rw [show proofB s = false from decide_eq_false fun h => HG.out (h.2.2 k hlt)]; rfl, rfl⟩
    · obtain rfl : k = s.size := by omega
      have HP : Hid (proofB s = true) := Lib.hid (decide_eq_true ⟨h1', h2', fun i h => HR.out i h h⟩)
      go_wp2_with fail
      go_ret
      exact ⟨by rw [HP.out]; rfl, rfl⟩

theorem upto_at {n most : Int} {b : Bool} {w : World} (h : isB n 1 most = b) : Calls Try.prog 57 #[.int .i64 n, .int .i64 most] w fun e w' => e = .returned (.bool b) ∧ w' = w := by
  subst h
  exact (upto_spec n most w).mono fun _ _ h => ⟨h.1, h.2.symm⟩
theorem proofI_at {t : ByteArray} {b : Bool} {w : World} (h : proofB t = b) (ht : t.size ≤ maxLen) : Calls Try.prog 70 #[.string t] w fun e w' => e = .returned (.bool b) ∧ w' = w := by
  subst h
  exact (proof_impl t w ht).mono fun _ _ h => ⟨h.1, h.2.symm⟩

end Go.Proofs.Ytchfgdiipjbgoaa
