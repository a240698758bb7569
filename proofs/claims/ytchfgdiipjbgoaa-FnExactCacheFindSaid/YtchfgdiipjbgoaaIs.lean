/- Ranges and proofs, by the model. -/
import Derived.Test.YtchfgdiipjbgoaaRows
import Derived.Test.YtchfgdiipjbgoaaAid
import Derived.BigQuiet
import Derived.Outline
import Derived.Handy
namespace Go.Proofs.Ytchfgdiipjbgoaa
open Go Go.RowKit Go.Lib
set_option linter.unusedVariables false

def isB (n lo hi : Int) : Bool := decide (lo ≤ n) && decide (n ≤ hi)
theorem is_spec (n lo hi : Int) (w : World) : Calls Try.prog 26 #[.int .i64 n, .int .i64 lo, .int .i64 hi] w fun e w' => e = .returned (.bool (isB n lo hi)) ∧ w = w' := by
  by_cases h1 : lo ≤ n
  · have d : decide (lo ≤ n) = true := decide_eq_true h1
    by_cases h2 : n ≤ hi
    · have d2 : decide (n ≤ hi) = true := decide_eq_true h2
      go_enter Try.func26, Try.ntmps26
      go_wp2_with fail
      go_ret
      exact ⟨by unfold isB; rw [d, d2]; rfl, rfl⟩
    · have d2 : decide (n ≤ hi) = false := decide_eq_false h2
      go_enter Try.func26, Try.ntmps26
      go_wp2_with fail
      go_ret
      exact ⟨by unfold isB; rw [d, d2]; rfl, rfl⟩
  · have d : decide (lo ≤ n) = false := decide_eq_false h1
    go_enter Try.func26, Try.ntmps26
    go_wp2_with fail
    go_ret
    exact ⟨by unfold isB; rw [d]; rfl, rfl⟩

/-- May a text be a proof? -/
def proofB (t : ByteArray) : Bool := decide (1 ≤ t.size ∧ t.size ≤ 8 ∧ ∀ i, (h : i < t.size) → 97 ≤ t[i].toNat ∧ t[i].toNat ≤ 122)
def ProofRel (s : ByteArray) (i : Value) : Prop := ∃ k : Nat, k ≤ s.size ∧ i = .int .i64 k ∧ ∀ j, (h : j < s.size) → j < k → 97 ≤ s[j].toNat ∧ s[j].toNat ≤ 122
set_option maxHeartbeats 400000 in
theorem proof_spec (s : ByteArray) (w : World) (hs : s.size ≤ maxLen) : Calls Try.prog 48 #[.string s] w fun e w' => e = .returned (.bool (proofB s)) ∧ w = w' := by
  unfold maxLen at hs
  go_enter Try.func48, Try.ntmps48
  go_wp2_with fail
  go_loop [3] (ProofRel s) (fun i => s.size - (RowKit.intOf i).toNat)
  case atStart => exact ⟨0, by omega, rfl, fun j _ h => by omega⟩
  case round =>
    obtain ⟨k, hk, rfl, hr⟩ := hrel
    have HR := Lib.hid hr
    clear hr
    by_cases hlt : k < s.size
    · by_cases h1 : s[k].toNat < 97
      · go_wp2_with fail
        go_ret
        exact ⟨by rw [show proofB s = false from decide_eq_false fun h => by have := (h.2.2 k hlt).1; omega]; rfl, rfl⟩
      · by_cases h2 : 122 < s[k].toNat
        · go_wp2_with fail
          go_ret
          exact ⟨by rw [show proofB s = false from decide_eq_false fun h => by have := (h.2.2 k hlt).2; omega]; rfl, rfl⟩
        · go_wp2_with fail
          go_round
          case rel =>
            refine ⟨k + 1, by omega, by go_num, fun j hj hjk => ?_⟩
            by_cases e : j = k
            · subst e; exact ⟨by omega, by omega⟩
            · exact HR.out j hj (by omega)
          case measure => simp [RowKit.intOf]; omega
    · obtain rfl : k = s.size := by omega
      by_cases h1 : s.size < 1
      · go_wp2_with fail
        go_ret
        exact ⟨by rw [show proofB s = false from decide_eq_false fun h => by have := h.1; omega]; rfl, rfl⟩
      · by_cases h2 : 8 < s.size
        · have h3 : decide ((s.size : Int) ≤ 8) = false := decide_eq_false (by omega)
          go_wp2_with fail
          go_ret
          exact ⟨by rw [show proofB s = false from decide_eq_false fun h => by have := h.2.1; omega]; rfl, rfl⟩
        · have h3 : decide ((s.size : Int) ≤ 8) = true := decide_eq_true (by omega)
          have h4 : decide (1 ≤ (s.size : Int)) = true := decide_eq_true (by omega)
          go_wp2_with fail
          go_ret
          exact ⟨by rw [show proofB s = true from decide_eq_true ⟨by omega, by omega, fun i h => HR.out i h h⟩]; rfl, rfl⟩

theorem proof_at {t : ByteArray} {b : Bool} {w : World} (h : proofB t = b) (ht : t.size ≤ maxLen) : Calls Try.prog 48 #[.string t] w fun e w' => e = .returned (.bool b) ∧ w' = w := by
  subst h
  exact (proof_spec t w ht).mono fun _ _ h => ⟨h.1, h.2.symm⟩
theorem is_at {n lo hi : Int} {b : Bool} {w : World} (h : isB n lo hi = b) : Calls Try.prog 26 #[.int .i64 n, .int .i64 lo, .int .i64 hi] w fun e w' => e = .returned (.bool b) ∧ w' = w := by
  subst h
  exact (is_spec n lo hi w).mono fun _ _ h => ⟨h.1, h.2.symm⟩
end Go.Proofs.Ytchfgdiipjbgoaa
