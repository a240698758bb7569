/- NameRight: the walk of the program's function, the walk of the law, and the statement. -/
import Derived.Test.YtghcolobjfgfgaaName
import Derived.ProofKit
import Derived.Below
namespace Go.Proofs.Ytghcolobjfgfgaa
open Go Go.RowKit

def smallB (b : Int) : Bool := decide (97 ≤ b ∧ b ≤ 122)
def digitB (b : Int) : Bool := decide (48 ≤ b ∧ b ≤ 57)
theorem smallB_yes {b : Int} (h : 97 ≤ b) (h' : b ≤ 122) : smallB b = true := decide_eq_true ⟨h, h'⟩
theorem smallB_no {b : Int} (h : b < 97 ∨ 122 < b) : smallB b = false := decide_eq_false (fun g => by omega)
theorem digitB_yes {b : Int} (h : 48 ≤ b) (h' : b ≤ 57) : digitB b = true := decide_eq_true ⟨h, h'⟩
theorem digitB_no {b : Int} (h : b < 48 ∨ 57 < b) : digitB b = false := decide_eq_false (fun g => by omega)

theorem small_any (b : Int) (w : World) : Calls Try.prog 24 #[.int .u8 b] w fun e w' => e = .returned (.bool (smallB b)) ∧ w = w' := by
  by_cases h1 : 97 ≤ b
  · by_cases h2 : b ≤ 122
    · go_enter Try.func24, Try.ntmps24
      go_wp2
      go_ret
      rw [smallB_yes h1 h2]
      exact ⟨rfl, rfl⟩
    · have d1 : decide (b ≤ 122) = false := decide_eq_false h2
      go_enter Try.func24, Try.ntmps24
      go_wp2
      go_ret
      rw [smallB_no (Or.inr (by omega))]
      exact ⟨rfl, rfl⟩
  · go_enter Try.func24, Try.ntmps24
    go_wp2
    go_ret
    rw [smallB_no (Or.inl (by omega))]
    exact ⟨rfl, rfl⟩

theorem digit_any (b : Int) (w : World) : Calls Try.prog 25 #[.int .u8 b] w fun e w' => e = .returned (.bool (digitB b)) ∧ w = w' := by
  by_cases h1 : 48 ≤ b
  · by_cases h2 : b ≤ 57
    · go_enter Try.func25, Try.ntmps25
      go_wp2
      go_ret
      rw [digitB_yes h1 h2]
      exact ⟨rfl, rfl⟩
    · have d1 : decide (b ≤ 57) = false := decide_eq_false h2
      go_enter Try.func25, Try.ntmps25
      go_wp2
      go_ret
      rw [digitB_no (Or.inr (by omega))]
      exact ⟨rfl, rfl⟩
  · go_enter Try.func25, Try.ntmps25
    go_wp2
    go_ret
    rw [digitB_no (Or.inl (by omega))]
    exact ⟨rfl, rfl⟩

set_option maxHeartbeats 400000 in
theorem implName (s : ByteArray) (w : World) (hs : s.size ≤ maxLen) :
    Calls Try.prog 14 #[.string s] w (SomeBool (NameP s) w) := by
  unfold maxLen at hs
  by_cases h1 : s.size < 1
  · go_enter Try.func14, Try.ntmps14
    go_wp2
    go_ret
    exact ret_no (fun h => by have := h.1; omega)
  by_cases h2 : 20 < s.size
  · go_enter Try.func14, Try.ntmps14
    go_wp2
    go_ret
    exact ret_no (fun h => by have := h.2.1; omega)
  have h1' : 1 ≤ s.size := by omega
  have h2' : s.size ≤ 20 := by omega
  clear h1 h2
  have h0 : 0 < s.size := by omega
  have d0 : decide ((s.size : Int) < 1) = false := decide_eq_false (by omega)
  have d2 : decide (20 < (s.size : Int)) = false := decide_eq_false (by omega)
  by_cases hf : 97 ≤ s[0].toNat ∧ s[0].toNat ≤ 122
  · have e0 : smallB (s[0].toNat : Int) = true := smallB_yes (by omega) (by omega)
    have HF := Lib.hid hf
    clear hf
    go_enter Try.func14, Try.ntmps14
    go_wp2_with (go_at_call 24; refine (small_any _ _).mono ?_; rintro e w' ⟨rfl, rfl⟩)
    go_loop [20] (fun i => ∃ k : Nat, k ≤ s.size ∧ i = .int .i64 k ∧ ∀ j, (h : j < s.size) → j < k → Good j s[j].toNat) (fun i => s.size - (intOf i).toNat)
    case atStart => exact ⟨0, by omega, rfl, fun j _ h => by omega⟩
    case round =>
      obtain ⟨k, hk, rfl, hr⟩ := hrel
      have HR := Lib.hid hr
      clear hr
      by_cases hlt : k < s.size
      · clear e0
        have HK : Hid (k = 0 → 97 ≤ s[k].toNat ∧ s[k].toNat ≤ 122) := Lib.hid (fun e => by subst e; exact HF.out)
        by_cases c1 : 97 ≤ s[k].toNat ∧ s[k].toNat ≤ 122
        · have e1 : smallB (s[k].toNat : Int) = true := smallB_yes (by omega) (by omega)
          have HG : Hid (Good k s[k].toNat) := Lib.hid (Or.inl c1)
          clear c1
          go_wp2_with (first | (go_at_call 24; refine (small_any _ _).mono ?_; rintro e w' ⟨rfl, rfl⟩) | (go_at_call 25; refine (digit_any _ _).mono ?_; rintro e w' ⟨rfl, rfl⟩))
          go_round
          case rel => exact ⟨k + 1, by omega, by go_num, good_step HR.out HG.out⟩
          case measure => simp [intOf]; omega
        · have e1 : smallB (s[k].toNat : Int) = false := smallB_no (by omega)
          by_cases c2 : 48 ≤ s[k].toNat ∧ s[k].toNat ≤ 57
          · have e2 : digitB (s[k].toNat : Int) = true := digitB_yes (by omega) (by omega)
            have HG : Hid (Good k s[k].toNat) := Lib.hid (Or.inr ⟨fun e => c1 (HK.out e), Or.inl c2⟩)
            clear c1 c2
            go_wp2_with (first | (go_at_call 24; refine (small_any _ _).mono ?_; rintro e w' ⟨rfl, rfl⟩) | (go_at_call 25; refine (digit_any _ _).mono ?_; rintro e w' ⟨rfl, rfl⟩))
            go_round
            case rel => exact ⟨k + 1, by omega, by go_num, good_step HR.out HG.out⟩
            case measure => simp [intOf]; omega
          · have e2 : digitB (s[k].toNat : Int) = false := digitB_no (by omega)
            by_cases c3 : s[k].toNat = 95
            · have HG : Hid (Good k s[k].toNat) := Lib.hid (Or.inr ⟨fun e => c1 (HK.out e), Or.inr c3⟩)
              have cb : ((s[k].toNat : Int) != 95) = false := by rw [bne_eq_false_iff_eq]; omega
              clear c1 c2 c3
              go_wp2_with (first | (go_at_call 24; refine (small_any _ _).mono ?_; rintro e w' ⟨rfl, rfl⟩) | (go_at_call 25; refine (digit_any _ _).mono ?_; rintro e w' ⟨rfl, rfl⟩))
              go_round
              case rel => exact ⟨k + 1, by omega, by go_num, good_step HR.out HG.out⟩
              case measure => simp [intOf]; omega
            · have HG : Hid (¬ Good k s[k].toNat) := Lib.hid (fun g => by unfold Good at g; omega)
              have cb : ((s[k].toNat : Int) != 95) = true := by rw [bne_iff_ne]; omega
              clear c1 c2 c3
              go_wp2_with (first | (go_at_call 24; refine (small_any _ _).mono ?_; rintro e w' ⟨rfl, rfl⟩) | (go_at_call 25; refine (digit_any _ _).mono ?_; rintro e w' ⟨rfl, rfl⟩))
              go_ret
              exact ret_no (fun h => HG.out (h.2.2 _ hlt))
      · go_wp2
        go_ret
        exact ret_yes ⟨h1', h2', fun i h => HR.out i h (by omega)⟩
  · have e0 : smallB (s[0].toNat : Int) = false := smallB_no (by omega)
    have HG : Hid (¬ Good 0 s[0].toNat) := Lib.hid (fun g => by unfold Good at g; omega)
    clear hf
    go_enter Try.func14, Try.ntmps14
    go_wp2_with (go_at_call 24; refine (small_any _ _).mono ?_; rintro e w' ⟨rfl, rfl⟩)
    go_ret
    exact ret_no (fun h => HG.out (h.2.2 _ h0))

def Tru (w : World) (e : Ending) (w' : World) : Prop := e = .returned (.bool true) ∧ w = w'

theorem lawName (s : ByteArray) (w : World) (hs : s.size ≤ maxLen) : Calls Try.prog 5 #[.string s] w (Tru w) := by
  by_cases hb : 1048576 < s.size
  · go_enter Try.func5, Try.ntmps5
    go_wp2
    go_ret
    exact ⟨rfl, rfl⟩
  · go_enter Try.func5, Try.ntmps5
    go_wp2_with fail
    refine (specName s _ hs).mono ?_
    rintro e w' ⟨b, hb1, rfl, rfl⟩
    have HB := Lib.hid hb1
    clear hb1
    go_wp2_with fail
    refine (implName s _ hs).mono ?_
    rintro e w' ⟨b', hb2, rfl, rfl⟩
    obtain rfl : b = b' := Bool.eq_iff_iff.2 (HB.out.trans hb2.symm)
    clear hb2
    have hn : (b != b) = false := by simp
    go_wp2
    go_ret
    exact ⟨rfl, rfl⟩
end Go.Proofs.Ytghcolobjfgfgaa
