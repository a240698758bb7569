/- NameRight: the walks of the two functions and of the law. -/
import Derived.Test.YtghcolobjfgfgaaRows
import Derived.WalkKit
import Derived.WalkSpells
import Derived.WalkLawsBesides
import Derived.BigQuiet
import Derived.Deep.QuietTactic
import Derived.Lib.Hide
import Derived.Outline
import Derived.OwnWalk
namespace Go.Proofs.Ytghcolobjfgfgaa
open Go Go.RowKit

def Good (i c : Nat) : Prop := (97 ≤ c ∧ c ≤ 122) ∨ (i ≠ 0 ∧ ((48 ≤ c ∧ c ≤ 57) ∨ c = 95))
def NameP (s : ByteArray) : Prop := 1 ≤ s.size ∧ s.size ≤ 20 ∧ ∀ i, (h : i < s.size) → Good i s[i].toNat
def SomeBool (P : Prop) (w : World) (e : Ending) (w' : World) : Prop := ∃ b : Bool, (b = true ↔ P) ∧ e = .returned (.bool b) ∧ w = w'


theorem ret_no {P : Prop} {w : World} (h : ¬ P) : SomeBool P w (.returned (.bool false)) w := ⟨false, ⟨(fun e => by cases e), (fun p => absurd p h)⟩, rfl, rfl⟩
theorem ret_yes {P : Prop} {w : World} (h : P) : SomeBool P w (.returned (.bool true)) w := ⟨true, ⟨(fun _ => h), (fun _ => rfl)⟩, rfl, rfl⟩

theorem good_cases (k c : Nat) : (Good k c ∧ ((97 ≤ c ∧ c ≤ 122) ∨ (0 < k ∧ 48 ≤ c ∧ c ≤ 57) ∨ (0 < k ∧ 95 ≤ c ∧ c ≤ 95))) ∨
    (¬ Good k c ∧ ((k ≤ 0 ∧ c < 97) ∨ (k ≤ 0 ∧ 122 < c) ∨ (0 < k ∧ c < 48) ∨ (0 < k ∧ 57 < c ∧ c < 95) ∨ (0 < k ∧ 96 ≤ c ∧ c ≤ 96) ∨ (0 < k ∧ 122 < c))) := by
  unfold Good; omega
theorem good_step {s : ByteArray} {k : Nat} (h : ∀ j, (h : j < s.size) → j < k → Good j s[j].toNat) {hk : k < s.size} (g : Good k s[k].toNat) :
    ∀ j, (h : j < s.size) → j < k + 1 → Good j s[j].toNat := fun j hj hjk => by
  by_cases e : j = k
  · subst e; exact g
  · exact h j hj (by omega)

set_option maxHeartbeats 400000 in
theorem specName (s : ByteArray) (w : World) (hs : s.size ≤ maxLen) :
    Calls Try.prog 13 #[.string s] w (SomeBool (NameP s) w) := by
  unfold maxLen at hs
  by_cases h1 : s.size < 1
  · go_enter Try.func13, Try.ntmps13
    go_wp2
    go_ret
    exact ret_no (fun h => by have := h.1; omega)
  by_cases h2 : 20 < s.size
  · go_enter Try.func13, Try.ntmps13
    go_wp2
    go_ret
    exact ret_no (fun h => by have := h.2.1; omega)
  have h1' : 1 ≤ s.size := by omega
  have h2' : s.size ≤ 20 := by omega
  clear h1 h2
  go_enter Try.func13, Try.ntmps13
  go_wp2
  go_loop [3] (fun i => ∃ k : Nat, k ≤ s.size ∧ i = .int .i64 k ∧ ∀ j, (h : j < s.size) → j < k → Good j s[j].toNat) (fun i => s.size - (intOf i).toNat)
  case atStart => exact ⟨0, by omega, rfl, fun j _ h => by omega⟩
  case round =>
    obtain ⟨k, hk, rfl, hr⟩ := hrel
    have HR := Lib.hid hr
    clear hr
    by_cases hlt : k < s.size
    · rcases good_cases k s[k].toNat with ⟨hg, hc⟩ | ⟨hg, hc⟩
      · have HG := Lib.hid hg
        clear hg
        rcases hc with ⟨c1, c2⟩ | ⟨c0, c1, c2⟩ | ⟨c0, c1, c2⟩
        rotate_left 2
        · have cb : ((s[k].toNat : Int) != 95) = false := by rw [bne_eq_false_iff_eq]; omega
          go_wp2
          go_round
          case rel => exact ⟨k + 1, by omega, by go_num, good_step HR.out HG.out⟩
          case measure => simp [intOf]; omega
        all_goals
          go_wp2
          go_round
          case rel => exact ⟨k + 1, by omega, by go_num, good_step HR.out HG.out⟩
          case measure => simp [intOf]; omega
      · have HG := Lib.hid hg
        clear hg
        rcases hc with ⟨c0, c1⟩ | ⟨c0, c1⟩ | ⟨c0, c1⟩ | ⟨c0, c1, c2⟩ | ⟨c0, c1, c2⟩ | ⟨c0, c1⟩
        · have ek := Nat.le_zero.1 c0
          subst ek
          go_wp2
          go_ret
          exact ret_no (fun h => HG.out (h.2.2 _ hlt))
        · have ek := Nat.le_zero.1 c0
          subst ek
          have d1 : decide ((s[0].toNat : Int) ≤ 122) = false := by rw [decide_eq_false_iff_not]; omega
          go_wp2
          go_ret
          exact ret_no (fun h => HG.out (h.2.2 _ hlt))
        all_goals have cb : ((s[k].toNat : Int) != 95) = true := by rw [bne_iff_ne]; omega
        · go_wp2
          go_ret
          exact ret_no (fun h => HG.out (h.2.2 _ hlt))
        rotate_left 2
        · have d1 : decide ((s[k].toNat : Int) ≤ 122) = false := by rw [decide_eq_false_iff_not]; omega
          have d2 : decide ((s[k].toNat : Int) ≤ 57) = false := by rw [decide_eq_false_iff_not]; omega
          go_wp2
          go_ret
          exact ret_no (fun h => HG.out (h.2.2 _ hlt))
        all_goals
          have d2 : decide ((s[k].toNat : Int) ≤ 57) = false := by rw [decide_eq_false_iff_not]; omega
          go_wp2
          go_ret
          exact ret_no (fun h => HG.out (h.2.2 _ hlt))
    · go_wp2
      go_ret
      exact ret_yes ⟨h1', h2', fun i h => HR.out i h (by omega)⟩
end Go.Proofs.Ytghcolobjfgfgaa
