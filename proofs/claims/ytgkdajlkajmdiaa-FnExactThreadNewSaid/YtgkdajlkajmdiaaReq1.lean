/- What is asked: the letters a kind has, proofs, numbers; the walks of the model's side. -/
import Derived.Test.YtgkdajlkajmdiaaRows
import Derived.Test.YtgkdajlkajmdiaaAid
import Derived.Test.YtgkdajlkajmdiaaIs
import Derived.BigQuiet
import Derived.Outline
import Derived.Handy
namespace Go.Proofs.Ytgkdajlkajmdiaa
open Go Go.RowKit Go.Lib
set_option linter.unusedVariables false

def hasB (t : ByteArray) (c : Int) : Bool := t.data.toList.any fun x => decide ((x.toNat : Int) = c)
def HasRel (t : ByteArray) (c : Int) (i : Value) : Prop := ∃ k : Nat, k ≤ t.size ∧ i = .int .i64 k ∧ ∀ j, (h : j < t.size) → j < k → (t[j].toNat : Int) ≠ c
theorem hasB_yes {t : ByteArray} {c : Int} {k : Nat} (hk : k < t.size) (h : (t[k].toNat : Int) = c) : hasB t c = true := by
  unfold hasB
  rw [List.any_eq_true]
  exact ⟨t[k], by rw [ByteArray.getElem_eq_getElem_data]; simp, decide_eq_true h⟩
theorem hasB_no {t : ByteArray} {c : Int} (h : ∀ j, (h : j < t.size) → (t[j].toNat : Int) ≠ c) : hasB t c = false := by
  unfold hasB
  rw [List.any_eq_false]
  intro x hx
  obtain ⟨j, hj, rfl⟩ := List.mem_iff_getElem.1 hx
  have h1 := h j (by simpa using hj)
  rw [ByteArray.getElem_eq_getElem_data] at h1
  simpa using h1
set_option maxHeartbeats 400000 in
theorem has_spec (t : ByteArray) (c : Int) (w : World) (ht : t.size ≤ 8) : Calls Try.prog 91 #[.string t, .int .u8 c] w fun e w' => e = .returned (.bool (hasB t c)) ∧ w = w' := by
  go_enter Try.func91, Try.ntmps91
  go_wp2_with fail
  go_loop [5] (HasRel t c) (fun i => t.size - (RowKit.intOf i).toNat)
  case atStart => exact ⟨0, by omega, rfl, fun j _ h => by omega⟩
  case round =>
    obtain ⟨k, hk, rfl, hr⟩ := hrel
    have HR := Lib.hid hr
    clear hr
    by_cases hlt : k < t.size
    · by_cases he : (t[k].toNat : Int) = c
      · have d : ((t[k].toNat : Int) == c) = true := beq_iff_eq.2 he
        have HE := Lib.hid he
        clear he
        go_wp2_with fail
        go_ret
        exact ⟨by rw [hasB_yes hlt HE.out]; rfl, rfl⟩
      · have d : ((t[k].toNat : Int) == c) = false := beq_eq_false_iff_ne.2 he
        have HE := Lib.hid he
        clear he
        go_wp2_with fail
        go_round
        case rel =>
          refine ⟨k + 1, by omega, by go_num, fun j hj hjk => ?_⟩
          by_cases e : j = k
          · subst e; exact HE.out
          · exact HR.out j hj (by omega)
        case measure => simp [RowKit.intOf]; omega
    · obtain rfl : k = t.size := by omega
      go_wp2_with fail
      go_ret
      exact ⟨by rw [hasB_no fun j hj => HR.out j hj hj]; rfl, rfl⟩

/-- What a kind has. -/
def takesS (k : Int) : ByteArray := if k = 1 then ⟨#[99, 112]⟩ else if k = 2 then ⟨#[99, 100, 112]⟩ else if k = 3 ∨ k = 4 ∨ k = 5 then ⟨#[99, 116]⟩ else ⟨#[98]⟩
theorem takes_spec (k : Int) (w : World) : Calls Try.prog 89 #[.int .i64 k] w fun e w' => e = .returned (.string (takesS k)) ∧ w = w' := by
  by_cases h1 : k = 1
  · subst h1
    go_enter Try.func89, Try.ntmps89
    go_wp2_with fail
    go_ret
    exact ⟨rfl, rfl⟩
  have d1 : (k == 1) = false := beq_eq_false_iff_ne.2 h1
  by_cases h2 : k = 2
  · subst h2
    go_enter Try.func89, Try.ntmps89
    go_wp2_with fail
    go_ret
    exact ⟨rfl, rfl⟩
  have d2 : (k == 2) = false := beq_eq_false_iff_ne.2 h2
  by_cases h3 : k = 3
  · subst h3
    go_enter Try.func89, Try.ntmps89
    go_wp2_with fail
    go_ret
    exact ⟨rfl, rfl⟩
  have d3 : (k == 3) = false := beq_eq_false_iff_ne.2 h3
  by_cases h4 : k = 4
  · subst h4
    go_enter Try.func89, Try.ntmps89
    go_wp2_with fail
    go_ret
    exact ⟨rfl, rfl⟩
  have d4 : (k == 4) = false := beq_eq_false_iff_ne.2 h4
  by_cases h5 : k = 5
  · subst h5
    go_enter Try.func89, Try.ntmps89
    go_wp2_with fail
    go_ret
    exact ⟨rfl, rfl⟩
  have d5 : (k == 5) = false := beq_eq_false_iff_ne.2 h5
  have HT : Hid (takesS k = ⟨#[98]⟩) := Lib.hid (by unfold takesS; rw [if_neg h1, if_neg h2, if_neg (by omega)])
  clear h1 h2 h3 h4 h5
  go_enter Try.func89, Try.ntmps89
  go_wp2_with fail
  go_ret
  exact ⟨by rw [HT.out]; rfl, rfl⟩
theorem takes_small (k : Int) : (takesS k).size ≤ 8 := by
  unfold takesS
  split
  · decide
  · split
    · decide
    · split <;> decide

/-- May a number be so, if it is had, and else is zero? -/
def numB (has : Bool) (n most : Int) : Bool := if has then isB n 1 most else n == 0
set_option maxHeartbeats 400000 in
theorem num_spec (has : Bool) (n most : Int) (w : World) : Calls Try.prog 90 #[.bool has, .int .i64 n, .int .i64 most] w fun e w' => e = .returned (.bool (numB has n most)) ∧ w = w' := by
  cases has with
  | true =>
    cases hb : isB n 1 most with
    | true =>
      go_enter Try.func90, Try.ntmps90
      go_wp2_with (go_at_call 52; refine (is_spec _ _ _ _).mono ?_; rintro e w' ⟨rfl, rfl⟩)
      go_ret
      exact ⟨by simp [numB, hb], rfl⟩
    | false =>
      go_enter Try.func90, Try.ntmps90
      go_wp2_with (go_at_call 52; refine (is_spec _ _ _ _).mono ?_; rintro e w' ⟨rfl, rfl⟩)
      go_ret
      exact ⟨by simp [numB, hb], rfl⟩
  | false =>
    go_enter Try.func90, Try.ntmps90
    go_wp2_with fail
    go_ret
    exact ⟨by simp [numB], rfl⟩
end Go.Proofs.Ytgkdajlkajmdiaa
