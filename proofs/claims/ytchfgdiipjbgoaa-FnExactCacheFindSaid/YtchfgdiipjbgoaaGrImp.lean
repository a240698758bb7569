/- Right grants: times, states, by the program. -/
import Derived.Test.YtchfgdiipjbgoaaGr
import Derived.Test.YtchfgdiipjbgoaaFlo
import Derived.Test.YtchfgdiipjbgoaaUpto
namespace Go.Proofs.Ytchfgdiipjbgoaa
open Go Go.RowKit Go.Lib
set_option linter.unusedVariables false

theorem nan_any (w : World) : Calls Try.prog 72 #[] w fun e w' => e = .returned (.float .f64 nanB) ∧ w = w' := by
  have hx : ∀ w, (callFunc 83 #[.int .u64 9221120237041090561]).run Try.prog w = .ok (.value (.float .f64 9221120237041090561)) w := fun w => by kernel_rfl
  go_enter Try.func72, Try.ntmps72
  go_wp2_with fail
  go_ret
  exact ⟨rfl, rfl⟩
/-- The bits by which a time is kept. -/
def tmB (n : Int) : Nat := if 0 ≤ n ∧ n ≤ 1000000 then floatOfInt .f64 n else nanB
theorem tmB_yes {n : Int} (h : isB n 0 1000000 = true) : tmB n = floatOfInt .f64 n := by
  unfold isB at h
  simp at h
  simp [tmB, h]
theorem timeOf_any (n : Int) (w : World) : Calls Try.prog 56 #[.int .i64 n] w fun e w' => e = .returned (.float .f64 (tmB n)) ∧ w = w' := by
  by_cases h0 : n < 0
  · have HT : Hid (tmB n = nanB) := Lib.hid (if_neg (by omega))
    go_enter Try.func56, Try.ntmps56
    go_wp2_with (go_at_call 72; refine (nan_any _).mono ?_; rintro e w' ⟨rfl, rfl⟩)
    go_ret
    exact ⟨by rw [HT.out]; rfl, rfl⟩
  · by_cases h1 : 1000000 < n
    · have HT : Hid (tmB n = nanB) := Lib.hid (if_neg (by omega))
      go_enter Try.func56, Try.ntmps56
      go_wp2_with (go_at_call 72; refine (nan_any _).mono ?_; rintro e w' ⟨rfl, rfl⟩)
      go_ret
      exact ⟨by rw [HT.out]; rfl, rfl⟩
    · have HT : Hid (tmB n = floatOfInt .f64 n) := Lib.hid (if_pos (by omega))
      have hu : (Try.prog.underlying 2).isSome = true := by kernel_rfl
      have hf : Try.prog.underlying 114 = some (.float .f64) := by kernel_rfl
      have hr := fun w => run_convert_int_float (P := Try.prog) w 2 114 .i64 .f64 n hu hf
      go_enter Try.func56, Try.ntmps56
      go_wp2_with fail
      go_ret
      exact ⟨by rw [HT.out]; rfl, rfl⟩

theorem notNum_any (x : Nat) (w : World) : Calls Try.prog 55 #[.float .f64 x] w fun e w' => e = .returned (.bool (FloatKind.f64.format.order x x != some .eq)) ∧ w = w' := by
  go_enter Try.func55, Try.ntmps55
  go_wp2_with fail
  go_ret
  exact ⟨rfl, rfl⟩
theorem tmB_num (n : Int) : (!(FloatKind.f64.format.order (tmB n) (tmB n) != some .eq)) = isB n 0 1000000 := by
  by_cases h : 0 ≤ n ∧ n ≤ 1000000
  · rw [show tmB n = floatOfInt .f64 n from if_pos h, neq_self ⟨h.1, by omega⟩]
    unfold isB
    rw [decide_eq_true h.1, decide_eq_true h.2]
    rfl
  · rw [show tmB n = nanB from if_neg h, neq_nan]
    unfold isB
    by_cases h1 : 0 ≤ n
    · rw [decide_eq_false (p := n ≤ 1000000) (by omega), Bool.and_false]; rfl
    · rw [decide_eq_false h1, Bool.false_and]; rfl
theorem isTime_any (n : Int) (w : World) : Calls Try.prog 34 #[.int .i64 n] w fun e w' => e = .returned (.bool (isB n 0 1000000)) ∧ w = w' := by
  have HT := Lib.hid (tmB_num n)
  obtain ⟨c, hc⟩ : ∃ c, c = (FloatKind.f64.format.order (tmB n) (tmB n) != some .eq) := ⟨_, rfl⟩
  rw [← hc] at HT
  have HC := Lib.hid hc
  clear hc
  go_enter Try.func34, Try.ntmps34
  go_wp2_with (first | (go_at_call 56; refine (timeOf_any _ _).mono ?_; rintro e w' ⟨rfl, rfl⟩) | (go_at_call 55; refine (notNum_any _ _).mono ?_; rw [← HC.out]; rintro e w' ⟨rfl, rfl⟩))
  go_ret
  exact ⟨by rw [← HT.out]; rfl, rfl⟩
theorem isTime_at {n : Int} {b : Bool} {w : World} (h : isB n 0 1000000 = b) : Calls Try.prog 34 #[.int .i64 n] w fun e w' => e = .returned (.bool b) ∧ w' = w := by
  subst h
  exact (isTime_any n w).mono fun _ _ h => ⟨h.1, h.2.symm⟩
theorem state_any (x : Ky) (w : World) : Calls Try.prog 71 #[kyV x] w (Ret (.bool (stateB x)) w) := by
  obtain ⟨no, client, fam, refresh, till, state⟩ := x
  unfold kyV stateB isB
  simp only
  cases refresh with
  | true =>
    by_cases h0 : state = 0
    · subst h0
      go_enter Try.func71, Try.ntmps71
      go_wp2_with fail
      go_ret
      exact ⟨rfl, by go_grown⟩
    · have e0 : (state == 0) = false := beq_eq_false_iff_ne.2 h0
      by_cases h1 : state = 1
      · subst h1
        go_enter Try.func71, Try.ntmps71
        go_wp2_with fail
        go_ret
        exact ⟨rfl, by go_grown⟩
      · have e1 : (state == 1) = false := beq_eq_false_iff_ne.2 h1
        have HB : Hid ((decide (0 ≤ state) && decide (state ≤ 2) && !(true && state == 2)) = false) := Lib.hid (by
          by_cases h2 : state = 2
          · subst h2; rfl
          · by_cases h3 : 0 ≤ state
            · rw [decide_eq_false (p := state ≤ 2) (by omega)]; simp
            · rw [decide_eq_false h3]; simp)
        clear h0 h1
        go_enter Try.func71, Try.ntmps71
        go_wp2_with fail
        go_ret
        exact ⟨by rw [HB.out]; rfl, by go_grown⟩
  | false =>
    have HB : Hid ((decide (0 ≤ state) && decide (state ≤ 2) && !(false && state == 2)) = (decide (0 ≤ state) && decide (state ≤ 2))) := Lib.hid (by simp)
    by_cases h1 : 0 ≤ state
    · have d : decide (0 ≤ state) = true := decide_eq_true h1
      by_cases h2 : state ≤ 2
      · have d2 : decide (state ≤ 2) = true := decide_eq_true h2
        go_enter Try.func71, Try.ntmps71
        go_wp2_with fail
        go_ret
        exact ⟨by first | rfl | (rw [HB.out]; rfl) | (rw [HB.out, d]; rfl) | (rw [HB.out, d, d2]; rfl), by go_grown⟩
      · have d2 : decide (state ≤ 2) = false := decide_eq_false h2
        go_enter Try.func71, Try.ntmps71
        go_wp2_with fail
        go_ret
        exact ⟨by first | rfl | (rw [HB.out]; rfl) | (rw [HB.out, d]; rfl) | (rw [HB.out, d, d2]; rfl), by go_grown⟩
    · have d : decide (0 ≤ state) = false := decide_eq_false h1
      go_enter Try.func71, Try.ntmps71
      go_wp2_with fail
      go_ret
      exact ⟨by first | rfl | (rw [HB.out]; rfl) | (rw [HB.out, d]; rfl), by go_grown⟩
theorem state_at {x : Ky} {b : Bool} {w : World} (h : stateB x = b) : Calls Try.prog 71 #[.agg #[.int .i64 x.no, .int .i64 x.client, .int .i64 x.fam, .bool x.refresh, .int .i64 x.till, .int .i64 x.state]] w (Ret (.bool b) w) := by
  subst h
  exact state_any x w
end Go.Proofs.Ytchfgdiipjbgoaa
