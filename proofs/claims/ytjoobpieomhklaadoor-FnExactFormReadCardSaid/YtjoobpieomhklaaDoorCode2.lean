/- The text of a form: the program's side. -/
import Derived.Test.YtjoobpieomhklaaDoorCode1
namespace Go.Proofs.YtjoobpieomhklaaDoor
open Go Go.RowKit Go.Lib
set_option linter.unusedVariables false

def digitB (b : Int) : Bool := decide (48 ≤ b ∧ b ≤ 57)
theorem digitB_yes {b : Int} (h : 48 ≤ b) (h' : b ≤ 57) : digitB b = true := decide_eq_true ⟨h, h'⟩
theorem digitB_no {b : Int} (h : b < 48 ∨ 57 < b) : digitB b = false := decide_eq_false (fun g => by omega)
theorem digit_any (b : Int) (w : World) : Calls Tryd.prog 52 #[.int .u8 b] w fun e w' => e = .returned (.bool (digitB b)) ∧ w = w' := by
  by_cases h1 : 48 ≤ b
  · by_cases h2 : b ≤ 57
    · go_enter Tryd.func52, Tryd.ntmps52
      go_wp2
      go_ret
      rw [digitB_yes h1 h2]
      exact ⟨rfl, rfl⟩
    · have d1 : decide (b ≤ 57) = false := decide_eq_false h2
      go_enter Tryd.func52, Tryd.ntmps52
      go_wp2
      go_ret
      rw [digitB_no (Or.inr (by omega))]
      exact ⟨rfl, rfl⟩
  · go_enter Tryd.func52, Tryd.ntmps52
    go_wp2
    go_ret
    rw [digitB_no (Or.inl (by omega))]
    exact ⟨rfl, rfl⟩

theorem plain_impl (c : UInt8) (w : World) : Calls Tryd.prog 44 #[.int .u8 (c.toNat : Int)] w fun e w' => e = .returned (.bool (plainB c)) ∧ w = w' := by
  obtain ⟨n, hn⟩ : ∃ n, n = c.toNat := ⟨_, rfl⟩
  have HP : Hid (plainB c = decide (plainP n)) := Lib.hid (by unfold plainB; rw [hn])
  rw [← hn]
  clear hn
  by_cases hp : plainP n
  · have hp' : Hid (plainB c = true) := Lib.hid (by rw [HP.out]; exact decide_eq_true hp)
    have hq : (97 ≤ n ∧ n ≤ 122) ∨ (65 ≤ n ∧ n ≤ 90) ∨ (48 ≤ n ∧ n ≤ 57) ∨ n = 45 ∨ n = 46 ∨ n = 95 := hp
    clear hp
    rcases hq with ⟨a, b⟩ | ⟨a, b⟩ | ⟨a, b⟩ | rfl | rfl | rfl
    · have b1 : smallB (n : Int) = true := smallB_yes (by omega) (by omega)
      go_enter Tryd.func44, Tryd.ntmps44
      go_wp2_with (first | (go_at_call 43; refine (small_any _ _).mono ?_; rintro e w' ⟨rfl, rfl⟩) | (go_at_call 52; refine (digit_any _ _).mono ?_; rintro e w' ⟨rfl, rfl⟩))
      go_ret
      exact ⟨by rw [hp'.out]; rfl, rfl⟩
    · have b1 : smallB (n : Int) = false := smallB_no (by omega)
      go_enter Tryd.func44, Tryd.ntmps44
      go_wp2_with (first | (go_at_call 43; refine (small_any _ _).mono ?_; rintro e w' ⟨rfl, rfl⟩) | (go_at_call 52; refine (digit_any _ _).mono ?_; rintro e w' ⟨rfl, rfl⟩))
      go_ret
      exact ⟨by rw [hp'.out]; rfl, rfl⟩
    · have b1 : smallB (n : Int) = false := smallB_no (by omega)
      have b2 : digitB (n : Int) = true := digitB_yes (by omega) (by omega)
      have d2 : decide (65 ≤ (n : Int)) = false := decide_eq_false (by omega)
      go_enter Tryd.func44, Tryd.ntmps44
      go_wp2_with (first | (go_at_call 43; refine (small_any _ _).mono ?_; rintro e w' ⟨rfl, rfl⟩) | (go_at_call 52; refine (digit_any _ _).mono ?_; rintro e w' ⟨rfl, rfl⟩))
      go_ret
      exact ⟨by rw [hp'.out]; rfl, rfl⟩
    · have b1 : smallB (((45 : Nat) : Int)) = false := smallB_no (by omega)
      have b2 : digitB (((45 : Nat) : Int)) = false := digitB_no (by omega)
      go_enter Tryd.func44, Tryd.ntmps44
      go_wp2_with (first | (go_at_call 43; refine (small_any _ _).mono ?_; rintro e w' ⟨rfl, rfl⟩) | (go_at_call 52; refine (digit_any _ _).mono ?_; rintro e w' ⟨rfl, rfl⟩))
      go_ret
      exact ⟨by rw [hp'.out]; rfl, rfl⟩
    · have b1 : smallB (((46 : Nat) : Int)) = false := smallB_no (by omega)
      have b2 : digitB (((46 : Nat) : Int)) = false := digitB_no (by omega)
      go_enter Tryd.func44, Tryd.ntmps44
      go_wp2_with (first | (go_at_call 43; refine (small_any _ _).mono ?_; rintro e w' ⟨rfl, rfl⟩) | (go_at_call 52; refine (digit_any _ _).mono ?_; rintro e w' ⟨rfl, rfl⟩))
      go_ret
      exact ⟨by rw [hp'.out]; rfl, rfl⟩
    · have b1 : smallB (((95 : Nat) : Int)) = false := smallB_no (by omega)
      have b2 : digitB (((95 : Nat) : Int)) = false := digitB_no (by omega)
      go_enter Tryd.func44, Tryd.ntmps44
      go_wp2_with (first | (go_at_call 43; refine (small_any _ _).mono ?_; rintro e w' ⟨rfl, rfl⟩) | (go_at_call 52; refine (digit_any _ _).mono ?_; rintro e w' ⟨rfl, rfl⟩))
      go_ret
      exact ⟨by rw [hp'.out]; rfl, rfl⟩
  · have hp' : Hid (plainB c = false) := Lib.hid (by rw [HP.out]; exact decide_eq_false hp)
    have e1 : ¬ n = 45 := fun e => hp (by unfold plainP; omega)
    have e2 : ¬ n = 46 := fun e => hp (by unfold plainP; omega)
    have e3 : ¬ n = 95 := fun e => hp (by unfold plainP; omega)
    have g1 : ((n : Int) == 45) = false := u8_ne n 45 e1
    have g2 : ((n : Int) == 46) = false := u8_ne n 46 e2
    have g3 : ((n : Int) == 95) = false := u8_ne n 95 e3
    have b1 : smallB (n : Int) = false := by
      by_cases h1 : 97 ≤ n
      · exact smallB_no (by have : ¬ n ≤ 122 := fun e => hp (by unfold plainP; omega); omega)
      · exact smallB_no (by omega)
    have b2 : digitB (n : Int) = false := by
      by_cases h1 : 48 ≤ n
      · exact digitB_no (by have : ¬ n ≤ 57 := fun e => hp (by unfold plainP; omega); omega)
      · exact digitB_no (by omega)
    by_cases a1 : 97 ≤ n
    · have a2 : ¬ n ≤ 122 := fun e => hp (by unfold plainP; omega)
      have d1 : decide (97 ≤ (n : Int)) = true := decide_eq_true (by omega)
      have d2 : decide ((n : Int) ≤ 122) = false := decide_eq_false (by omega)
      have d3 : decide (65 ≤ (n : Int)) = true := decide_eq_true (by omega)
      have d4 : decide ((n : Int) ≤ 90) = false := decide_eq_false (by omega)
      have d5 : decide (48 ≤ (n : Int)) = true := decide_eq_true (by omega)
      have d6 : decide ((n : Int) ≤ 57) = false := decide_eq_false (by omega)
      clear hp e1 e2 e3
      go_enter Tryd.func44, Tryd.ntmps44
      go_wp2_with (first | (go_at_call 43; refine (small_any _ _).mono ?_; rintro e w' ⟨rfl, rfl⟩) | (go_at_call 52; refine (digit_any _ _).mono ?_; rintro e w' ⟨rfl, rfl⟩))
      go_ret
      exact ⟨by rw [hp'.out]; rfl, rfl⟩
    · have d1 : decide (97 ≤ (n : Int)) = false := decide_eq_false (by omega)
      by_cases a3 : 65 ≤ n
      · have a4 : ¬ n ≤ 90 := fun e => hp (by unfold plainP; omega)
        have d3 : decide (65 ≤ (n : Int)) = true := decide_eq_true (by omega)
        have d4 : decide ((n : Int) ≤ 90) = false := decide_eq_false (by omega)
        have d5 : decide (48 ≤ (n : Int)) = true := decide_eq_true (by omega)
        have d6 : decide ((n : Int) ≤ 57) = false := decide_eq_false (by omega)
        clear hp e1 e2 e3
        go_enter Tryd.func44, Tryd.ntmps44
        go_wp2_with (first | (go_at_call 43; refine (small_any _ _).mono ?_; rintro e w' ⟨rfl, rfl⟩) | (go_at_call 52; refine (digit_any _ _).mono ?_; rintro e w' ⟨rfl, rfl⟩))
        go_ret
        exact ⟨by rw [hp'.out]; rfl, rfl⟩
      · have d3 : decide (65 ≤ (n : Int)) = false := decide_eq_false (by omega)
        by_cases a5 : 48 ≤ n
        · have a6 : ¬ n ≤ 57 := fun e => hp (by unfold plainP; omega)
          have d5 : decide (48 ≤ (n : Int)) = true := decide_eq_true (by omega)
          have d6 : decide ((n : Int) ≤ 57) = false := decide_eq_false (by omega)
          clear hp e1 e2 e3
          go_enter Tryd.func44, Tryd.ntmps44
          go_wp2_with (first | (go_at_call 43; refine (small_any _ _).mono ?_; rintro e w' ⟨rfl, rfl⟩) | (go_at_call 52; refine (digit_any _ _).mono ?_; rintro e w' ⟨rfl, rfl⟩))
          go_ret
          exact ⟨by rw [hp'.out]; rfl, rfl⟩
        · have d5 : decide (48 ≤ (n : Int)) = false := decide_eq_false (by omega)
          clear hp e1 e2 e3
          go_enter Tryd.func44, Tryd.ntmps44
          go_wp2_with (first | (go_at_call 43; refine (small_any _ _).mono ?_; rintro e w' ⟨rfl, rfl⟩) | (go_at_call 52; refine (digit_any _ _).mono ?_; rintro e w' ⟨rfl, rfl⟩))
          go_ret
          exact ⟨by rw [hp'.out]; rfl, rfl⟩

def EscRel (s : ByteArray) (l : List UInt8) (W0 : World) (b i : Value) (wr : World) : Prop := ∃ k : Nat, k ≤ s.size ∧ i = .int .i64 k ∧ Buf 5 W0 wr b (l ++ codeL (s.data.toList.take k))
def EscOut (s : ByteArray) (l : List UInt8) (W0 : World) (e : Ending) (w' : World) : Prop := ∃ v', e = .returned v' ∧ Buf 5 W0 w' v' (l ++ codeL s.data.toList)
theorem ret_val {a b : Value} (h : a = b) : Ending.returned a = .returned b := by rw [h]
set_option maxRecDepth 100000 in
theorem esc_impl (s : ByteArray) (l : List UInt8) (v : Value) (W0 w : World) (hs : s.size ≤ 1048576) (hl : l.length ≤ 1048576) (hb : Buf 5 W0 w v l) :
    Calls Tryd.prog 36 #[v, .string s] w (EscOut s l W0) := by
  obtain ⟨i5, hi, hz0, hz1, hz2⟩ := info_parts info5
  have HB0 := Lib.hid hb
  clear hb
  go_enter Tryd.func36, Tryd.ntmps36
  go_wp2_with fail
  go_loopw [0, 9] (EscRel s l W0) (fun _ i _ => s.size - (RowKit.intOf i).toNat)
  case atStart => exact ⟨0, by omega, rfl, by simpa [codeL] using HB0.out⟩
  case round =>
    obtain ⟨k, hk, rfl, hb⟩ := hrel
    have HB := Lib.hid hb
    clear hb
    by_cases hlt : k < s.size
    · have HC := Lib.hid (codeL_snoc s k hlt)
      have hcl := codeL_len (s.data.toList.take k)
      have hcl2 : (s.data.toList.take k).length ≤ k := List.length_take_le _ _
      have hlen : (l ++ codeL (s.data.toList.take k)).length + 3 ≤ 140737488355328 := by rw [List.length_append]; omega
      have hlen1 : (l ++ codeL (s.data.toList.take k)).length + 1 ≤ 140737488355328 := by omega
      clear hcl hcl2
      by_cases hp : plainB s[k] = true
      · have HE : Hid (codeB s[k] = [s[k]]) := Lib.hid (codeB_plain hp)
        go_wp2_with (first | (go_at_call 44; refine (plain_impl s[k] _).mono ?_; rintro e w' ⟨rfl, rfl⟩) | (at_builtin; refine wpList_push rfl (.tmp 17) (.tmp 19) 45 5 rfl i5 Tryd.underlying45 hi hz0 hz1 hz2 W0 _ _ _ _ rfl HB.out rfl ?p1 ?p2))
        case p1 => exact hlen1
        intro v' w1 hb1
        rw [← HE.out, ← HC.out] at hb1
        have HB1 := Lib.hid hb1
        clear hb1
        go_wp2_with fail
        go_roundw
        case rel => exact ⟨k + 1, by omega, by go_num, HB1.out⟩
        case measure => simp [RowKit.intOf]; omega
      · have hp' : plainB s[k] = false := by simpa using hp
        have hlt8 : s[k].toNat < 256 := UInt8.toNat_lt _
        have hA := run_hex (s[k].toNat / 16) (by omega) ((s[k].toNat : Int) / 16) (by omega)
        have hA' := run_hex (s[k].toNat % 16) (by omega) (bits .and .u8 (s[k].toNat : Int) 15) (u8_and15 _)
        have HE : Hid (codeB s[k] = [37, hexD (s[k].toNat / 16), hexD (s[k].toNat % 16)]) := Lib.hid (codeB_not hp')
        clear hp
        go_wp2_with (first | (go_at_call 44; refine (plain_impl s[k] _).mono ?_; rintro e w' ⟨rfl, rfl⟩))
        go_region_law (refine step_push rfl (.tmp 21) (.tmp 28) 45 5 rfl i5 Tryd.underlying45 hi hz0 hz1 hz2 W0 _ _ [37, hexD (s[k].toNat / 16), hexD (s[k].toNat % 16)] ⟨wr.heap.size, 0, none⟩ 3 3 rfl (by first | exact HB.out.drew.alloc _ | exact (HB.out.alloc _).drew) rfl rfl (three_new _ _ _ _ _) hlen ?_; intro v' w1 hb1)
        all_goals
          have HB1 := Lib.hid hb1
          clear hb1 hA hA'
          go_wp2_with fail
          go_roundw
          case rel => exact ⟨k + 1, by omega, by go_num, by rw [HC.out, HE.out, ← List.append_assoc]; exact HB1.out⟩
          case measure => simp [RowKit.intOf]; omega
    · obtain rfl : k = s.size := by omega
      have HE : Hid (codeL (s.data.toList.take s.size) = codeL s.data.toList) := Lib.hid (by rw [List.take_of_length_le (by rw [← size_eq]; exact Nat.le_refl _)])
      go_wp2_with fail
      go_ret
      exact ⟨_, rfl, HE.out ▸ HB.out⟩
end Go.Proofs.YtjoobpieomhklaaDoor
