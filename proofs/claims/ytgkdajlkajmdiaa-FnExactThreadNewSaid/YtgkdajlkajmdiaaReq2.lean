/- ReqRight: the model's side. -/
import Derived.Test.YtgkdajlkajmdiaaReq1
import Derived.Test.YtgkdajlkajmdiaaRet
namespace Go.Proofs.Ytgkdajlkajmdiaa
open Go Go.RowKit Go.Lib
set_option linter.unusedVariables false

/-- What is asked, as data. -/
structure RQ where
  no : Int
  kind : Int
  client : Int
  code : Int
  token : Int
  proof : ByteArray
  upTo : Int
def rqV (r : RQ) : Value := .agg #[.int .i64 r.no, .int .i64 r.kind, .int .i64 r.client, .int .i64 r.code, .int .i64 r.token, .string r.proof, .int .i64 r.upTo]
/-- What is asked is within int64, and its proof within the reach. -/
def RQ64 (r : RQ) : Prop := (-9223372036854775808 ≤ r.no ∧ r.no ≤ 9223372036854775807) ∧ (-9223372036854775808 ≤ r.kind ∧ r.kind ≤ 9223372036854775807) ∧ (-9223372036854775808 ≤ r.client ∧ r.client ≤ 9223372036854775807) ∧ (-9223372036854775808 ≤ r.code ∧ r.code ≤ 9223372036854775807) ∧
  (-9223372036854775808 ≤ r.token ∧ r.token ≤ 9223372036854775807) ∧ r.proof.size ≤ maxLen ∧ (-9223372036854775808 ≤ r.upTo ∧ r.upTo ≤ 9223372036854775807)
def rightB (r : RQ) : Bool :=
  isB r.no 1 99 && isB r.kind 1 6 && (numB (hasB (takesS r.kind) 99) r.client 3 && numB (hasB (takesS r.kind) 100) r.code 99 && numB (hasB (takesS r.kind) 116) r.token 999 && numB (hasB (takesS r.kind) 98) r.upTo 1000 &&
    if hasB (takesS r.kind) 112 then proofB r.proof else r.proof.toList.isEmpty)

theorem has_at {t : ByteArray} {c : Int} {b : Bool} {w : World} (h : hasB t c = b) (ht : t.size ≤ 8) : Calls Try.prog 91 #[.string t, .int .u8 c] w fun e w' => e = .returned (.bool b) ∧ w' = w := by
  subst h
  exact (has_spec t c w ht).mono fun _ _ h => ⟨h.1, h.2.symm⟩
theorem num_at {has : Bool} {n most : Int} {b : Bool} {w : World} (h : numB has n most = b) : Calls Try.prog 90 #[.bool has, .int .i64 n, .int .i64 most] w fun e w' => e = .returned (.bool b) ∧ w' = w := by
  subst h
  exact (num_spec has n most w).mono fun _ _ h => ⟨h.1, h.2.symm⟩

set_option maxRecDepth 100000 in
set_option maxHeartbeats 1000000 in
theorem right_spec (r : RQ) (w : World) (hp : r.proof.size ≤ maxLen) : Calls Try.prog 51 #[rqV r] w fun e w' => e = .returned (.bool (rightB r)) ∧ Below w.heap.size w w' := by
  obtain ⟨no, kind, client, code, token, proof, upTo⟩ := r
  unfold rqV
  simp only at hp ⊢
  cases h1 : isB no 1 99 with
  | false =>
    go_enter Try.func51, Try.ntmps51
    go_wp2_with (go_at_call 52; refine (is_spec _ _ _ _).mono ?_; rintro e w' ⟨rfl, rfl⟩)
    go_ret
    exact ⟨by simp [rightB, h1], by go_grown⟩
  | true =>
    cases h2 : isB kind 1 6 with
    | false =>
      go_enter Try.func51, Try.ntmps51
      go_wp2_with (go_at_call 52; refine (is_spec _ _ _ _).mono ?_; rintro e w' ⟨rfl, rfl⟩)
      go_ret
      exact ⟨by simp [rightB, h1, h2], by go_grown⟩
    | true =>
      have HT := Lib.hid (takes_small kind)
      go_enter Try.func51, Try.ntmps51
      go_wp2_with (go_at_call 52; refine (is_spec _ _ _ _).mono ?_; rintro e w' ⟨rfl, rfl⟩)
      refine (takes_spec _ _).mono ?_
      rintro e w' ⟨rfl, rfl⟩
      cases b1 : numB (hasB (takesS kind) 99) client 3 with
      | false =>
        go_wp2_with fail
        go_quiet (first | (go_at_call 91; refine Calls.quiet_of_same (has_at (by first | assumption | rfl) HT.out)) | (go_at_call 90; refine Calls.quiet_of_same (num_at (by assumption))) | (go_at_call 62; refine Calls.quiet_of_same (proof_at (by assumption) hp)))
        go_wp2_with fail
        go_ret
        exact ⟨by simp [rightB, h1, h2, b1], below_drewN ((Below.refl _ _).alloc (Nat.le_refl _) _) _⟩
      | true =>
        cases b2 : numB (hasB (takesS kind) 100) code 99 with
        | false =>
          go_wp2_with fail
          go_quiet (first | (go_at_call 91; refine Calls.quiet_of_same (has_at (by first | assumption | rfl) HT.out)) | (go_at_call 90; refine Calls.quiet_of_same (num_at (by assumption))) | (go_at_call 62; refine Calls.quiet_of_same (proof_at (by assumption) hp)))
          go_wp2_with fail
          go_ret
          exact ⟨by simp [rightB, h1, h2, b1, b2], below_drewN ((Below.refl _ _).alloc (Nat.le_refl _) _) _⟩
        | true =>
          cases b3 : numB (hasB (takesS kind) 116) token 999 with
          | false =>
            go_wp2_with fail
            go_quiet (first | (go_at_call 91; refine Calls.quiet_of_same (has_at (by first | assumption | rfl) HT.out)) | (go_at_call 90; refine Calls.quiet_of_same (num_at (by assumption))) | (go_at_call 62; refine Calls.quiet_of_same (proof_at (by assumption) hp)))
            go_wp2_with fail
            go_ret
            exact ⟨by simp [rightB, h1, h2, b1, b2, b3], below_drewN ((Below.refl _ _).alloc (Nat.le_refl _) _) _⟩
          | true =>
            cases b4 : numB (hasB (takesS kind) 98) upTo 1000 with
            | false =>
              go_wp2_with fail
              go_quiet (first | (go_at_call 91; refine Calls.quiet_of_same (has_at (by first | assumption | rfl) HT.out)) | (go_at_call 90; refine Calls.quiet_of_same (num_at (by assumption))) | (go_at_call 62; refine Calls.quiet_of_same (proof_at (by assumption) hp)))
              go_wp2_with fail
              go_ret
              exact ⟨by simp [rightB, h1, h2, b1, b2, b3, b4], below_drewN ((Below.refl _ _).alloc (Nat.le_refl _) _) _⟩
            | true =>
              cases b5 : hasB (takesS kind) 112 with
              | true =>
                cases b6 : proofB proof with
                | false =>
                  go_wp2_with fail
                  go_quiet (first | (go_at_call 91; refine Calls.quiet_of_same (has_at (by first | assumption | rfl) HT.out)) | (go_at_call 90; refine Calls.quiet_of_same (num_at (by assumption))) | (go_at_call 62; refine Calls.quiet_of_same (proof_at (by assumption) hp)))
                  go_wp2_with fail
                  go_ret
                  exact ⟨by simp [rightB, h1, h2, b1, b2, b3, b4, b5, b6], below_drewN ((Below.refl _ _).alloc (Nat.le_refl _) _) _⟩
                | true =>
                  go_wp2_with fail
                  go_quiet (first | (go_at_call 91; refine Calls.quiet_of_same (has_at (by first | assumption | rfl) HT.out)) | (go_at_call 90; refine Calls.quiet_of_same (num_at (by assumption))) | (go_at_call 62; refine Calls.quiet_of_same (proof_at (by assumption) hp)))
                  go_wp2_with fail
                  go_ret
                  exact ⟨by simp [rightB, h1, h2, b1, b2, b3, b4, b5, b6], below_drewN ((Below.refl _ _).alloc (Nat.le_refl _) _) _⟩
              | false =>
                go_wp2_with fail
                go_quiet (first | (go_at_call 91; refine Calls.quiet_of_same (has_at (by first | assumption | rfl) HT.out)) | (go_at_call 90; refine Calls.quiet_of_same (num_at (by assumption))) | (go_at_call 62; refine Calls.quiet_of_same (proof_at (by assumption) hp)))
                go_wp2_with fail
                go_ret
                exact ⟨by simp [rightB, h1, h2, b1, b2, b3, b4, b5], below_drewN ((Below.refl _ _).alloc (Nat.le_refl _) _) _⟩
end Go.Proofs.Ytgkdajlkajmdiaa
