/- ReqRight: the model's side. -/
import Derived.Test.YtmhjihdefagkmaaReq1
namespace Go.Proofs.Ytmhjihdefagkmaa
open Go Go.RowKit Go.Lib
set_option linter.unusedVariables false

theorem below_drewN {B : Nat} {a w : World} (h : Below B a w) (n : Nat) : Below B a (w.drewN n) := ⟨h.os, h.tape, h.output, h.size, h.block⟩

/-- What is asked, as data. -/
structure RQ where
  no : Int
  kind : Int
  client : Int
  code : Int
  token : Int
  proof : ByteArray
  upTo : Int
def rqV (r : RQ) : Value := .agg #[.int .i64 r.no, .int .i64 r.kind, .int .i64 r.client, .int .i64 r.code, .int .i64 r.token, .string r.proof, .int .i64 r.upTo]
def rightB (r : RQ) : Bool :=
  isB r.no 1 99 && isB r.kind 1 6 && (numB (hasB (takesS r.kind) 99) r.client 3 && numB (hasB (takesS r.kind) 100) r.code 99 && numB (hasB (takesS r.kind) 116) r.token 999 && numB (hasB (takesS r.kind) 98) r.upTo 1000 &&
    if hasB (takesS r.kind) 112 then proofB r.proof else r.proof.toList.isEmpty)

theorem has_at {t : ByteArray} {c : Int} {b : Bool} {w : World} (h : hasB t c = b) (ht : t.size ≤ 8) : Calls Try.prog 14 #[.string t, .int .u8 c] w fun e w' => e = .returned (.bool b) ∧ w' = w := by
  subst h
  exact (has_spec t c w ht).mono fun _ _ h => ⟨h.1, h.2.symm⟩
theorem num_at {has : Bool} {n most : Int} {b : Bool} {w : World} (h : numB has n most = b) : Calls Try.prog 13 #[.bool has, .int .i64 n, .int .i64 most] w fun e w' => e = .returned (.bool b) ∧ w' = w := by
  subst h
  exact (num_spec has n most w).mono fun _ _ h => ⟨h.1, h.2.symm⟩
theorem proof_at {t : ByteArray} {b : Bool} {w : World} (h : proofB t = b) (ht : t.size ≤ maxLen) : Calls Try.prog 15 #[.string t] w fun e w' => e = .returned (.bool b) ∧ w' = w := by
  subst h
  exact (proof_spec t w ht).mono fun _ _ h => ⟨h.1, h.2.symm⟩

set_option maxRecDepth 100000 in
set_option maxHeartbeats 1000000 in
theorem right_spec (r : RQ) (w : World) (hp : r.proof.size ≤ maxLen) : Calls Try.prog 6 #[rqV r] w fun e w' => e = .returned (.bool (rightB r)) ∧ Below w.heap.size w w' := by
  obtain ⟨no, kind, client, code, token, proof, upTo⟩ := r
  unfold rqV
  simp only at hp ⊢
  cases h1 : isB no 1 99 with
  | false =>
    go_enter Try.func6, Try.ntmps6
    go_wp2_with (go_at_call 11; refine (is_spec _ _ _ _).mono ?_; rintro e w' ⟨rfl, rfl⟩)
    go_ret
    exact ⟨by simp [rightB, h1], by go_grown⟩
  | true =>
    cases h2 : isB kind 1 6 with
    | false =>
      go_enter Try.func6, Try.ntmps6
      go_wp2_with (go_at_call 11; refine (is_spec _ _ _ _).mono ?_; rintro e w' ⟨rfl, rfl⟩)
      go_ret
      exact ⟨by simp [rightB, h1, h2], by go_grown⟩
    | true =>
      have HT := Lib.hid (takes_small kind)
      go_enter Try.func6, Try.ntmps6
      go_wp2_with (go_at_call 11; refine (is_spec _ _ _ _).mono ?_; rintro e w' ⟨rfl, rfl⟩)
      refine (takes_spec _ _).mono ?_
      rintro e w' ⟨rfl, rfl⟩
      cases b1 : numB (hasB (takesS kind) 99) client 3 with
      | false =>
        go_wp2_with fail
        go_quiet (first | (go_at_call 14; refine Calls.quiet_of_same (has_at (by first | assumption | rfl) HT.out)) | (go_at_call 13; refine Calls.quiet_of_same (num_at (by assumption))) | (go_at_call 15; refine Calls.quiet_of_same (proof_at (by assumption) hp)))
        go_wp2_with fail
        go_ret
        exact ⟨by simp [rightB, h1, h2, b1], below_drewN ((Below.refl _ _).alloc (Nat.le_refl _) _) _⟩
      | true =>
        cases b2 : numB (hasB (takesS kind) 100) code 99 with
        | false =>
          go_wp2_with fail
          go_quiet (first | (go_at_call 14; refine Calls.quiet_of_same (has_at (by first | assumption | rfl) HT.out)) | (go_at_call 13; refine Calls.quiet_of_same (num_at (by assumption))) | (go_at_call 15; refine Calls.quiet_of_same (proof_at (by assumption) hp)))
          go_wp2_with fail
          go_ret
          exact ⟨by simp [rightB, h1, h2, b1, b2], below_drewN ((Below.refl _ _).alloc (Nat.le_refl _) _) _⟩
        | true =>
          cases b3 : numB (hasB (takesS kind) 116) token 999 with
          | false =>
            go_wp2_with fail
            go_quiet (first | (go_at_call 14; refine Calls.quiet_of_same (has_at (by first | assumption | rfl) HT.out)) | (go_at_call 13; refine Calls.quiet_of_same (num_at (by assumption))) | (go_at_call 15; refine Calls.quiet_of_same (proof_at (by assumption) hp)))
            go_wp2_with fail
            go_ret
            exact ⟨by simp [rightB, h1, h2, b1, b2, b3], below_drewN ((Below.refl _ _).alloc (Nat.le_refl _) _) _⟩
          | true =>
            cases b4 : numB (hasB (takesS kind) 98) upTo 1000 with
            | false =>
              go_wp2_with fail
              go_quiet (first | (go_at_call 14; refine Calls.quiet_of_same (has_at (by first | assumption | rfl) HT.out)) | (go_at_call 13; refine Calls.quiet_of_same (num_at (by assumption))) | (go_at_call 15; refine Calls.quiet_of_same (proof_at (by assumption) hp)))
              go_wp2_with fail
              go_ret
              exact ⟨by simp [rightB, h1, h2, b1, b2, b3, b4], below_drewN ((Below.refl _ _).alloc (Nat.le_refl _) _) _⟩
            | true =>
              cases b5 : hasB (takesS kind) 112 with
              | true =>
                cases b6 : proofB proof with
                | false =>
                  go_wp2_with fail
                  go_quiet (first | (go_at_call 14; refine Calls.quiet_of_same (has_at (by first | assumption | rfl) HT.out)) | (go_at_call 13; refine Calls.quiet_of_same (num_at (by assumption))) | (go_at_call 15; refine Calls.quiet_of_same (proof_at (by assumption) hp)))
                  go_wp2_with fail
                  go_ret
                  exact ⟨by simp [rightB, h1, h2, b1, b2, b3, b4, b5, b6], below_drewN ((Below.refl _ _).alloc (Nat.le_refl _) _) _⟩
                | true =>
                  go_wp2_with fail
                  go_quiet (first | (go_at_call 14; refine Calls.quiet_of_same (has_at (by first | assumption | rfl) HT.out)) | (go_at_call 13; refine Calls.quiet_of_same (num_at (by assumption))) | (go_at_call 15; refine Calls.quiet_of_same (proof_at (by assumption) hp)))
                  go_wp2_with fail
                  go_ret
                  exact ⟨by simp [rightB, h1, h2, b1, b2, b3, b4, b5, b6], below_drewN ((Below.refl _ _).alloc (Nat.le_refl _) _) _⟩
              | false =>
                go_wp2_with fail
                go_quiet (first | (go_at_call 14; refine Calls.quiet_of_same (has_at (by first | assumption | rfl) HT.out)) | (go_at_call 13; refine Calls.quiet_of_same (num_at (by assumption))) | (go_at_call 15; refine Calls.quiet_of_same (proof_at (by assumption) hp)))
                go_wp2_with fail
                go_ret
                exact ⟨by simp [rightB, h1, h2, b1, b2, b3, b4, b5], below_drewN ((Below.refl _ _).alloc (Nat.le_refl _) _) _⟩
end Go.Proofs.Ytmhjihdefagkmaa
