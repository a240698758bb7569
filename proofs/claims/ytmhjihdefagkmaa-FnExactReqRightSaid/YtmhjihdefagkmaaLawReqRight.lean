/- ReqRight: the walk of the law. -/
import Derived.Test.YtmhjihdefagkmaaImp4
import Derived.Test.YtmhjihdefagkmaaReqArg
namespace Go.Proofs.Ytmhjihdefagkmaa
open Go Go.RowKit Go.Lib
set_option linter.unusedVariables false

theorem szReq_any (r : RQ) (w : World) (hp : r.proof.size ≤ maxLen) : Calls Try.prog 5 #[rqV r, .int .i64 1048576] w fun e w' => (∃ n : Int, e = .returned (.int .i64 n)) ∧ Below w.heap.size w w' := by
  unfold maxLen at hp
  unfold rqV
  by_cases h : r.proof.size ≤ 1048576
  · have d : decide ((1048576 : Int) - r.proof.size < 0) = false := decide_eq_false (by omega)
    go_enter Try.func5, Try.ntmps5
    go_wp2_with fail
    go_ret
    exact ⟨⟨_, rfl⟩, by go_grown⟩
  · have d : decide ((1048576 : Int) - r.proof.size < 0) = true := decide_eq_true (by omega)
    go_enter Try.func5, Try.ntmps5
    go_wp2_with fail
    go_ret
    exact ⟨⟨_, rfl⟩, by go_grown⟩
set_option maxHeartbeats 400000 in
theorem toReq_any (r : RQ) (w : World) : Calls Try.prog 7 #[rqV r] w (Ret (rqV r) w) := by
  unfold rqV
  go_enter Try.func7, Try.ntmps7
  go_wp2_with fail
  go_returns
  exact ⟨rfl, by go_grown⟩

theorem lawReqRight (r : RQ) (w : World) (h : RQ64 r) : Calls Try.prog 3 #[rqV r] w fun e w' => e = .returned (.bool true) ∧ Below w.heap.size w w' := by
  obtain ⟨no, kind, client, code, token, proof, upTo⟩ := r
  have hp : proof.size ≤ maxLen := h.2.2.2.2.2.1
  have HE := Lib.hid (show rqV ⟨no, kind, client, code, token, proof, upTo⟩ = .agg #[.int .i64 no, .int .i64 kind, .int .i64 client, .int .i64 code, .int .i64 token, .string proof, .int .i64 upTo] from rfl)
  have HS := Lib.hid (RQ7.start ⟨no, kind, client, code, token, proof, upTo⟩ w 23)
  clear h
  rw [HE.out]
  go_enter Try.func3, Try.ntmps3
  go_wp2_with fail
  rw [← HE.out]
  refine (szReq_any _ _ hp).mono ?_
  rintro e w1 ⟨⟨n, rfl⟩, hb⟩
  have HS1 := Lib.hid (HS.out.keep hb)
  clear hb HS
  have c := HS1.out
  obtain ⟨c0, c1, c2, c3, c4, c5, c6, bb⟩ := c
  by_cases hn : n < 0
  · go_wp2_with fail
    go_ret
    exact ⟨rfl, bb⟩
  go_wp2_with fail
  rw [← HE.out]
  refine (toReq_any _ _).mono ?_
  rintro e w2 ⟨rfl, hb⟩
  have HS2 := Lib.hid (HS1.out.keep hb)
  clear hb HS1 c0 c1 c2 c3 c4 c5 c6 bb
  go_wp2_with fail
  refine (right_spec _ _ hp).mono ?_
  rintro e w3 ⟨rfl, hb⟩
  have HS3 := Lib.hid (HS2.out.keep hb)
  clear hb HS2
  have c := HS3.out
  obtain ⟨c0, c1, c2, c3, c4, c5, c6, bb⟩ := c
  go_wp2_with fail
  rw [← HE.out]
  refine (toReq_any _ _).mono ?_
  rintro e w4 ⟨rfl, hb⟩
  have HS4 := Lib.hid (HS3.out.keep hb)
  clear hb HS3 c0 c1 c2 c3 c4 c5 c6 bb
  go_wp2_with fail
  refine (right_impl _ _ hp).mono ?_
  rintro e w5 ⟨rfl, hb⟩
  have bb := (HS4.out.keep hb).2.2.2.2.2.2.2
  clear hb HS4
  go_wp2_with fail
  go_ret
  exact ⟨rfl, bb⟩
end Go.Proofs.Ytmhjihdefagkmaa
