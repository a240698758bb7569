/- What is asked: what a kind names, the program's side. -/
import Derived.Test.YtmhjihdefagkmaaImp1
import Derived.Test.YtmhjihdefagkmaaAssert
namespace Go.Proofs.Ytmhjihdefagkmaa
open Go Go.RowKit Go.Lib
set_option linter.unusedVariables false

theorem redeemIn (c d : Int) (p : ByteArray) (w : World) (hp : p.size ≤ maxLen) : Calls Try.prog 68 #[.agg #[.int .i64 c, .int .i64 d, .string p]] w (Ret (.bool (isB c 1 3 && isB d 1 99 && proofB p)) w) := by
  cases b0 : isB c 1 3 with
  | false =>
    go_enter Try.func68, Try.ntmps68
    go_wp2_with (first | (go_at_call 17; refine (upto_at (by assumption)).mono ?_; rintro e w' ⟨rfl, rfl⟩))
    go_ret
    exact ⟨rfl, by go_grown⟩
  | true =>
    cases b1 : isB d 1 99 with
    | false =>
      go_enter Try.func68, Try.ntmps68
      go_wp2_with (first | (go_at_call 17; refine (upto_at (by assumption)).mono ?_; rintro e w' ⟨rfl, rfl⟩))
      go_ret
      exact ⟨rfl, by go_grown⟩
    | true =>
      cases b2 : proofB p with
      | false =>
        go_enter Try.func68, Try.ntmps68
        go_wp2_with (first | (go_at_call 17; refine (upto_at (by assumption)).mono ?_; rintro e w' ⟨rfl, rfl⟩) | (go_at_call 53; refine (proofI_at (by assumption) hp).mono ?_; rintro e w' ⟨rfl, rfl⟩))
        go_ret
        exact ⟨rfl, by go_grown⟩
      | true =>
        go_enter Try.func68, Try.ntmps68
        go_wp2_with (first | (go_at_call 17; refine (upto_at (by assumption)).mono ?_; rintro e w' ⟨rfl, rfl⟩) | (go_at_call 53; refine (proofI_at (by assumption) hp).mono ?_; rintro e w' ⟨rfl, rfl⟩))
        go_ret
        exact ⟨rfl, by go_grown⟩
theorem keyIn (c t : Int) (w : World) : Calls Try.prog 71 #[.agg #[.int .i64 c, .int .i64 t]] w (Ret (.bool (isB c 1 3 && isB t 1 999)) w) := by
  cases b0 : isB c 1 3 with
  | false =>
    go_enter Try.func71, Try.ntmps71
    go_wp2_with (first | (go_at_call 17; refine (upto_at (by assumption)).mono ?_; rintro e w' ⟨rfl, rfl⟩))
    go_ret
    exact ⟨rfl, by go_grown⟩
  | true =>
    cases b1 : isB t 1 999 with
    | false =>
      go_enter Try.func71, Try.ntmps71
      go_wp2_with (first | (go_at_call 17; refine (upto_at (by assumption)).mono ?_; rintro e w' ⟨rfl, rfl⟩))
      go_ret
      exact ⟨rfl, by go_grown⟩
    | true =>
      go_enter Try.func71, Try.ntmps71
      go_wp2_with (first | (go_at_call 17; refine (upto_at (by assumption)).mono ?_; rintro e w' ⟨rfl, rfl⟩))
      go_ret
      exact ⟨rfl, by go_grown⟩
theorem tickIn (b : Int) (w : World) : Calls Try.prog 76 #[.agg #[.int .i64 b]] w (Ret (.bool (isB b 1 1000)) w) := by
  cases b0 : isB b 1 1000 with
  | false =>
    go_enter Try.func76, Try.ntmps76
    go_wp2_with (first | (go_at_call 17; refine (upto_at (by assumption)).mono ?_; rintro e w' ⟨rfl, rfl⟩))
    go_ret
    exact ⟨rfl, by go_grown⟩
  | true =>
    go_enter Try.func76, Try.ntmps76
    go_wp2_with (first | (go_at_call 17; refine (upto_at (by assumption)).mono ?_; rintro e w' ⟨rfl, rfl⟩))
    go_ret
    exact ⟨rfl, by go_grown⟩
theorem ofIssue (no client code token : Int) (proof : ByteArray) (upTo : Int) (w : World) : Calls Try.prog 16 #[rqV ⟨no, 1, client, code, token, proof, upTo⟩] w (Ret (.tuple #[.iface 51 (.agg #[.int .i64 client, .string proof]), .bool true]) w) := by
  unfold rqV
  go_enter Try.func16, Try.ntmps16
  go_wp2_with fail
  go_returns
  exact ⟨rfl, by go_grown⟩
theorem reqIssue (no client code token : Int) (proof : ByteArray) (upTo : Int) (w : World) : Calls Try.prog 18 #[.int .i64 no, .iface 51 (.agg #[.int .i64 client, .string proof])] w (Ret (rqV ⟨no, 1, client, 0, 0, proof, 0⟩) w) := by
  unfold rqV
  have hit := fun w => run_as_hit Try.underlying51 (.agg #[.int .i64 client, .string proof]) 36 w
  go_enter Try.func18, Try.ntmps18
  go_wp2_with fail
  go_returns
  exact ⟨rfl, by go_grown⟩
theorem ofRedeem (no client code token : Int) (proof : ByteArray) (upTo : Int) (w : World) : Calls Try.prog 16 #[rqV ⟨no, 2, client, code, token, proof, upTo⟩] w (Ret (.tuple #[.iface 53 (.agg #[.int .i64 client, .int .i64 code, .string proof]), .bool true]) w) := by
  unfold rqV
  go_enter Try.func16, Try.ntmps16
  go_wp2_with fail
  go_returns
  exact ⟨rfl, by go_grown⟩
theorem reqRedeem (no client code token : Int) (proof : ByteArray) (upTo : Int) (w : World) : Calls Try.prog 18 #[.int .i64 no, .iface 53 (.agg #[.int .i64 client, .int .i64 code, .string proof])] w (Ret (rqV ⟨no, 2, client, code, 0, proof, 0⟩) w) := by
  unfold rqV
  have mIssue := fun w => run_as_miss (t := 53) Try.underlying51 (by decide) (z := .agg #[.int .i64 0, .string ByteArray.empty]) (by kernel_rfl) (.agg #[.int .i64 client, .int .i64 code, .string proof]) 36 w
  have hit := fun w => run_as_hit Try.underlying53 (.agg #[.int .i64 client, .int .i64 code, .string proof]) 36 w
  go_enter Try.func18, Try.ntmps18
  go_wp2_with fail
  go_returns
  exact ⟨rfl, by go_grown⟩
theorem ofRefresh (no client code token : Int) (proof : ByteArray) (upTo : Int) (w : World) : Calls Try.prog 16 #[rqV ⟨no, 3, client, code, token, proof, upTo⟩] w (Ret (.tuple #[.iface 57 (.agg #[.int .i64 client, .int .i64 token]), .bool true]) w) := by
  unfold rqV
  go_enter Try.func16, Try.ntmps16
  go_wp2_with fail
  go_returns
  exact ⟨rfl, by go_grown⟩
theorem reqRefresh (no client code token : Int) (proof : ByteArray) (upTo : Int) (w : World) : Calls Try.prog 18 #[.int .i64 no, .iface 57 (.agg #[.int .i64 client, .int .i64 token])] w (Ret (rqV ⟨no, 3, client, 0, token, ⟨#[]⟩, 0⟩) w) := by
  unfold rqV
  have mIssue := fun w => run_as_miss (t := 57) Try.underlying51 (by decide) (z := .agg #[.int .i64 0, .string ByteArray.empty]) (by kernel_rfl) (.agg #[.int .i64 client, .int .i64 token]) 36 w
  have mRedeem := fun w => run_as_miss (t := 57) Try.underlying53 (by decide) (z := .agg #[.int .i64 0, .int .i64 0, .string ByteArray.empty]) (by kernel_rfl) (.agg #[.int .i64 client, .int .i64 token]) 36 w
  have hit := fun w => run_as_hit Try.underlying57 (.agg #[.int .i64 client, .int .i64 token]) 36 w
  go_enter Try.func18, Try.ntmps18
  go_wp2_with fail
  go_returns
  exact ⟨rfl, by go_grown⟩
theorem ofRevoke (no client code token : Int) (proof : ByteArray) (upTo : Int) (w : World) : Calls Try.prog 16 #[rqV ⟨no, 4, client, code, token, proof, upTo⟩] w (Ret (.tuple #[.iface 58 (.agg #[.int .i64 client, .int .i64 token]), .bool true]) w) := by
  unfold rqV
  go_enter Try.func16, Try.ntmps16
  go_wp2_with fail
  go_returns
  exact ⟨rfl, by go_grown⟩
theorem reqRevoke (no client code token : Int) (proof : ByteArray) (upTo : Int) (w : World) : Calls Try.prog 18 #[.int .i64 no, .iface 58 (.agg #[.int .i64 client, .int .i64 token])] w (Ret (rqV ⟨no, 4, client, 0, token, ⟨#[]⟩, 0⟩) w) := by
  unfold rqV
  have mIssue := fun w => run_as_miss (t := 58) Try.underlying51 (by decide) (z := .agg #[.int .i64 0, .string ByteArray.empty]) (by kernel_rfl) (.agg #[.int .i64 client, .int .i64 token]) 36 w
  have mRedeem := fun w => run_as_miss (t := 58) Try.underlying53 (by decide) (z := .agg #[.int .i64 0, .int .i64 0, .string ByteArray.empty]) (by kernel_rfl) (.agg #[.int .i64 client, .int .i64 token]) 36 w
  have mRefresh := fun w => run_as_miss (t := 58) Try.underlying57 (by decide) (z := .agg #[.int .i64 0, .int .i64 0]) (by kernel_rfl) (.agg #[.int .i64 client, .int .i64 token]) 36 w
  have hit := fun w => run_as_hit Try.underlying58 (.agg #[.int .i64 client, .int .i64 token]) 36 w
  go_enter Try.func18, Try.ntmps18
  go_wp2_with fail
  go_returns
  exact ⟨rfl, by go_grown⟩
theorem ofAsk (no client code token : Int) (proof : ByteArray) (upTo : Int) (w : World) : Calls Try.prog 16 #[rqV ⟨no, 5, client, code, token, proof, upTo⟩] w (Ret (.tuple #[.iface 59 (.agg #[.int .i64 client, .int .i64 token]), .bool true]) w) := by
  unfold rqV
  go_enter Try.func16, Try.ntmps16
  go_wp2_with fail
  go_returns
  exact ⟨rfl, by go_grown⟩
theorem reqAsk (no client code token : Int) (proof : ByteArray) (upTo : Int) (w : World) : Calls Try.prog 18 #[.int .i64 no, .iface 59 (.agg #[.int .i64 client, .int .i64 token])] w (Ret (rqV ⟨no, 5, client, 0, token, ⟨#[]⟩, 0⟩) w) := by
  unfold rqV
  have mIssue := fun w => run_as_miss (t := 59) Try.underlying51 (by decide) (z := .agg #[.int .i64 0, .string ByteArray.empty]) (by kernel_rfl) (.agg #[.int .i64 client, .int .i64 token]) 36 w
  have mRedeem := fun w => run_as_miss (t := 59) Try.underlying53 (by decide) (z := .agg #[.int .i64 0, .int .i64 0, .string ByteArray.empty]) (by kernel_rfl) (.agg #[.int .i64 client, .int .i64 token]) 36 w
  have mRefresh := fun w => run_as_miss (t := 59) Try.underlying57 (by decide) (z := .agg #[.int .i64 0, .int .i64 0]) (by kernel_rfl) (.agg #[.int .i64 client, .int .i64 token]) 36 w
  have mRevoke := fun w => run_as_miss (t := 59) Try.underlying58 (by decide) (z := .agg #[.int .i64 0, .int .i64 0]) (by kernel_rfl) (.agg #[.int .i64 client, .int .i64 token]) 36 w
  have hit := fun w => run_as_hit Try.underlying59 (.agg #[.int .i64 client, .int .i64 token]) 36 w
  go_enter Try.func18, Try.ntmps18
  go_wp2_with fail
  go_returns
  exact ⟨rfl, by go_grown⟩
theorem ofTick (no client code token : Int) (proof : ByteArray) (upTo : Int) (w : World) : Calls Try.prog 16 #[rqV ⟨no, 6, client, code, token, proof, upTo⟩] w (Ret (.tuple #[.iface 61 (.agg #[.int .i64 upTo]), .bool true]) w) := by
  unfold rqV
  go_enter Try.func16, Try.ntmps16
  go_wp2_with fail
  go_returns
  exact ⟨rfl, by go_grown⟩
theorem reqTick (no client code token : Int) (proof : ByteArray) (upTo : Int) (w : World) : Calls Try.prog 18 #[.int .i64 no, .iface 61 (.agg #[.int .i64 upTo])] w (Ret (rqV ⟨no, 6, 0, 0, 0, ⟨#[]⟩, upTo⟩) w) := by
  unfold rqV
  have mIssue := fun w => run_as_miss (t := 61) Try.underlying51 (by decide) (z := .agg #[.int .i64 0, .string ByteArray.empty]) (by kernel_rfl) (.agg #[.int .i64 upTo]) 36 w
  have mRedeem := fun w => run_as_miss (t := 61) Try.underlying53 (by decide) (z := .agg #[.int .i64 0, .int .i64 0, .string ByteArray.empty]) (by kernel_rfl) (.agg #[.int .i64 upTo]) 36 w
  have mRefresh := fun w => run_as_miss (t := 61) Try.underlying57 (by decide) (z := .agg #[.int .i64 0, .int .i64 0]) (by kernel_rfl) (.agg #[.int .i64 upTo]) 36 w
  have mRevoke := fun w => run_as_miss (t := 61) Try.underlying58 (by decide) (z := .agg #[.int .i64 0, .int .i64 0]) (by kernel_rfl) (.agg #[.int .i64 upTo]) 36 w
  have mAsk := fun w => run_as_miss (t := 61) Try.underlying59 (by decide) (z := .agg #[.int .i64 0, .int .i64 0]) (by kernel_rfl) (.agg #[.int .i64 upTo]) 36 w
  have hit := fun w => run_as_hit Try.underlying61 (.agg #[.int .i64 upTo]) 36 w
  go_enter Try.func18, Try.ntmps18
  go_wp2_with fail
  go_returns
  exact ⟨rfl, by go_grown⟩
theorem ofNone (no kind client code token : Int) (proof : ByteArray) (upTo : Int) (w : World) (h1 : (kind == 1) = false) (h2 : (kind == 2) = false) (h3 : (kind == 3) = false) (h4 : (kind == 4) = false) (h5 : (kind == 5) = false) (h6 : (kind == 6) = false) :
    Calls Try.prog 16 #[rqV ⟨no, kind, client, code, token, proof, upTo⟩] w (Ret (.tuple #[.nilIface, .bool false]) w) := by
  unfold rqV
  go_enter Try.func16, Try.ntmps16
  go_wp2_with fail
  go_returns
  exact ⟨rfl, by go_grown⟩
end Go.Proofs.Ytmhjihdefagkmaa
