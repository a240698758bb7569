/- What is asked: what a kind names, the program's side. -/
import Derived.Test.YtgkdajlkajmdiaaImp1
import Derived.Test.YtgkdajlkajmdiaaAssert
namespace Go.Proofs.Ytgkdajlkajmdiaa
open Go Go.RowKit Go.Lib
set_option linter.unusedVariables false

theorem redeemIn (c d : Int) (p : ByteArray) (w : World) (hp : p.size ≤ maxLen) : Calls Try.prog 150 #[.agg #[.int .i64 c, .int .i64 d, .string p]] w (Ret (.bool (isB c 1 3 && isB d 1 99 && proofB p)) w) := by
  cases b0 : isB c 1 3 with
  | false =>
    go_enter Try.func150, Try.ntmps150
    go_wp2_with (first | (go_at_call 93; refine (upto_at (by assumption)).mono ?_; rintro e w' ⟨rfl, rfl⟩))
    go_ret
    exact ⟨rfl, by go_grown⟩
  | true =>
    cases b1 : isB d 1 99 with
    | false =>
      go_enter Try.func150, Try.ntmps150
      go_wp2_with (first | (go_at_call 93; refine (upto_at (by assumption)).mono ?_; rintro e w' ⟨rfl, rfl⟩))
      go_ret
      exact ⟨rfl, by go_grown⟩
    | true =>
      cases b2 : proofB p with
      | false =>
        go_enter Try.func150, Try.ntmps150
        go_wp2_with (first | (go_at_call 93; refine (upto_at (by assumption)).mono ?_; rintro e w' ⟨rfl, rfl⟩) | (go_at_call 97; refine (proofI_at (by assumption) hp).mono ?_; rintro e w' ⟨rfl, rfl⟩))
        go_ret
        exact ⟨rfl, by go_grown⟩
      | true =>
        go_enter Try.func150, Try.ntmps150
        go_wp2_with (first | (go_at_call 93; refine (upto_at (by assumption)).mono ?_; rintro e w' ⟨rfl, rfl⟩) | (go_at_call 97; refine (proofI_at (by assumption) hp).mono ?_; rintro e w' ⟨rfl, rfl⟩))
        go_ret
        exact ⟨rfl, by go_grown⟩
theorem keyIn (c t : Int) (w : World) : Calls Try.prog 153 #[.agg #[.int .i64 c, .int .i64 t]] w (Ret (.bool (isB c 1 3 && isB t 1 999)) w) := by
  cases b0 : isB c 1 3 with
  | false =>
    go_enter Try.func153, Try.ntmps153
    go_wp2_with (first | (go_at_call 93; refine (upto_at (by assumption)).mono ?_; rintro e w' ⟨rfl, rfl⟩))
    go_ret
    exact ⟨rfl, by go_grown⟩
  | true =>
    cases b1 : isB t 1 999 with
    | false =>
      go_enter Try.func153, Try.ntmps153
      go_wp2_with (first | (go_at_call 93; refine (upto_at (by assumption)).mono ?_; rintro e w' ⟨rfl, rfl⟩))
      go_ret
      exact ⟨rfl, by go_grown⟩
    | true =>
      go_enter Try.func153, Try.ntmps153
      go_wp2_with (first | (go_at_call 93; refine (upto_at (by assumption)).mono ?_; rintro e w' ⟨rfl, rfl⟩))
      go_ret
      exact ⟨rfl, by go_grown⟩
theorem tickIn (b : Int) (w : World) : Calls Try.prog 158 #[.agg #[.int .i64 b]] w (Ret (.bool (isB b 1 1000)) w) := by
  cases b0 : isB b 1 1000 with
  | false =>
    go_enter Try.func158, Try.ntmps158
    go_wp2_with (first | (go_at_call 93; refine (upto_at (by assumption)).mono ?_; rintro e w' ⟨rfl, rfl⟩))
    go_ret
    exact ⟨rfl, by go_grown⟩
  | true =>
    go_enter Try.func158, Try.ntmps158
    go_wp2_with (first | (go_at_call 93; refine (upto_at (by assumption)).mono ?_; rintro e w' ⟨rfl, rfl⟩))
    go_ret
    exact ⟨rfl, by go_grown⟩
theorem ofIssue (no client code token : Int) (proof : ByteArray) (upTo : Int) (w : World) : Calls Try.prog 92 #[rqV ⟨no, 1, client, code, token, proof, upTo⟩] w (Ret (.tuple #[.iface 183 (.agg #[.int .i64 client, .string proof]), .bool true]) w) := by
  unfold rqV
  go_enter Try.func92, Try.ntmps92
  go_wp2_with fail
  go_returns
  exact ⟨rfl, by go_grown⟩
theorem reqIssue (no client code token : Int) (proof : ByteArray) (upTo : Int) (w : World) : Calls Try.prog 94 #[.int .i64 no, .iface 183 (.agg #[.int .i64 client, .string proof])] w (Ret (rqV ⟨no, 1, client, 0, 0, proof, 0⟩) w) := by
  unfold rqV
  have hit := fun w => run_as_hit Try.underlying183 (.agg #[.int .i64 client, .string proof]) 163 w
  go_enter Try.func94, Try.ntmps94
  go_wp2_with fail
  go_returns
  exact ⟨rfl, by go_grown⟩
theorem ofRedeem (no client code token : Int) (proof : ByteArray) (upTo : Int) (w : World) : Calls Try.prog 92 #[rqV ⟨no, 2, client, code, token, proof, upTo⟩] w (Ret (.tuple #[.iface 185 (.agg #[.int .i64 client, .int .i64 code, .string proof]), .bool true]) w) := by
  unfold rqV
  go_enter Try.func92, Try.ntmps92
  go_wp2_with fail
  go_returns
  exact ⟨rfl, by go_grown⟩
theorem reqRedeem (no client code token : Int) (proof : ByteArray) (upTo : Int) (w : World) : Calls Try.prog 94 #[.int .i64 no, .iface 185 (.agg #[.int .i64 client, .int .i64 code, .string proof])] w (Ret (rqV ⟨no, 2, client, code, 0, proof, 0⟩) w) := by
  unfold rqV
  have mIssue := fun w => run_as_miss (t := 185) Try.underlying183 (by decide) (z := .agg #[.int .i64 0, .string ByteArray.empty]) (by kernel_rfl) (.agg #[.int .i64 client, .int .i64 code, .string proof]) 163 w
  have hit := fun w => run_as_hit Try.underlying185 (.agg #[.int .i64 client, .int .i64 code, .string proof]) 163 w
  go_enter Try.func94, Try.ntmps94
  go_wp2_with fail
  go_returns
  exact ⟨rfl, by go_grown⟩
theorem ofRefresh (no client code token : Int) (proof : ByteArray) (upTo : Int) (w : World) : Calls Try.prog 92 #[rqV ⟨no, 3, client, code, token, proof, upTo⟩] w (Ret (.tuple #[.iface 189 (.agg #[.int .i64 client, .int .i64 token]), .bool true]) w) := by
  unfold rqV
  go_enter Try.func92, Try.ntmps92
  go_wp2_with fail
  go_returns
  exact ⟨rfl, by go_grown⟩
theorem reqRefresh (no client code token : Int) (proof : ByteArray) (upTo : Int) (w : World) : Calls Try.prog 94 #[.int .i64 no, .iface 189 (.agg #[.int .i64 client, .int .i64 token])] w (Ret (rqV ⟨no, 3, client, 0, token, ⟨#[]⟩, 0⟩) w) := by
  unfold rqV
  have mIssue := fun w => run_as_miss (t := 189) Try.underlying183 (by decide) (z := .agg #[.int .i64 0, .string ByteArray.empty]) (by kernel_rfl) (.agg #[.int .i64 client, .int .i64 token]) 163 w
  have mRedeem := fun w => run_as_miss (t := 189) Try.underlying185 (by decide) (z := .agg #[.int .i64 0, .int .i64 0, .string ByteArray.empty]) (by kernel_rfl) (.agg #[.int .i64 client, .int .i64 token]) 163 w
  have hit := fun w => run_as_hit Try.underlying189 (.agg #[.int .i64 client, .int .i64 token]) 163 w
  go_enter Try.func94, Try.ntmps94
  go_wp2_with fail
  go_returns
  exact ⟨rfl, by go_grown⟩
theorem ofRevoke (no client code token : Int) (proof : ByteArray) (upTo : Int) (w : World) : Calls Try.prog 92 #[rqV ⟨no, 4, client, code, token, proof, upTo⟩] w (Ret (.tuple #[.iface 190 (.agg #[.int .i64 client, .int .i64 token]), .bool true]) w) := by
  unfold rqV
  go_enter Try.func92, Try.ntmps92
  go_wp2_with fail
  go_returns
  exact ⟨rfl, by go_grown⟩
theorem reqRevoke (no client code token : Int) (proof : ByteArray) (upTo : Int) (w : World) : Calls Try.prog 94 #[.int .i64 no, .iface 190 (.agg #[.int .i64 client, .int .i64 token])] w (Ret (rqV ⟨no, 4, client, 0, token, ⟨#[]⟩, 0⟩) w) := by
  unfold rqV
  have mIssue := fun w => run_as_miss (t := 190) Try.underlying183 (by decide) (z := .agg #[.int .i64 0, .string ByteArray.empty]) (by kernel_rfl) (.agg #[.int .i64 client, .int .i64 token]) 163 w
  have mRedeem := fun w => run_as_miss (t := 190) Try.underlying185 (by decide) (z := .agg #[.int .i64 0, .int .i64 0, .string ByteArray.empty]) (by kernel_rfl) (.agg #[.int .i64 client, .int .i64 token]) 163 w
  have mRefresh := fun w => run_as_miss (t := 190) Try.underlying189 (by decide) (z := .agg #[.int .i64 0, .int .i64 0]) (by kernel_rfl) (.agg #[.int .i64 client, .int .i64 token]) 163 w
  have hit := fun w => run_as_hit Try.underlying190 (.agg #[.int .i64 client, .int .i64 token]) 163 w
  go_enter Try.func94, Try.ntmps94
  go_wp2_with fail
  go_returns
  exact ⟨rfl, by go_grown⟩
theorem ofAsk (no client code token : Int) (proof : ByteArray) (upTo : Int) (w : World) : Calls Try.prog 92 #[rqV ⟨no, 5, client, code, token, proof, upTo⟩] w (Ret (.tuple #[.iface 191 (.agg #[.int .i64 client, .int .i64 token]), .bool true]) w) := by
  unfold rqV
  go_enter Try.func92, Try.ntmps92
  go_wp2_with fail
  go_returns
  exact ⟨rfl, by go_grown⟩
theorem reqAsk (no client code token : Int) (proof : ByteArray) (upTo : Int) (w : World) : Calls Try.prog 94 #[.int .i64 no, .iface 191 (.agg #[.int .i64 client, .int .i64 token])] w (Ret (rqV ⟨no, 5, client, 0, token, ⟨#[]⟩, 0⟩) w) := by
  unfold rqV
  have mIssue := fun w => run_as_miss (t := 191) Try.underlying183 (by decide) (z := .agg #[.int .i64 0, .string ByteArray.empty]) (by kernel_rfl) (.agg #[.int .i64 client, .int .i64 token]) 163 w
  have mRedeem := fun w => run_as_miss (t := 191) Try.underlying185 (by decide) (z := .agg #[.int .i64 0, .int .i64 0, .string ByteArray.empty]) (by kernel_rfl) (.agg #[.int .i64 client, .int .i64 token]) 163 w
  have mRefresh := fun w => run_as_miss (t := 191) Try.underlying189 (by decide) (z := .agg #[.int .i64 0, .int .i64 0]) (by kernel_rfl) (.agg #[.int .i64 client, .int .i64 token]) 163 w
  have mRevoke := fun w => run_as_miss (t := 191) Try.underlying190 (by decide) (z := .agg #[.int .i64 0, .int .i64 0]) (by kernel_rfl) (.agg #[.int .i64 client, .int .i64 token]) 163 w
  have hit := fun w => run_as_hit Try.underlying191 (.agg #[.int .i64 client, .int .i64 token]) 163 w
  go_enter Try.func94, Try.ntmps94
  go_wp2_with fail
  go_returns
  exact ⟨rfl, by go_grown⟩
theorem ofTick (no client code token : Int) (proof : ByteArray) (upTo : Int) (w : World) : Calls Try.prog 92 #[rqV ⟨no, 6, client, code, token, proof, upTo⟩] w (Ret (.tuple #[.iface 193 (.agg #[.int .i64 upTo]), .bool true]) w) := by
  unfold rqV
  go_enter Try.func92, Try.ntmps92
  go_wp2_with fail
  go_returns
  exact ⟨rfl, by go_grown⟩
theorem reqTick (no client code token : Int) (proof : ByteArray) (upTo : Int) (w : World) : Calls Try.prog 94 #[.int .i64 no, .iface 193 (.agg #[.int .i64 upTo])] w (Ret (rqV ⟨no, 6, 0, 0, 0, ⟨#[]⟩, upTo⟩) w) := by
  unfold rqV
  have mIssue := fun w => run_as_miss (t := 193) Try.underlying183 (by decide) (z := .agg #[.int .i64 0, .string ByteArray.empty]) (by kernel_rfl) (.agg #[.int .i64 upTo]) 163 w
  have mRedeem := fun w => run_as_miss (t := 193) Try.underlying185 (by decide) (z := .agg #[.int .i64 0, .int .i64 0, .string ByteArray.empty]) (by kernel_rfl) (.agg #[.int .i64 upTo]) 163 w
  have mRefresh := fun w => run_as_miss (t := 193) Try.underlying189 (by decide) (z := .agg #[.int .i64 0, .int .i64 0]) (by kernel_rfl) (.agg #[.int .i64 upTo]) 163 w
  have mRevoke := fun w => run_as_miss (t := 193) Try.underlying190 (by decide) (z := .agg #[.int .i64 0, .int .i64 0]) (by kernel_rfl) (.agg #[.int .i64 upTo]) 163 w
  have mAsk := fun w => run_as_miss (t := 193) Try.underlying191 (by decide) (z := .agg #[.int .i64 0, .int .i64 0]) (by kernel_rfl) (.agg #[.int .i64 upTo]) 163 w
  have hit := fun w => run_as_hit Try.underlying193 (.agg #[.int .i64 upTo]) 163 w
  go_enter Try.func94, Try.ntmps94
  go_wp2_with fail
  go_returns
  exact ⟨rfl, by go_grown⟩
theorem ofNone (no kind client code token : Int) (proof : ByteArray) (upTo : Int) (w : World) (h1 : (kind == 1) = false) (h2 : (kind == 2) = false) (h3 : (kind == 3) = false) (h4 : (kind == 4) = false) (h5 : (kind == 5) = false) (h6 : (kind == 6) = false) :
    Calls Try.prog 92 #[rqV ⟨no, kind, client, code, token, proof, upTo⟩] w (Ret (.tuple #[.nilIface, .bool false]) w) := by
  unfold rqV
  go_enter Try.func92, Try.ntmps92
  go_wp2_with fail
  go_returns
  exact ⟨rfl, by go_grown⟩
end Go.Proofs.Ytgkdajlkajmdiaa
