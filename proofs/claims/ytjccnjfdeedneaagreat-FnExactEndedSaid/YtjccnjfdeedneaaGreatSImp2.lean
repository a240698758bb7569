/- What is asked: what a kind names, the program's side. -/
import Derived.Test.YtjccnjfdeedneaaGreatSImp1
import Derived.Test.YtjccnjfdeedneaaGreatSAssert
namespace Go.Proofs.YtjccnjfdeedneaaGreat
open Go Go.RowKit Go.Lib
set_option linter.unusedVariables false

theorem redeemIn (c d : Int) (p : ByteArray) (w : World) (hp : p.size ≤ maxLen) : Calls Tryz.prog 264 #[.agg #[.int .i64 c, .int .i64 d, .string p]] w (Ret (.bool (isB c 1 3 && isB d 1 99 && proofB p)) w) := by
 cases b0 : isB c 1 3 with
 | false =>
  go_enter Tryz.func264, Tryz.ntmps264
  go_wp2_with (first | (go_at_call 128; refine (upto_at (by assumption)).mono ?_; rintro e w' ⟨rfl, rfl⟩))
  go_ret
  exact ⟨rfl, by go_grown⟩
 | true =>
  cases b1 : isB d 1 99 with
  | false =>
   go_enter Tryz.func264, Tryz.ntmps264
   go_wp2_with (first | (go_at_call 128; refine (upto_at (by assumption)).mono ?_; rintro e w' ⟨rfl, rfl⟩))
   go_ret
   exact ⟨rfl, by go_grown⟩
  | true =>
   cases b2 : proofB p with
   | false =>
    go_enter Tryz.func264, Tryz.ntmps264
    go_wp2_with (first | (go_at_call 128; refine (upto_at (by assumption)).mono ?_; rintro e w' ⟨rfl, rfl⟩) | (go_at_call 162; refine (proofI_at (by assumption) hp).mono ?_; rintro e w' ⟨rfl, rfl⟩))
    go_ret
    exact ⟨rfl, by go_grown⟩
   | true =>
    go_enter Tryz.func264, Tryz.ntmps264
    go_wp2_with (first | (go_at_call 128; refine (upto_at (by assumption)).mono ?_; rintro e w' ⟨rfl, rfl⟩) | (go_at_call 162; refine (proofI_at (by assumption) hp).mono ?_; rintro e w' ⟨rfl, rfl⟩))
    go_ret
    exact ⟨rfl, by go_grown⟩
theorem keyIn (c t : Int) (w : World) : Calls Tryz.prog 267 #[.agg #[.int .i64 c, .int .i64 t]] w (Ret (.bool (isB c 1 3 && isB t 1 999)) w) := by
 cases b0 : isB c 1 3 with
 | false =>
  go_enter Tryz.func267, Tryz.ntmps267
  go_wp2_with (first | (go_at_call 128; refine (upto_at (by assumption)).mono ?_; rintro e w' ⟨rfl, rfl⟩))
  go_ret
  exact ⟨rfl, by go_grown⟩
 | true =>
  cases b1 : isB t 1 999 with
  | false =>
   go_enter Tryz.func267, Tryz.ntmps267
   go_wp2_with (first | (go_at_call 128; refine (upto_at (by assumption)).mono ?_; rintro e w' ⟨rfl, rfl⟩))
   go_ret
   exact ⟨rfl, by go_grown⟩
  | true =>
   go_enter Tryz.func267, Tryz.ntmps267
   go_wp2_with (first | (go_at_call 128; refine (upto_at (by assumption)).mono ?_; rintro e w' ⟨rfl, rfl⟩))
   go_ret
   exact ⟨rfl, by go_grown⟩
theorem tickIn (b : Int) (w : World) : Calls Tryz.prog 272 #[.agg #[.int .i64 b]] w (Ret (.bool (isB b 1 1000)) w) := by
 cases b0 : isB b 1 1000 with
 | false =>
  go_enter Tryz.func272, Tryz.ntmps272
  go_wp2_with (first | (go_at_call 128; refine (upto_at (by assumption)).mono ?_; rintro e w' ⟨rfl, rfl⟩))
  go_ret
  exact ⟨rfl, by go_grown⟩
 | true =>
  go_enter Tryz.func272, Tryz.ntmps272
  go_wp2_with (first | (go_at_call 128; refine (upto_at (by assumption)).mono ?_; rintro e w' ⟨rfl, rfl⟩))
  go_ret
  exact ⟨rfl, by go_grown⟩
theorem ofIssue (no client code token : Int) (proof : ByteArray) (upTo : Int) (w : World) : Calls Tryz.prog 189 #[rqV ⟨no, 1, client, code, token, proof, upTo⟩] w (Ret (.tuple #[.iface 287 (.agg #[.int .i64 client, .string proof]), .bool true]) w) := by
 unfold rqV
 go_enter Tryz.func189, Tryz.ntmps189
 go_wp2_with fail
 go_returns
 exact ⟨rfl, by go_grown⟩
theorem reqIssue (no client code token : Int) (proof : ByteArray) (upTo : Int) (w : World) : Calls Tryz.prog 190 #[.int .i64 no, .iface 287 (.agg #[.int .i64 client, .string proof])] w (Ret (rqV ⟨no, 1, client, 0, 0, proof, 0⟩) w) := by
 unfold rqV
 have hit := fun w => run_as_hit Tryz.underlying287 (.agg #[.int .i64 client, .string proof]) 266 w
 go_enter Tryz.func190, Tryz.ntmps190
 go_wp2_with fail
 go_returns
 exact ⟨rfl, by go_grown⟩
theorem ofRedeem (no client code token : Int) (proof : ByteArray) (upTo : Int) (w : World) : Calls Tryz.prog 189 #[rqV ⟨no, 2, client, code, token, proof, upTo⟩] w (Ret (.tuple #[.iface 289 (.agg #[.int .i64 client, .int .i64 code, .string proof]), .bool true]) w) := by
 unfold rqV
 go_enter Tryz.func189, Tryz.ntmps189
 go_wp2_with fail
 go_returns
 exact ⟨rfl, by go_grown⟩
theorem reqRedeem (no client code token : Int) (proof : ByteArray) (upTo : Int) (w : World) : Calls Tryz.prog 190 #[.int .i64 no, .iface 289 (.agg #[.int .i64 client, .int .i64 code, .string proof])] w (Ret (rqV ⟨no, 2, client, code, 0, proof, 0⟩) w) := by
 unfold rqV
 have mIssue := fun w => run_as_miss (t := 289) Tryz.underlying287 (by decide) (z := .agg #[.int .i64 0, .string ByteArray.empty]) (by kernel_rfl) (.agg #[.int .i64 client, .int .i64 code, .string proof]) 266 w
 have hit := fun w => run_as_hit Tryz.underlying289 (.agg #[.int .i64 client, .int .i64 code, .string proof]) 266 w
 go_enter Tryz.func190, Tryz.ntmps190
 go_wp2_with fail
 go_returns
 exact ⟨rfl, by go_grown⟩
theorem ofRefresh (no client code token : Int) (proof : ByteArray) (upTo : Int) (w : World) : Calls Tryz.prog 189 #[rqV ⟨no, 3, client, code, token, proof, upTo⟩] w (Ret (.tuple #[.iface 293 (.agg #[.int .i64 client, .int .i64 token]), .bool true]) w) := by
 unfold rqV
 go_enter Tryz.func189, Tryz.ntmps189
 go_wp2_with fail
 go_returns
 exact ⟨rfl, by go_grown⟩
theorem reqRefresh (no client code token : Int) (proof : ByteArray) (upTo : Int) (w : World) : Calls Tryz.prog 190 #[.int .i64 no, .iface 293 (.agg #[.int .i64 client, .int .i64 token])] w (Ret (rqV ⟨no, 3, client, 0, token, ⟨#[]⟩, 0⟩) w) := by
 unfold rqV
 have mIssue := fun w => run_as_miss (t := 293) Tryz.underlying287 (by decide) (z := .agg #[.int .i64 0, .string ByteArray.empty]) (by kernel_rfl) (.agg #[.int .i64 client, .int .i64 token]) 266 w
 have mRedeem := fun w => run_as_miss (t := 293) Tryz.underlying289 (by decide) (z := .agg #[.int .i64 0, .int .i64 0, .string ByteArray.empty]) (by kernel_rfl) (.agg #[.int .i64 client, .int .i64 token]) 266 w
 have hit := fun w => run_as_hit Tryz.underlying293 (.agg #[.int .i64 client, .int .i64 token]) 266 w
 go_enter Tryz.func190, Tryz.ntmps190
 go_wp2_with fail
 go_returns
 exact ⟨rfl, by go_grown⟩
theorem ofRevoke (no client code token : Int) (proof : ByteArray) (upTo : Int) (w : World) : Calls Tryz.prog 189 #[rqV ⟨no, 4, client, code, token, proof, upTo⟩] w (Ret (.tuple #[.iface 294 (.agg #[.int .i64 client, .int .i64 token]), .bool true]) w) := by
 unfold rqV
 go_enter Tryz.func189, Tryz.ntmps189
 go_wp2_with fail
 go_returns
 exact ⟨rfl, by go_grown⟩
theorem reqRevoke (no client code token : Int) (proof : ByteArray) (upTo : Int) (w : World) : Calls Tryz.prog 190 #[.int .i64 no, .iface 294 (.agg #[.int .i64 client, .int .i64 token])] w (Ret (rqV ⟨no, 4, client, 0, token, ⟨#[]⟩, 0⟩) w) := by
 unfold rqV
 have mIssue := fun w => run_as_miss (t := 294) Tryz.underlying287 (by decide) (z := .agg #[.int .i64 0, .string ByteArray.empty]) (by kernel_rfl) (.agg #[.int .i64 client, .int .i64 token]) 266 w
 have mRedeem := fun w => run_as_miss (t := 294) Tryz.underlying289 (by decide) (z := .agg #[.int .i64 0, .int .i64 0, .string ByteArray.empty]) (by kernel_rfl) (.agg #[.int .i64 client, .int .i64 token]) 266 w
 have mRefresh := fun w => run_as_miss (t := 294) Tryz.underlying293 (by decide) (z := .agg #[.int .i64 0, .int .i64 0]) (by kernel_rfl) (.agg #[.int .i64 client, .int .i64 token]) 266 w
 have hit := fun w => run_as_hit Tryz.underlying294 (.agg #[.int .i64 client, .int .i64 token]) 266 w
 go_enter Tryz.func190, Tryz.ntmps190
 go_wp2_with fail
 go_returns
 exact ⟨rfl, by go_grown⟩
theorem ofAsk (no client code token : Int) (proof : ByteArray) (upTo : Int) (w : World) : Calls Tryz.prog 189 #[rqV ⟨no, 5, client, code, token, proof, upTo⟩] w (Ret (.tuple #[.iface 295 (.agg #[.int .i64 client, .int .i64 token]), .bool true]) w) := by
 unfold rqV
 go_enter Tryz.func189, Tryz.ntmps189
 go_wp2_with fail
 go_returns
 exact ⟨rfl, by go_grown⟩
theorem reqAsk (no client code token : Int) (proof : ByteArray) (upTo : Int) (w : World) : Calls Tryz.prog 190 #[.int .i64 no, .iface 295 (.agg #[.int .i64 client, .int .i64 token])] w (Ret (rqV ⟨no, 5, client, 0, token, ⟨#[]⟩, 0⟩) w) := by
 unfold rqV
 have mIssue := fun w => run_as_miss (t := 295) Tryz.underlying287 (by decide) (z := .agg #[.int .i64 0, .string ByteArray.empty]) (by kernel_rfl) (.agg #[.int .i64 client, .int .i64 token]) 266 w
 have mRedeem := fun w => run_as_miss (t := 295) Tryz.underlying289 (by decide) (z := .agg #[.int .i64 0, .int .i64 0, .string ByteArray.empty]) (by kernel_rfl) (.agg #[.int .i64 client, .int .i64 token]) 266 w
 have mRefresh := fun w => run_as_miss (t := 295) Tryz.underlying293 (by decide) (z := .agg #[.int .i64 0, .int .i64 0]) (by kernel_rfl) (.agg #[.int .i64 client, .int .i64 token]) 266 w
 have mRevoke := fun w => run_as_miss (t := 295) Tryz.underlying294 (by decide) (z := .agg #[.int .i64 0, .int .i64 0]) (by kernel_rfl) (.agg #[.int .i64 client, .int .i64 token]) 266 w
 have hit := fun w => run_as_hit Tryz.underlying295 (.agg #[.int .i64 client, .int .i64 token]) 266 w
 go_enter Tryz.func190, Tryz.ntmps190
 go_wp2_with fail
 go_returns
 exact ⟨rfl, by go_grown⟩
theorem ofTick (no client code token : Int) (proof : ByteArray) (upTo : Int) (w : World) : Calls Tryz.prog 189 #[rqV ⟨no, 6, client, code, token, proof, upTo⟩] w (Ret (.tuple #[.iface 297 (.agg #[.int .i64 upTo]), .bool true]) w) := by
 unfold rqV
 go_enter Tryz.func189, Tryz.ntmps189
 go_wp2_with fail
 go_returns
 exact ⟨rfl, by go_grown⟩
theorem reqTick (no client code token : Int) (proof : ByteArray) (upTo : Int) (w : World) : Calls Tryz.prog 190 #[.int .i64 no, .iface 297 (.agg #[.int .i64 upTo])] w (Ret (rqV ⟨no, 6, 0, 0, 0, ⟨#[]⟩, upTo⟩) w) := by
 unfold rqV
 have mIssue := fun w => run_as_miss (t := 297) Tryz.underlying287 (by decide) (z := .agg #[.int .i64 0, .string ByteArray.empty]) (by kernel_rfl) (.agg #[.int .i64 upTo]) 266 w
 have mRedeem := fun w => run_as_miss (t := 297) Tryz.underlying289 (by decide) (z := .agg #[.int .i64 0, .int .i64 0, .string ByteArray.empty]) (by kernel_rfl) (.agg #[.int .i64 upTo]) 266 w
 have mRefresh := fun w => run_as_miss (t := 297) Tryz.underlying293 (by decide) (z := .agg #[.int .i64 0, .int .i64 0]) (by kernel_rfl) (.agg #[.int .i64 upTo]) 266 w
 have mRevoke := fun w => run_as_miss (t := 297) Tryz.underlying294 (by decide) (z := .agg #[.int .i64 0, .int .i64 0]) (by kernel_rfl) (.agg #[.int .i64 upTo]) 266 w
 have mAsk := fun w => run_as_miss (t := 297) Tryz.underlying295 (by decide) (z := .agg #[.int .i64 0, .int .i64 0]) (by kernel_rfl) (.agg #[.int .i64 upTo]) 266 w
 have hit := fun w => run_as_hit Tryz.underlying297 (.agg #[.int .i64 upTo]) 266 w
 go_enter Tryz.func190, Tryz.ntmps190
 go_wp2_with fail
 go_returns
 exact ⟨rfl, by go_grown⟩
theorem ofNone (no kind client code token : Int) (proof : ByteArray) (upTo : Int) (w : World) (h1 : (kind == 1) = false) (h2 : (kind == 2) = false) (h3 : (kind == 3) = false) (h4 : (kind == 4) = false) (h5 : (kind == 5) = false) (h6 : (kind == 6) = false) :
  Calls Tryz.prog 189 #[rqV ⟨no, kind, client, code, token, proof, upTo⟩] w (Ret (.tuple #[.nilIface, .bool false]) w) := by
 unfold rqV
 go_enter Tryz.func189, Tryz.ntmps189
 go_wp2_with fail
 go_returns
 exact ⟨rfl, by go_grown⟩
end Go.Proofs.YtjccnjfdeedneaaGreat
