/- What is asked: the program's letters, ranges, kinds. A type switch over types of structs: what 'x.(T)' gives, over any program. What is asked: what a kind names, the program's side. A region that draws its order, whose calls make memory, one walk in the text's order: a class of worlds in the place of one. Over any program. -/
import Derived.Test.YtchfgdiipjbgoaaGreatFGdC
import Derived.Test.YtchfgdiipjbgoaaGreatFGdA
import Derived.Stop.Asserts
import Derived.KernelRfl
import Derived.BigQuiet
import Derived.Handy
namespace Go.Proofs.YtchfgdiipjbgoaaGreat
open Go Go.RowKit Go.Lib
set_option linter.unusedVariables false

theorem issueIn (c : Int) (p : ByteArray) (w : World) (hp : p.size ≤ maxLen) : Calls Tryz.prog 342 #[.agg #[.int .i64 c, .string p]] w (Ret (.bool (isB c 1 3 && proofB p)) w) := by
 cases b1 : isB c 1 3 with
 | false =>
  go_enter Tryz.func342, Tryz.ntmps342
  go_wp2_with (go_at_call 148; refine (upto_at b1).mono ?_; rintro e w' ⟨rfl, rfl⟩)
  go_ret
  exact ⟨rfl, by go_grown⟩
 | true =>
  cases b2 : proofB p with
  | false =>
   go_enter Tryz.func342, Tryz.ntmps342
   go_wp2_with (first | (go_at_call 148; refine (upto_at b1).mono ?_; rintro e w' ⟨rfl, rfl⟩) | (go_at_call 174; refine (proofI_at b2 hp).mono ?_; rintro e w' ⟨rfl, rfl⟩))
   go_ret
   exact ⟨rfl, by go_grown⟩
  | true =>
   go_enter Tryz.func342, Tryz.ntmps342
   go_wp2_with (first | (go_at_call 148; refine (upto_at b1).mono ?_; rintro e w' ⟨rfl, rfl⟩) | (go_at_call 174; refine (proofI_at b2 hp).mono ?_; rintro e w' ⟨rfl, rfl⟩))
   go_ret
   exact ⟨rfl, by go_grown⟩
end Go.Proofs.YtchfgdiipjbgoaaGreat
/- A type switch over types of structs: what 'x.(T)' gives, over any program. -/
namespace Go.Proofs.YtchfgdiipjbgoaaGreat
open Go

section
variable {P : Program}
theorem run_as_hit {T : TypeId} {fs : Array Field} (hu : P.underlying T = some (.struct fs)) (v : Value) (xT : TypeId) (w : World) :
  (Instr.typeAssert (.iface T v) xT T true).run P w = .ok (.tuple #[v, .bool true]) w := by
 simp [Instr.typeAssert, run_underlying hu]
theorem run_as_miss {t T : TypeId} {fs : Array Field} (hu : P.underlying T = some (.struct fs)) (hne : t ≠ T) {z : Value} (hz : (P.info? T).map (·.zero) = some (some z)) (v : Value) (xT : TypeId) (w : World) :
  (Instr.typeAssert (.iface t v) xT T true).run P w = .ok (.tuple #[z, .bool false]) w := by
 obtain ⟨j, hj, hz'⟩ := Option.map_eq_some_iff.1 hz
 simp [Instr.typeAssert, run_underlying hu, hne, zeroValue, typeInfo, hj, hz']
end
end Go.Proofs.YtchfgdiipjbgoaaGreat
/- What is asked: what a kind names, the program's side. -/
namespace Go.Proofs.YtchfgdiipjbgoaaGreat
open Go Go.RowKit Go.Lib
set_option linter.unusedVariables false

theorem redeemIn (c d : Int) (p : ByteArray) (w : World) (hp : p.size ≤ maxLen) : Calls Tryz.prog 345 #[.agg #[.int .i64 c, .int .i64 d, .string p]] w (Ret (.bool (isB c 1 3 && isB d 1 99 && proofB p)) w) := by
 cases b0 : isB c 1 3 with
 | false =>
  go_enter Tryz.func345, Tryz.ntmps345
  go_wp2_with (first | (go_at_call 148; refine (upto_at (by assumption)).mono ?_; rintro e w' ⟨rfl, rfl⟩))
  go_ret
  exact ⟨rfl, by go_grown⟩
 | true =>
  cases b1 : isB d 1 99 with
  | false =>
   go_enter Tryz.func345, Tryz.ntmps345
   go_wp2_with (first | (go_at_call 148; refine (upto_at (by assumption)).mono ?_; rintro e w' ⟨rfl, rfl⟩))
   go_ret
   exact ⟨rfl, by go_grown⟩
  | true =>
   cases b2 : proofB p with
   | false =>
    go_enter Tryz.func345, Tryz.ntmps345
    go_wp2_with (first | (go_at_call 148; refine (upto_at (by assumption)).mono ?_; rintro e w' ⟨rfl, rfl⟩) | (go_at_call 174; refine (proofI_at (by assumption) hp).mono ?_; rintro e w' ⟨rfl, rfl⟩))
    go_ret
    exact ⟨rfl, by go_grown⟩
   | true =>
    go_enter Tryz.func345, Tryz.ntmps345
    go_wp2_with (first | (go_at_call 148; refine (upto_at (by assumption)).mono ?_; rintro e w' ⟨rfl, rfl⟩) | (go_at_call 174; refine (proofI_at (by assumption) hp).mono ?_; rintro e w' ⟨rfl, rfl⟩))
    go_ret
    exact ⟨rfl, by go_grown⟩
theorem keyIn (c t : Int) (w : World) : Calls Tryz.prog 348 #[.agg #[.int .i64 c, .int .i64 t]] w (Ret (.bool (isB c 1 3 && isB t 1 999)) w) := by
 cases b0 : isB c 1 3 with
 | false =>
  go_enter Tryz.func348, Tryz.ntmps348
  go_wp2_with (first | (go_at_call 148; refine (upto_at (by assumption)).mono ?_; rintro e w' ⟨rfl, rfl⟩))
  go_ret
  exact ⟨rfl, by go_grown⟩
 | true =>
  cases b1 : isB t 1 999 with
  | false =>
   go_enter Tryz.func348, Tryz.ntmps348
   go_wp2_with (first | (go_at_call 148; refine (upto_at (by assumption)).mono ?_; rintro e w' ⟨rfl, rfl⟩))
   go_ret
   exact ⟨rfl, by go_grown⟩
  | true =>
   go_enter Tryz.func348, Tryz.ntmps348
   go_wp2_with (first | (go_at_call 148; refine (upto_at (by assumption)).mono ?_; rintro e w' ⟨rfl, rfl⟩))
   go_ret
   exact ⟨rfl, by go_grown⟩
theorem tickIn (b : Int) (w : World) : Calls Tryz.prog 353 #[.agg #[.int .i64 b]] w (Ret (.bool (isB b 1 1000)) w) := by
 cases b0 : isB b 1 1000 with
 | false =>
  go_enter Tryz.func353, Tryz.ntmps353
  go_wp2_with (first | (go_at_call 148; refine (upto_at (by assumption)).mono ?_; rintro e w' ⟨rfl, rfl⟩))
  go_ret
  exact ⟨rfl, by go_grown⟩
 | true =>
  go_enter Tryz.func353, Tryz.ntmps353
  go_wp2_with (first | (go_at_call 148; refine (upto_at (by assumption)).mono ?_; rintro e w' ⟨rfl, rfl⟩))
  go_ret
  exact ⟨rfl, by go_grown⟩
theorem ofIssue (no client code token : Int) (proof : ByteArray) (upTo : Int) (w : World) : Calls Tryz.prog 147 #[rqV ⟨no, 1, client, code, token, proof, upTo⟩] w (Ret (.tuple #[.iface 269 (.agg #[.int .i64 client, .string proof]), .bool true]) w) := by
 unfold rqV
 go_enter Tryz.func147, Tryz.ntmps147
 go_wp2_with fail
 go_returns
 exact ⟨rfl, by go_grown⟩
theorem reqIssue (no client code token : Int) (proof : ByteArray) (upTo : Int) (w : World) : Calls Tryz.prog 149 #[.int .i64 no, .iface 269 (.agg #[.int .i64 client, .string proof])] w (Ret (rqV ⟨no, 1, client, 0, 0, proof, 0⟩) w) := by
 unfold rqV
 have hit := fun w => run_as_hit Tryz.underlying269 (.agg #[.int .i64 client, .string proof]) 215 w
 go_enter Tryz.func149, Tryz.ntmps149
 go_wp2_with fail
 go_returns
 exact ⟨rfl, by go_grown⟩
theorem ofRedeem (no client code token : Int) (proof : ByteArray) (upTo : Int) (w : World) : Calls Tryz.prog 147 #[rqV ⟨no, 2, client, code, token, proof, upTo⟩] w (Ret (.tuple #[.iface 271 (.agg #[.int .i64 client, .int .i64 code, .string proof]), .bool true]) w) := by
 unfold rqV
 go_enter Tryz.func147, Tryz.ntmps147
 go_wp2_with fail
 go_returns
 exact ⟨rfl, by go_grown⟩
theorem reqRedeem (no client code token : Int) (proof : ByteArray) (upTo : Int) (w : World) : Calls Tryz.prog 149 #[.int .i64 no, .iface 271 (.agg #[.int .i64 client, .int .i64 code, .string proof])] w (Ret (rqV ⟨no, 2, client, code, 0, proof, 0⟩) w) := by
 unfold rqV
 have mIssue := fun w => run_as_miss (t := 271) Tryz.underlying269 (by decide) (z := .agg #[.int .i64 0, .string ByteArray.empty]) (by kernel_rfl) (.agg #[.int .i64 client, .int .i64 code, .string proof]) 215 w
 have hit := fun w => run_as_hit Tryz.underlying271 (.agg #[.int .i64 client, .int .i64 code, .string proof]) 215 w
 go_enter Tryz.func149, Tryz.ntmps149
 go_wp2_with fail
 go_returns
 exact ⟨rfl, by go_grown⟩
theorem ofRefresh (no client code token : Int) (proof : ByteArray) (upTo : Int) (w : World) : Calls Tryz.prog 147 #[rqV ⟨no, 3, client, code, token, proof, upTo⟩] w (Ret (.tuple #[.iface 275 (.agg #[.int .i64 client, .int .i64 token]), .bool true]) w) := by
 unfold rqV
 go_enter Tryz.func147, Tryz.ntmps147
 go_wp2_with fail
 go_returns
 exact ⟨rfl, by go_grown⟩
theorem reqRefresh (no client code token : Int) (proof : ByteArray) (upTo : Int) (w : World) : Calls Tryz.prog 149 #[.int .i64 no, .iface 275 (.agg #[.int .i64 client, .int .i64 token])] w (Ret (rqV ⟨no, 3, client, 0, token, ⟨#[]⟩, 0⟩) w) := by
 unfold rqV
 have mIssue := fun w => run_as_miss (t := 275) Tryz.underlying269 (by decide) (z := .agg #[.int .i64 0, .string ByteArray.empty]) (by kernel_rfl) (.agg #[.int .i64 client, .int .i64 token]) 215 w
 have mRedeem := fun w => run_as_miss (t := 275) Tryz.underlying271 (by decide) (z := .agg #[.int .i64 0, .int .i64 0, .string ByteArray.empty]) (by kernel_rfl) (.agg #[.int .i64 client, .int .i64 token]) 215 w
 have hit := fun w => run_as_hit Tryz.underlying275 (.agg #[.int .i64 client, .int .i64 token]) 215 w
 go_enter Tryz.func149, Tryz.ntmps149
 go_wp2_with fail
 go_returns
 exact ⟨rfl, by go_grown⟩
theorem ofRevoke (no client code token : Int) (proof : ByteArray) (upTo : Int) (w : World) : Calls Tryz.prog 147 #[rqV ⟨no, 4, client, code, token, proof, upTo⟩] w (Ret (.tuple #[.iface 276 (.agg #[.int .i64 client, .int .i64 token]), .bool true]) w) := by
 unfold rqV
 go_enter Tryz.func147, Tryz.ntmps147
 go_wp2_with fail
 go_returns
 exact ⟨rfl, by go_grown⟩
theorem reqRevoke (no client code token : Int) (proof : ByteArray) (upTo : Int) (w : World) : Calls Tryz.prog 149 #[.int .i64 no, .iface 276 (.agg #[.int .i64 client, .int .i64 token])] w (Ret (rqV ⟨no, 4, client, 0, token, ⟨#[]⟩, 0⟩) w) := by
 unfold rqV
 have mIssue := fun w => run_as_miss (t := 276) Tryz.underlying269 (by decide) (z := .agg #[.int .i64 0, .string ByteArray.empty]) (by kernel_rfl) (.agg #[.int .i64 client, .int .i64 token]) 215 w
 have mRedeem := fun w => run_as_miss (t := 276) Tryz.underlying271 (by decide) (z := .agg #[.int .i64 0, .int .i64 0, .string ByteArray.empty]) (by kernel_rfl) (.agg #[.int .i64 client, .int .i64 token]) 215 w
 have mRefresh := fun w => run_as_miss (t := 276) Tryz.underlying275 (by decide) (z := .agg #[.int .i64 0, .int .i64 0]) (by kernel_rfl) (.agg #[.int .i64 client, .int .i64 token]) 215 w
 have hit := fun w => run_as_hit Tryz.underlying276 (.agg #[.int .i64 client, .int .i64 token]) 215 w
 go_enter Tryz.func149, Tryz.ntmps149
 go_wp2_with fail
 go_returns
 exact ⟨rfl, by go_grown⟩
theorem ofAsk (no client code token : Int) (proof : ByteArray) (upTo : Int) (w : World) : Calls Tryz.prog 147 #[rqV ⟨no, 5, client, code, token, proof, upTo⟩] w (Ret (.tuple #[.iface 277 (.agg #[.int .i64 client, .int .i64 token]), .bool true]) w) := by
 unfold rqV
 go_enter Tryz.func147, Tryz.ntmps147
 go_wp2_with fail
 go_returns
 exact ⟨rfl, by go_grown⟩
theorem reqAsk (no client code token : Int) (proof : ByteArray) (upTo : Int) (w : World) : Calls Tryz.prog 149 #[.int .i64 no, .iface 277 (.agg #[.int .i64 client, .int .i64 token])] w (Ret (rqV ⟨no, 5, client, 0, token, ⟨#[]⟩, 0⟩) w) := by
 unfold rqV
 have mIssue := fun w => run_as_miss (t := 277) Tryz.underlying269 (by decide) (z := .agg #[.int .i64 0, .string ByteArray.empty]) (by kernel_rfl) (.agg #[.int .i64 client, .int .i64 token]) 215 w
 have mRedeem := fun w => run_as_miss (t := 277) Tryz.underlying271 (by decide) (z := .agg #[.int .i64 0, .int .i64 0, .string ByteArray.empty]) (by kernel_rfl) (.agg #[.int .i64 client, .int .i64 token]) 215 w
 have mRefresh := fun w => run_as_miss (t := 277) Tryz.underlying275 (by decide) (z := .agg #[.int .i64 0, .int .i64 0]) (by kernel_rfl) (.agg #[.int .i64 client, .int .i64 token]) 215 w
 have mRevoke := fun w => run_as_miss (t := 277) Tryz.underlying276 (by decide) (z := .agg #[.int .i64 0, .int .i64 0]) (by kernel_rfl) (.agg #[.int .i64 client, .int .i64 token]) 215 w
 have hit := fun w => run_as_hit Tryz.underlying277 (.agg #[.int .i64 client, .int .i64 token]) 215 w
 go_enter Tryz.func149, Tryz.ntmps149
 go_wp2_with fail
 go_returns
 exact ⟨rfl, by go_grown⟩
theorem ofTick (no client code token : Int) (proof : ByteArray) (upTo : Int) (w : World) : Calls Tryz.prog 147 #[rqV ⟨no, 6, client, code, token, proof, upTo⟩] w (Ret (.tuple #[.iface 279 (.agg #[.int .i64 upTo]), .bool true]) w) := by
 unfold rqV
 go_enter Tryz.func147, Tryz.ntmps147
 go_wp2_with fail
 go_returns
 exact ⟨rfl, by go_grown⟩
theorem reqTick (no client code token : Int) (proof : ByteArray) (upTo : Int) (w : World) : Calls Tryz.prog 149 #[.int .i64 no, .iface 279 (.agg #[.int .i64 upTo])] w (Ret (rqV ⟨no, 6, 0, 0, 0, ⟨#[]⟩, upTo⟩) w) := by
 unfold rqV
 have mIssue := fun w => run_as_miss (t := 279) Tryz.underlying269 (by decide) (z := .agg #[.int .i64 0, .string ByteArray.empty]) (by kernel_rfl) (.agg #[.int .i64 upTo]) 215 w
 have mRedeem := fun w => run_as_miss (t := 279) Tryz.underlying271 (by decide) (z := .agg #[.int .i64 0, .int .i64 0, .string ByteArray.empty]) (by kernel_rfl) (.agg #[.int .i64 upTo]) 215 w
 have mRefresh := fun w => run_as_miss (t := 279) Tryz.underlying275 (by decide) (z := .agg #[.int .i64 0, .int .i64 0]) (by kernel_rfl) (.agg #[.int .i64 upTo]) 215 w
 have mRevoke := fun w => run_as_miss (t := 279) Tryz.underlying276 (by decide) (z := .agg #[.int .i64 0, .int .i64 0]) (by kernel_rfl) (.agg #[.int .i64 upTo]) 215 w
 have mAsk := fun w => run_as_miss (t := 279) Tryz.underlying277 (by decide) (z := .agg #[.int .i64 0, .int .i64 0]) (by kernel_rfl) (.agg #[.int .i64 upTo]) 215 w
 have hit := fun w => run_as_hit Tryz.underlying279 (.agg #[.int .i64 upTo]) 215 w
 go_enter Tryz.func149, Tryz.ntmps149
 go_wp2_with fail
 go_returns
 exact ⟨rfl, by go_grown⟩
theorem ofNone (no kind client code token : Int) (proof : ByteArray) (upTo : Int) (w : World) (h1 : (kind == 1) = false) (h2 : (kind == 2) = false) (h3 : (kind == 3) = false) (h4 : (kind == 4) = false) (h5 : (kind == 5) = false) (h6 : (kind == 6) = false) :
  Calls Tryz.prog 147 #[rqV ⟨no, kind, client, code, token, proof, upTo⟩] w (Ret (.tuple #[.nilIface, .bool false]) w) := by
 unfold rqV
 go_enter Tryz.func147, Tryz.ntmps147
 go_wp2_with fail
 go_returns
 exact ⟨rfl, by go_grown⟩
end Go.Proofs.YtchfgdiipjbgoaaGreat
/- A region that draws its order, whose calls make memory, one walk in the text's order: a class of worlds in the place of one. Over any program. -/
namespace Go.Proofs.YtchfgdiipjbgoaaGreat
open Go Go.RowKit

section
variable {P : Program} {ops : Array Oper} {C : World → Prop} {Q : Act → Prop} {a : Act} {o : Oper} {rest : List Oper}
theorem q_val (v : Value) (hw : Region.wanted o (yielded ops a.tmps) = true) (h : ∀ w, C w → (execOp a.eval o).run P w = .ok (.value v) w) (hk : wpQuiet P ops C Q rest (a.put o.dst v)) : wpQuiet P ops C Q (o :: rest) a :=
 BigFrame.wpQuiet_want hw fun K hK => ⟨v, fun w hw => by unfold Oper.quietAt; rw [h w hw]; exact ⟨rfl, rfl⟩, hK _ hk⟩
theorem q_call (f : FuncId) (args : Array Value) (v : Value) (hw : Region.wanted o (yielded ops a.tmps) = true) (h : ∀ w, C w → (execOp a.eval o).run P w = .ok (.enter f args) w)
  (hc : ∀ w, C w → Calls P f args w fun e w' => e = .returned v ∧ C w') (hk : wpQuiet P ops C Q rest (a.put o.dst v)) : wpQuiet P ops C Q (o :: rest) a :=
 BigFrame.wpQuiet_want hw fun K hK => ⟨v, fun w hw => by unfold Oper.quietAt; rw [h w hw]; exact ⟨rfl, hc w hw⟩, hK _ hk⟩
theorem q_skip (hw : Region.wanted o (yielded ops a.tmps) = false) (hk : wpQuiet P ops C Q rest (a.put o.dst undef)) : wpQuiet P ops C Q (o :: rest) a := BigFrame.wpQuiet_skip hw hk
theorem q_region (C : World → Prop) {id : Nat} {Q : Exit → Act → World → Prop} {a : Act} {w : World} {l : List Oper} (hm : P.follows .mixedOrders = true) (hB : Region.lexB .any l.toArray = true) (hC : C w.drew)
  (h : wpQuiet P l.toArray C (fun a' => ∀ w', C w' → Q .normal a' w') l a) : (Code.region id l.toArray true).wp P Q a w :=
 wp_region_quiet (C := C) hm hB hC (by simpa using h)
end
end Go.Proofs.YtchfgdiipjbgoaaGreat
