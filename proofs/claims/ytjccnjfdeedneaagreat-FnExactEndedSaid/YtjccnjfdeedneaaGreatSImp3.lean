/- ReqRight: the program's side. -/
import Derived.Test.YtjccnjfdeedneaaGreatSImp2
import Derived.Test.YtjccnjfdeedneaaGreatSKlass
import Derived.Laws.StructEq
import Derived.Deep.RegionHeld3
import Derived.Deep.DeepCutAuto
namespace Go.Proofs.YtjccnjfdeedneaaGreat
open Go Go.RowKit Go.Lib
set_option linter.unusedVariables false

/-- The cells of what is asked, in a box of the call's own. -/
def RQ7 (g : Nat) (r : RQ) (w0 w : World) : Prop :=
 w.cell? ⟨g, 0, none⟩ = some (.int .i64 r.no) ∧ w.cell? ⟨g, 1, none⟩ = some (.int .i64 r.kind) ∧ w.cell? ⟨g, 2, none⟩ = some (.int .i64 r.client) ∧ w.cell? ⟨g, 3, none⟩ = some (.int .i64 r.code) ∧
 w.cell? ⟨g, 4, none⟩ = some (.int .i64 r.token) ∧ w.cell? ⟨g, 5, none⟩ = some (.string r.proof) ∧ w.cell? ⟨g, 6, none⟩ = some (.int .i64 r.upTo) ∧ Below g w0 w
theorem RQ7.keep {g : Nat} {r : RQ} {w0 w w' : World} (h : RQ7 g r w0 w) (hb : Below w.heap.size w w') : RQ7 g r w0 w' := by
 obtain ⟨h0, h1, h2, h3, h4, h5, h6, h⟩ := h
 have hl : g < w.heap.size := World.block_lt_of_cell? w _ h0
 exact ⟨(hb.cell (p := ⟨g, 0, none⟩) hl).trans h0, (hb.cell (p := ⟨g, 1, none⟩) hl).trans h1, (hb.cell (p := ⟨g, 2, none⟩) hl).trans h2, (hb.cell (p := ⟨g, 3, none⟩) hl).trans h3,
  (hb.cell (p := ⟨g, 4, none⟩) hl).trans h4, (hb.cell (p := ⟨g, 5, none⟩) hl).trans h5, (hb.cell (p := ⟨g, 6, none⟩) hl).trans h6, h.trans (hb.mono (Nat.le_of_lt hl))⟩
theorem RQ7.drew {g : Nat} {r : RQ} {w0 w : World} (h : RQ7 g r w0 w) : RQ7 g r w0 w.drew := h.keep ((Below.refl _ _).drew)
theorem RQ7.start (r : RQ) (w : World) (t : TypeId) : RQ7 w.heap.size r w (w.alloc (.cells #[.int .i64 r.no, .int .i64 r.kind, .int .i64 r.client, .int .i64 r.code, .int .i64 r.token, .string r.proof, .int .i64 r.upTo] t)) := by
 refine ⟨?_, ?_, ?_, ?_, ?_, ?_, ?_, (Below.refl _ _).alloc (Nat.le_refl _) _⟩ <;> simp

def eqB (a b : RQ) : Bool := a.no == b.no && (a.kind == b.kind && (a.client == b.client && (a.code == b.code && (a.token == b.token && (a.proof.toList == b.proof.toList && a.upTo == b.upTo)))))
theorem run_eq_req (a b : RQ) (w : World) : (binOp .eql 143 (rqV a) (rqV b)).run Tryz.prog w = .ok (.bool (eqB a b)) w := by
 have h1 : Tryz.prog.underlying 143 = some (.struct (Tryz.prog.fieldsOf 143)) := by kernel_rfl
 have h2 : Tryz.prog.stoodInHeld 143 = false := by kernel_rfl
 have hu := Tryz.underlying143
 unfold rqV eqB
 rw [run_eql_struct, run_equalIn_agg w 9999 _ _ _ h1 h2]
 simp [go_sem, hu]
 (repeat' split) <;> simp_all
theorem run_guard_req (x y : Operand) (a b : RQ) (w : World) : (eqGuard .eql 143 x y (rqV a) (rqV b)).run Tryz.prog w = .ok () w :=
 run_eqGuard_agg w _ _ _ _ _ _ (by kernel_rfl)

set_option maxRecDepth 100000 in
set_option maxHeartbeats 1000000 in
theorem rightIssue (no client code token : Int) (proof : ByteArray) (upTo : Int) (w : World) (hp : proof.size ≤ maxLen) :
  Calls Tryz.prog 151 #[rqV ⟨no, 1, client, code, token, proof, upTo⟩] w (Ret (.bool (isB no 1 99 && (isB client 1 3 && proofB proof) && eqB ⟨no, 1, client, 0, 0, proof, 0⟩ ⟨no, 1, client, code, token, proof, upTo⟩)) w) := by
 have HS := Lib.hid (RQ7.start ⟨no, 1, client, code, token, proof, upTo⟩ w 143)
 have HE := Lib.hid (show rqV ⟨no, 1, client, code, token, proof, upTo⟩ = .agg #[.int .i64 no, .int .i64 1, .int .i64 client, .int .i64 code, .int .i64 token, .string proof, .int .i64 upTo] from rfl)
 have hq : ∀ w, (binOp .eql 143 (rqV ⟨no, 1, client, 0, 0, proof, 0⟩) (.agg #[.int .i64 no, .int .i64 1, .int .i64 client, .int .i64 code, .int .i64 token, .string proof, .int .i64 upTo])).run Tryz.prog w = .ok (.bool (eqB ⟨no, 1, client, 0, 0, proof, 0⟩ ⟨no, 1, client, code, token, proof, upTo⟩)) w := fun w => run_eq_req ⟨no, 1, client, 0, 0, proof, 0⟩ ⟨no, 1, client, code, token, proof, upTo⟩ w
 have hg : ∀ w x y, (eqGuard .eql 143 x y (rqV ⟨no, 1, client, 0, 0, proof, 0⟩) (.agg #[.int .i64 no, .int .i64 1, .int .i64 client, .int .i64 code, .int .i64 token, .string proof, .int .i64 upTo])).run Tryz.prog w = .ok () w := fun w x y => run_guard_req x y ⟨no, 1, client, 0, 0, proof, 0⟩ ⟨no, 1, client, code, token, proof, upTo⟩ w
 rw [HE.out]
 cases b0 : isB no 1 99 with
 | false =>
  go_enter Tryz.func151, Tryz.ntmps151
  go_wp2_with fail
  rw [← HE.out]
  refine (ofIssue no client code token proof upTo _).mono ?_
  rintro e w1 ⟨rfl, hb1⟩
  have s1 := HS.out.keep hb1
  clear hb1
  obtain ⟨c0, c1, c2, c3, c4, c5, c6, bb⟩ := s1
  go_upto_region 2 with fail
  go_quiet (first | (go_at_call 128; refine Calls.quiet_of_same (upto_at b0)))
  go_wp2_with fail
  go_ret
  exact ⟨by simp, below_drewN bb _⟩
 | true =>
  cases b1 : (isB client 1 3 && proofB proof) with
  | false =>
   go_enter Tryz.func151, Tryz.ntmps151
   go_wp2_with fail
   rw [← HE.out]
   refine (ofIssue no client code token proof upTo _).mono ?_
   rintro e w1 ⟨rfl, hb1⟩
   have s1 := HS.out.keep hb1
   clear hb1
   have s2 := s1.drew
   clear s1
   go_upto_region 2 with fail
   refine q_region (RQ7 w.heap.size ⟨no, 1, client, code, token, proof, upTo⟩ w) (by kernel_rfl) (by kernel_rfl) s2 ?_
   refine q_val (.bool true) (by rfl) (fun wx hx => by obtain ⟨c0, c1, c2, c3, c4, c5, c6, bb⟩ := hx; go_simp) ?_
   simp only [Act.put, List.setIfInBounds_toArray, List.set_cons_zero, List.set_cons_succ]
   refine q_val (.bool true) (by rfl) (fun wx hx => by obtain ⟨c0, c1, c2, c3, c4, c5, c6, bb⟩ := hx; go_simp) ?_
   simp only [Act.put, List.setIfInBounds_toArray, List.set_cons_zero, List.set_cons_succ]
   refine q_val (.pointer (some ⟨w.heap.size, 0, none⟩)) (by rfl) (fun wx hx => by obtain ⟨c0, c1, c2, c3, c4, c5, c6, bb⟩ := hx; go_simp) ?_
   simp only [Act.put, List.setIfInBounds_toArray, List.set_cons_zero, List.set_cons_succ]
   refine q_val (.int .i64 no) (by rfl) (fun wx hx => by obtain ⟨c0, c1, c2, c3, c4, c5, c6, bb⟩ := hx; go_simp) ?_
   simp only [Act.put, List.setIfInBounds_toArray, List.set_cons_zero, List.set_cons_succ]
   refine q_call 128 #[.int .i64 no, .int .i64 99] (.bool true) (by rfl) (fun wx hx => by go_simp) (fun wx hx => (upto_at b0).mono (by rintro e w' ⟨rfl, rfl⟩; exact ⟨rfl, hx⟩)) ?_
   simp only [Act.put, List.setIfInBounds_toArray, List.set_cons_zero, List.set_cons_succ]
   refine q_val (.bool true) (by rfl) (fun wx hx => by obtain ⟨c0, c1, c2, c3, c4, c5, c6, bb⟩ := hx; go_simp) ?_
   simp only [Act.put, List.setIfInBounds_toArray, List.set_cons_zero, List.set_cons_succ]
   refine q_val (.bool true) (by rfl) (fun wx hx => by obtain ⟨c0, c1, c2, c3, c4, c5, c6, bb⟩ := hx; go_simp) ?_
   simp only [Act.put, List.setIfInBounds_toArray, List.set_cons_zero, List.set_cons_succ]
   refine q_val (.iface 287 (.agg #[.int .i64 client, .string proof])) (by rfl) (fun wx hx => by obtain ⟨c0, c1, c2, c3, c4, c5, c6, bb⟩ := hx; go_simp) ?_
   simp only [Act.put, List.setIfInBounds_toArray, List.set_cons_zero, List.set_cons_succ]
   refine q_call 261 #[.agg #[.int .i64 client, .string proof]] (.bool false) (by rfl) (fun wx hx => by go_simp; go_invoke; go_simp; all_goals kernel_rfl) (fun wx hx => (issueIn _ _ _ hp).mono (by rw [b1]; rintro e w' ⟨rfl, hb2⟩; exact ⟨rfl, hx.keep hb2⟩)) ?_
   simp only [Act.put, List.setIfInBounds_toArray, List.set_cons_zero, List.set_cons_succ]
   refine q_val (.bool false) (by rfl) (fun wx hx => by obtain ⟨c0, c1, c2, c3, c4, c5, c6, bb⟩ := hx; go_simp) ?_
   simp only [Act.put, List.setIfInBounds_toArray, List.set_cons_zero, List.set_cons_succ]
   refine q_val (.bool false) (by rfl) (fun wx hx => by obtain ⟨c0, c1, c2, c3, c4, c5, c6, bb⟩ := hx; go_simp) ?_
   simp only [Act.put, List.setIfInBounds_toArray, List.set_cons_zero, List.set_cons_succ]
   refine q_skip (by rfl) ?_
   simp only [Act.put, List.setIfInBounds_toArray, List.set_cons_zero, List.set_cons_succ]
   refine q_skip (by rfl) ?_
   simp only [Act.put, List.setIfInBounds_toArray, List.set_cons_zero, List.set_cons_succ]
   refine q_skip (by rfl) ?_
   simp only [Act.put, List.setIfInBounds_toArray, List.set_cons_zero, List.set_cons_succ]
   refine q_skip (by rfl) ?_
   simp only [Act.put, List.setIfInBounds_toArray, List.set_cons_zero, List.set_cons_succ]
   refine q_skip (by rfl) ?_
   simp only [Act.put, List.setIfInBounds_toArray, List.set_cons_zero, List.set_cons_succ]
   refine q_skip (by rfl) ?_
   simp only [Act.put, List.setIfInBounds_toArray, List.set_cons_zero, List.set_cons_succ]
   refine q_val (.bool false) (by rfl) (fun wx hx => by obtain ⟨c0, c1, c2, c3, c4, c5, c6, bb⟩ := hx; go_simp) ?_
   simp only [Act.put, List.setIfInBounds_toArray, List.set_cons_zero, List.set_cons_succ]
   refine q_val (.bool false) (by rfl) (fun wx hx => by obtain ⟨c0, c1, c2, c3, c4, c5, c6, bb⟩ := hx; go_simp) ?_
   simp only [Act.put, List.setIfInBounds_toArray, List.set_cons_zero, List.set_cons_succ]
   refine wpQuiet_nil ?_
   intro w2 s3
   go_wp2_with fail
   go_ret
   exact ⟨by simp, s3.2.2.2.2.2.2.2⟩
  | true =>
   go_enter Tryz.func151, Tryz.ntmps151
   go_wp2_with fail
   rw [← HE.out]
   refine (ofIssue no client code token proof upTo _).mono ?_
   rintro e w1 ⟨rfl, hb1⟩
   have s1 := HS.out.keep hb1
   clear hb1
   go_upto_region 2 with fail
   go_region_held3 (fun w' => w'.cell? ⟨w.heap.size, 0, none⟩ = some (.int .i64 no) ∧ w'.cell? ⟨w.heap.size, 1, none⟩ = some (.int .i64 1) ∧ w'.cell? ⟨w.heap.size, 2, none⟩ = some (.int .i64 client) ∧ w'.cell? ⟨w.heap.size, 3, none⟩ = some (.int .i64 code) ∧ w'.cell? ⟨w.heap.size, 4, none⟩ = some (.int .i64 token) ∧ w'.cell? ⟨w.heap.size, 5, none⟩ = some (.string proof) ∧ w'.cell? ⟨w.heap.size, 6, none⟩ = some (.int .i64 upTo) ∧ Below w.heap.size w w')
    (first | exact s1.drew | exact q | go_keep)
    (first
     | (go_at_call 128; refine (upto_at b0).mono ?_; rintro e w' ⟨rfl, rfl⟩)
     | (go_at_call 190; refine (reqIssue no client code token proof upTo _).mono ?_; rintro e w' ⟨rfl, hb2⟩; have q := RQ7.keep (r := ⟨no, 1, client, code, token, proof, upTo⟩) (g := w.heap.size) (by assumption) hb2)
     | (go_at_call 261; refine (issueIn _ _ _ hp).mono ?_; rw [b1]; rintro e w' ⟨rfl, hb2⟩; have q := RQ7.keep (r := ⟨no, 1, client, code, token, proof, upTo⟩) (g := w.heap.size) (by assumption) hb2))
   all_goals go_wp2_with fail
   all_goals go_ret
   all_goals exact ⟨by simp [], by first | exact q.2.2.2.2.2.2.2 | exact s1.drew.2.2.2.2.2.2.2⟩
set_option maxRecDepth 100000 in
set_option maxHeartbeats 1000000 in
theorem rightRedeem (no client code token : Int) (proof : ByteArray) (upTo : Int) (w : World) (hp : proof.size ≤ maxLen) :
  Calls Tryz.prog 151 #[rqV ⟨no, 2, client, code, token, proof, upTo⟩] w (Ret (.bool (isB no 1 99 && (isB client 1 3 && isB code 1 99 && proofB proof) && eqB ⟨no, 2, client, code, 0, proof, 0⟩ ⟨no, 2, client, code, token, proof, upTo⟩)) w) := by
 have HS := Lib.hid (RQ7.start ⟨no, 2, client, code, token, proof, upTo⟩ w 143)
 have HE := Lib.hid (show rqV ⟨no, 2, client, code, token, proof, upTo⟩ = .agg #[.int .i64 no, .int .i64 2, .int .i64 client, .int .i64 code, .int .i64 token, .string proof, .int .i64 upTo] from rfl)
 have hq : ∀ w, (binOp .eql 143 (rqV ⟨no, 2, client, code, 0, proof, 0⟩) (.agg #[.int .i64 no, .int .i64 2, .int .i64 client, .int .i64 code, .int .i64 token, .string proof, .int .i64 upTo])).run Tryz.prog w = .ok (.bool (eqB ⟨no, 2, client, code, 0, proof, 0⟩ ⟨no, 2, client, code, token, proof, upTo⟩)) w := fun w => run_eq_req ⟨no, 2, client, code, 0, proof, 0⟩ ⟨no, 2, client, code, token, proof, upTo⟩ w
 have hg : ∀ w x y, (eqGuard .eql 143 x y (rqV ⟨no, 2, client, code, 0, proof, 0⟩) (.agg #[.int .i64 no, .int .i64 2, .int .i64 client, .int .i64 code, .int .i64 token, .string proof, .int .i64 upTo])).run Tryz.prog w = .ok () w := fun w x y => run_guard_req x y ⟨no, 2, client, code, 0, proof, 0⟩ ⟨no, 2, client, code, token, proof, upTo⟩ w
 rw [HE.out]
 cases b0 : isB no 1 99 with
 | false =>
  go_enter Tryz.func151, Tryz.ntmps151
  go_wp2_with fail
  rw [← HE.out]
  refine (ofRedeem no client code token proof upTo _).mono ?_
  rintro e w1 ⟨rfl, hb1⟩
  have s1 := HS.out.keep hb1
  clear hb1
  obtain ⟨c0, c1, c2, c3, c4, c5, c6, bb⟩ := s1
  go_upto_region 2 with fail
  go_quiet (first | (go_at_call 128; refine Calls.quiet_of_same (upto_at b0)))
  go_wp2_with fail
  go_ret
  exact ⟨by simp, below_drewN bb _⟩
 | true =>
  cases b1 : (isB client 1 3 && isB code 1 99 && proofB proof) with
  | false =>
   go_enter Tryz.func151, Tryz.ntmps151
   go_wp2_with fail
   rw [← HE.out]
   refine (ofRedeem no client code token proof upTo _).mono ?_
   rintro e w1 ⟨rfl, hb1⟩
   have s1 := HS.out.keep hb1
   clear hb1
   have s2 := s1.drew
   clear s1
   go_upto_region 2 with fail
   refine q_region (RQ7 w.heap.size ⟨no, 2, client, code, token, proof, upTo⟩ w) (by kernel_rfl) (by kernel_rfl) s2 ?_
   refine q_val (.bool true) (by rfl) (fun wx hx => by obtain ⟨c0, c1, c2, c3, c4, c5, c6, bb⟩ := hx; go_simp) ?_
   simp only [Act.put, List.setIfInBounds_toArray, List.set_cons_zero, List.set_cons_succ]
   refine q_val (.bool true) (by rfl) (fun wx hx => by obtain ⟨c0, c1, c2, c3, c4, c5, c6, bb⟩ := hx; go_simp) ?_
   simp only [Act.put, List.setIfInBounds_toArray, List.set_cons_zero, List.set_cons_succ]
   refine q_val (.pointer (some ⟨w.heap.size, 0, none⟩)) (by rfl) (fun wx hx => by obtain ⟨c0, c1, c2, c3, c4, c5, c6, bb⟩ := hx; go_simp) ?_
   simp only [Act.put, List.setIfInBounds_toArray, List.set_cons_zero, List.set_cons_succ]
   refine q_val (.int .i64 no) (by rfl) (fun wx hx => by obtain ⟨c0, c1, c2, c3, c4, c5, c6, bb⟩ := hx; go_simp) ?_
   simp only [Act.put, List.setIfInBounds_toArray, List.set_cons_zero, List.set_cons_succ]
   refine q_call 128 #[.int .i64 no, .int .i64 99] (.bool true) (by rfl) (fun wx hx => by go_simp) (fun wx hx => (upto_at b0).mono (by rintro e w' ⟨rfl, rfl⟩; exact ⟨rfl, hx⟩)) ?_
   simp only [Act.put, List.setIfInBounds_toArray, List.set_cons_zero, List.set_cons_succ]
   refine q_val (.bool true) (by rfl) (fun wx hx => by obtain ⟨c0, c1, c2, c3, c4, c5, c6, bb⟩ := hx; go_simp) ?_
   simp only [Act.put, List.setIfInBounds_toArray, List.set_cons_zero, List.set_cons_succ]
   refine q_val (.bool true) (by rfl) (fun wx hx => by obtain ⟨c0, c1, c2, c3, c4, c5, c6, bb⟩ := hx; go_simp) ?_
   simp only [Act.put, List.setIfInBounds_toArray, List.set_cons_zero, List.set_cons_succ]
   refine q_val (.iface 289 (.agg #[.int .i64 client, .int .i64 code, .string proof])) (by rfl) (fun wx hx => by obtain ⟨c0, c1, c2, c3, c4, c5, c6, bb⟩ := hx; go_simp) ?_
   simp only [Act.put, List.setIfInBounds_toArray, List.set_cons_zero, List.set_cons_succ]
   refine q_call 264 #[.agg #[.int .i64 client, .int .i64 code, .string proof]] (.bool false) (by rfl) (fun wx hx => by go_simp; go_invoke; go_simp; all_goals kernel_rfl) (fun wx hx => (redeemIn _ _ _ _ hp).mono (by rw [b1]; rintro e w' ⟨rfl, hb2⟩; exact ⟨rfl, hx.keep hb2⟩)) ?_
   simp only [Act.put, List.setIfInBounds_toArray, List.set_cons_zero, List.set_cons_succ]
   refine q_val (.bool false) (by rfl) (fun wx hx => by obtain ⟨c0, c1, c2, c3, c4, c5, c6, bb⟩ := hx; go_simp) ?_
   simp only [Act.put, List.setIfInBounds_toArray, List.set_cons_zero, List.set_cons_succ]
   refine q_val (.bool false) (by rfl) (fun wx hx => by obtain ⟨c0, c1, c2, c3, c4, c5, c6, bb⟩ := hx; go_simp) ?_
   simp only [Act.put, List.setIfInBounds_toArray, List.set_cons_zero, List.set_cons_succ]
   refine q_skip (by rfl) ?_
   simp only [Act.put, List.setIfInBounds_toArray, List.set_cons_zero, List.set_cons_succ]
   refine q_skip (by rfl) ?_
   simp only [Act.put, List.setIfInBounds_toArray, List.set_cons_zero, List.set_cons_succ]
   refine q_skip (by rfl) ?_
   simp only [Act.put, List.setIfInBounds_toArray, List.set_cons_zero, List.set_cons_succ]
   refine q_skip (by rfl) ?_
   simp only [Act.put, List.setIfInBounds_toArray, List.set_cons_zero, List.set_cons_succ]
   refine q_skip (by rfl) ?_
   simp only [Act.put, List.setIfInBounds_toArray, List.set_cons_zero, List.set_cons_succ]
   refine q_skip (by rfl) ?_
   simp only [Act.put, List.setIfInBounds_toArray, List.set_cons_zero, List.set_cons_succ]
   refine q_val (.bool false) (by rfl) (fun wx hx => by obtain ⟨c0, c1, c2, c3, c4, c5, c6, bb⟩ := hx; go_simp) ?_
   simp only [Act.put, List.setIfInBounds_toArray, List.set_cons_zero, List.set_cons_succ]
   refine q_val (.bool false) (by rfl) (fun wx hx => by obtain ⟨c0, c1, c2, c3, c4, c5, c6, bb⟩ := hx; go_simp) ?_
   simp only [Act.put, List.setIfInBounds_toArray, List.set_cons_zero, List.set_cons_succ]
   refine wpQuiet_nil ?_
   intro w2 s3
   go_wp2_with fail
   go_ret
   exact ⟨by simp, s3.2.2.2.2.2.2.2⟩
  | true =>
   go_enter Tryz.func151, Tryz.ntmps151
   go_wp2_with fail
   rw [← HE.out]
   refine (ofRedeem no client code token proof upTo _).mono ?_
   rintro e w1 ⟨rfl, hb1⟩
   have s1 := HS.out.keep hb1
   clear hb1
   go_upto_region 2 with fail
   go_region_held3 (fun w' => w'.cell? ⟨w.heap.size, 0, none⟩ = some (.int .i64 no) ∧ w'.cell? ⟨w.heap.size, 1, none⟩ = some (.int .i64 2) ∧ w'.cell? ⟨w.heap.size, 2, none⟩ = some (.int .i64 client) ∧ w'.cell? ⟨w.heap.size, 3, none⟩ = some (.int .i64 code) ∧ w'.cell? ⟨w.heap.size, 4, none⟩ = some (.int .i64 token) ∧ w'.cell? ⟨w.heap.size, 5, none⟩ = some (.string proof) ∧ w'.cell? ⟨w.heap.size, 6, none⟩ = some (.int .i64 upTo) ∧ Below w.heap.size w w')
    (first | exact s1.drew | exact q | go_keep)
    (first
     | (go_at_call 128; refine (upto_at b0).mono ?_; rintro e w' ⟨rfl, rfl⟩)
     | (go_at_call 190; refine (reqRedeem no client code token proof upTo _).mono ?_; rintro e w' ⟨rfl, hb2⟩; have q := RQ7.keep (r := ⟨no, 2, client, code, token, proof, upTo⟩) (g := w.heap.size) (by assumption) hb2)
     | (go_at_call 264; refine (redeemIn _ _ _ _ hp).mono ?_; rw [b1]; rintro e w' ⟨rfl, hb2⟩; have q := RQ7.keep (r := ⟨no, 2, client, code, token, proof, upTo⟩) (g := w.heap.size) (by assumption) hb2))
   all_goals go_wp2_with fail
   all_goals go_ret
   all_goals exact ⟨by simp [], by first | exact q.2.2.2.2.2.2.2 | exact s1.drew.2.2.2.2.2.2.2⟩
set_option maxRecDepth 100000 in
set_option maxHeartbeats 1000000 in
theorem rightRefresh (no client code token : Int) (proof : ByteArray) (upTo : Int) (w : World) (hp : proof.size ≤ maxLen) :
  Calls Tryz.prog 151 #[rqV ⟨no, 3, client, code, token, proof, upTo⟩] w (Ret (.bool (isB no 1 99 && (isB client 1 3 && isB token 1 999) && eqB ⟨no, 3, client, 0, token, ⟨#[]⟩, 0⟩ ⟨no, 3, client, code, token, proof, upTo⟩)) w) := by
 have HS := Lib.hid (RQ7.start ⟨no, 3, client, code, token, proof, upTo⟩ w 143)
 have HE := Lib.hid (show rqV ⟨no, 3, client, code, token, proof, upTo⟩ = .agg #[.int .i64 no, .int .i64 3, .int .i64 client, .int .i64 code, .int .i64 token, .string proof, .int .i64 upTo] from rfl)
 have hq : ∀ w, (binOp .eql 143 (rqV ⟨no, 3, client, 0, token, ⟨#[]⟩, 0⟩) (.agg #[.int .i64 no, .int .i64 3, .int .i64 client, .int .i64 code, .int .i64 token, .string proof, .int .i64 upTo])).run Tryz.prog w = .ok (.bool (eqB ⟨no, 3, client, 0, token, ⟨#[]⟩, 0⟩ ⟨no, 3, client, code, token, proof, upTo⟩)) w := fun w => run_eq_req ⟨no, 3, client, 0, token, ⟨#[]⟩, 0⟩ ⟨no, 3, client, code, token, proof, upTo⟩ w
 have hg : ∀ w x y, (eqGuard .eql 143 x y (rqV ⟨no, 3, client, 0, token, ⟨#[]⟩, 0⟩) (.agg #[.int .i64 no, .int .i64 3, .int .i64 client, .int .i64 code, .int .i64 token, .string proof, .int .i64 upTo])).run Tryz.prog w = .ok () w := fun w x y => run_guard_req x y ⟨no, 3, client, 0, token, ⟨#[]⟩, 0⟩ ⟨no, 3, client, code, token, proof, upTo⟩ w
 rw [HE.out]
 cases b0 : isB no 1 99 with
 | false =>
  go_enter Tryz.func151, Tryz.ntmps151
  go_wp2_with fail
  rw [← HE.out]
  refine (ofRefresh no client code token proof upTo _).mono ?_
  rintro e w1 ⟨rfl, hb1⟩
  have s1 := HS.out.keep hb1
  clear hb1
  obtain ⟨c0, c1, c2, c3, c4, c5, c6, bb⟩ := s1
  go_upto_region 2 with fail
  go_quiet (first | (go_at_call 128; refine Calls.quiet_of_same (upto_at b0)))
  go_wp2_with fail
  go_ret
  exact ⟨by simp, below_drewN bb _⟩
 | true =>
  cases b1 : (isB client 1 3 && isB token 1 999) with
  | false =>
   go_enter Tryz.func151, Tryz.ntmps151
   go_wp2_with fail
   rw [← HE.out]
   refine (ofRefresh no client code token proof upTo _).mono ?_
   rintro e w1 ⟨rfl, hb1⟩
   have s1 := HS.out.keep hb1
   clear hb1
   have s2 := s1.drew
   clear s1
   go_upto_region 2 with fail
   refine q_region (RQ7 w.heap.size ⟨no, 3, client, code, token, proof, upTo⟩ w) (by kernel_rfl) (by kernel_rfl) s2 ?_
   refine q_val (.bool true) (by rfl) (fun wx hx => by obtain ⟨c0, c1, c2, c3, c4, c5, c6, bb⟩ := hx; go_simp) ?_
   simp only [Act.put, List.setIfInBounds_toArray, List.set_cons_zero, List.set_cons_succ]
   refine q_val (.bool true) (by rfl) (fun wx hx => by obtain ⟨c0, c1, c2, c3, c4, c5, c6, bb⟩ := hx; go_simp) ?_
   simp only [Act.put, List.setIfInBounds_toArray, List.set_cons_zero, List.set_cons_succ]
   refine q_val (.pointer (some ⟨w.heap.size, 0, none⟩)) (by rfl) (fun wx hx => by obtain ⟨c0, c1, c2, c3, c4, c5, c6, bb⟩ := hx; go_simp) ?_
   simp only [Act.put, List.setIfInBounds_toArray, List.set_cons_zero, List.set_cons_succ]
   refine q_val (.int .i64 no) (by rfl) (fun wx hx => by obtain ⟨c0, c1, c2, c3, c4, c5, c6, bb⟩ := hx; go_simp) ?_
   simp only [Act.put, List.setIfInBounds_toArray, List.set_cons_zero, List.set_cons_succ]
   refine q_call 128 #[.int .i64 no, .int .i64 99] (.bool true) (by rfl) (fun wx hx => by go_simp) (fun wx hx => (upto_at b0).mono (by rintro e w' ⟨rfl, rfl⟩; exact ⟨rfl, hx⟩)) ?_
   simp only [Act.put, List.setIfInBounds_toArray, List.set_cons_zero, List.set_cons_succ]
   refine q_val (.bool true) (by rfl) (fun wx hx => by obtain ⟨c0, c1, c2, c3, c4, c5, c6, bb⟩ := hx; go_simp) ?_
   simp only [Act.put, List.setIfInBounds_toArray, List.set_cons_zero, List.set_cons_succ]
   refine q_val (.bool true) (by rfl) (fun wx hx => by obtain ⟨c0, c1, c2, c3, c4, c5, c6, bb⟩ := hx; go_simp) ?_
   simp only [Act.put, List.setIfInBounds_toArray, List.set_cons_zero, List.set_cons_succ]
   refine q_val (.iface 293 (.agg #[.int .i64 client, .int .i64 token])) (by rfl) (fun wx hx => by obtain ⟨c0, c1, c2, c3, c4, c5, c6, bb⟩ := hx; go_simp) ?_
   simp only [Act.put, List.setIfInBounds_toArray, List.set_cons_zero, List.set_cons_succ]
   refine q_call 267 #[.agg #[.int .i64 client, .int .i64 token]] (.bool false) (by rfl) (fun wx hx => by go_simp; go_invoke; go_simp; all_goals kernel_rfl) (fun wx hx => (keyIn _ _ _).mono (by rw [b1]; rintro e w' ⟨rfl, hb2⟩; exact ⟨rfl, hx.keep hb2⟩)) ?_
   simp only [Act.put, List.setIfInBounds_toArray, List.set_cons_zero, List.set_cons_succ]
   refine q_val (.bool false) (by rfl) (fun wx hx => by obtain ⟨c0, c1, c2, c3, c4, c5, c6, bb⟩ := hx; go_simp) ?_
   simp only [Act.put, List.setIfInBounds_toArray, List.set_cons_zero, List.set_cons_succ]
   refine q_val (.bool false) (by rfl) (fun wx hx => by obtain ⟨c0, c1, c2, c3, c4, c5, c6, bb⟩ := hx; go_simp) ?_
   simp only [Act.put, List.setIfInBounds_toArray, List.set_cons_zero, List.set_cons_succ]
   refine q_skip (by rfl) ?_
   simp only [Act.put, List.setIfInBounds_toArray, List.set_cons_zero, List.set_cons_succ]
   refine q_skip (by rfl) ?_
   simp only [Act.put, List.setIfInBounds_toArray, List.set_cons_zero, List.set_cons_succ]
   refine q_skip (by rfl) ?_
   simp only [Act.put, List.setIfInBounds_toArray, List.set_cons_zero, List.set_cons_succ]
   refine q_skip (by rfl) ?_
   simp only [Act.put, List.setIfInBounds_toArray, List.set_cons_zero, List.set_cons_succ]
   refine q_skip (by rfl) ?_
   simp only [Act.put, List.setIfInBounds_toArray, List.set_cons_zero, List.set_cons_succ]
   refine q_skip (by rfl) ?_
   simp only [Act.put, List.setIfInBounds_toArray, List.set_cons_zero, List.set_cons_succ]
   refine q_val (.bool false) (by rfl) (fun wx hx => by obtain ⟨c0, c1, c2, c3, c4, c5, c6, bb⟩ := hx; go_simp) ?_
   simp only [Act.put, List.setIfInBounds_toArray, List.set_cons_zero, List.set_cons_succ]
   refine q_val (.bool false) (by rfl) (fun wx hx => by obtain ⟨c0, c1, c2, c3, c4, c5, c6, bb⟩ := hx; go_simp) ?_
   simp only [Act.put, List.setIfInBounds_toArray, List.set_cons_zero, List.set_cons_succ]
   refine wpQuiet_nil ?_
   intro w2 s3
   go_wp2_with fail
   go_ret
   exact ⟨by simp, s3.2.2.2.2.2.2.2⟩
  | true =>
   go_enter Tryz.func151, Tryz.ntmps151
   go_wp2_with fail
   rw [← HE.out]
   refine (ofRefresh no client code token proof upTo _).mono ?_
   rintro e w1 ⟨rfl, hb1⟩
   have s1 := HS.out.keep hb1
   clear hb1
   go_upto_region 2 with fail
   go_region_held3 (fun w' => w'.cell? ⟨w.heap.size, 0, none⟩ = some (.int .i64 no) ∧ w'.cell? ⟨w.heap.size, 1, none⟩ = some (.int .i64 3) ∧ w'.cell? ⟨w.heap.size, 2, none⟩ = some (.int .i64 client) ∧ w'.cell? ⟨w.heap.size, 3, none⟩ = some (.int .i64 code) ∧ w'.cell? ⟨w.heap.size, 4, none⟩ = some (.int .i64 token) ∧ w'.cell? ⟨w.heap.size, 5, none⟩ = some (.string proof) ∧ w'.cell? ⟨w.heap.size, 6, none⟩ = some (.int .i64 upTo) ∧ Below w.heap.size w w')
    (first | exact s1.drew | exact q | go_keep)
    (first
     | (go_at_call 128; refine (upto_at b0).mono ?_; rintro e w' ⟨rfl, rfl⟩)
     | (go_at_call 190; refine (reqRefresh no client code token proof upTo _).mono ?_; rintro e w' ⟨rfl, hb2⟩; have q := RQ7.keep (r := ⟨no, 3, client, code, token, proof, upTo⟩) (g := w.heap.size) (by assumption) hb2)
     | (go_at_call 267; refine (keyIn _ _ _).mono ?_; rw [b1]; rintro e w' ⟨rfl, hb2⟩; have q := RQ7.keep (r := ⟨no, 3, client, code, token, proof, upTo⟩) (g := w.heap.size) (by assumption) hb2))
   all_goals go_wp2_with fail
   all_goals go_ret
   all_goals exact ⟨by simp [], by first | exact q.2.2.2.2.2.2.2 | exact s1.drew.2.2.2.2.2.2.2⟩
set_option maxRecDepth 100000 in
set_option maxHeartbeats 1000000 in
theorem rightRevoke (no client code token : Int) (proof : ByteArray) (upTo : Int) (w : World) (hp : proof.size ≤ maxLen) :
  Calls Tryz.prog 151 #[rqV ⟨no, 4, client, code, token, proof, upTo⟩] w (Ret (.bool (isB no 1 99 && (isB client 1 3 && isB token 1 999) && eqB ⟨no, 4, client, 0, token, ⟨#[]⟩, 0⟩ ⟨no, 4, client, code, token, proof, upTo⟩)) w) := by
 have HS := Lib.hid (RQ7.start ⟨no, 4, client, code, token, proof, upTo⟩ w 143)
 have HE := Lib.hid (show rqV ⟨no, 4, client, code, token, proof, upTo⟩ = .agg #[.int .i64 no, .int .i64 4, .int .i64 client, .int .i64 code, .int .i64 token, .string proof, .int .i64 upTo] from rfl)
 have hq : ∀ w, (binOp .eql 143 (rqV ⟨no, 4, client, 0, token, ⟨#[]⟩, 0⟩) (.agg #[.int .i64 no, .int .i64 4, .int .i64 client, .int .i64 code, .int .i64 token, .string proof, .int .i64 upTo])).run Tryz.prog w = .ok (.bool (eqB ⟨no, 4, client, 0, token, ⟨#[]⟩, 0⟩ ⟨no, 4, client, code, token, proof, upTo⟩)) w := fun w => run_eq_req ⟨no, 4, client, 0, token, ⟨#[]⟩, 0⟩ ⟨no, 4, client, code, token, proof, upTo⟩ w
 have hg : ∀ w x y, (eqGuard .eql 143 x y (rqV ⟨no, 4, client, 0, token, ⟨#[]⟩, 0⟩) (.agg #[.int .i64 no, .int .i64 4, .int .i64 client, .int .i64 code, .int .i64 token, .string proof, .int .i64 upTo])).run Tryz.prog w = .ok () w := fun w x y => run_guard_req x y ⟨no, 4, client, 0, token, ⟨#[]⟩, 0⟩ ⟨no, 4, client, code, token, proof, upTo⟩ w
 rw [HE.out]
 cases b0 : isB no 1 99 with
 | false =>
  go_enter Tryz.func151, Tryz.ntmps151
  go_wp2_with fail
  rw [← HE.out]
  refine (ofRevoke no client code token proof upTo _).mono ?_
  rintro e w1 ⟨rfl, hb1⟩
  have s1 := HS.out.keep hb1
  clear hb1
  obtain ⟨c0, c1, c2, c3, c4, c5, c6, bb⟩ := s1
  go_upto_region 2 with fail
  go_quiet (first | (go_at_call 128; refine Calls.quiet_of_same (upto_at b0)))
  go_wp2_with fail
  go_ret
  exact ⟨by simp, below_drewN bb _⟩
 | true =>
  cases b1 : (isB client 1 3 && isB token 1 999) with
  | false =>
   go_enter Tryz.func151, Tryz.ntmps151
   go_wp2_with fail
   rw [← HE.out]
   refine (ofRevoke no client code token proof upTo _).mono ?_
   rintro e w1 ⟨rfl, hb1⟩
   have s1 := HS.out.keep hb1
   clear hb1
   have s2 := s1.drew
   clear s1
   go_upto_region 2 with fail
   refine q_region (RQ7 w.heap.size ⟨no, 4, client, code, token, proof, upTo⟩ w) (by kernel_rfl) (by kernel_rfl) s2 ?_
   refine q_val (.bool true) (by rfl) (fun wx hx => by obtain ⟨c0, c1, c2, c3, c4, c5, c6, bb⟩ := hx; go_simp) ?_
   simp only [Act.put, List.setIfInBounds_toArray, List.set_cons_zero, List.set_cons_succ]
   refine q_val (.bool true) (by rfl) (fun wx hx => by obtain ⟨c0, c1, c2, c3, c4, c5, c6, bb⟩ := hx; go_simp) ?_
   simp only [Act.put, List.setIfInBounds_toArray, List.set_cons_zero, List.set_cons_succ]
   refine q_val (.pointer (some ⟨w.heap.size, 0, none⟩)) (by rfl) (fun wx hx => by obtain ⟨c0, c1, c2, c3, c4, c5, c6, bb⟩ := hx; go_simp) ?_
   simp only [Act.put, List.setIfInBounds_toArray, List.set_cons_zero, List.set_cons_succ]
   refine q_val (.int .i64 no) (by rfl) (fun wx hx => by obtain ⟨c0, c1, c2, c3, c4, c5, c6, bb⟩ := hx; go_simp) ?_
   simp only [Act.put, List.setIfInBounds_toArray, List.set_cons_zero, List.set_cons_succ]
   refine q_call 128 #[.int .i64 no, .int .i64 99] (.bool true) (by rfl) (fun wx hx => by go_simp) (fun wx hx => (upto_at b0).mono (by rintro e w' ⟨rfl, rfl⟩; exact ⟨rfl, hx⟩)) ?_
   simp only [Act.put, List.setIfInBounds_toArray, List.set_cons_zero, List.set_cons_succ]
   refine q_val (.bool true) (by rfl) (fun wx hx => by obtain ⟨c0, c1, c2, c3, c4, c5, c6, bb⟩ := hx; go_simp) ?_
   simp only [Act.put, List.setIfInBounds_toArray, List.set_cons_zero, List.set_cons_succ]
   refine q_val (.bool true) (by rfl) (fun wx hx => by obtain ⟨c0, c1, c2, c3, c4, c5, c6, bb⟩ := hx; go_simp) ?_
   simp only [Act.put, List.setIfInBounds_toArray, List.set_cons_zero, List.set_cons_succ]
   refine q_val (.iface 294 (.agg #[.int .i64 client, .int .i64 token])) (by rfl) (fun wx hx => by obtain ⟨c0, c1, c2, c3, c4, c5, c6, bb⟩ := hx; go_simp) ?_
   simp only [Act.put, List.setIfInBounds_toArray, List.set_cons_zero, List.set_cons_succ]
   refine q_call 267 #[.agg #[.int .i64 client, .int .i64 token]] (.bool false) (by rfl) (fun wx hx => by go_simp; go_invoke; go_simp; all_goals kernel_rfl) (fun wx hx => (keyIn _ _ _).mono (by rw [b1]; rintro e w' ⟨rfl, hb2⟩; exact ⟨rfl, hx.keep hb2⟩)) ?_
   simp only [Act.put, List.setIfInBounds_toArray, List.set_cons_zero, List.set_cons_succ]
   refine q_val (.bool false) (by rfl) (fun wx hx => by obtain ⟨c0, c1, c2, c3, c4, c5, c6, bb⟩ := hx; go_simp) ?_
   simp only [Act.put, List.setIfInBounds_toArray, List.set_cons_zero, List.set_cons_succ]
   refine q_val (.bool false) (by rfl) (fun wx hx => by obtain ⟨c0, c1, c2, c3, c4, c5, c6, bb⟩ := hx; go_simp) ?_
   simp only [Act.put, List.setIfInBounds_toArray, List.set_cons_zero, List.set_cons_succ]
   refine q_skip (by rfl) ?_
   simp only [Act.put, List.setIfInBounds_toArray, List.set_cons_zero, List.set_cons_succ]
   refine q_skip (by rfl) ?_
   simp only [Act.put, List.setIfInBounds_toArray, List.set_cons_zero, List.set_cons_succ]
   refine q_skip (by rfl) ?_
   simp only [Act.put, List.setIfInBounds_toArray, List.set_cons_zero, List.set_cons_succ]
   refine q_skip (by rfl) ?_
   simp only [Act.put, List.setIfInBounds_toArray, List.set_cons_zero, List.set_cons_succ]
   refine q_skip (by rfl) ?_
   simp only [Act.put, List.setIfInBounds_toArray, List.set_cons_zero, List.set_cons_succ]
   refine q_skip (by rfl) ?_
   simp only [Act.put, List.setIfInBounds_toArray, List.set_cons_zero, List.set_cons_succ]
   refine q_val (.bool false) (by rfl) (fun wx hx => by obtain ⟨c0, c1, c2, c3, c4, c5, c6, bb⟩ := hx; go_simp) ?_
   simp only [Act.put, List.setIfInBounds_toArray, List.set_cons_zero, List.set_cons_succ]
   refine q_val (.bool false) (by rfl) (fun wx hx => by obtain ⟨c0, c1, c2, c3, c4, c5, c6, bb⟩ := hx; go_simp) ?_
   simp only [Act.put, List.setIfInBounds_toArray, List.set_cons_zero, List.set_cons_succ]
   refine wpQuiet_nil ?_
   intro w2 s3
   go_wp2_with fail
   go_ret
   exact ⟨by simp, s3.2.2.2.2.2.2.2⟩
  | true =>
   go_enter Tryz.func151, Tryz.ntmps151
   go_wp2_with fail
   rw [← HE.out]
   refine (ofRevoke no client code token proof upTo _).mono ?_
   rintro e w1 ⟨rfl, hb1⟩
   have s1 := HS.out.keep hb1
   clear hb1
   go_upto_region 2 with fail
   go_region_held3 (fun w' => w'.cell? ⟨w.heap.size, 0, none⟩ = some (.int .i64 no) ∧ w'.cell? ⟨w.heap.size, 1, none⟩ = some (.int .i64 4) ∧ w'.cell? ⟨w.heap.size, 2, none⟩ = some (.int .i64 client) ∧ w'.cell? ⟨w.heap.size, 3, none⟩ = some (.int .i64 code) ∧ w'.cell? ⟨w.heap.size, 4, none⟩ = some (.int .i64 token) ∧ w'.cell? ⟨w.heap.size, 5, none⟩ = some (.string proof) ∧ w'.cell? ⟨w.heap.size, 6, none⟩ = some (.int .i64 upTo) ∧ Below w.heap.size w w')
    (first | exact s1.drew | exact q | go_keep)
    (first
     | (go_at_call 128; refine (upto_at b0).mono ?_; rintro e w' ⟨rfl, rfl⟩)
     | (go_at_call 190; refine (reqRevoke no client code token proof upTo _).mono ?_; rintro e w' ⟨rfl, hb2⟩; have q := RQ7.keep (r := ⟨no, 4, client, code, token, proof, upTo⟩) (g := w.heap.size) (by assumption) hb2)
     | (go_at_call 267; refine (keyIn _ _ _).mono ?_; rw [b1]; rintro e w' ⟨rfl, hb2⟩; have q := RQ7.keep (r := ⟨no, 4, client, code, token, proof, upTo⟩) (g := w.heap.size) (by assumption) hb2))
   all_goals go_wp2_with fail
   all_goals go_ret
   all_goals exact ⟨by simp [], by first | exact q.2.2.2.2.2.2.2 | exact s1.drew.2.2.2.2.2.2.2⟩
set_option maxRecDepth 100000 in
set_option maxHeartbeats 1000000 in
theorem rightAsk (no client code token : Int) (proof : ByteArray) (upTo : Int) (w : World) (hp : proof.size ≤ maxLen) :
  Calls Tryz.prog 151 #[rqV ⟨no, 5, client, code, token, proof, upTo⟩] w (Ret (.bool (isB no 1 99 && (isB client 1 3 && isB token 1 999) && eqB ⟨no, 5, client, 0, token, ⟨#[]⟩, 0⟩ ⟨no, 5, client, code, token, proof, upTo⟩)) w) := by
 have HS := Lib.hid (RQ7.start ⟨no, 5, client, code, token, proof, upTo⟩ w 143)
 have HE := Lib.hid (show rqV ⟨no, 5, client, code, token, proof, upTo⟩ = .agg #[.int .i64 no, .int .i64 5, .int .i64 client, .int .i64 code, .int .i64 token, .string proof, .int .i64 upTo] from rfl)
 have hq : ∀ w, (binOp .eql 143 (rqV ⟨no, 5, client, 0, token, ⟨#[]⟩, 0⟩) (.agg #[.int .i64 no, .int .i64 5, .int .i64 client, .int .i64 code, .int .i64 token, .string proof, .int .i64 upTo])).run Tryz.prog w = .ok (.bool (eqB ⟨no, 5, client, 0, token, ⟨#[]⟩, 0⟩ ⟨no, 5, client, code, token, proof, upTo⟩)) w := fun w => run_eq_req ⟨no, 5, client, 0, token, ⟨#[]⟩, 0⟩ ⟨no, 5, client, code, token, proof, upTo⟩ w
 have hg : ∀ w x y, (eqGuard .eql 143 x y (rqV ⟨no, 5, client, 0, token, ⟨#[]⟩, 0⟩) (.agg #[.int .i64 no, .int .i64 5, .int .i64 client, .int .i64 code, .int .i64 token, .string proof, .int .i64 upTo])).run Tryz.prog w = .ok () w := fun w x y => run_guard_req x y ⟨no, 5, client, 0, token, ⟨#[]⟩, 0⟩ ⟨no, 5, client, code, token, proof, upTo⟩ w
 rw [HE.out]
 cases b0 : isB no 1 99 with
 | false =>
  go_enter Tryz.func151, Tryz.ntmps151
  go_wp2_with fail
  rw [← HE.out]
  refine (ofAsk no client code token proof upTo _).mono ?_
  rintro e w1 ⟨rfl, hb1⟩
  have s1 := HS.out.keep hb1
  clear hb1
  obtain ⟨c0, c1, c2, c3, c4, c5, c6, bb⟩ := s1
  go_upto_region 2 with fail
  go_quiet (first | (go_at_call 128; refine Calls.quiet_of_same (upto_at b0)))
  go_wp2_with fail
  go_ret
  exact ⟨by simp, below_drewN bb _⟩
 | true =>
  cases b1 : (isB client 1 3 && isB token 1 999) with
  | false =>
   go_enter Tryz.func151, Tryz.ntmps151
   go_wp2_with fail
   rw [← HE.out]
   refine (ofAsk no client code token proof upTo _).mono ?_
   rintro e w1 ⟨rfl, hb1⟩
   have s1 := HS.out.keep hb1
   clear hb1
   have s2 := s1.drew
   clear s1
   go_upto_region 2 with fail
   refine q_region (RQ7 w.heap.size ⟨no, 5, client, code, token, proof, upTo⟩ w) (by kernel_rfl) (by kernel_rfl) s2 ?_
   refine q_val (.bool true) (by rfl) (fun wx hx => by obtain ⟨c0, c1, c2, c3, c4, c5, c6, bb⟩ := hx; go_simp) ?_
   simp only [Act.put, List.setIfInBounds_toArray, List.set_cons_zero, List.set_cons_succ]
   refine q_val (.bool true) (by rfl) (fun wx hx => by obtain ⟨c0, c1, c2, c3, c4, c5, c6, bb⟩ := hx; go_simp) ?_
   simp only [Act.put, List.setIfInBounds_toArray, List.set_cons_zero, List.set_cons_succ]
   refine q_val (.pointer (some ⟨w.heap.size, 0, none⟩)) (by rfl) (fun wx hx => by obtain ⟨c0, c1, c2, c3, c4, c5, c6, bb⟩ := hx; go_simp) ?_
   simp only [Act.put, List.setIfInBounds_toArray, List.set_cons_zero, List.set_cons_succ]
   refine q_val (.int .i64 no) (by rfl) (fun wx hx => by obtain ⟨c0, c1, c2, c3, c4, c5, c6, bb⟩ := hx; go_simp) ?_
   simp only [Act.put, List.setIfInBounds_toArray, List.set_cons_zero, List.set_cons_succ]
   refine q_call 128 #[.int .i64 no, .int .i64 99] (.bool true) (by rfl) (fun wx hx => by go_simp) (fun wx hx => (upto_at b0).mono (by rintro e w' ⟨rfl, rfl⟩; exact ⟨rfl, hx⟩)) ?_
   simp only [Act.put, List.setIfInBounds_toArray, List.set_cons_zero, List.set_cons_succ]
   refine q_val (.bool true) (by rfl) (fun wx hx => by obtain ⟨c0, c1, c2, c3, c4, c5, c6, bb⟩ := hx; go_simp) ?_
   simp only [Act.put, List.setIfInBounds_toArray, List.set_cons_zero, List.set_cons_succ]
   refine q_val (.bool true) (by rfl) (fun wx hx => by obtain ⟨c0, c1, c2, c3, c4, c5, c6, bb⟩ := hx; go_simp) ?_
   simp only [Act.put, List.setIfInBounds_toArray, List.set_cons_zero, List.set_cons_succ]
   refine q_val (.iface 295 (.agg #[.int .i64 client, .int .i64 token])) (by rfl) (fun wx hx => by obtain ⟨c0, c1, c2, c3, c4, c5, c6, bb⟩ := hx; go_simp) ?_
   simp only [Act.put, List.setIfInBounds_toArray, List.set_cons_zero, List.set_cons_succ]
   refine q_call 267 #[.agg #[.int .i64 client, .int .i64 token]] (.bool false) (by rfl) (fun wx hx => by go_simp; go_invoke; go_simp; all_goals kernel_rfl) (fun wx hx => (keyIn _ _ _).mono (by rw [b1]; rintro e w' ⟨rfl, hb2⟩; exact ⟨rfl, hx.keep hb2⟩)) ?_
   simp only [Act.put, List.setIfInBounds_toArray, List.set_cons_zero, List.set_cons_succ]
   refine q_val (.bool false) (by rfl) (fun wx hx => by obtain ⟨c0, c1, c2, c3, c4, c5, c6, bb⟩ := hx; go_simp) ?_
   simp only [Act.put, List.setIfInBounds_toArray, List.set_cons_zero, List.set_cons_succ]
   refine q_val (.bool false) (by rfl) (fun wx hx => by obtain ⟨c0, c1, c2, c3, c4, c5, c6, bb⟩ := hx; go_simp) ?_
   simp only [Act.put, List.setIfInBounds_toArray, List.set_cons_zero, List.set_cons_succ]
   refine q_skip (by rfl) ?_
   simp only [Act.put, List.setIfInBounds_toArray, List.set_cons_zero, List.set_cons_succ]
   refine q_skip (by rfl) ?_
   simp only [Act.put, List.setIfInBounds_toArray, List.set_cons_zero, List.set_cons_succ]
   refine q_skip (by rfl) ?_
   simp only [Act.put, List.setIfInBounds_toArray, List.set_cons_zero, List.set_cons_succ]
   refine q_skip (by rfl) ?_
   simp only [Act.put, List.setIfInBounds_toArray, List.set_cons_zero, List.set_cons_succ]
   refine q_skip (by rfl) ?_
   simp only [Act.put, List.setIfInBounds_toArray, List.set_cons_zero, List.set_cons_succ]
   refine q_skip (by rfl) ?_
   simp only [Act.put, List.setIfInBounds_toArray, List.set_cons_zero, List.set_cons_succ]
   refine q_val (.bool false) (by rfl) (fun wx hx => by obtain ⟨c0, c1, c2, c3, c4, c5, c6, bb⟩ := hx; go_simp) ?_
   simp only [Act.put, List.setIfInBounds_toArray, List.set_cons_zero, List.set_cons_succ]
   refine q_val (.bool false) (by rfl) (fun wx hx => by obtain ⟨c0, c1, c2, c3, c4, c5, c6, bb⟩ := hx; go_simp) ?_
   simp only [Act.put, List.setIfInBounds_toArray, List.set_cons_zero, List.set_cons_succ]
   refine wpQuiet_nil ?_
   intro w2 s3
   go_wp2_with fail
   go_ret
   exact ⟨by simp, s3.2.2.2.2.2.2.2⟩
  | true =>
   go_enter Tryz.func151, Tryz.ntmps151
   go_wp2_with fail
   rw [← HE.out]
   refine (ofAsk no client code token proof upTo _).mono ?_
   rintro e w1 ⟨rfl, hb1⟩
   have s1 := HS.out.keep hb1
   clear hb1
   go_upto_region 2 with fail
   go_region_held3 (fun w' => w'.cell? ⟨w.heap.size, 0, none⟩ = some (.int .i64 no) ∧ w'.cell? ⟨w.heap.size, 1, none⟩ = some (.int .i64 5) ∧ w'.cell? ⟨w.heap.size, 2, none⟩ = some (.int .i64 client) ∧ w'.cell? ⟨w.heap.size, 3, none⟩ = some (.int .i64 code) ∧ w'.cell? ⟨w.heap.size, 4, none⟩ = some (.int .i64 token) ∧ w'.cell? ⟨w.heap.size, 5, none⟩ = some (.string proof) ∧ w'.cell? ⟨w.heap.size, 6, none⟩ = some (.int .i64 upTo) ∧ Below w.heap.size w w')
    (first | exact s1.drew | exact q | go_keep)
    (first
     | (go_at_call 128; refine (upto_at b0).mono ?_; rintro e w' ⟨rfl, rfl⟩)
     | (go_at_call 190; refine (reqAsk no client code token proof upTo _).mono ?_; rintro e w' ⟨rfl, hb2⟩; have q := RQ7.keep (r := ⟨no, 5, client, code, token, proof, upTo⟩) (g := w.heap.size) (by assumption) hb2)
     | (go_at_call 267; refine (keyIn _ _ _).mono ?_; rw [b1]; rintro e w' ⟨rfl, hb2⟩; have q := RQ7.keep (r := ⟨no, 5, client, code, token, proof, upTo⟩) (g := w.heap.size) (by assumption) hb2))
   all_goals go_wp2_with fail
   all_goals go_ret
   all_goals exact ⟨by simp [], by first | exact q.2.2.2.2.2.2.2 | exact s1.drew.2.2.2.2.2.2.2⟩
set_option maxRecDepth 100000 in
set_option maxHeartbeats 1000000 in
theorem rightTick (no client code token : Int) (proof : ByteArray) (upTo : Int) (w : World) (hp : proof.size ≤ maxLen) :
  Calls Tryz.prog 151 #[rqV ⟨no, 6, client, code, token, proof, upTo⟩] w (Ret (.bool (isB no 1 99 && (isB upTo 1 1000) && eqB ⟨no, 6, 0, 0, 0, ⟨#[]⟩, upTo⟩ ⟨no, 6, client, code, token, proof, upTo⟩)) w) := by
 have HS := Lib.hid (RQ7.start ⟨no, 6, client, code, token, proof, upTo⟩ w 143)
 have HE := Lib.hid (show rqV ⟨no, 6, client, code, token, proof, upTo⟩ = .agg #[.int .i64 no, .int .i64 6, .int .i64 client, .int .i64 code, .int .i64 token, .string proof, .int .i64 upTo] from rfl)
 have hq : ∀ w, (binOp .eql 143 (rqV ⟨no, 6, 0, 0, 0, ⟨#[]⟩, upTo⟩) (.agg #[.int .i64 no, .int .i64 6, .int .i64 client, .int .i64 code, .int .i64 token, .string proof, .int .i64 upTo])).run Tryz.prog w = .ok (.bool (eqB ⟨no, 6, 0, 0, 0, ⟨#[]⟩, upTo⟩ ⟨no, 6, client, code, token, proof, upTo⟩)) w := fun w => run_eq_req ⟨no, 6, 0, 0, 0, ⟨#[]⟩, upTo⟩ ⟨no, 6, client, code, token, proof, upTo⟩ w
 have hg : ∀ w x y, (eqGuard .eql 143 x y (rqV ⟨no, 6, 0, 0, 0, ⟨#[]⟩, upTo⟩) (.agg #[.int .i64 no, .int .i64 6, .int .i64 client, .int .i64 code, .int .i64 token, .string proof, .int .i64 upTo])).run Tryz.prog w = .ok () w := fun w x y => run_guard_req x y ⟨no, 6, 0, 0, 0, ⟨#[]⟩, upTo⟩ ⟨no, 6, client, code, token, proof, upTo⟩ w
 rw [HE.out]
 cases b0 : isB no 1 99 with
 | false =>
  go_enter Tryz.func151, Tryz.ntmps151
  go_wp2_with fail
  rw [← HE.out]
  refine (ofTick no client code token proof upTo _).mono ?_
  rintro e w1 ⟨rfl, hb1⟩
  have s1 := HS.out.keep hb1
  clear hb1
  obtain ⟨c0, c1, c2, c3, c4, c5, c6, bb⟩ := s1
  go_upto_region 2 with fail
  go_quiet (first | (go_at_call 128; refine Calls.quiet_of_same (upto_at b0)))
  go_wp2_with fail
  go_ret
  exact ⟨by simp, below_drewN bb _⟩
 | true =>
  cases b1 : (isB upTo 1 1000) with
  | false =>
   go_enter Tryz.func151, Tryz.ntmps151
   go_wp2_with fail
   rw [← HE.out]
   refine (ofTick no client code token proof upTo _).mono ?_
   rintro e w1 ⟨rfl, hb1⟩
   have s1 := HS.out.keep hb1
   clear hb1
   have s2 := s1.drew
   clear s1
   go_upto_region 2 with fail
   refine q_region (RQ7 w.heap.size ⟨no, 6, client, code, token, proof, upTo⟩ w) (by kernel_rfl) (by kernel_rfl) s2 ?_
   refine q_val (.bool true) (by rfl) (fun wx hx => by obtain ⟨c0, c1, c2, c3, c4, c5, c6, bb⟩ := hx; go_simp) ?_
   simp only [Act.put, List.setIfInBounds_toArray, List.set_cons_zero, List.set_cons_succ]
   refine q_val (.bool true) (by rfl) (fun wx hx => by obtain ⟨c0, c1, c2, c3, c4, c5, c6, bb⟩ := hx; go_simp) ?_
   simp only [Act.put, List.setIfInBounds_toArray, List.set_cons_zero, List.set_cons_succ]
   refine q_val (.pointer (some ⟨w.heap.size, 0, none⟩)) (by rfl) (fun wx hx => by obtain ⟨c0, c1, c2, c3, c4, c5, c6, bb⟩ := hx; go_simp) ?_
   simp only [Act.put, List.setIfInBounds_toArray, List.set_cons_zero, List.set_cons_succ]
   refine q_val (.int .i64 no) (by rfl) (fun wx hx => by obtain ⟨c0, c1, c2, c3, c4, c5, c6, bb⟩ := hx; go_simp) ?_
   simp only [Act.put, List.setIfInBounds_toArray, List.set_cons_zero, List.set_cons_succ]
   refine q_call 128 #[.int .i64 no, .int .i64 99] (.bool true) (by rfl) (fun wx hx => by go_simp) (fun wx hx => (upto_at b0).mono (by rintro e w' ⟨rfl, rfl⟩; exact ⟨rfl, hx⟩)) ?_
   simp only [Act.put, List.setIfInBounds_toArray, List.set_cons_zero, List.set_cons_succ]
   refine q_val (.bool true) (by rfl) (fun wx hx => by obtain ⟨c0, c1, c2, c3, c4, c5, c6, bb⟩ := hx; go_simp) ?_
   simp only [Act.put, List.setIfInBounds_toArray, List.set_cons_zero, List.set_cons_succ]
   refine q_val (.bool true) (by rfl) (fun wx hx => by obtain ⟨c0, c1, c2, c3, c4, c5, c6, bb⟩ := hx; go_simp) ?_
   simp only [Act.put, List.setIfInBounds_toArray, List.set_cons_zero, List.set_cons_succ]
   refine q_val (.iface 297 (.agg #[.int .i64 upTo])) (by rfl) (fun wx hx => by obtain ⟨c0, c1, c2, c3, c4, c5, c6, bb⟩ := hx; go_simp) ?_
   simp only [Act.put, List.setIfInBounds_toArray, List.set_cons_zero, List.set_cons_succ]
   refine q_call 272 #[.agg #[.int .i64 upTo]] (.bool false) (by rfl) (fun wx hx => by go_simp; go_invoke; go_simp; all_goals kernel_rfl) (fun wx hx => (tickIn _ _).mono (by rw [b1]; rintro e w' ⟨rfl, hb2⟩; exact ⟨rfl, hx.keep hb2⟩)) ?_
   simp only [Act.put, List.setIfInBounds_toArray, List.set_cons_zero, List.set_cons_succ]
   refine q_val (.bool false) (by rfl) (fun wx hx => by obtain ⟨c0, c1, c2, c3, c4, c5, c6, bb⟩ := hx; go_simp) ?_
   simp only [Act.put, List.setIfInBounds_toArray, List.set_cons_zero, List.set_cons_succ]
   refine q_val (.bool false) (by rfl) (fun wx hx => by obtain ⟨c0, c1, c2, c3, c4, c5, c6, bb⟩ := hx; go_simp) ?_
   simp only [Act.put, List.setIfInBounds_toArray, List.set_cons_zero, List.set_cons_succ]
   refine q_skip (by rfl) ?_
   simp only [Act.put, List.setIfInBounds_toArray, List.set_cons_zero, List.set_cons_succ]
   refine q_skip (by rfl) ?_
   simp only [Act.put, List.setIfInBounds_toArray, List.set_cons_zero, List.set_cons_succ]
   refine q_skip (by rfl) ?_
   simp only [Act.put, List.setIfInBounds_toArray, List.set_cons_zero, List.set_cons_succ]
   refine q_skip (by rfl) ?_
   simp only [Act.put, List.setIfInBounds_toArray, List.set_cons_zero, List.set_cons_succ]
   refine q_skip (by rfl) ?_
   simp only [Act.put, List.setIfInBounds_toArray, List.set_cons_zero, List.set_cons_succ]
   refine q_skip (by rfl) ?_
   simp only [Act.put, List.setIfInBounds_toArray, List.set_cons_zero, List.set_cons_succ]
   refine q_val (.bool false) (by rfl) (fun wx hx => by obtain ⟨c0, c1, c2, c3, c4, c5, c6, bb⟩ := hx; go_simp) ?_
   simp only [Act.put, List.setIfInBounds_toArray, List.set_cons_zero, List.set_cons_succ]
   refine q_val (.bool false) (by rfl) (fun wx hx => by obtain ⟨c0, c1, c2, c3, c4, c5, c6, bb⟩ := hx; go_simp) ?_
   simp only [Act.put, List.setIfInBounds_toArray, List.set_cons_zero, List.set_cons_succ]
   refine wpQuiet_nil ?_
   intro w2 s3
   go_wp2_with fail
   go_ret
   exact ⟨by simp, s3.2.2.2.2.2.2.2⟩
  | true =>
   go_enter Tryz.func151, Tryz.ntmps151
   go_wp2_with fail
   rw [← HE.out]
   refine (ofTick no client code token proof upTo _).mono ?_
   rintro e w1 ⟨rfl, hb1⟩
   have s1 := HS.out.keep hb1
   clear hb1
   go_upto_region 2 with fail
   go_region_held3 (fun w' => w'.cell? ⟨w.heap.size, 0, none⟩ = some (.int .i64 no) ∧ w'.cell? ⟨w.heap.size, 1, none⟩ = some (.int .i64 6) ∧ w'.cell? ⟨w.heap.size, 2, none⟩ = some (.int .i64 client) ∧ w'.cell? ⟨w.heap.size, 3, none⟩ = some (.int .i64 code) ∧ w'.cell? ⟨w.heap.size, 4, none⟩ = some (.int .i64 token) ∧ w'.cell? ⟨w.heap.size, 5, none⟩ = some (.string proof) ∧ w'.cell? ⟨w.heap.size, 6, none⟩ = some (.int .i64 upTo) ∧ Below w.heap.size w w')
    (first | exact s1.drew | exact q | go_keep)
    (first
     | (go_at_call 128; refine (upto_at b0).mono ?_; rintro e w' ⟨rfl, rfl⟩)
     | (go_at_call 190; refine (reqTick no client code token proof upTo _).mono ?_; rintro e w' ⟨rfl, hb2⟩; have q := RQ7.keep (r := ⟨no, 6, client, code, token, proof, upTo⟩) (g := w.heap.size) (by assumption) hb2)
     | (go_at_call 272; refine (tickIn _ _).mono ?_; rw [b1]; rintro e w' ⟨rfl, hb2⟩; have q := RQ7.keep (r := ⟨no, 6, client, code, token, proof, upTo⟩) (g := w.heap.size) (by assumption) hb2))
   all_goals go_wp2_with fail
   all_goals go_ret
   all_goals exact ⟨by simp [], by first | exact q.2.2.2.2.2.2.2 | exact s1.drew.2.2.2.2.2.2.2⟩
end Go.Proofs.YtjccnjfdeedneaaGreat
