/- ReqRight: the program answers as the model. -/
import Derived.Test.YtjccnjfdeedneaaGreatSImp3
namespace Go.Proofs.YtjccnjfdeedneaaGreat
open Go Go.RowKit Go.Lib
set_option linter.unusedVariables false

theorem ofNone_right (no kind client code token : Int) (proof : ByteArray) (upTo : Int) (w : World) (h1 : (kind == 1) = false) (h2 : (kind == 2) = false) (h3 : (kind == 3) = false) (h4 : (kind == 4) = false) (h5 : (kind == 5) = false) (h6 : (kind == 6) = false) :
  Calls Tryz.prog 151 #[rqV ⟨no, kind, client, code, token, proof, upTo⟩] w (Ret (.bool false) w) := by
 have HS := Lib.hid (RQ7.start ⟨no, kind, client, code, token, proof, upTo⟩ w 143)
 have HE := Lib.hid (show rqV ⟨no, kind, client, code, token, proof, upTo⟩ = .agg #[.int .i64 no, .int .i64 kind, .int .i64 client, .int .i64 code, .int .i64 token, .string proof, .int .i64 upTo] from rfl)
 rw [HE.out]
 go_enter Tryz.func151, Tryz.ntmps151
 go_wp2_with fail
 rw [← HE.out]
 refine (ofNone no kind client code token proof upTo _ h1 h2 h3 h4 h5 h6).mono ?_
 rintro e w1 ⟨rfl, hb1⟩
 obtain ⟨c0, c1, c2, c3, c4, c5, c6, bb⟩ := HS.out.keep hb1
 clear hb1
 go_upto_region 2 with fail
 go_quiet (fail)
 go_wp2_with fail
 go_ret
 exact ⟨rfl, below_drewN bb _⟩

theorem list_empty (t : ByteArray) : t.toList.isEmpty = ((⟨#[]⟩ : ByteArray).toList == t.toList) := by
 rw [ByteArray.toList_eq, ByteArray.toList_eq]
 cases t.data.toList with
 | nil => rfl
 | cons a l => rfl
theorem int_beq_comm (a b : Int) : (a == b) = (b == a) := by
 by_cases h : a = b
 ·subst h; rfl
 ·rw [beq_eq_false_iff_ne.2 h, beq_eq_false_iff_ne.2 (Ne.symm h)]
theorem one_to_six (k : Int) : isB k 1 6 = false ∨ k = 1 ∨ k = 2 ∨ k = 3 ∨ k = 4 ∨ k = 5 ∨ k = 6 := by
 by_cases h : 1 ≤ k ∧ k ≤ 6
 ·omega
 ·left
  unfold isB
  by_cases h1 : 1 ≤ k
  ·rw [decide_eq_false (p := k ≤ 6) (by omega), Bool.and_false]
  ·rw [decide_eq_false h1, Bool.false_and]
theorem rightB_none {no kind client code token : Int} {proof : ByteArray} {upTo : Int} (h : isB kind 1 6 = false) : rightB ⟨no, kind, client, code, token, proof, upTo⟩ = false := by simp [rightB, h]

theorem has_all (k : Int) : (hasB (takesS k) 99, hasB (takesS k) 100, hasB (takesS k) 116, hasB (takesS k) 98, hasB (takesS k) 112) = 
  if k = 1 then (true, false, false, false, true) else if k = 2 then (true, true, false, false, true) else if k = 3 ∨ k = 4 ∨ k = 5 then (true, false, true, false, false) else (false, false, false, true, false) := by
 unfold takesS
 split
 ·decide
 ·split
  ·decide
  ·split <;> decide
theorem right_k (r : RQ) {k : Int} {c d t b p : Bool} (hk : r.kind = k) (hs : isB k 1 6 = true) (h : (hasB (takesS k) 99, hasB (takesS k) 100, hasB (takesS k) 116, hasB (takesS k) 98, hasB (takesS k) 112) = (c, d, t, b, p)) :
  rightB r = (isB r.no 1 99 && (numB c r.client 3 && numB d r.code 99 && numB t r.token 999 && numB b r.upTo 1000 && if p then proofB r.proof else r.proof.toList.isEmpty)) := by
 simp only [Prod.mk.injEq] at h
 obtain ⟨rfl, rfl, rfl, rfl, rfl⟩ := h
 subst hk
 rw [rightB, hs, Bool.and_true]

theorem right1 (no client code token : Int) (proof : ByteArray) (upTo : Int) : rightB ⟨no, 1, client, code, token, proof, upTo⟩ = (isB no 1 99 && (isB client 1 3 && proofB proof) && eqB ⟨no, 1, client, 0, 0, proof, 0⟩ ⟨no, 1, client, code, token, proof, upTo⟩) := by
 rw [right_k _ rfl rfl (has_all 1)]
 simp only [numB, eqB, list_empty, beq_self_eq_true, Bool.true_and, if_true, Bool.false_eq_true, if_false]
 rw [int_beq_comm code 0, int_beq_comm token 0, int_beq_comm upTo 0]
 generalize isB no 1 99 = x0
 generalize isB client 1 3 = x1
 generalize proofB proof = x2
 generalize ((0 : Int) == code) = x3
 generalize ((0 : Int) == token) = x4
 generalize ((0 : Int) == upTo) = x5
 revert x0 x1 x2 x3 x4 x5
 decide
theorem right2 (no client code token : Int) (proof : ByteArray) (upTo : Int) : rightB ⟨no, 2, client, code, token, proof, upTo⟩ = (isB no 1 99 && (isB client 1 3 && isB code 1 99 && proofB proof) && eqB ⟨no, 2, client, code, 0, proof, 0⟩ ⟨no, 2, client, code, token, proof, upTo⟩) := by
 rw [right_k _ rfl rfl (has_all 2)]
 simp only [numB, eqB, list_empty, beq_self_eq_true, Bool.true_and, if_true, Bool.false_eq_true, if_false]
 rw [int_beq_comm token 0, int_beq_comm upTo 0]
 generalize isB no 1 99 = x0
 generalize isB client 1 3 = x1
 generalize isB code 1 99 = x2
 generalize proofB proof = x3
 generalize ((0 : Int) == token) = x4
 generalize ((0 : Int) == upTo) = x5
 revert x0 x1 x2 x3 x4 x5
 decide
theorem right3 (no client code token : Int) (proof : ByteArray) (upTo : Int) : rightB ⟨no, 3, client, code, token, proof, upTo⟩ = (isB no 1 99 && (isB client 1 3 && isB token 1 999) && eqB ⟨no, 3, client, 0, token, ⟨#[]⟩, 0⟩ ⟨no, 3, client, code, token, proof, upTo⟩) := by
 rw [right_k _ rfl rfl (has_all 3)]
 simp only [numB, eqB, list_empty, beq_self_eq_true, Bool.true_and, if_true, Bool.false_eq_true, if_false]
 rw [int_beq_comm code 0, int_beq_comm upTo 0]
 generalize isB no 1 99 = x0
 generalize isB client 1 3 = x1
 generalize isB token 1 999 = x2
 generalize ((0 : Int) == code) = x3
 generalize ((⟨#[]⟩ : ByteArray).toList == proof.toList) = x4
 generalize ((0 : Int) == upTo) = x5
 revert x0 x1 x2 x3 x4 x5
 decide
theorem right4 (no client code token : Int) (proof : ByteArray) (upTo : Int) : rightB ⟨no, 4, client, code, token, proof, upTo⟩ = (isB no 1 99 && (isB client 1 3 && isB token 1 999) && eqB ⟨no, 4, client, 0, token, ⟨#[]⟩, 0⟩ ⟨no, 4, client, code, token, proof, upTo⟩) := by
 rw [right_k _ rfl rfl (has_all 4)]
 simp only [numB, eqB, list_empty, beq_self_eq_true, Bool.true_and, if_true, Bool.false_eq_true, if_false]
 rw [int_beq_comm code 0, int_beq_comm upTo 0]
 generalize isB no 1 99 = x0
 generalize isB client 1 3 = x1
 generalize isB token 1 999 = x2
 generalize ((0 : Int) == code) = x3
 generalize ((⟨#[]⟩ : ByteArray).toList == proof.toList) = x4
 generalize ((0 : Int) == upTo) = x5
 revert x0 x1 x2 x3 x4 x5
 decide
theorem right5 (no client code token : Int) (proof : ByteArray) (upTo : Int) : rightB ⟨no, 5, client, code, token, proof, upTo⟩ = (isB no 1 99 && (isB client 1 3 && isB token 1 999) && eqB ⟨no, 5, client, 0, token, ⟨#[]⟩, 0⟩ ⟨no, 5, client, code, token, proof, upTo⟩) := by
 rw [right_k _ rfl rfl (has_all 5)]
 simp only [numB, eqB, list_empty, beq_self_eq_true, Bool.true_and, if_true, Bool.false_eq_true, if_false]
 rw [int_beq_comm code 0, int_beq_comm upTo 0]
 generalize isB no 1 99 = x0
 generalize isB client 1 3 = x1
 generalize isB token 1 999 = x2
 generalize ((0 : Int) == code) = x3
 generalize ((⟨#[]⟩ : ByteArray).toList == proof.toList) = x4
 generalize ((0 : Int) == upTo) = x5
 revert x0 x1 x2 x3 x4 x5
 decide
theorem right6 (no client code token : Int) (proof : ByteArray) (upTo : Int) : rightB ⟨no, 6, client, code, token, proof, upTo⟩ = (isB no 1 99 && (isB upTo 1 1000) && eqB ⟨no, 6, 0, 0, 0, ⟨#[]⟩, upTo⟩ ⟨no, 6, client, code, token, proof, upTo⟩) := by
 rw [right_k _ rfl rfl (has_all 6)]
 simp only [numB, eqB, list_empty, beq_self_eq_true, Bool.true_and, if_true, Bool.false_eq_true, if_false]
 rw [int_beq_comm client 0, int_beq_comm code 0, int_beq_comm token 0]
 generalize isB no 1 99 = x0
 generalize isB upTo 1 1000 = x1
 generalize ((0 : Int) == client) = x2
 generalize ((0 : Int) == code) = x3
 generalize ((0 : Int) == token) = x4
 generalize ((⟨#[]⟩ : ByteArray).toList == proof.toList) = x5
 revert x0 x1 x2 x3 x4 x5
 decide
theorem right_impl (r : RQ) (w : World) (hp : r.proof.size ≤ maxLen) : Calls Tryz.prog 151 #[rqV r] w (Ret (.bool (rightB r)) w) := by
 obtain ⟨no, kind, client, code, token, proof, upTo⟩ := r
 simp only at hp
 rcases one_to_six kind with h | rfl | rfl | rfl | rfl | rfl | rfl
 ·rw [rightB_none h]
  have hne : ∀ j : Int, 1 ≤ j → j ≤ 6 → (kind == j) = false := fun j h1 h2 => beq_eq_false_iff_ne.2 fun e => by
   subst e
   unfold isB at h
   rw [decide_eq_true h1, decide_eq_true h2] at h
   cases h
  exact ofNone_right _ _ _ _ _ _ _ _ (hne 1 (by omega) (by omega)) (hne 2 (by omega) (by omega)) (hne 3 (by omega) (by omega)) (hne 4 (by omega) (by omega)) (hne 5 (by omega) (by omega)) (hne 6 (by omega) (by omega))
 ·rw [right1]
  exact rightIssue no client code token proof upTo w hp
 ·rw [right2]
  exact rightRedeem no client code token proof upTo w hp
 ·rw [right3]
  exact rightRefresh no client code token proof upTo w hp
 ·rw [right4]
  exact rightRevoke no client code token proof upTo w hp
 ·rw [right5]
  exact rightAsk no client code token proof upTo w hp
 ·rw [right6]
  exact rightTick no client code token proof upTo w hp
end Go.Proofs.YtjccnjfdeedneaaGreat
