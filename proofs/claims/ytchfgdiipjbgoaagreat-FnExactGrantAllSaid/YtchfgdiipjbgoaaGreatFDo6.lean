/- A ledger: what a right request asks for is done. -/
import Derived.Test.YtchfgdiipjbgoaaGreatFDo5
import Derived.Test.YtchfgdiipjbgoaaGreatFGdE
namespace Go.Proofs.YtchfgdiipjbgoaaGreat
open Go Go.RowKit Go.Lib
set_option linter.unusedVariables false
set_option maxRecDepth 100000

set_option maxHeartbeats 4000000 in
theorem serve_any (lb mw mk B : Nat) (g : Gr) (r : RQ) (w : World) (hl : LedAt w B lb mw mk g) (hg : grantB g = true) (hr : rightB r = true) :
  Calls Tryz.prog 82 #[.pointer (some ⟨lb, 0, none⟩), rqV r] w (LedOut2 B lb mw mk (doD g r).1 (doD g r).2 w) := by
 obtain ⟨⟨t0, t1⟩, hw20, hk40, hws, hks, hds⟩ := gr_facts hg
 obtain ⟨⟨n0, n1⟩, ⟨k0, k1⟩, _, ⟨d0, d1⟩, ⟨e0, e1⟩, ⟨b0, b1⟩, hps⟩ := rq_facts hr
 have HDd : Hid (findW g.words r.no = none → isDeadB g.dead r.no = false) := Lib.hid (fun h => dead_no hds h)
 have HR := Lib.hid hr
 clear hks hds hr hws
 obtain ⟨now, words, keys, dead⟩ := g
 obtain ⟨no, kind, client, code, token, proof, by_⟩ := r
 simp only at t0 t1 hw20 hk40 n0 n1 k0 k1 d0 d1 e0 e1 b0 b1 hps
 have hs := SIn.start ⟨no, kind, client, code, token, proof, by_⟩ (codeR 0) hl
 simp only [codeR] at hs
 have HG := Lib.hid hg
 have hsf := run_store_float
 have HWc := Lib.hid (wf_small (n := code) (by omega) (by omega))
 have HWt := Lib.hid (wf_small (n := token) (by omega) (by omega))
 clear hl hg
 have hkk : kind = 1 ∨ kind = 2 ∨ kind = 3 ∨ kind = 4 ∨ kind = 5 ∨ kind = 6 := by omega
 clear k0 k1
 have HS := Lib.hid hs
 clear hs
 rcases hkk with rfl | rfl | rfl | rfl | rfl | rfl
 ·have HV := Lib.hid (show rqV ⟨no, 1, client, code, token, proof, by_⟩ = .agg #[.int .i64 no, .int .i64 1, .int .i64 client, .int .i64 code, .int .i64 token, .string proof, .int .i64 by_] from rfl)
  rw [HV.out]
  go_enter Tryz.func82, Tryz.ntmps82
  go_wp2_with fail
  rw [← HV.out]
  refine (issue_any lb mw mk B ⟨now, words, keys, dead⟩ ⟨no, 1, client, code, token, proof, by_⟩ _ HS.out.led n0 n1 t0 t1 (by show words.length ≤ _; omega) HDd.out).mono ?_
  rintro e w1 ⟨rfl, hl1, hk1⟩
  have HS1 := Lib.hid (HS.out.step hl1 hk1)
  clear hl1 hk1 HS
  obtain ⟨o, ho⟩ : ∃ o, o = (issueD ⟨now, words, keys, dead⟩ ⟨no, 1, client, code, token, proof, by_⟩).2 := ⟨_, rfl⟩
  have HE := Lib.hid (show doD ⟨now, words, keys, dead⟩ ⟨no, 1, client, code, token, proof, by_⟩ = ((issueD ⟨now, words, keys, dead⟩ ⟨no, 1, client, code, token, proof, by_⟩).1, o) by rw [ho]; rfl)
  rw [← ho]
  clear ho
  go_wp2_with (refine wpList_store_mid rfl 33 (.tmp 4) (.tmp 13) rfl (w.heap.size + 1) 0 #[.int .i64 o.code, .int .i64 o.token, .int .i64 o.next, .bool o.yes] rfl rfl ?hh sizeResp (oneResp o) ?_)
  case hh => exact HS1.out.there
  refine bodyPost_ret (ret_resp rfl rfl (HS1.out.put o).resp) rfl ?_
  rw [HE.out]
  exact (HS1.out.put o).told
 ·have HV := Lib.hid (show rqV ⟨no, 2, client, code, token, proof, by_⟩ = .agg #[.int .i64 no, .int .i64 2, .int .i64 client, .int .i64 code, .int .i64 token, .string proof, .int .i64 by_] from rfl)
  rw [HV.out]
  go_enter Tryz.func82, Tryz.ntmps82
  go_wp2_with fail
  rw [← HV.out]
  refine (redeem_any lb mw mk B ⟨now, words, keys, dead⟩ ⟨no, 2, client, code, token, proof, by_⟩ _ HS.out.led HG.out HWc.out n0 n1 (by show proof.size ≤ 40; omega)).mono ?_
  rintro e w1 ⟨rfl, hl1, hk1⟩
  have HS1 := Lib.hid (HS.out.step hl1 hk1)
  clear hl1 hk1 HS
  obtain ⟨o, ho⟩ : ∃ o, o = (redeemD ⟨now, words, keys, dead⟩ ⟨no, 2, client, code, token, proof, by_⟩).2 := ⟨_, rfl⟩
  have HE := Lib.hid (show doD ⟨now, words, keys, dead⟩ ⟨no, 2, client, code, token, proof, by_⟩ = ((redeemD ⟨now, words, keys, dead⟩ ⟨no, 2, client, code, token, proof, by_⟩).1, o) by rw [ho]; rfl)
  rw [← ho]
  clear ho
  go_wp2_with (refine wpList_store_mid rfl 33 (.tmp 4) (.tmp 18) rfl (w.heap.size + 1) 0 #[.int .i64 o.code, .int .i64 o.token, .int .i64 o.next, .bool o.yes] rfl rfl ?hh sizeResp (oneResp o) ?_)
  case hh => exact HS1.out.there
  refine bodyPost_ret (ret_resp rfl rfl (HS1.out.put o).resp) rfl ?_
  rw [HE.out]
  exact (HS1.out.put o).told
 ·have HV := Lib.hid (show rqV ⟨no, 3, client, code, token, proof, by_⟩ = .agg #[.int .i64 no, .int .i64 3, .int .i64 client, .int .i64 code, .int .i64 token, .string proof, .int .i64 by_] from rfl)
  rw [HV.out]
  go_enter Tryz.func82, Tryz.ntmps82
  go_wp2_with fail
  rw [← HV.out]
  refine (refresh_any lb mw mk B ⟨now, words, keys, dead⟩ ⟨no, 3, client, code, token, proof, by_⟩ _ HS.out.led HG.out HWt.out n0 n1).mono ?_
  rintro e w1 ⟨rfl, hl1, hk1⟩
  have HS1 := Lib.hid (HS.out.step hl1 hk1)
  clear hl1 hk1 HS
  obtain ⟨o, ho⟩ : ∃ o, o = (refreshD ⟨now, words, keys, dead⟩ ⟨no, 3, client, code, token, proof, by_⟩).2 := ⟨_, rfl⟩
  have HE := Lib.hid (show doD ⟨now, words, keys, dead⟩ ⟨no, 3, client, code, token, proof, by_⟩ = ((refreshD ⟨now, words, keys, dead⟩ ⟨no, 3, client, code, token, proof, by_⟩).1, o) by rw [ho]; rfl)
  rw [← ho]
  clear ho
  go_wp2_with (refine wpList_store_mid rfl 33 (.tmp 4) (.tmp 23) rfl (w.heap.size + 1) 0 #[.int .i64 o.code, .int .i64 o.token, .int .i64 o.next, .bool o.yes] rfl rfl ?hh sizeResp (oneResp o) ?_)
  case hh => exact HS1.out.there
  refine bodyPost_ret (ret_resp rfl rfl (HS1.out.put o).resp) rfl ?_
  rw [HE.out]
  exact (HS1.out.put o).told
 ·have HV := Lib.hid (show rqV ⟨no, 4, client, code, token, proof, by_⟩ = .agg #[.int .i64 no, .int .i64 4, .int .i64 client, .int .i64 code, .int .i64 token, .string proof, .int .i64 by_] from rfl)
  rw [HV.out]
  go_enter Tryz.func82, Tryz.ntmps82
  go_wp2_with fail
  rw [← HV.out]
  refine (revoke_any lb mw mk B ⟨now, words, keys, dead⟩ ⟨no, 4, client, code, token, proof, by_⟩ _ HS.out.led HG.out HWt.out).mono ?_
  rintro e w1 ⟨rfl, hl1, hk1⟩
  have HS1 := Lib.hid (HS.out.step hl1 hk1)
  clear hl1 hk1 HS
  obtain ⟨o, ho⟩ : ∃ o, o = (revokeD ⟨now, words, keys, dead⟩ ⟨no, 4, client, code, token, proof, by_⟩).2 := ⟨_, rfl⟩
  have HE := Lib.hid (show doD ⟨now, words, keys, dead⟩ ⟨no, 4, client, code, token, proof, by_⟩ = ((revokeD ⟨now, words, keys, dead⟩ ⟨no, 4, client, code, token, proof, by_⟩).1, o) by rw [ho]; rfl)
  rw [← ho]
  clear ho
  go_wp2_with (refine wpList_store_mid rfl 33 (.tmp 4) (.tmp 28) rfl (w.heap.size + 1) 0 #[.int .i64 o.code, .int .i64 o.token, .int .i64 o.next, .bool o.yes] rfl rfl ?hh sizeResp (oneResp o) ?_)
  case hh => exact HS1.out.there
  refine bodyPost_ret (ret_resp rfl rfl (HS1.out.put o).resp) rfl ?_
  rw [HE.out]
  exact (HS1.out.put o).told
 ·have HV := Lib.hid (show rqV ⟨no, 5, client, code, token, proof, by_⟩ = .agg #[.int .i64 no, .int .i64 5, .int .i64 client, .int .i64 code, .int .i64 token, .string proof, .int .i64 by_] from rfl)
  rw [HV.out]
  cases hkf : keyFor keys token client with
  | none =>
   have HE := Lib.hid (show doD ⟨now, words, keys, dead⟩ ⟨no, 5, client, code, token, proof, by_⟩ = (⟨now, words, keys, dead⟩, ⟨0, 0, 0, false⟩) by simp [doD, askD, hkf])
   have HF := Lib.hid hkf
   clear hkf
   go_enter Tryz.func82, Tryz.ntmps82
   go_wp2_with fail
   refine (keyOf_none HS.out.led HWt.out HF.out).mono ?_
   rintro e w2 ⟨rfl, hb2⟩
   have HS2 := Lib.hid ((HS.out.later hb2).later ((Below.refl w2.heap.size w2).alloc (Nat.le_refl _) (.cells #[.int .i64 0, .int .i64 0, .bool false, .float .f64 0, .int .i64 0] 132)))
   clear hb2 HS
   go_wp2_with (refine wpList_store_mid rfl 33 (.tmp 4) (.tmp 46) rfl (w.heap.size + 1) 0 #[.int .i64 0, .int .i64 0, .int .i64 0, .bool false] rfl rfl ?hh sizeResp (oneResp ⟨0, 0, 0, false⟩) ?_)
   case hh => exact HS2.out.there
   refine bodyPost_ret (ret_resp rfl rfl (HS2.out.put ⟨0, 0, 0, false⟩).resp) rfl ?_
   rw [HE.out]
   exact (HS2.out.put ⟨0, 0, 0, false⟩).told
  | some x =>
   obtain ⟨hfk, hcl, ⟨l0, l1⟩, y, hy, hwy⟩ := key_facts HG.out hkf
   clear hcl hfk
   obtain ⟨b, hb⟩ : ∃ b, keyOpenB now dead x = b := ⟨_, rfl⟩
   have HE := Lib.hid (show doD ⟨now, words, keys, dead⟩ ⟨no, 5, client, code, token, proof, by_⟩ = (⟨now, words, keys, dead⟩, ⟨0, 0, 0, b⟩) by simp [doD, askD, hkf, hb])
   have HF := Lib.hid hkf
   have HY := Lib.hid hy
   have HWy := Lib.hid hwy
   have HO := Lib.hid hb
   clear hkf hy hwy hb
   go_enter Tryz.func82, Tryz.ntmps82
   go_wp2_with fail
   refine (keyOf_some HS.out.led HWt.out HF.out).mono ?_
   rintro e w2 ⟨rfl, hb2⟩
   have HS2 := Lib.hid ((HS.out.later hb2).later ((Below.refl w2.heap.size w2).alloc (Nat.le_refl _) (.cells #[.int .i64 x.client, .int .i64 x.fam, .bool x.refresh, .float .f64 (floatOfInt .f64 x.till), .int .i64 x.state] 132)))
   clear hb2 HS
   go_wp2_with fail
   refine (opens_of HS2.out.led HY.out HWy.out t0 t1 l0 l1 HO.out).mono ?_
   rintro e w3 ⟨rfl, hb3⟩
   have HS3 := Lib.hid (HS2.out.later hb3)
   clear hb3 HS2
   go_wp2_with (refine wpList_store_mid rfl 33 (.tmp 4) (.tmp 46) rfl (w.heap.size + 1) 0 #[.int .i64 0, .int .i64 0, .int .i64 0, .bool b] rfl rfl ?hh sizeResp (oneResp ⟨0, 0, 0, b⟩) ?_)
   case hh => exact HS3.out.there
   refine bodyPost_ret (ret_resp rfl rfl (HS3.out.put ⟨0, 0, 0, b⟩).resp) rfl ?_
   rw [HE.out]
   exact (HS3.out.put ⟨0, 0, 0, b⟩).told
 ·have HV := Lib.hid (show rqV ⟨no, 6, client, code, token, proof, by_⟩ = .agg #[.int .i64 no, .int .i64 6, .int .i64 client, .int .i64 code, .int .i64 token, .string proof, .int .i64 by_] from rfl)
  have HE := Lib.hid (show doD ⟨now, words, keys, dead⟩ ⟨no, 6, client, code, token, proof, by_⟩ = (⟨upT (now + by_), words, keys, dead⟩, codeR 0) from rfl)
  have hup : now ≤ upT (now + by_) := by unfold upT; split <;> omega
  obtain ⟨n, hn⟩ : ∃ n, n = upT (now + by_) := ⟨_, rfl⟩
  rw [← hn] at HE hup
  have hlat : ∀ w', Calls Tryz.prog 158 #[.float .f64 (floatOfInt .f64 now), .int .i64 by_] w' fun e w'' => e = .returned (.float .f64 (floatOfInt .f64 n)) ∧ w'' = w' := fun w' => by rw [hn]; exact later_any now by_ w' t0 t1 b0 b1
  have HLa := Lib.hid hlat
  have HUp := Lib.hid hup
  clear hlat hup hn
  obtain ⟨W, hW⟩ : ∃ W, W = ((w.alloc (.cells #[.int .i64 no, .int .i64 6, .int .i64 client, .int .i64 code, .int .i64 token, .string proof, .int .i64 by_] 29)).alloc (.cells #[.int .i64 0, .int .i64 0, .int .i64 0, .bool false] 33)) := ⟨_, rfl⟩
  rw [HV.out]
  go_enter Tryz.func82, Tryz.ntmps82
  go_wp2_with fail
  rw [← hW] at HS ⊢
  clear hW
  have c0 : W.cell? ⟨lb, 0, none⟩ = some (.float .f64 (floatOfInt .f64 now)) := HS.out.led.cells.1
  have q6 : W.cell? ⟨w.heap.size, 6, none⟩ = some (.int .i64 by_) := HS.out.req.cell 6
  have f0 : W.frozen? ⟨lb, 0, none⟩ = false := HS.out.led.free
  refine region_tail 10 (by kernel_rfl) (by kernel_rfl) ?_
  simp only [List.take_succ_cons, List.take_zero, List.drop_succ_cons, List.drop_zero]
  repeat still_step
  still_call (HLa.out _)
  repeat still_step
  refine wpStill_nil ?_
  have hl5 : LedAt (W.drew.setCell ⟨lb, 0, none⟩ (.float .f64 (floatOfInt .f64 n))) B lb mw mk ⟨n, words, keys, dead⟩ := (HS.out.led.later (Below.refl W.heap.size W).drew).ticked (n := n) HUp.out rfl
  have HS5 := Lib.hid ((HS.out.later (Below.refl W.heap.size W).drew).step hl5 (Kept.setCell (a := ⟨lb, 0, none⟩) (Kept.refl _ _ _ _ _) _ (.inl rfl)))
  clear hl5 HS
  go_wp2_with (refine wpList_store_mid rfl 33 (.tmp 4) (.tmp 59) rfl (w.heap.size + 1) 0 #[.int .i64 0, .int .i64 0, .int .i64 0, .bool false] rfl rfl ?hh sizeResp (oneResp (codeR 0)) ?_)
  case hh => exact HS5.out.there
  refine bodyPost_ret (ret_resp rfl rfl (HS5.out.put (codeR 0)).resp) rfl ?_
  rw [HE.out]
  exact (HS5.out.put (codeR 0)).told
end Go.Proofs.YtchfgdiipjbgoaaGreat
