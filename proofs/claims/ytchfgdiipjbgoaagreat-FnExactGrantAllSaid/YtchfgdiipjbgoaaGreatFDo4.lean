/- A ledger: a key changed for two. -/
import Derived.Test.YtchfgdiipjbgoaaGreatFDoU
namespace Go.Proofs.YtchfgdiipjbgoaaGreat
open Go Go.RowKit Go.Lib
set_option linter.unusedVariables false
set_option maxRecDepth 100000

theorem room_at {lb mw mk B : Nat} {g : Gr} {r : RQ} {w : World} {c : Int} (hl : LedAt w B lb mw mk g) (n0 : 1 ≤ r.no) (n1 : r.no ≤ 99) (hlen : g.keys.length ≤ 40) (h : roomC g r = c) :
  Calls Tryz.prog 211 #[.pointer (some ⟨lb, 0, none⟩), rqV r] w (Ret (.int .i64 c) w) := by
 subst h
 exact room_any lb mw mk B g r w hl n0 n1 (by omega)
theorem opens_of {lb mw mk B : Nat} {g : Gr} {x : Ky} {y : Wd} {w : World} {b : Bool} (hl : LedAt w B lb mw mk g) (hy : findW g.words x.fam = some y) (hwf : (Lit.int .i64 x.fam).wf = true) (h0 : 0 ≤ g.now) (h1 : g.now ≤ 1000000) (t0 : 0 ≤ x.till) (t1 : x.till ≤ 1000000) (h : keyOpenB g.now g.dead x = b) :
  Calls Tryz.prog 91 #[.pointer (some ⟨lb, 0, none⟩), .agg #[.int .i64 x.client, .int .i64 x.fam, .bool x.refresh, .float .f64 (floatOfInt .f64 x.till), .int .i64 x.state]] w (Ret (.bool b) w) := by
 subst h
 exact opens_led lb mw mk B g x y w hl hy hwf h0 h1 t0 t1
set_option maxHeartbeats 4000000 in
theorem refresh_any (lb mw mk B : Nat) (g : Gr) (r : RQ) (w : World) (hl : LedAt w B lb mw mk g) (hg : grantB g = true) (hwf : (Lit.int .i64 r.token).wf = true) (n0 : 1 ≤ r.no) (n1 : r.no ≤ 99) :
  Calls Tryz.prog 156 #[.pointer (some ⟨lb, 0, none⟩), rqV r] w (LedOut2 B lb mw mk (refreshD g r).1 (refreshD g r).2 w) := by
 obtain ⟨⟨t0, t1⟩, hw20, hk40, hgr⟩ := gr_facts hg
 clear hgr
 obtain ⟨now, words, keys, dead⟩ := g
 obtain ⟨no, kind, client, code, token, proof, by_⟩ := r
 simp only at t0 t1 hw20 hk40 hwf n0 n1
 have HV := Lib.hid (show rqV ⟨no, kind, client, code, token, proof, by_⟩ = .agg #[.int .i64 no, .int .i64 kind, .int .i64 client, .int .i64 code, .int .i64 token, .string proof, .int .i64 by_] from rfl)
 have hs := SIn.start ⟨no, kind, client, code, token, proof, by_⟩ (codeR 0) hl
 simp only [codeR] at hs
 have HS := Lib.hid hs
 have HWf := Lib.hid hwf
 have HG := Lib.hid hg
 have hsf := run_store_float
 clear hs hl hwf hg
 obtain ⟨rc, hrc⟩ : ∃ rc, roomC ⟨now, words, keys, dead⟩ ⟨no, kind, client, code, token, proof, by_⟩ = rc := ⟨_, rfl⟩
 have HRc := Lib.hid hrc
 rw [HV.out]
 by_cases hz : rc = 0
 ·subst hz
  have HNo := Lib.hid (room_none hrc)
  clear hrc
  cases hkf : keyFor keys token client with
  | none =>
   have HE := Lib.hid (show refreshD ⟨now, words, keys, dead⟩ ⟨no, kind, client, code, token, proof, by_⟩ = (⟨now, words, keys, dead⟩, codeR 6) by simp [refreshD, hkf, HRc.out])
   have HF := Lib.hid hkf
   clear hkf
   go_enter Tryz.func156, Tryz.ntmps156
   go_wp2_with fail
   rw [← HV.out]
   refine (room_at HS.out.led n0 n1 hk40 HRc.out).mono ?_
   rintro e w1 ⟨rfl, hb1⟩
   have HS1 := Lib.hid (HS.out.later hb1)
   have q4 : w1.cell? ⟨w.heap.size, 4, none⟩ = some (.int .i64 token) := HS1.out.req.cell 4
   have q2 : w1.cell? ⟨w.heap.size, 2, none⟩ = some (.int .i64 client) := HS1.out.req.cell 2
   clear hb1 HS
   go_wp2_with fail
   refine (keyOf_none HS1.out.led HWf.out HF.out).mono ?_
   rintro e wq ⟨rfl, hbq⟩
   have HSq := Lib.hid (HS1.out.later hbq)
   clear hbq HS1 q4 q2
   go_wp2_with fail
   refine (forNext_any _ _ _ _ _ _ _).mono ?_
   rintro e w2 ⟨rfl, hb2⟩
   have HS2 := Lib.hid ((HSq.out.later hb2).later ((Below.refl w2.heap.size w2).alloc (Nat.le_refl _) (.cells #[.int .i64 0, .int .i64 0, .bool false, .float .f64 0, .int .i64 0] 132)))
   clear hb2 HSq
   go_wp2_with (refine wpList_store_mid rfl 33 (.tmp 4) (.tmp 29) rfl (w.heap.size + 1) 0 #[.int .i64 6, .int .i64 0, .int .i64 0, .bool false] rfl rfl ?hh sizeResp (oneResp (codeR 6)) ?_)
   case hh => exact HS2.out.there
   refine bodyPost_ret (ret_resp rfl rfl (HS2.out.put (codeR 6)).resp) rfl ?_
   rw [HE.out]
   exact (HS2.out.put (codeR 6)).told
  | some x =>
   obtain ⟨hfk, hcl, ⟨l0, l1⟩, y, hy, hwy⟩ := key_facts HG.out hkf
   clear hcl
   have HF := Lib.hid hkf
   have HY := Lib.hid hy
   have HWy := Lib.hid hwy
   have HFk := Lib.hid hfk
   clear hy hwy hfk
   cases hrf : x.refresh with
   | false =>
    have HE := Lib.hid (show refreshD ⟨now, words, keys, dead⟩ ⟨no, kind, client, code, token, proof, by_⟩ = (⟨now, words, keys, dead⟩, codeR 6) by simp [refreshD, hkf, HRc.out, hrf])
    clear hkf
    go_enter Tryz.func156, Tryz.ntmps156
    go_wp2_with fail
    rw [← HV.out]
    refine (room_at HS.out.led n0 n1 hk40 HRc.out).mono ?_
    rintro e w1 ⟨rfl, hb1⟩
    have HS1 := Lib.hid (HS.out.later hb1)
    have q4 : w1.cell? ⟨w.heap.size, 4, none⟩ = some (.int .i64 token) := HS1.out.req.cell 4
    have q2 : w1.cell? ⟨w.heap.size, 2, none⟩ = some (.int .i64 client) := HS1.out.req.cell 2
    clear hb1 HS
    go_wp2_with fail
    refine (keyOf_some HS1.out.led HWf.out HF.out).mono ?_
    rintro e wq ⟨rfl, hbq⟩
    have HSq := Lib.hid (HS1.out.later hbq)
    clear hbq HS1 q4 q2
    go_wp2_with fail
    refine (forNext_any _ _ _ _ _ _ _).mono ?_
    rintro e w2 ⟨rfl, hb2⟩
    have HS2 := Lib.hid ((HSq.out.later hb2).later ((Below.refl w2.heap.size w2).alloc (Nat.le_refl _) (.cells #[.int .i64 x.client, .int .i64 x.fam, .bool false, .float .f64 (floatOfInt .f64 x.till), .int .i64 x.state] 132)))
    clear hb2 HSq
    go_wp2_with (refine wpList_store_mid rfl 33 (.tmp 4) (.tmp 29) rfl (w.heap.size + 1) 0 #[.int .i64 6, .int .i64 0, .int .i64 0, .bool false] rfl rfl ?hh sizeResp (oneResp (codeR 6)) ?_)
    case hh => exact HS2.out.there
    refine bodyPost_ret (ret_resp rfl rfl (HS2.out.put (codeR 6)).resp) rfl ?_
    rw [HE.out]
    exact (HS2.out.put (codeR 6)).told
   | true =>
    cases hst : (x.state == 1) with
    | true =>
     have HE := Lib.hid (show refreshD ⟨now, words, keys, dead⟩ ⟨no, kind, client, code, token, proof, by_⟩ = (killG ⟨now, words, keys, dead⟩ x.fam, codeR 10) by
      have : x.state = 1 := by simpa using hst
      simp [refreshD, hkf, HRc.out, hrf, this])
     clear hkf
     go_enter Tryz.func156, Tryz.ntmps156
     go_wp2_with fail
     rw [← HV.out]
     refine (room_at HS.out.led n0 n1 hk40 HRc.out).mono ?_
     rintro e w1 ⟨rfl, hb1⟩
     have HS1 := Lib.hid (HS.out.later hb1)
     have q4 : w1.cell? ⟨w.heap.size, 4, none⟩ = some (.int .i64 token) := HS1.out.req.cell 4
     have q2 : w1.cell? ⟨w.heap.size, 2, none⟩ = some (.int .i64 client) := HS1.out.req.cell 2
     clear hb1 HS
     go_wp2_with fail
     refine (keyOf_some HS1.out.led HWf.out HF.out).mono ?_
     rintro e wq ⟨rfl, hbq⟩
     have HSq := Lib.hid (HS1.out.later hbq)
     clear hbq HS1 q4 q2
     go_wp2_with fail
     refine (forNext_any _ _ _ _ _ _ _).mono ?_
     rintro e w2 ⟨rfl, hb2⟩
     have HS2 := Lib.hid ((HSq.out.later hb2).later ((Below.refl w2.heap.size w2).alloc (Nat.le_refl _) (.cells #[.int .i64 x.client, .int .i64 x.fam, .bool true, .float .f64 (floatOfInt .f64 x.till), .int .i64 x.state] 132)))
     clear hb2 HSq
     go_wp2_with fail
     refine (kill_kept lb mw mk B ⟨now, words, keys, dead⟩ x.fam y _ HS2.out.led HY.out HWy.out t0 (by show words.length ≤ _; omega)).mono ?_
     rintro e w3 ⟨rfl, hl3, hk3⟩
     have HS3 := Lib.hid (HS2.out.step hl3 hk3)
     clear hl3 hk3 HS2
     go_wp2_with (refine wpList_store_mid rfl 33 (.tmp 4) (.tmp 37) rfl (w.heap.size + 1) 0 #[.int .i64 10, .int .i64 0, .int .i64 0, .bool false] rfl rfl ?hh sizeResp (oneResp (codeR 10)) ?_)
     case hh => exact HS3.out.there
     refine bodyPost_ret (ret_resp rfl rfl (HS3.out.put (codeR 10)).resp) rfl ?_
     rw [HE.out]
     exact (HS3.out.put (codeR 10)).told
    | false =>
     cases hop : keyOpenB now dead x with
     | false =>
      have HE := Lib.hid (show refreshD ⟨now, words, keys, dead⟩ ⟨no, kind, client, code, token, proof, by_⟩ = (⟨now, words, keys, dead⟩, codeR 8) by
       simp only [refreshD, hkf, HRc.out, hrf, hst, hop]; rfl)
      have HO := Lib.hid hop
      clear hkf hop
      go_enter Tryz.func156, Tryz.ntmps156
      go_wp2_with fail
      rw [← HV.out]
      refine (room_at HS.out.led n0 n1 hk40 HRc.out).mono ?_
      rintro e w1 ⟨rfl, hb1⟩
      have HS1 := Lib.hid (HS.out.later hb1)
      have q4 : w1.cell? ⟨w.heap.size, 4, none⟩ = some (.int .i64 token) := HS1.out.req.cell 4
      have q2 : w1.cell? ⟨w.heap.size, 2, none⟩ = some (.int .i64 client) := HS1.out.req.cell 2
      clear hb1 HS
      go_wp2_with fail
      refine (keyOf_some HS1.out.led HWf.out HF.out).mono ?_
      rintro e wq ⟨rfl, hbq⟩
      have HSq := Lib.hid (HS1.out.later hbq)
      clear hbq HS1 q4 q2
      go_wp2_with fail
      refine (forNext_any _ _ _ _ _ _ _).mono ?_
      rintro e w2 ⟨rfl, hb2⟩
      have HS2 := Lib.hid ((HSq.out.later hb2).later ((Below.refl w2.heap.size w2).alloc (Nat.le_refl _) (.cells #[.int .i64 x.client, .int .i64 x.fam, .bool true, .float .f64 (floatOfInt .f64 x.till), .int .i64 x.state] 132)))
      clear hb2 HSq
      have HRf := Lib.hid hrf
      go_wp2_with fail
      rw [← HRf.out]
      refine (opens_of (HRf.out ▸ HS2.out.led) HY.out HWy.out t0 t1 l0 l1 HO.out).mono ?_
      rintro e w3 ⟨rfl, hb3⟩
      have HS3 := Lib.hid (HS2.out.later (HRf.out ▸ hb3))
      clear hb3 HS2
      go_wp2_with (refine wpList_store_mid rfl 33 (.tmp 4) (.tmp 42) rfl (w.heap.size + 1) 0 #[.int .i64 8, .int .i64 0, .int .i64 0, .bool false] rfl rfl ?hh sizeResp (oneResp (codeR 8)) ?_)
      case hh => exact HS3.out.there
      refine bodyPost_ret (ret_resp rfl rfl (HS3.out.put (codeR 8)).resp) rfl ?_
      rw [HE.out]
      exact (HS3.out.put (codeR 8)).told
     | true =>
      have HE := Lib.hid (show refreshD ⟨now, words, keys, dead⟩ ⟨no, kind, client, code, token, proof, by_⟩ = (giveG ⟨now, words, markK keys token 1, dead⟩ ⟨no, kind, client, code, token, proof, by_⟩ x.fam, giveR ⟨no, kind, client, code, token, proof, by_⟩) by
       simp only [refreshD, hkf, HRc.out, hrf, hst, hop]; rfl)
      have HO := Lib.hid hop
      clear hkf hop
      go_enter Tryz.func156, Tryz.ntmps156
      go_wp2_with fail
      rw [← HV.out]
      refine (room_at HS.out.led n0 n1 hk40 HRc.out).mono ?_
      rintro e w1 ⟨rfl, hb1⟩
      have HS1 := Lib.hid (HS.out.later hb1)
      have q4 : w1.cell? ⟨w.heap.size, 4, none⟩ = some (.int .i64 token) := HS1.out.req.cell 4
      have q2 : w1.cell? ⟨w.heap.size, 2, none⟩ = some (.int .i64 client) := HS1.out.req.cell 2
      clear hb1 HS
      go_wp2_with fail
      refine (keyOf_some HS1.out.led HWf.out HF.out).mono ?_
      rintro e wq ⟨rfl, hbq⟩
      have HSq := Lib.hid (HS1.out.later hbq)
      clear hbq HS1 q4 q2
      go_wp2_with fail
      refine (forNext_any _ _ _ _ _ _ _).mono ?_
      rintro e w2 ⟨rfl, hb2⟩
      have HS2 := Lib.hid ((HSq.out.later hb2).later ((Below.refl w2.heap.size w2).alloc (Nat.le_refl _) (.cells #[.int .i64 x.client, .int .i64 x.fam, .bool true, .float .f64 (floatOfInt .f64 x.till), .int .i64 x.state] 132)))
      clear hb2 HSq
      have HRf := Lib.hid hrf
      go_wp2_with fail
      rw [← HRf.out]
      refine (opens_of (HRf.out ▸ HS2.out.led) HY.out HWy.out t0 t1 l0 l1 HO.out).mono ?_
      rintro e w3 ⟨rfl, hb3⟩
      have HS3 := Lib.hid (HS2.out.later (HRf.out ▸ hb3))
      have hq3 := HS3.out.req
      have p0 : w3.cell? ⟨w.heap.size, 0, none⟩ = some (.int .i64 no) := hq3.cell 0
      have p1 : w3.cell? ⟨w.heap.size, 1, none⟩ = some (.int .i64 kind) := hq3.cell 1
      have p2 : w3.cell? ⟨w.heap.size, 2, none⟩ = some (.int .i64 client) := hq3.cell 2
      have p3 : w3.cell? ⟨w.heap.size, 3, none⟩ = some (.int .i64 code) := hq3.cell 3
      have p4 : w3.cell? ⟨w.heap.size, 4, none⟩ = some (.int .i64 token) := hq3.cell 4
      have p5 : w3.cell? ⟨w.heap.size, 5, none⟩ = some (.string proof) := hq3.cell 5
      have p6 : w3.cell? ⟨w.heap.size, 6, none⟩ = some (.int .i64 by_) := hq3.cell 6
      clear hb3 HS2 hq3
      go_wp2_with fail
      rw [← HV.out]
      refine (change_any lb mw mk B ⟨now, words, keys, dead⟩ ⟨no, kind, client, code, token, proof, by_⟩ x HFk.out HWf.out _ HS3.out.led t0 t1 n0 n1 hk40 hw20 HNo.out).mono ?_
      rintro e w4 ⟨rfl, hl4, hk4⟩
      have HS4 := Lib.hid (HS3.out.step hl4 hk4)
      clear hl4 hk4 HS3 p0 p1 p2 p3 p4 p5 p6
      go_wp2_with (refine wpList_store_mid rfl 33 (.tmp 4) (.tmp 45) rfl (w.heap.size + 1) 0 #[.int .i64 0, .int .i64 (10 * no + 1), .int .i64 (10 * no + 2), .bool false] rfl rfl ?hh sizeResp (oneResp (giveR ⟨no, kind, client, code, token, proof, by_⟩)) ?_)
      case hh => exact HS4.out.there
      refine bodyPost_ret (ret_resp rfl rfl (HS4.out.put (giveR ⟨no, kind, client, code, token, proof, by_⟩)).resp) rfl ?_
      rw [HE.out]
      exact (HS4.out.put (giveR ⟨no, kind, client, code, token, proof, by_⟩)).told
 ·have HE := Lib.hid (show refreshD ⟨now, words, keys, dead⟩ ⟨no, kind, client, code, token, proof, by_⟩ = (⟨now, words, keys, dead⟩, codeR rc) by simp only [refreshD, hrc, if_neg hz])
  have e1 : (rc != 0) = true := by simpa using hz
  have e2 : (rc == 0) = false := by simpa using hz
  clear hz hrc
  go_enter Tryz.func156, Tryz.ntmps156
  go_wp2_with fail
  rw [← HV.out]
  refine (room_at HS.out.led n0 n1 hk40 HRc.out).mono ?_
  rintro e w1 ⟨rfl, hb1⟩
  have HS1 := Lib.hid (HS.out.later hb1)
  clear hb1 HS
  go_wp2_with (refine wpList_store_mid rfl 33 (.tmp 4) (.tmp 14) rfl (w.heap.size + 1) 0 #[.int .i64 rc, .int .i64 0, .int .i64 0, .bool false] rfl rfl ?hh sizeResp (oneResp (codeR rc)) ?_)
  case hh => exact HS1.out.there
  refine bodyPost_ret (ret_resp rfl rfl (HS1.out.put (codeR rc)).resp) rfl ?_
  rw [HE.out]
  exact (HS1.out.put (codeR rc)).told
end Go.Proofs.YtchfgdiipjbgoaaGreat
