/- A ledger: a key is revoked, changed. -/
import Derived.Test.YtgkdajlkajmdiaaGreatQDo2
import Derived.Test.YtgkdajlkajmdiaaGreatQOpImpA
namespace Go.Proofs.YtgkdajlkajmdiaaGreat
open Go Go.RowKit Go.Lib
set_option linter.unusedVariables false
set_option maxRecDepth 100000

theorem keyOf_none {lb mw mk B : Nat} {g : Gr} {no client : Int} {w : World} (hl : LedAt w B lb mw mk g) (hwf : (Lit.int .i64 no).wf = true) (h : keyFor g.keys no client = none) :
    Calls Tryz.prog 61 #[.pointer (some ⟨lb, 0, none⟩), .int .i64 no, .int .i64 client] w (Ret (.tuple #[.agg #[.int .i64 0, .int .i64 0, .bool false, .float .f64 0, .int .i64 0], .bool false]) w) := by
  have h1 := keyOf_any lb mw mk B g no client w hl hwf
  rw [h] at h1
  exact h1
theorem keyOf_some {lb mw mk B : Nat} {g : Gr} {no client : Int} {w : World} {x : Ky} (hl : LedAt w B lb mw mk g) (hwf : (Lit.int .i64 no).wf = true) (h : keyFor g.keys no client = some x) :
    Calls Tryz.prog 61 #[.pointer (some ⟨lb, 0, none⟩), .int .i64 no, .int .i64 client] w (Ret (.tuple #[.agg #[.int .i64 x.client, .int .i64 x.fam, .bool x.refresh, .float .f64 (floatOfInt .f64 x.till), .int .i64 x.state], .bool true]) w) := by
  have h1 := keyOf_any lb mw mk B g no client w hl hwf
  rw [h] at h1
  exact h1
theorem key_facts {g : Gr} (hg : grantB g = true) {no client : Int} {x : Ky} (h : keyFor g.keys no client = some x) : findK g.keys no = some x ∧ x.client = client ∧ (0 ≤ x.till ∧ x.till ≤ 1000000) ∧ ∃ y, findW g.words x.fam = some y ∧ (Lit.int .i64 x.fam).wf = true := by
  obtain ⟨hf, hc⟩ := keyFor_mem h
  obtain ⟨_, _, _, hws, hks, _⟩ := gr_facts hg
  obtain ⟨k, hk, _⟩ := findK_mem hf
  obtain ⟨⟨_, _, _, h4, h5, _⟩, _⟩ := keysOk_get hks hk
  obtain ⟨y, hy, hyn⟩ := hasNo_find h4
  obtain ⟨j, hj, _⟩ := find_mem hy
  obtain ⟨⟨y0, y1, _⟩, _⟩ := wordsOk_get hws hj
  exact ⟨hf, hc, h5, y, hy, wf_small (by omega) (by omega)⟩
set_option maxHeartbeats 2000000 in
theorem revoke_any (lb mw mk B : Nat) (g : Gr) (r : RQ) (w : World) (hl : LedAt w B lb mw mk g) (hg : grantB g = true) (hwf : (Lit.int .i64 r.token).wf = true) :
    Calls Tryz.prog 118 #[.pointer (some ⟨lb, 0, none⟩), rqV r] w (LedOut2 B lb mw mk (revokeD g r).1 (revokeD g r).2 w) := by
  obtain ⟨⟨t0, t1⟩, hw20, hk40, _⟩ := gr_facts hg
  obtain ⟨now, words, keys, dead⟩ := g
  obtain ⟨no, kind, client, code, token, proof, by_⟩ := r
  simp only at t0 t1 hw20 hk40 hwf
  have HV := Lib.hid (show rqV ⟨no, kind, client, code, token, proof, by_⟩ = .agg #[.int .i64 no, .int .i64 kind, .int .i64 client, .int .i64 code, .int .i64 token, .string proof, .int .i64 by_] from rfl)
  have hs := SIn.start ⟨no, kind, client, code, token, proof, by_⟩ (codeR 0) hl
  simp only [codeR] at hs
  have HS := Lib.hid hs
  have HWf := Lib.hid hwf
  have HG := Lib.hid hg
  clear hs hl hwf hg
  rw [HV.out]
  cases hkf : keyFor keys token client with
  | none =>
    have HE := Lib.hid (show revokeD ⟨now, words, keys, dead⟩ ⟨no, kind, client, code, token, proof, by_⟩ = (⟨now, words, keys, dead⟩, codeR 0) by simp [revokeD, hkf])
    have HF := Lib.hid hkf
    clear hkf
    go_enter Tryz.func118, Tryz.ntmps118
    go_wp2_with fail
    refine (keyOf_none HS.out.led HWf.out HF.out).mono ?_
    rintro e w2 ⟨rfl, hb2⟩
    have HS2 := Lib.hid ((HS.out.later hb2).later ((Below.refl w2.heap.size w2).alloc (Nat.le_refl _) (.cells #[.int .i64 0, .int .i64 0, .bool false, .float .f64 0, .int .i64 0] 103)))
    have hsf := run_store_float
    clear hb2 HS
    go_wp2_with (refine wpList_store_mid rfl 33 (.tmp 4) (.tmp 18) rfl (w.heap.size + 1) 0 #[.int .i64 0, .int .i64 0, .int .i64 0, .bool false] rfl rfl ?hh sizeResp (oneResp (codeR 0)) ?_)
    case hh => exact HS2.out.there
    refine bodyPost_ret (ret_resp rfl rfl (HS2.out.put (codeR 0)).resp) rfl ?_
    rw [HE.out]
    exact (HS2.out.put (codeR 0)).told
  | some x =>
    obtain ⟨hfk, hcl, htl, y, hy, hwy⟩ := key_facts HG.out hkf
    clear hcl htl
    have HF := Lib.hid hkf
    have HY := Lib.hid hy
    have HWy := Lib.hid hwy
    have HFk := Lib.hid hfk
    simp only at hfk
    clear hy hwy
    cases hrf : x.refresh with
    | true =>
      have HE := Lib.hid (show revokeD ⟨now, words, keys, dead⟩ ⟨no, kind, client, code, token, proof, by_⟩ = (killG ⟨now, words, keys, dead⟩ x.fam, codeR 0) by simp [revokeD, hkf, hrf])
      clear hkf hfk
      go_enter Tryz.func118, Tryz.ntmps118
      go_wp2_with fail
      refine (keyOf_some HS.out.led HWf.out HF.out).mono ?_
      rintro e w2 ⟨rfl, hb2⟩
      have HS2 := Lib.hid ((HS.out.later hb2).later ((Below.refl w2.heap.size w2).alloc (Nat.le_refl _) (.cells #[.int .i64 x.client, .int .i64 x.fam, .bool true, .float .f64 (floatOfInt .f64 x.till), .int .i64 x.state] 103)))
      have hsf := run_store_float
      clear hb2 HS
      go_wp2_with fail
      refine (kill_kept lb mw mk B ⟨now, words, keys, dead⟩ x.fam y _ HS2.out.led HY.out HWy.out t0 (by show words.length ≤ _; omega)).mono ?_
      rintro e w3 ⟨rfl, hl3, hk3⟩
      have HS3 := Lib.hid (HS2.out.step hl3 hk3)
      clear hl3 hk3 HS2
      go_wp2_with (refine wpList_store_mid rfl 33 (.tmp 4) (.tmp 25) rfl (w.heap.size + 1) 0 #[.int .i64 0, .int .i64 0, .int .i64 0, .bool false] rfl rfl ?hh sizeResp (oneResp (codeR 0)) ?_)
      case hh => exact HS3.out.there
      refine bodyPost_ret (ret_resp rfl rfl (HS3.out.put (codeR 0)).resp) rfl ?_
      rw [HE.out]
      exact (HS3.out.put (codeR 0)).told
    | false =>
      have HE := Lib.hid (show revokeD ⟨now, words, keys, dead⟩ ⟨no, kind, client, code, token, proof, by_⟩ = (⟨now, words, markK keys token 2, dead⟩, codeR 0) by simp [revokeD, hkf, hrf])
      clear hkf hfk
      go_enter Tryz.func118, Tryz.ntmps118
      go_wp2_with fail
      refine (keyOf_some HS.out.led HWf.out HF.out).mono ?_
      rintro e w2 ⟨rfl, hb2⟩
      have hs2 := (HS.out.later hb2).later ((Below.refl w2.heap.size w2).alloc (Nat.le_refl _) (.cells #[.int .i64 x.client, .int .i64 x.fam, .bool false, .float .f64 (floatOfInt .f64 x.till), .int .i64 2] 103))
      have hsf := run_store_float
      have c2 := hs2.led.cells.2.2
      have q4 : (w2.alloc (.cells #[.int .i64 x.client, .int .i64 x.fam, .bool false, .float .f64 (floatOfInt .f64 x.till), .int .i64 2] 103)).cell? ⟨w.heap.size, 4, none⟩ = some (.int .i64 token) := hs2.req.cell 4
      have HS2 := Lib.hid hs2
      clear hb2 HS hs2
      go_wp2_with fail
      refine region_tail 7 (by kernel_rfl) (by kernel_rfl) ?_
      simp only [List.take_succ_cons, List.take_zero, List.drop_succ_cons, List.drop_zero]
      repeat still_step
      refine wpStill_nil ?_
      refine wpList_put_I rfl (.tmp 30) (.tmp 32) (.tmp 33) 158 rfl Tryz.underlying158 Tryz.underlying2 rfl HS2.out.led.keys (by show keys.length < maxLen; unfold maxLen; omega) token rfl HWf.out (hkV (stK 2 x)) (by rw [hkV, stK, ← hrf]; rfl) ?_
      intro w3 hm3 hg3'
      have hg3 := drew_grown hg3'
      have hl3 := HS2.out.led.marked hg3 HFk.out hm3
      have HS3 := Lib.hid (HS2.out.grown hl3 hg3 (.inr (.inr rfl)))
      clear hm3 hg3 hg3' hl3 HS2 c2 q4
      go_wp2_with (refine wpList_store_mid rfl 33 (.tmp 4) (.tmp 34) rfl (w.heap.size + 1) 0 #[.int .i64 0, .int .i64 0, .int .i64 0, .bool false] rfl rfl ?hh sizeResp (oneResp (codeR 0)) ?_)
      case hh => exact HS3.out.there
      refine bodyPost_ret (ret_resp rfl rfl (HS3.out.put (codeR 0)).resp) rfl ?_
      rw [HE.out]
      exact (HS3.out.put (codeR 0)).told
end Go.Proofs.YtgkdajlkajmdiaaGreat
