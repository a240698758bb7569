/- A ledger: a word changed for two keys. -/
import Derived.Test.YtgkdajlkajmdiaaGreatRDo4
import Derived.Deep.DeepCutAuto
namespace Go.Proofs.YtgkdajlkajmdiaaGreat
open Go Go.RowKit Go.Lib
set_option linter.unusedVariables false
set_option maxRecDepth 100000

theorem wordC_none {ws : List Wd} {g : Gr} {r : RQ} (hg : g.words = ws) (h : wordC ws r.code r.client = none) : wordFor g r = none := by
  subst hg
  unfold wordC at h
  unfold wordFor
  split at h
  · rename_i hf; rw [hf]
  · rename_i x hf
    split at h
    · cases h
    · rename_i hc
      rw [hf]
      have : (x.client == r.client) = false := by simpa using hc
      simp [this]
theorem wordC_some {ws : List Wd} {g : Gr} {r : RQ} {x : Wd} (hg : g.words = ws) (h : wordC ws r.code r.client = some x) : findW ws r.code = some x ∧ wordFor g r = if x.shade.toList == (shadeT r.proof).toList then some x else none := by
  subst hg
  unfold wordC at h
  unfold wordFor
  split at h
  · cases h
  · rename_i z hf
    split at h
    · rename_i hc
      obtain rfl := Option.some.inj h
      refine ⟨hf, ?_⟩
      rw [hf]
      simp only [hc, Bool.true_and]
    · cases h
set_option maxHeartbeats 4000000 in
theorem redeem_any (lb mw mk B : Nat) (g : Gr) (r : RQ) (w : World) (hl : LedAt w B lb mw mk g) (hg : grantB g = true) (hwf : (Lit.int .i64 r.code).wf = true) (n0 : 1 ≤ r.no) (n1 : r.no ≤ 99) (hps : r.proof.size ≤ 40) :
    Calls Tryz.prog 116 #[.pointer (some ⟨lb, 0, none⟩), rqV r] w (LedOut2 B lb mw mk (redeemD g r).1 (redeemD g r).2 w) := by
  obtain ⟨⟨t0, t1⟩, hw20, hk40, hws, _⟩ := gr_facts hg
  obtain ⟨now, words, keys, dead⟩ := g
  obtain ⟨no, kind, client, code, token, proof, by_⟩ := r
  simp only at t0 t1 hw20 hk40 hwf n0 n1 hps hws
  have HV := Lib.hid (show rqV ⟨no, kind, client, code, token, proof, by_⟩ = .agg #[.int .i64 no, .int .i64 kind, .int .i64 client, .int .i64 code, .int .i64 token, .string proof, .int .i64 by_] from rfl)
  have hs := SIn.start ⟨no, kind, client, code, token, proof, by_⟩ (codeR 0) hl
  simp only [codeR] at hs
  have HS := Lib.hid hs
  have HWf := Lib.hid hwf
  have HG := Lib.hid hg
  have HWs := Lib.hid hws
  have hsf := run_store_float
  clear hs hl hwf hg hws
  obtain ⟨rc, hrc⟩ : ∃ rc, roomC ⟨now, words, keys, dead⟩ ⟨no, kind, client, code, token, proof, by_⟩ = rc := ⟨_, rfl⟩
  have HRc := Lib.hid hrc
  rw [HV.out]
  by_cases hz : rc = 0
  · subst hz
    have HNo := Lib.hid (room_none hrc)
    clear hrc
    go_enter Tryz.func116, Tryz.ntmps116
    go_wp2_with fail
    rw [← HV.out]
    refine (room_at HS.out.led n0 n1 hk40 HRc.out).mono ?_
    rintro e W ⟨rfl, hb1⟩
    have HS1 := Lib.hid (HS.out.later hb1)
    have q3 : W.cell? ⟨w.heap.size, 3, none⟩ = some (.int .i64 code) := HS1.out.req.cell 3
    have q2 : W.cell? ⟨w.heap.size, 2, none⟩ = some (.int .i64 client) := HS1.out.req.cell 2
    obtain ⟨td, htd⟩ := HS1.out.led.td
    have HTD := Lib.hid htd
    clear htd hb1 HS
    go_wp2_with fail
    refine (wordOf_any lb mw mk B ⟨now, words, keys, dead⟩ td code client _ HTD.out HWf.out).mono ?_
    rintro e w2 ⟨rfl, hb2⟩
    obtain ⟨dd, hdd⟩ : ∃ dd, dd = ddB dead td code := ⟨_, rfl⟩
    have HDD := Lib.hid hdd
    simp only [← hdd]
    clear hdd q2 q3
    cases hwc : wordC words code client with
    | none =>
      have hwf' := wordC_none (g := ⟨now, words, keys, dead⟩) (r := ⟨no, kind, client, code, token, proof, by_⟩) rfl hwc
      have HE := Lib.hid (show redeemD ⟨now, words, keys, dead⟩ ⟨no, kind, client, code, token, proof, by_⟩ = (⟨now, words, keys, dead⟩, codeR 6) by simp only [redeemD, HRc.out, if_true, hwf'])
      have hbx := hb2.trans (((Below.refl w2.heap.size w2).alloc (Nat.le_refl _) (.cells #[.int .i64 0, .string ⟨#[]⟩, .float .f64 0, .bool false, .float .f64 0] 182)).mono hb2.size)
      have HS2 := Lib.hid (HS1.out.later hbx)
      have HT2 := Lib.hid (HTD.out.later hbx)
      have HK2 : Hid (Row (w2.alloc (.cells #[.int .i64 0, .string ⟨#[]⟩, .float .f64 0, .bool false, .float .f64 0] 182)) w2.heap.size 182 [.int .i64 0, .string ⟨#[]⟩, .float .f64 0, .bool false, .float .f64 0]) := Lib.hid (heap_alloc_new w2 _)
      rw [show wordCV none dd = .tuple #[.agg #[.int .i64 0, .string ⟨#[]⟩, .float .f64 0, .bool false, .float .f64 0], .bool false] from rfl]
      clear hwc hwf' hb2 hbx HS1 HTD
      go_upto_region 5 with fail
      generalize (w2.alloc (.cells #[.int .i64 0, .string ⟨#[]⟩, .float .f64 0, .bool false, .float .f64 0] 182)) = W2 at HS2 HT2 HK2 ⊢
      generalize w2.heap.size = wb at HK2 ⊢
      refine ext_region W2 (by kernel_rfl) (by kernel_rfl) (Below.refl _ _) ?_
      repeat (go_big_quiet_step (fail))
      refine wpQuiet_nil ?_
      intro w3 hb3
      have HS3 := Lib.hid (HS2.out.later hb3)
      have HT3 := Lib.hid (HT2.out.later hb3)
      have HK3 := Lib.hid (HK2.out.below hb3 HK2.out.lt)
      clear hb3 HS2 HT2 HK2
      go_wp2_with (refine wpList_store_mid rfl 33 (.tmp 4) (.tmp 34) rfl (w.heap.size + 1) 0 #[.int .i64 6, .int .i64 0, .int .i64 0, .bool false] rfl rfl ?hh sizeResp (oneResp (codeR 6)) ?_)
      case hh => exact HS3.out.there
      refine bodyPost_ret (ret_resp rfl rfl (HS3.out.put (codeR 6)).resp) rfl ?_
      rw [HE.out]
      exact (HS3.out.put (codeR 6)).told
    | some y =>
      obtain ⟨hfw, hwff⟩ := wordC_some (g := ⟨now, words, keys, dead⟩) (r := ⟨no, kind, client, code, token, proof, by_⟩) rfl hwc
      have hbx := hb2.trans (((Below.refl w2.heap.size w2).alloc (Nat.le_refl _) (.cells #[.int .i64 y.client, .string y.shade, .float .f64 (floatOfInt .f64 y.till), .bool y.used, .float .f64 dd] 182)).mono hb2.size)
      have HS2 := Lib.hid (HS1.out.later hbx)
      have HT2 := Lib.hid (HTD.out.later hbx)
      have HK2 : Hid (Row (w2.alloc (.cells #[.int .i64 y.client, .string y.shade, .float .f64 (floatOfInt .f64 y.till), .bool y.used, .float .f64 dd] 182)) w2.heap.size 182 [.int .i64 y.client, .string y.shade, .float .f64 (floatOfInt .f64 y.till), .bool y.used, .float .f64 dd]) := Lib.hid (heap_alloc_new w2 _)
      rw [show wordCV (some y) dd = .tuple #[.agg #[.int .i64 y.client, .string y.shade, .float .f64 (floatOfInt .f64 y.till), .bool y.used, .float .f64 dd], .bool true] from rfl]
      obtain ⟨jy, hjy, _⟩ := find_mem hfw
      obtain ⟨⟨_, _, _, _, l0, l1⟩, _⟩ := wordsOk_get HWs.out hjy
      have HY := Lib.hid hfw
      have HE0 := Lib.hid hwff
      clear hjy hwc hfw hwff hb2 hbx HS1 HTD
      go_upto_region 5 with fail
      generalize (w2.alloc (.cells #[.int .i64 y.client, .string y.shade, .float .f64 (floatOfInt .f64 y.till), .bool y.used, .float .f64 dd] 182)) = W2 at HS2 HT2 HK2 ⊢
      generalize w2.heap.size = wb at HK2 ⊢
      have k1 : ∀ v : Ext W2, v.w.cell? ⟨wb, 1, none⟩ = some (.string y.shade) := fun v => v.cell (HK2.out.cell 1)
      have q5 : ∀ v : Ext W2, v.w.cell? ⟨w.heap.size, 5, none⟩ = some (.string proof) := fun v => v.cell (HS2.out.req.cell 5)
      cases hsd : (y.shade.toList == (shadeT proof).toList) with
      | false =>
        have hwf' : wordFor ⟨now, words, keys, dead⟩ ⟨no, kind, client, code, token, proof, by_⟩ = none := by rw [HE0.out]; simp [hsd]
        have HE := Lib.hid (show redeemD ⟨now, words, keys, dead⟩ ⟨no, kind, client, code, token, proof, by_⟩ = (⟨now, words, keys, dead⟩, codeR 6) by simp only [redeemD, HRc.out, if_true, hwf'])
        clear hwf'
        refine ext_region W2 (by kernel_rfl) (by kernel_rfl) (Below.refl _ _) ?_
        repeat (go_big_quiet_step ((go_at_call 168; exact calls_ext (shade_impl proof _ hps))))
        refine wpQuiet_nil ?_
        intro w3 hb3
        have HS3 := Lib.hid (HS2.out.later hb3)
        have HT3 := Lib.hid (HT2.out.later hb3)
        have HK3 := Lib.hid (HK2.out.below hb3 HK2.out.lt)
        clear hb3 HS2 HT2 HK2
        clear k1 q5 hsd
        go_wp2_with (refine wpList_store_mid rfl 33 (.tmp 4) (.tmp 34) rfl (w.heap.size + 1) 0 #[.int .i64 6, .int .i64 0, .int .i64 0, .bool false] rfl rfl ?hh sizeResp (oneResp (codeR 6)) ?_)
        case hh => exact HS3.out.there
        refine bodyPost_ret (ret_resp rfl rfl (HS3.out.put (codeR 6)).resp) rfl ?_
        rw [HE.out]
        exact (HS3.out.put (codeR 6)).told
      | true =>
        have hwff : wordFor ⟨now, words, keys, dead⟩ ⟨no, kind, client, code, token, proof, by_⟩ = some y := by rw [HE0.out]; simp [hsd]
        refine ext_region W2 (by kernel_rfl) (by kernel_rfl) (Below.refl _ _) ?_
        repeat (go_big_quiet_step ((go_at_call 168; exact calls_ext (shade_impl proof _ hps))))
        refine wpQuiet_nil ?_
        intro w3 hb3
        have HS3 := Lib.hid (HS2.out.later hb3)
        have HT3 := Lib.hid (HT2.out.later hb3)
        have HK3 := Lib.hid (HK2.out.below hb3 HK2.out.lt)
        clear hb3 HS2 HT2 HK2
        clear k1 q5 hsd
        have k3 : w3.cell? ⟨wb, 3, none⟩ = some (.bool y.used) := HK3.out.cell 3
        cases hus : y.used with
        | true =>
          have HE := Lib.hid (show redeemD ⟨now, words, keys, dead⟩ ⟨no, kind, client, code, token, proof, by_⟩ = (killG ⟨now, words, keys, dead⟩ code, codeR 10) by simp only [redeemD, HRc.out, if_true, hwff, hus])
          clear hwff
          rw [hus] at k3
          have q3' : w3.cell? ⟨w.heap.size, 3, none⟩ = some (.int .i64 code) := HS3.out.req.cell 3
          go_wp2_with fail
          refine (kill_kept lb mw mk B ⟨now, words, keys, dead⟩ code y _ HS3.out.led HY.out HWf.out t0 (by show words.length ≤ _; omega)).mono ?_
          rintro e w4 ⟨rfl, hl4, hk4⟩
          have HS4 := Lib.hid (HS3.out.step hl4 hk4)
          clear hl4 hk4 HS3 k3 q3'
          go_wp2_with (refine wpList_store_mid rfl 33 (.tmp 4) (.tmp 41) rfl (w.heap.size + 1) 0 #[.int .i64 10, .int .i64 0, .int .i64 0, .bool false] rfl rfl ?hh sizeResp (oneResp (codeR 10)) ?_)
          case hh => exact HS4.out.there
          refine bodyPost_ret (ret_resp rfl rfl (HS4.out.put (codeR 10)).resp) rfl ?_
          rw [HE.out]
          exact (HS4.out.put (codeR 10)).told
        | false =>
          have HUs := Lib.hid hus
          rw [hus] at k3
          have e0 : w3.cell? ⟨wb, 0, none⟩ = some (.int .i64 y.client) := HK3.out.cell 0
          have e1 : w3.cell? ⟨wb, 1, none⟩ = some (.string y.shade) := HK3.out.cell 1
          have e2 : w3.cell? ⟨wb, 2, none⟩ = some (.float .f64 (floatOfInt .f64 y.till)) := HK3.out.cell 2
          have e4 : w3.cell? ⟨wb, 4, none⟩ = some (.float .f64 dd) := HK3.out.cell 4
          obtain ⟨gb, hgb⟩ : ∃ gb, (!(decide (y.till < now) || isDeadB dead code)) = gb := ⟨_, rfl⟩
          have HGb := Lib.hid hgb
          go_wp2_with fail
          rw [← HUs.out]
          refine (isGood_any lb mw mk B ⟨now, words, keys, dead⟩ td code y dd HDD.out _ HT3.out t0 t1 l0 l1 gb HGb.out).mono ?_
          rintro e w4 ⟨rfl, hb4⟩
          have HS4 := Lib.hid (HS3.out.later hb4)
          clear hb4 HS3 HT3 HK3 k3 e0 e1 e2 e4
          cases gb with
          | false =>
            have HE := Lib.hid (show redeemD ⟨now, words, keys, dead⟩ ⟨no, kind, client, code, token, proof, by_⟩ = (⟨now, words, keys, dead⟩, codeR 8) by 
              have hd : (decide (y.till < now) || isDeadB dead code) = true := by revert hgb; cases (decide (y.till < now) || isDeadB dead code) <;> simp
              simp only [redeemD, HRc.out, if_true, hwff, hus, hd]; rfl)
            clear hwff hgb
            go_wp2_with (refine wpList_store_mid rfl 33 (.tmp 4) (.tmp 46) rfl (w.heap.size + 1) 0 #[.int .i64 8, .int .i64 0, .int .i64 0, .bool false] rfl rfl ?hh sizeResp (oneResp (codeR 8)) ?_)
            case hh => exact HS4.out.there
            refine bodyPost_ret (ret_resp rfl rfl (HS4.out.put (codeR 8)).resp) rfl ?_
            rw [HE.out]
            exact (HS4.out.put (codeR 8)).told
          | true =>
            have HE := Lib.hid (show redeemD ⟨now, words, keys, dead⟩ ⟨no, kind, client, code, token, proof, by_⟩ = (giveG ⟨now, useW words code, keys, dead⟩ ⟨no, kind, client, code, token, proof, by_⟩ code, giveR ⟨no, kind, client, code, token, proof, by_⟩) by 
              have hd : (decide (y.till < now) || isDeadB dead code) = false := by revert hgb; cases (decide (y.till < now) || isDeadB dead code) <;> simp
              simp only [redeemD, HRc.out, if_true, hwff, hus, hd]; rfl)
            clear hwff hgb
            have hq4 := HS4.out.req
            have p0 : w4.cell? ⟨w.heap.size, 0, none⟩ = some (.int .i64 no) := hq4.cell 0
            have p1 : w4.cell? ⟨w.heap.size, 1, none⟩ = some (.int .i64 kind) := hq4.cell 1
            have p2 : w4.cell? ⟨w.heap.size, 2, none⟩ = some (.int .i64 client) := hq4.cell 2
            have p3 : w4.cell? ⟨w.heap.size, 3, none⟩ = some (.int .i64 code) := hq4.cell 3
            have p4 : w4.cell? ⟨w.heap.size, 4, none⟩ = some (.int .i64 token) := hq4.cell 4
            have p5 : w4.cell? ⟨w.heap.size, 5, none⟩ = some (.string proof) := hq4.cell 5
            have p6 : w4.cell? ⟨w.heap.size, 6, none⟩ = some (.int .i64 by_) := hq4.cell 6
            clear hq4
            go_wp2_with fail
            rw [← HV.out]
            refine (use_any lb mw mk B ⟨now, words, keys, dead⟩ ⟨no, kind, client, code, token, proof, by_⟩ y HY.out HWf.out _ HS4.out.led t0 t1 n0 n1 hk40 hw20 HNo.out).mono ?_
            rintro e w5 ⟨rfl, hl5, hk5⟩
            have HS5 := Lib.hid (HS4.out.step hl5 hk5)
            clear hl5 hk5 HS4 p0 p1 p2 p3 p4 p5 p6
            go_wp2_with (refine wpList_store_mid rfl 33 (.tmp 4) (.tmp 49) rfl (w.heap.size + 1) 0 #[.int .i64 0, .int .i64 (10 * no + 1), .int .i64 (10 * no + 2), .bool false] rfl rfl ?hh sizeResp (oneResp (giveR ⟨no, kind, client, code, token, proof, by_⟩)) ?_)
            case hh => exact HS5.out.there
            refine bodyPost_ret (ret_resp rfl rfl (HS5.out.put (giveR ⟨no, kind, client, code, token, proof, by_⟩)).resp) rfl ?_
            rw [HE.out]
            exact (HS5.out.put (giveR ⟨no, kind, client, code, token, proof, by_⟩)).told
  · have HE := Lib.hid (show redeemD ⟨now, words, keys, dead⟩ ⟨no, kind, client, code, token, proof, by_⟩ = (⟨now, words, keys, dead⟩, codeR rc) by simp only [redeemD, hrc, if_neg hz])
    have e1 : (rc != 0) = true := by simpa using hz
    have e2 : (rc == 0) = false := by simpa using hz
    clear hz hrc
    go_enter Tryz.func116, Tryz.ntmps116
    go_wp2_with fail
    rw [← HV.out]
    refine (room_at HS.out.led n0 n1 hk40 HRc.out).mono ?_
    rintro e w1 ⟨rfl, hb1⟩
    have HS1 := Lib.hid (HS.out.later hb1)
    clear hb1 HS
    go_wp2_with (refine wpList_store_mid rfl 33 (.tmp 4) (.tmp 14) rfl (w.heap.size + 1) 0 #[.int .i64 rc, .int .i64 0, .int .i64 0, .bool false] rfl rfl ?hh sizeResp (oneResp (codeR rc)) ?_)
    case hh => exact HS1.out.there
    refine bodyPost_ret (ret_resp rfl rfl (HS1.out.put (codeR rc)).resp) rfl ?_
    rw [HE.out]
    exact (HS1.out.put (codeR rc)).told
end Go.Proofs.YtgkdajlkajmdiaaGreat
