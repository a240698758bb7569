/- A ledger: a key, a word used for two keys; a word asked for; whether it is good. -/
import Derived.Test.YtgkdajlkajmdiaaGreatRGdF
import Derived.Deep.DeepCutAuto
namespace Go.Proofs.YtgkdajlkajmdiaaGreat
open Go Go.RowKit Go.Lib
set_option linter.unusedVariables false
set_option maxRecDepth 100000

theorem room_none {g : Gr} {r : RQ} (h : roomC g r = 0) : findK g.keys (10 * r.no + 1) = none ∧ findK g.keys (10 * r.no + 2) = none := by
  unfold roomC at h
  split at h
  · omega
  · split at h
    · omega
    · rename_i h2
      simp only [Bool.or_eq_true, not_or, Option.isSome_iff_ne_none, ne_eq, Classical.not_not] at h2
      exact h2
theorem findK_mark_none {l : List Ky} {n s i : Int} (h : findK l i = none) : findK (markK l n s) i = none := by rw [findK_mark, h]; rfl
set_option maxHeartbeats 4000000 in
theorem change_any (lb mw mk B : Nat) (g : Gr) (r : RQ) (x : Ky) (hx : findK g.keys r.token = some x) (hwf : (Lit.int .i64 r.token).wf = true) (w : World) (hl : LedAt w B lb mw mk g) (t0 : 0 ≤ g.now) (t1 : g.now ≤ 1000000) (n0 : 1 ≤ r.no) (n1 : r.no ≤ 99) (hk40 : g.keys.length ≤ 40) (hw20 : g.words.length ≤ 20) (hno : findK g.keys (10 * r.no + 1) = none ∧ findK g.keys (10 * r.no + 2) = none) :
    Calls Tryz.prog 171 #[.pointer (some ⟨lb, 0, none⟩), rqV r] w (LedOut2 B lb mw mk (giveG ⟨g.now, g.words, markK g.keys r.token 1, g.dead⟩ r x.fam) (giveR r) w) := by
  obtain ⟨now, words, keys, dead⟩ := g
  obtain ⟨no, kind, client, code, token, proof, by_⟩ := r
  simp only at t0 t1 hw20 hk40 n0 n1 hx hwf hno
  have HV := Lib.hid (show rqV ⟨no, kind, client, code, token, proof, by_⟩ = .agg #[.int .i64 no, .int .i64 kind, .int .i64 client, .int .i64 code, .int .i64 token, .string proof, .int .i64 by_] from rfl)
  have hs := SIn.start ⟨no, kind, client, code, token, proof, by_⟩ (codeR 0) hl
  simp only [codeR] at hs
  obtain ⟨W, hW⟩ : ∃ W, W = (w.alloc (.cells #[.int .i64 no, .int .i64 kind, .int .i64 client, .int .i64 code, .int .i64 token, .string proof, .int .i64 by_] 29)).alloc (.cells #[.int .i64 0, .int .i64 0, .int .i64 0, .bool false] 33) := ⟨_, rfl⟩
  rw [← hW] at hs
  have HW := Lib.hid hW
  have HS1 := Lib.hid hs
  have HWf := Lib.hid hwf
  have HX := Lib.hid hx
  have HNo := Lib.hid hno
  have hsf := run_store_float
  have HZ1 := Lib.hid hs.size
  clear hs hl hwf hx hno hW
  rw [HV.out]
  have q4 : W.cell? ⟨w.heap.size, 4, none⟩ = some (.int .i64 token) := HS1.out.req.cell 4
  have c2 : W.cell? ⟨lb, 2, none⟩ = some (.map (some mk)) := HS1.out.led.cells.2.2
  have hlk' : ∀ w', Below W.heap.size W w' → (Instr.lookup 158 (.map (some mk)) (.int .i64 token) false).run Tryz.prog w' = .ok (.agg #[.int .i64 x.client, .int .i64 x.fam, .bool x.refresh, .float .f64 (floatOfInt .f64 x.till), .int .i64 x.state]) w' := fun w' hb => by
    have h := (HS1.out.led.later hb).keys.look Tryz.underlying2 Tryz.underlying158 (hkZ_zero _) HWf.out
    rw [show (kyF keys token).getD hkZ = hkV x by simp [kyF, HX.out]] at h
    exact h
  have hlk := hlk' _ (Below.refl _ _).drew
  have hbz := (Below.refl W.heap.size W).alloc (Nat.le_refl _) (.cells #[.int .i64 0, .int .i64 0, .bool false, .float .f64 0, .int .i64 0] 103)
  have hlk2 := hlk' _ hbz.drew
  have q4a : (W.alloc (.cells #[.int .i64 0, .int .i64 0, .bool false, .float .f64 0, .int .i64 0] 103)).cell? ⟨w.heap.size, 4, none⟩ = some (.int .i64 token) := (hbz.cell (p := ⟨w.heap.size, 4, none⟩) (by show w.heap.size < W.heap.size; have := HZ1.out; omega)).trans q4
  have c2a : (W.alloc (.cells #[.int .i64 0, .int .i64 0, .bool false, .float .f64 0, .int .i64 0] 103)).cell? ⟨lb, 2, none⟩ = some (.map (some mk)) := (hbz.cell (p := ⟨lb, 2, none⟩) (by show lb < W.heap.size; have := HZ1.out; have := HS1.out.old.2.1; omega)).trans c2
  clear hbz hlk'
  go_enter Tryz.func171, Tryz.ntmps171
  go_upto_region 1 with fail
  rw [← HW.out]
  go_cut [5] (fun v5 wx => v5 = .pointer (some ⟨W.heap.size, 0, none⟩) ∧ wx = (W.alloc (.cells #[.int .i64 x.client, .int .i64 x.fam, .bool x.refresh, .float .f64 (floatOfInt .f64 x.till), .int .i64 x.state] 103)).drew)
  case first =>
    go_region
    all_goals go_wp2_with fail
    all_goals go_meet
    all_goals exact ⟨rfl, rfl⟩
  case rest =>
    obtain ⟨rfl, rfl⟩ := hcut
    have hb2 : Below W.heap.size W (W.alloc (.cells #[.int .i64 x.client, .int .i64 x.fam, .bool x.refresh, .float .f64 (floatOfInt .f64 x.till), .int .i64 x.state] 103)).drew := ((Below.refl _ W).alloc (Nat.le_refl _) _).drew
    have HS2 := Lib.hid (HS1.out.later hb2)
    have HK2 : Hid (Row (W.alloc (.cells #[.int .i64 x.client, .int .i64 x.fam, .bool x.refresh, .float .f64 (floatOfInt .f64 x.till), .int .i64 x.state] 103)).drew W.heap.size 103 [.int .i64 x.client, .int .i64 x.fam, .bool x.refresh, .float .f64 (floatOfInt .f64 x.till), .int .i64 x.state]) := Lib.hid (heap_alloc_new W _)
    clear hb2 HS1 q4 c2 hlk hlk2 q4a c2a HW
    generalize (W.alloc (.cells #[.int .i64 x.client, .int .i64 x.fam, .bool x.refresh, .float .f64 (floatOfInt .f64 x.till), .int .i64 x.state] 103)).drew = w3 at HS2 HK2 ⊢
    have hz1 := HZ1.out
    generalize W.heap.size = wb at HK2 hz1 ⊢
    have z4 : w3.cell? ⟨wb, 4, none⟩ = some (.int .i64 x.state) := HK2.out.cell 4
    have f4 := HK2.out.free 4
    have k4 : Row (w3.setCell ⟨wb, 4, none⟩ (.int .i64 1)) wb 103 [.int .i64 x.client, .int .i64 x.fam, .bool x.refresh, .float .f64 (floatOfInt .f64 x.till), .int .i64 1] := HK2.out.set 4 (.int .i64 1)
    have HS4 := Lib.hid (HS2.out.setCell (a := ⟨wb, 4, none⟩) (.int .i64 1) hz1)
    have y0 : (w3.setCell ⟨wb, 4, none⟩ (.int .i64 1)).cell? ⟨wb, 0, none⟩ = some (.int .i64 x.client) := k4.cell 0
    have y1 : (w3.setCell ⟨wb, 4, none⟩ (.int .i64 1)).cell? ⟨wb, 1, none⟩ = some (.int .i64 x.fam) := k4.cell 1
    have y2 : (w3.setCell ⟨wb, 4, none⟩ (.int .i64 1)).cell? ⟨wb, 2, none⟩ = some (.bool x.refresh) := k4.cell 2
    have y3 : (w3.setCell ⟨wb, 4, none⟩ (.int .i64 1)).cell? ⟨wb, 3, none⟩ = some (.float .f64 (floatOfInt .f64 x.till)) := k4.cell 3
    have y4 : (w3.setCell ⟨wb, 4, none⟩ (.int .i64 1)).cell? ⟨wb, 4, none⟩ = some (.int .i64 1) := k4.cell 4
    have c2 : (w3.setCell ⟨wb, 4, none⟩ (.int .i64 1)).cell? ⟨lb, 2, none⟩ = some (.map (some mk)) := HS4.out.led.cells.2.2
    have q4 : (w3.setCell ⟨wb, 4, none⟩ (.int .i64 1)).cell? ⟨w.heap.size, 4, none⟩ = some (.int .i64 token) := HS4.out.req.cell 4
    have HK4 := Lib.hid k4
    clear HS2 HK2 k4
    go_wp2_with fail
    obtain ⟨w4, hw4⟩ : ∃ w4, w4 = w3.setCell ⟨wb, 4, none⟩ (.int .i64 1) := ⟨_, rfl⟩
    rw [← hw4] at y0 y1 y2 y3 y4 c2 q4 HS4 HK4 ⊢
    clear hw4 z4 f4
    refine region_tail 7 (by kernel_rfl) (by kernel_rfl) ?_
    simp only [List.take_succ_cons, List.take_zero, List.drop_succ_cons, List.drop_zero]
    repeat still_step
    refine wpStill_nil ?_
    refine wpList_put_I rfl (.tmp 17) (.tmp 19) (.tmp 20) 158 rfl Tryz.underlying158 Tryz.underlying2 rfl HS4.out.led.keys (by show keys.length < maxLen; unfold maxLen; omega) token rfl HWf.out (hkV (stK 1 x)) rfl ?_
    intro w5 hm5 hg5'
    have hg5 := drew_grown hg5'
    have hl5 := HS4.out.led.marked hg5 HX.out hm5
    have HS5 := Lib.hid (HS4.out.grown hl5 hg5 (.inr (.inr rfl)))
    have k5 := HK4.out.grownI hg5 (ne_some (by have := HS4.out.old; omega))
    have y1' : w5.cell? ⟨wb, 1, none⟩ = some (.int .i64 x.fam) := k5.cell 1
    have hq5 := HS5.out.req
    have p0 : w5.cell? ⟨w.heap.size, 0, none⟩ = some (.int .i64 no) := hq5.cell 0
    have p1 : w5.cell? ⟨w.heap.size, 1, none⟩ = some (.int .i64 kind) := hq5.cell 1
    have p2 : w5.cell? ⟨w.heap.size, 2, none⟩ = some (.int .i64 client) := hq5.cell 2
    have p3 : w5.cell? ⟨w.heap.size, 3, none⟩ = some (.int .i64 code) := hq5.cell 3
    have p4 : w5.cell? ⟨w.heap.size, 4, none⟩ = some (.int .i64 token) := hq5.cell 4
    have p5 : w5.cell? ⟨w.heap.size, 5, none⟩ = some (.string proof) := hq5.cell 5
    have p6 : w5.cell? ⟨w.heap.size, 6, none⟩ = some (.int .i64 by_) := hq5.cell 6
    clear hm5 hg5 hg5' hl5 HS4 HK4 y0 y1 y2 y3 y4 c2 q4 k5 hq5
    go_wp2_with fail
    rw [← HV.out]
    refine (give_any lb mw mk B ⟨now, words, markK keys token 1, dead⟩ ⟨no, kind, client, code, token, proof, by_⟩ x.fam _ HS5.out.led n0 n1 t0 t1 (by show (markK keys token 1).length ≤ _; rw [markK_length]; omega) (findK_mark_none HNo.out.1) (findK_mark_none HNo.out.2)).mono ?_
    rintro e w6 ⟨rfl, hl6, hk6⟩
    have HS6 := Lib.hid (HS5.out.step hl6 hk6)
    clear hl6 hk6 HS5 y1' p0 p1 p2 p3 p4 p5 p6
    go_wp2_with (refine wpList_store_mid rfl 33 (.tmp 4) (.tmp 25) rfl (w.heap.size + 1) 0 #[.int .i64 0, .int .i64 (10 * no + 1), .int .i64 (10 * no + 2), .bool false] rfl rfl ?hh sizeResp (oneResp (giveR ⟨no, kind, client, code, token, proof, by_⟩)) ?_)
    case hh => exact HS6.out.there
    refine bodyPost_ret (ret_resp rfl rfl (HS6.out.put (giveR ⟨no, kind, client, code, token, proof, by_⟩)).resp) rfl ?_
    exact (HS6.out.put (giveR ⟨no, kind, client, code, token, proof, by_⟩)).told
set_option maxHeartbeats 4000000 in
theorem use_any (lb mw mk B : Nat) (g : Gr) (r : RQ) (x : Wd) (hx : findW g.words r.code = some x) (hwf : (Lit.int .i64 r.code).wf = true) (w : World) (hl : LedAt w B lb mw mk g) (t0 : 0 ≤ g.now) (t1 : g.now ≤ 1000000) (n0 : 1 ≤ r.no) (n1 : r.no ≤ 99) (hk40 : g.keys.length ≤ 40) (hw20 : g.words.length ≤ 20) (hno : findK g.keys (10 * r.no + 1) = none ∧ findK g.keys (10 * r.no + 2) = none) :
    Calls Tryz.prog 170 #[.pointer (some ⟨lb, 0, none⟩), rqV r] w (LedOut2 B lb mw mk (giveG ⟨g.now, useW g.words r.code, g.keys, g.dead⟩ r r.code) (giveR r) w) := by
  obtain ⟨now, words, keys, dead⟩ := g
  obtain ⟨no, kind, client, code, token, proof, by_⟩ := r
  simp only at t0 t1 hw20 hk40 n0 n1 hx hwf hno
  have HV := Lib.hid (show rqV ⟨no, kind, client, code, token, proof, by_⟩ = .agg #[.int .i64 no, .int .i64 kind, .int .i64 client, .int .i64 code, .int .i64 token, .string proof, .int .i64 by_] from rfl)
  have hs := SIn.start ⟨no, kind, client, code, token, proof, by_⟩ (codeR 0) hl
  simp only [codeR] at hs
  obtain ⟨W, hW⟩ : ∃ W, W = (w.alloc (.cells #[.int .i64 no, .int .i64 kind, .int .i64 client, .int .i64 code, .int .i64 token, .string proof, .int .i64 by_] 29)).alloc (.cells #[.int .i64 0, .int .i64 0, .int .i64 0, .bool false] 33) := ⟨_, rfl⟩
  rw [← hW] at hs
  have HW := Lib.hid hW
  have HS1 := Lib.hid hs
  have HWf := Lib.hid hwf
  have HX := Lib.hid hx
  have HNo := Lib.hid hno
  have hsf := run_store_float
  have HZ1 := Lib.hid hs.size
  clear hs hl hwf hx hno hW
  rw [HV.out]
  obtain ⟨td, htd⟩ := HS1.out.led.td
  have HTD := Lib.hid htd
  clear htd
  obtain ⟨dd, hdd⟩ : ∃ dd, dd = ddB dead td code := ⟨_, rfl⟩
  have HDD := Lib.hid hdd
  clear hdd
  have q3 : W.cell? ⟨w.heap.size, 3, none⟩ = some (.int .i64 code) := HS1.out.req.cell 3
  have c1 : W.cell? ⟨lb, 1, none⟩ = some (.map (some mw)) := HS1.out.led.cells.2.1
  have hlk' : ∀ w', Below W.heap.size W w' → (Instr.lookup 157 (.map (some mw)) (.int .i64 code) false).run Tryz.prog w' = .ok (.agg #[.int .i64 x.client, .string x.shade, .float .f64 (floatOfInt .f64 x.till), .bool x.used, .float .f64 dd]) w' := fun w' hb => by
    have h := (HTD.out.words.later hb).look Tryz.underlying2 Tryz.underlying157 (hwZ_zero _) HWf.out
    rw [show (wdF words dead td code).getD hwZ = hwV x (ddB dead td code) by simp [wdF, HX.out], ← HDD.out] at h
    exact h
  have hlk := hlk' _ (Below.refl _ _).drew
  have hbz := (Below.refl W.heap.size W).alloc (Nat.le_refl _) (.cells #[.int .i64 0, .string ⟨#[]⟩, .float .f64 0, .bool false, .float .f64 0] 182)
  have hlk2 := hlk' _ hbz.drew
  have q3a : (W.alloc (.cells #[.int .i64 0, .string ⟨#[]⟩, .float .f64 0, .bool false, .float .f64 0] 182)).cell? ⟨w.heap.size, 3, none⟩ = some (.int .i64 code) := (hbz.cell (p := ⟨w.heap.size, 3, none⟩) (by show w.heap.size < W.heap.size; have := HZ1.out; omega)).trans q3
  have c1a : (W.alloc (.cells #[.int .i64 0, .string ⟨#[]⟩, .float .f64 0, .bool false, .float .f64 0] 182)).cell? ⟨lb, 1, none⟩ = some (.map (some mw)) := (hbz.cell (p := ⟨lb, 1, none⟩) (by show lb < W.heap.size; have := HZ1.out; have := HS1.out.old.2.1; omega)).trans c1
  clear hbz hlk'
  go_enter Tryz.func170, Tryz.ntmps170
  go_upto_region 1 with fail
  rw [← HW.out]
  go_cut [5] (fun v5 wx => v5 = .pointer (some ⟨W.heap.size, 0, none⟩) ∧ wx = (W.alloc (.cells #[.int .i64 x.client, .string x.shade, .float .f64 (floatOfInt .f64 x.till), .bool x.used, .float .f64 dd] 182)).drew)
  case first =>
    go_region
    all_goals go_wp2_with fail
    all_goals go_meet
    all_goals exact ⟨rfl, rfl⟩
  case rest =>
    obtain ⟨rfl, rfl⟩ := hcut
    have hb2 : Below W.heap.size W (W.alloc (.cells #[.int .i64 x.client, .string x.shade, .float .f64 (floatOfInt .f64 x.till), .bool x.used, .float .f64 dd] 182)).drew := ((Below.refl _ W).alloc (Nat.le_refl _) _).drew
    have HS2 := Lib.hid (HS1.out.later hb2)
    have HT2 := Lib.hid (HTD.out.later hb2)
    have HK2 : Hid (Row (W.alloc (.cells #[.int .i64 x.client, .string x.shade, .float .f64 (floatOfInt .f64 x.till), .bool x.used, .float .f64 dd] 182)).drew W.heap.size 182 [.int .i64 x.client, .string x.shade, .float .f64 (floatOfInt .f64 x.till), .bool x.used, .float .f64 dd]) := Lib.hid (heap_alloc_new W _)
    clear hb2 HS1 HTD q3 c1 hlk hlk2 q3a c1a HW
    generalize (W.alloc (.cells #[.int .i64 x.client, .string x.shade, .float .f64 (floatOfInt .f64 x.till), .bool x.used, .float .f64 dd] 182)).drew = w3 at HS2 HT2 HK2 ⊢
    have hz1 := HZ1.out
    generalize W.heap.size = wb at HK2 hz1 ⊢
    have z3 : w3.cell? ⟨wb, 3, none⟩ = some (.bool x.used) := HK2.out.cell 3
    have f3 := HK2.out.free 3
    have k5 : Row (w3.setCell ⟨wb, 3, none⟩ (.bool true)) wb 182 [.int .i64 x.client, .string x.shade, .float .f64 (floatOfInt .f64 x.till), .bool true, .float .f64 dd] := HK2.out.set 3 (.bool true)
    have HS5 := Lib.hid (HS2.out.setCell (a := ⟨wb, 3, none⟩) (.bool true) hz1)
    have HT5 : Hid (LedTd (w3.setCell ⟨wb, 3, none⟩ (.bool true)) B lb mw mk ⟨now, words, keys, dead⟩ td) := Lib.hid (HT2.out.setCell (a := ⟨wb, 3, none⟩) (.bool true) (by have := HS2.out.old; show wb ≠ lb ∧ wb ≠ mw ∧ wb ≠ mk; omega))
    have y0 : (w3.setCell ⟨wb, 3, none⟩ (.bool true)).cell? ⟨wb, 0, none⟩ = some (.int .i64 x.client) := k5.cell 0
    have y1 : (w3.setCell ⟨wb, 3, none⟩ (.bool true)).cell? ⟨wb, 1, none⟩ = some (.string x.shade) := k5.cell 1
    have y2 : (w3.setCell ⟨wb, 3, none⟩ (.bool true)).cell? ⟨wb, 2, none⟩ = some (.float .f64 (floatOfInt .f64 x.till)) := k5.cell 2
    have y3 : (w3.setCell ⟨wb, 3, none⟩ (.bool true)).cell? ⟨wb, 3, none⟩ = some (.bool true) := k5.cell 3
    have y4 : (w3.setCell ⟨wb, 3, none⟩ (.bool true)).cell? ⟨wb, 4, none⟩ = some (.float .f64 dd) := k5.cell 4
    have c1 : (w3.setCell ⟨wb, 3, none⟩ (.bool true)).cell? ⟨lb, 1, none⟩ = some (.map (some mw)) := HS5.out.led.cells.2.1
    have q3 : (w3.setCell ⟨wb, 3, none⟩ (.bool true)).cell? ⟨w.heap.size, 3, none⟩ = some (.int .i64 code) := HS5.out.req.cell 3
    clear HS2 HT2 HK2 k5
    go_wp2_with fail
    obtain ⟨w5, hw5⟩ : ∃ w5, w5 = w3.setCell ⟨wb, 3, none⟩ (.bool true) := ⟨_, rfl⟩
    rw [← hw5] at y0 y1 y2 y3 y4 c1 q3 HS5 HT5 ⊢
    clear hw5 z3 f3
    refine region_tail 7 (by kernel_rfl) (by kernel_rfl) ?_
    simp only [List.take_succ_cons, List.take_zero, List.drop_succ_cons, List.drop_zero]
    repeat still_step
    refine wpStill_nil ?_
    refine wpList_put_I rfl (.tmp 17) (.tmp 19) (.tmp 20) 157 rfl Tryz.underlying157 Tryz.underlying2 rfl HT5.out.words (by show words.length < maxLen; unfold maxLen; omega) code rfl HWf.out (hwV (usedW x) (ddB dead td code)) (by rw [hwV, usedW, ← HDD.out]; rfl) ?_
    intro w6 hm6 hg6'
    have hg6 := drew_grown hg6'
    have hl6 := HT5.out.used hg6 HX.out hm6
    have HS6 := Lib.hid (HS5.out.grown hl6 hg6 (.inr (.inl rfl)))
    have hq5 := HS6.out.req
    have p0 : w6.cell? ⟨w.heap.size, 0, none⟩ = some (.int .i64 no) := hq5.cell 0
    have p1 : w6.cell? ⟨w.heap.size, 1, none⟩ = some (.int .i64 kind) := hq5.cell 1
    have p2 : w6.cell? ⟨w.heap.size, 2, none⟩ = some (.int .i64 client) := hq5.cell 2
    have p3 : w6.cell? ⟨w.heap.size, 3, none⟩ = some (.int .i64 code) := hq5.cell 3
    have p4 : w6.cell? ⟨w.heap.size, 4, none⟩ = some (.int .i64 token) := hq5.cell 4
    have p5 : w6.cell? ⟨w.heap.size, 5, none⟩ = some (.string proof) := hq5.cell 5
    have p6 : w6.cell? ⟨w.heap.size, 6, none⟩ = some (.int .i64 by_) := hq5.cell 6
    clear hm6 hg6 hg6' hl6 HS5 HT5 y0 y1 y2 y3 y4 c1 q3 hq5
    go_wp2_with fail
    rw [← HV.out]
    refine (give_any lb mw mk B ⟨now, useW words code, keys, dead⟩ ⟨no, kind, client, code, token, proof, by_⟩ code _ HS6.out.led n0 n1 t0 t1 (by show keys.length ≤ _; omega) HNo.out.1 HNo.out.2).mono ?_
    rintro e w7 ⟨rfl, hl7, hk7⟩
    have HS7 := Lib.hid (HS6.out.step hl7 hk7)
    clear hl7 hk7 HS6 p0 p1 p2 p3 p4 p5 p6
    go_wp2_with (refine wpList_store_mid rfl 33 (.tmp 4) (.tmp 25) rfl (w.heap.size + 1) 0 #[.int .i64 0, .int .i64 (10 * no + 1), .int .i64 (10 * no + 2), .bool false] rfl rfl ?hh sizeResp (oneResp (giveR ⟨no, kind, client, code, token, proof, by_⟩)) ?_)
    case hh => exact HS7.out.there
    refine bodyPost_ret (ret_resp rfl rfl (HS7.out.put (giveR ⟨no, kind, client, code, token, proof, by_⟩)).resp) rfl ?_
    exact (HS7.out.put (giveR ⟨no, kind, client, code, token, proof, by_⟩)).told
/-- The word of that number and client. -/
def wordC (ws : List Wd) (no client : Int) : Option Wd := match findW ws no with
  | none => none
  | some x => if x.client == client then some x else none
def wordCV (o : Option Wd) (dd : Nat) : Value := match o with
  | none => .tuple #[hwZ, .bool false]
  | some x => .tuple #[hwV x dd, .bool true]
set_option maxHeartbeats 1000000 in
theorem wordOf_any (lb mw mk B : Nat) (g : Gr) (td : Int → Int) (no client : Int) (w : World) (hl : LedTd w B lb mw mk g td) (hwf : (Lit.int .i64 no).wf = true) :
    Calls Tryz.prog 167 #[.pointer (some ⟨lb, 0, none⟩), .int .i64 no, .int .i64 client] w (Ret (wordCV (wordC g.words no client) (ddB g.dead td no)) w) := by
  have hbz := (Below.refl w.heap.size w).alloc (Nat.le_refl _) (.cells #[.int .i64 0, .string ⟨#[]⟩, .float .f64 0, .bool false, .float .f64 0] 182)
  have hl1 := hl.later hbz
  have c1 : (w.alloc (.cells #[.int .i64 0, .string ⟨#[]⟩, .float .f64 0, .bool false, .float .f64 0] 182)).cell? ⟨lb, 1, none⟩ = some (.map (some mw)) := hl1.led.cells.2.1
  have HK := Lib.hid hl1.words
  obtain ⟨dd, hdd⟩ : ∃ dd, dd = ddB g.dead td no := ⟨_, rfl⟩
  rw [← hdd]
  have hsf := run_store_float
  clear hbz hl1 hl
  cases hf : findW g.words no with
  | none =>
    have HV : Hid (wordCV (wordC g.words no client) dd = .tuple #[.agg #[.int .i64 0, .string ⟨#[]⟩, .float .f64 0, .bool false, .float .f64 0], .bool false]) := Lib.hid (by simp [wordC, wordCV, hf, hwZ]; rfl)
    have hlk : (Instr.lookup 157 (.map (some mw)) (.int .i64 no) true).run Tryz.prog (w.alloc (.cells #[.int .i64 0, .string ⟨#[]⟩, .float .f64 0, .bool false, .float .f64 0] 182)) = .ok (.tuple #[.agg #[.int .i64 0, .string ⟨#[]⟩, .float .f64 0, .bool false, .float .f64 0], .bool false]) (w.alloc (.cells #[.int .i64 0, .string ⟨#[]⟩, .float .f64 0, .bool false, .float .f64 0] 182)) := by
      have h := HK.out.look_ok Tryz.underlying2 Tryz.underlying157 (hwZ_zero _) hwf
      rw [show wdF g.words g.dead td no = none by simp [wdF, hf]] at h
      exact h
    rw [HV.out]
    clear hf hdd
    go_enter Tryz.func167, Tryz.ntmps167
    go_wp2_with fail
    go_returns
    exact ⟨rfl, by go_grown⟩
  | some x =>
    have hlk : (Instr.lookup 157 (.map (some mw)) (.int .i64 no) true).run Tryz.prog (w.alloc (.cells #[.int .i64 0, .string ⟨#[]⟩, .float .f64 0, .bool false, .float .f64 0] 182)) = .ok (.tuple #[.agg #[.int .i64 x.client, .string x.shade, .float .f64 (floatOfInt .f64 x.till), .bool x.used, .float .f64 dd], .bool true]) (w.alloc (.cells #[.int .i64 0, .string ⟨#[]⟩, .float .f64 0, .bool false, .float .f64 0] 182)) := by
      have h := HK.out.look_ok Tryz.underlying2 Tryz.underlying157 (hwZ_zero _) hwf
      rw [show wdF g.words g.dead td no = some (hwV x dd) by simp [wdF, hf, hdd]] at h
      exact h
    by_cases hc : x.client = client
    · have HV : Hid (wordCV (wordC g.words no client) dd = .tuple #[.agg #[.int .i64 x.client, .string x.shade, .float .f64 (floatOfInt .f64 x.till), .bool x.used, .float .f64 dd], .bool true]) := Lib.hid (by simp [wordC, wordCV, hf, hwV, hc])
      have e1 : (x.client != client) = false := by simp [hc]
      rw [HV.out]
      clear hf hc hdd
      go_enter Tryz.func167, Tryz.ntmps167
      go_wp2_with fail
      go_returns
      exact ⟨rfl, by go_grown⟩
    · have HV : Hid (wordCV (wordC g.words no client) dd = .tuple #[.agg #[.int .i64 0, .string ⟨#[]⟩, .float .f64 0, .bool false, .float .f64 0], .bool false]) := Lib.hid (by simp [wordC, wordCV, hf, hwZ, hc]; rfl)
      have e1 : (x.client != client) = true := by simpa using hc
      rw [HV.out]
      clear hf hc hdd
      go_enter Tryz.func167, Tryz.ntmps167
      go_wp2_with fail
      go_returns
      exact ⟨rfl, by go_grown⟩
theorem good_ways (now till : Int) (d : Bool) : (till < now ∧ (!(decide (till < now) || d)) = false) ∨ (now ≤ till ∧ (!(decide (till < now) || d)) = !d) := by
  by_cases h : till < now
  · left; exact ⟨h, by simp [h]⟩
  · right; exact ⟨by omega, by simp [h]⟩
set_option maxHeartbeats 2000000 in
theorem isGood_any (lb mw mk B : Nat) (g : Gr) (td : Int → Int) (no : Int) (x : Wd) (dd : Nat) (hdd : dd = ddB g.dead td no) (w : World) (hl : LedTd w B lb mw mk g td) (h0 : 0 ≤ g.now) (h1 : g.now ≤ 1000000) (t0 : 0 ≤ x.till) (t1 : x.till ≤ 1000000) (b : Bool) (hb : (!(decide (x.till < g.now) || isDeadB g.dead no)) = b) :
    Calls Tryz.prog 169 #[.pointer (some ⟨lb, 0, none⟩), .agg #[.int .i64 x.client, .string x.shade, .float .f64 (floatOfInt .f64 x.till), .bool x.used, .float .f64 dd]] w (Ret (.bool b) w) := by
  subst hb
  have hr : Row w lb 184 [.float .f64 (floatOfInt .f64 g.now), .map (some mw), .map (some mk)] := hl.2.1
  have hlb := hr.lt
  have hcmp := leq_of (whole_of h0 h1) (whole_of t0 t1)
  have hdl := dd_leq (dead := g.dead) h0 h1 (hl.1 no)
  rw [← hdd] at hdl
  have hb1 := (Below.refl w.heap.size w).alloc (Nat.le_refl _) (.cells #[.int .i64 x.client, .string x.shade, .float .f64 (floatOfInt .f64 x.till), .bool x.used, .float .f64 dd] 182)
  have c0 : ∀ u : Ext (w.alloc (.cells #[.int .i64 x.client, .string x.shade, .float .f64 (floatOfInt .f64 x.till), .bool x.used, .float .f64 dd] 182)), u.w.cell? ⟨lb, 0, none⟩ = some (.float .f64 (floatOfInt .f64 g.now)) := fun u => u.cell ((hb1.cell (p := ⟨lb, 0, none⟩) hlb).trans (hr.cell 0))
  have f0 : ∀ u : Ext (w.alloc (.cells #[.int .i64 x.client, .string x.shade, .float .f64 (floatOfInt .f64 x.till), .bool x.used, .float .f64 dd] 182)), u.w.cell? ⟨w.heap.size, 0, none⟩ = some (.int .i64 x.client) := fun u => u.cell (by simp)
  have f1 : ∀ u : Ext (w.alloc (.cells #[.int .i64 x.client, .string x.shade, .float .f64 (floatOfInt .f64 x.till), .bool x.used, .float .f64 dd] 182)), u.w.cell? ⟨w.heap.size, 1, none⟩ = some (.string x.shade) := fun u => u.cell (by simp)
  have f2 : ∀ u : Ext (w.alloc (.cells #[.int .i64 x.client, .string x.shade, .float .f64 (floatOfInt .f64 x.till), .bool x.used, .float .f64 dd] 182)), u.w.cell? ⟨w.heap.size, 2, none⟩ = some (.float .f64 (floatOfInt .f64 x.till)) := fun u => u.cell (by simp)
  have f3 : ∀ u : Ext (w.alloc (.cells #[.int .i64 x.client, .string x.shade, .float .f64 (floatOfInt .f64 x.till), .bool x.used, .float .f64 dd] 182)), u.w.cell? ⟨w.heap.size, 3, none⟩ = some (.bool x.used) := fun u => u.cell (by simp)
  have f4 : ∀ u : Ext (w.alloc (.cells #[.int .i64 x.client, .string x.shade, .float .f64 (floatOfInt .f64 x.till), .bool x.used, .float .f64 dd] 182)), u.w.cell? ⟨w.heap.size, 4, none⟩ = some (.float .f64 dd) := fun u => u.cell (by simp)
  have HC := Lib.hid hdl
  clear hr hl hdl hdd
  rcases good_ways g.now x.till (isDeadB g.dead no) with ⟨s2, te⟩ | ⟨s2, te⟩
  all_goals
    have TE := Lib.hid te
    clear te
    rw [TE.out]
  · rw [decide_eq_false (by omega)] at hcmp
    go_enter Tryz.func169, Tryz.ntmps169
    go_wp2_with fail
    refine ext_region (w.alloc (.cells #[.int .i64 x.client, .string x.shade, .float .f64 (floatOfInt .f64 x.till), .bool x.used, .float .f64 dd] 182)) (by kernel_rfl) (by kernel_rfl) (Below.refl _ _) ?_
    repeat (go_big_quiet_step (fail))
    refine wpQuiet_nil ?_
    intro w2 hb2
    have HB2 := Lib.hid (hb1.trans (hb2.mono hb1.size))
    clear hb2
    go_wp2_with fail
    go_ret
    exact ⟨rfl, HB2.out⟩
  · rw [decide_eq_true s2] at hcmp
    go_enter Tryz.func169, Tryz.ntmps169
    go_wp2_with fail
    refine ext_region (w.alloc (.cells #[.int .i64 x.client, .string x.shade, .float .f64 (floatOfInt .f64 x.till), .bool x.used, .float .f64 dd] 182)) (by kernel_rfl) (by kernel_rfl) (Below.refl _ _) ?_
    repeat (go_big_quiet_step ((go_at_call 175; exact calls_ext (deadAt_any _ _ _ _ _ _ _ HC.out _))))
    refine wpQuiet_nil ?_
    intro w2 hb2
    have HB2 := Lib.hid (hb1.trans (hb2.mono hb1.size))
    clear hb2
    go_wp2_with fail
    go_ret
    exact ⟨rfl, HB2.out⟩
end Go.Proofs.YtgkdajlkajmdiaaGreat
