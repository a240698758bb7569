/- A ledger: a key, a word used for two keys; a word asked for; whether it is good. -/
import Derived.Test.YtchfgdiipjbgoaaGreatFGdF
import Derived.Test.YtchfgdiipjbgoaaGreatFGdC
import Derived.Test.YtchfgdiipjbgoaaGreatFGdA
import Derived.Test.YtchfgdiipjbgoaaGreatFGdB
import Derived.Deep.DeepCutAuto
namespace Go.Proofs.YtchfgdiipjbgoaaGreat
open Go Go.RowKit Go.Lib
set_option linter.unusedVariables false
set_option maxRecDepth 100000

theorem room_none {g : Gr} {r : RQ} (h : roomC g r = 0) : findK g.keys (10 * r.no + 1) = none ∧ findK g.keys (10 * r.no + 2) = none := by
 unfold roomC at h
 split at h
 ·omega
 ·split at h
  ·omega
  ·rename_i h2
   simp only [Bool.or_eq_true, not_or, Option.isSome_iff_ne_none, ne_eq, Classical.not_not] at h2
   exact h2
theorem findK_mark_none {l : List Ky} {n s i : Int} (h : findK l i = none) : findK (markK l n s) i = none := by rw [findK_mark, h]; rfl
set_option maxHeartbeats 4000000 in
theorem change_any (lb mw mk B : Nat) (g : Gr) (r : RQ) (x : Ky) (hx : findK g.keys r.token = some x) (hwf : (Lit.int .i64 r.token).wf = true) (w : World) (hl : LedAt w B lb mw mk g) (t0 : 0 ≤ g.now) (t1 : g.now ≤ 1000000) (n0 : 1 ≤ r.no) (n1 : r.no ≤ 99) (hk40 : g.keys.length ≤ 40) (hw20 : g.words.length ≤ 20) (hno : findK g.keys (10 * r.no + 1) = none ∧ findK g.keys (10 * r.no + 2) = none) :
  Calls Tryz.prog 216 #[.pointer (some ⟨lb, 0, none⟩), rqV r] w (LedOut2 B lb mw mk (giveG ⟨g.now, g.words, markK g.keys r.token 1, g.dead⟩ r x.fam) (giveR r) w) := by
 obtain ⟨now, words, keys, dead⟩ := g
 obtain ⟨no, kind, client, code, token, proof, by_⟩ := r
 simp only at t0 t1 hw20 hk40 n0 n1 hx hwf hno
 have HV := Lib.hid (show rqV ⟨no, kind, client, code, token, proof, by_⟩ = .agg #[.int .i64 no, .int .i64 kind, .int .i64 client, .int .i64 code, .int .i64 token, .string proof, .int .i64 by_] from rfl)
 have hs := SIn.start ⟨no, kind, client, code, token, proof, by_⟩ (codeR 0) hl
 simp only [codeR] at hs
 obtain ⟨W, hW⟩ : ∃ W, W = (w.alloc (.cells #[.int .i64 no, .int .i64 kind, .int .i64 client, .int .i64 code, .int .i64 token, .string proof, .int .i64 by_] 29)).alloc (.cells #[.int .i64 0, .int .i64 0, .int .i64 0, .bool false] 33) := ⟨_, rfl⟩
 rw [← hW] at hs
 have HW := Lib.hid hW
 have HS1 := Lib.hid hs
 have HWf := Lib.hid hwf
 have HX := Lib.hid hx
 have HNo := Lib.hid hno
 have hsf := run_store_float
 have HZ1 := Lib.hid hs.size
 clear hs hl hwf hx hno hW
 rw [HV.out]
 have q4 : W.cell? ⟨w.heap.size, 4, none⟩ = some (.int .i64 token) := HS1.out.req.cell 4
 have c2 : W.cell? ⟨lb, 2, none⟩ = some (.map (some mk)) := HS1.out.led.cells.2.2
 have hlk' : ∀ w', Below W.heap.size W w' → (Instr.lookup 167 (.map (some mk)) (.int .i64 token) false).run Tryz.prog w' = .ok (.agg #[.int .i64 x.client, .int .i64 x.fam, .bool x.refresh, .float .f64 (floatOfInt .f64 x.till), .int .i64 x.state]) w' := fun w' hb => by
  have h := (HS1.out.led.later hb).keys.look Tryz.underlying2 Tryz.underlying167 (hkZ_zero _) HWf.out
  rw [show (kyF keys token).getD hkZ = hkV x by simp [kyF, HX.out]] at h
  exact h
 have hlk := hlk' _ (Below.refl _ _).drew
 have hbz := (Below.refl W.heap.size W).alloc (Nat.le_refl _) (.cells #[.int .i64 0, .int .i64 0, .bool false, .float .f64 0, .int .i64 0] 132)
 have hlk2 := hlk' _ hbz.drew
 have q4a : (W.alloc (.cells #[.int .i64 0, .int .i64 0, .bool false, .float .f64 0, .int .i64 0] 132)).cell? ⟨w.heap.size, 4, none⟩ = some (.int .i64 token) := (hbz.cell (p := ⟨w.heap.size, 4, none⟩) (by show w.heap.size < W.heap.size; have := HZ1.out; omega)).trans q4
 have c2a : (W.alloc (.cells #[.int .i64 0, .int .i64 0, .bool false, .float .f64 0, .int .i64 0] 132)).cell? ⟨lb, 2, none⟩ = some (.map (some mk)) := (hbz.cell (p := ⟨lb, 2, none⟩) (by show lb < W.heap.size; have := HZ1.out; have := HS1.out.old.2.1; omega)).trans c2
 clear hbz hlk'
 go_enter Tryz.func216, Tryz.ntmps216
 go_upto_region 1 with fail
 rw [← HW.out]
 go_cut [5] (fun v5 wx => v5 = .pointer (some ⟨W.heap.size, 0, none⟩) ∧ wx = (W.alloc (.cells #[.int .i64 x.client, .int .i64 x.fam, .bool x.refresh, .float .f64 (floatOfInt .f64 x.till), .int .i64 x.state] 132)).drew)
 case first =>
  go_region
  all_goals go_wp2_with fail
  all_goals go_meet
  all_goals exact ⟨rfl, rfl⟩
 case rest =>
  obtain ⟨rfl, rfl⟩ := hcut
  have hb2 : Below W.heap.size W (W.alloc (.cells #[.int .i64 x.client, .int .i64 x.fam, .bool x.refresh, .float .f64 (floatOfInt .f64 x.till), .int .i64 x.state] 132)).drew := ((Below.refl _ W).alloc (Nat.le_refl _) _).drew
  have HS2 := Lib.hid (HS1.out.later hb2)
  have HK2 : Hid (Row (W.alloc (.cells #[.int .i64 x.client, .int .i64 x.fam, .bool x.refresh, .float .f64 (floatOfInt .f64 x.till), .int .i64 x.state] 132)).drew W.heap.size 132 [.int .i64 x.client, .int .i64 x.fam, .bool x.refresh, .float .f64 (floatOfInt .f64 x.till), .int .i64 x.state]) := Lib.hid (heap_alloc_new W _)
  clear hb2 HS1 q4 c2 hlk hlk2 q4a c2a HW
  generalize (W.alloc (.cells #[.int .i64 x.client, .int .i64 x.fam, .bool x.refresh, .float .f64 (floatOfInt .f64 x.till), .int .i64 x.state] 132)).drew = w3 at HS2 HK2 ⊢
  have hz1 := HZ1.out
  generalize W.heap.size = wb at HK2 hz1 ⊢
  have z4 : w3.cell? ⟨wb, 4, none⟩ = some (.int .i64 x.state) := HK2.out.cell 4
  have f4 := HK2.out.free 4
  have k4 : Row (w3.setCell ⟨wb, 4, none⟩ (.int .i64 1)) wb 132 [.int .i64 x.client, .int .i64 x.fam, .bool x.refresh, .float .f64 (floatOfInt .f64 x.till), .int .i64 1] := HK2.out.set 4 (.int .i64 1)
  have HS4 := Lib.hid (HS2.out.setCell (a := ⟨wb, 4, none⟩) (.int .i64 1) hz1)
  have y0 : (w3.setCell ⟨wb, 4, none⟩ (.int .i64 1)).cell? ⟨wb, 0, none⟩ = some (.int .i64 x.client) := k4.cell 0
  have y1 : (w3.setCell ⟨wb, 4, none⟩ (.int .i64 1)).cell? ⟨wb, 1, none⟩ = some (.int .i64 x.fam) := k4.cell 1
  have y2 : (w3.setCell ⟨wb, 4, none⟩ (.int .i64 1)).cell? ⟨wb, 2, none⟩ = some (.bool x.refresh) := k4.cell 2
  have y3 : (w3.setCell ⟨wb, 4, none⟩ (.int .i64 1)).cell? ⟨wb, 3, none⟩ = some (.float .f64 (floatOfInt .f64 x.till)) := k4.cell 3
  have y4 : (w3.setCell ⟨wb, 4, none⟩ (.int .i64 1)).cell? ⟨wb, 4, none⟩ = some (.int .i64 1) := k4.cell 4
  have c2 : (w3.setCell ⟨wb, 4, none⟩ (.int .i64 1)).cell? ⟨lb, 2, none⟩ = some (.map (some mk)) := HS4.out.led.cells.2.2
  have q4 : (w3.setCell ⟨wb, 4, none⟩ (.int .i64 1)).cell? ⟨w.heap.size, 4, none⟩ = some (.int .i64 token) := HS4.out.req.cell 4
  have HK4 := Lib.hid k4
  clear HS2 HK2 k4
  go_wp2_with fail
  obtain ⟨w4, hw4⟩ : ∃ w4, w4 = w3.setCell ⟨wb, 4, none⟩ (.int .i64 1) := ⟨_, rfl⟩
  rw [← hw4] at y0 y1 y2 y3 y4 c2 q4 HS4 HK4 ⊢
  clear hw4 z4 f4
  refine region_tail 7 (by kernel_rfl) (by kernel_rfl) ?_
  simp only [List.take_succ_cons, List.take_zero, List.drop_succ_cons, List.drop_zero]
  repeat still_step
  refine wpStill_nil ?_
  refine wpList_put_I rfl (.tmp 17) (.tmp 19) (.tmp 20) 167 rfl Tryz.underlying167 Tryz.underlying2 rfl HS4.out.led.keys (by show keys.length < maxLen; unfold maxLen; omega) token rfl HWf.out (hkV (stK 1 x)) rfl ?_
  intro w5 hm5 hg5'
  have hg5 := drew_grown hg5'
  have hl5 := HS4.out.led.marked hg5 HX.out hm5
  have HS5 := Lib.hid (HS4.out.grown hl5 hg5 (.inr (.inr rfl)))
  have k5 := HK4.out.grownI hg5 (ne_some (by have := HS4.out.old; omega))
  have y1' : w5.cell? ⟨wb, 1, none⟩ = some (.int .i64 x.fam) := k5.cell 1
  have hq5 := HS5.out.req
  have p0 : w5.cell? ⟨w.heap.size, 0, none⟩ = some (.int .i64 no) := hq5.cell 0
  have p1 : w5.cell? ⟨w.heap.size, 1, none⟩ = some (.int .i64 kind) := hq5.cell 1
  have p2 : w5.cell? ⟨w.heap.size, 2, none⟩ = some (.int .i64 client) := hq5.cell 2
  have p3 : w5.cell? ⟨w.heap.size, 3, none⟩ = some (.int .i64 code) := hq5.cell 3
  have p4 : w5.cell? ⟨w.heap.size, 4, none⟩ = some (.int .i64 token) := hq5.cell 4
  have p5 : w5.cell? ⟨w.heap.size, 5, none⟩ = some (.string proof) := hq5.cell 5
  have p6 : w5.cell? ⟨w.heap.size, 6, none⟩ = some (.int .i64 by_) := hq5.cell 6
  clear hm5 hg5 hg5' hl5 HS4 HK4 y0 y1 y2 y3 y4 c2 q4 k5 hq5
  go_wp2_with fail
  rw [← HV.out]
  refine (give_any lb mw mk B ⟨now, words, markK keys token 1, dead⟩ ⟨no, kind, client, code, token, proof, by_⟩ x.fam _ HS5.out.led n0 n1 t0 t1 (by show (markK keys token 1).length ≤ _; rw [markK_length]; omega) (findK_mark_none HNo.out.1) (findK_mark_none HNo.out.2)).mono ?_
  rintro e w6 ⟨rfl, hl6, hk6⟩
  have HS6 := Lib.hid (HS5.out.step hl6 hk6)
  clear hl6 hk6 HS5 y1' p0 p1 p2 p3 p4 p5 p6
  go_wp2_with (refine wpList_store_mid rfl 33 (.tmp 4) (.tmp 25) rfl (w.heap.size + 1) 0 #[.int .i64 0, .int .i64 (10 * no + 1), .int .i64 (10 * no + 2), .bool false] rfl rfl ?hh sizeResp (oneResp (giveR ⟨no, kind, client, code, token, proof, by_⟩)) ?_)
  case hh => exact HS6.out.there
  refine bodyPost_ret (ret_resp rfl rfl (HS6.out.put (giveR ⟨no, kind, client, code, token, proof, by_⟩)).resp) rfl ?_
  exact (HS6.out.put (giveR ⟨no, kind, client, code, token, proof, by_⟩)).told
set_option maxHeartbeats 4000000 in
theorem use_any (lb mw mk B : Nat) (g : Gr) (r : RQ) (x : Wd) (hx : findW g.words r.code = some x) (hwf : (Lit.int .i64 r.code).wf = true) (w : World) (hl : LedAt w B lb mw mk g) (t0 : 0 ≤ g.now) (t1 : g.now ≤ 1000000) (n0 : 1 ≤ r.no) (n1 : r.no ≤ 99) (hk40 : g.keys.length ≤ 40) (hw20 : g.words.length ≤ 20) (hno : findK g.keys (10 * r.no + 1) = none ∧ findK g.keys (10 * r.no + 2) = none) :
  Calls Tryz.prog 214 #[.pointer (some ⟨lb, 0, none⟩), rqV r] w (LedOut2 B lb mw mk (giveG ⟨g.now, useW g.words r.code, g.keys, g.dead⟩ r r.code) (giveR r) w) := by
 obtain ⟨now, words, keys, dead⟩ := g
 obtain ⟨no, kind, client, code, token, proof, by_⟩ := r
 simp only at t0 t1 hw20 hk40 n0 n1 hx hwf hno
 have HV := Lib.hid (show rqV ⟨no, kind, client, code, token, proof, by_⟩ = .agg #[.int .i64 no, .int .i64 kind, .int .i64 client, .int .i64 code, .int .i64 token, .string proof, .int .i64 by_] from rfl)
 have hs := SIn.start ⟨no, kind, client, code, token, proof, by_⟩ (codeR 0) hl
 simp only [codeR] at hs
 obtain ⟨W, hW⟩ : ∃ W, W = (w.alloc (.cells #[.int .i64 no, .int .i64 kind, .int .i64 client, .int .i64 code, .int .i64 token, .string proof, .int .i64 by_] 29)).alloc (.cells #[.int .i64 0, .int .i64 0, .int .i64 0, .bool false] 33) := ⟨_, rfl⟩
 rw [← hW] at hs
 have HW := Lib.hid hW
 have HS1 := Lib.hid hs
 have HWf := Lib.hid hwf
 have HX := Lib.hid hx
 have HNo := Lib.hid hno
 have hsf := run_store_float
 have HZ1 := Lib.hid hs.size
 clear hs hl hwf hx hno hW
 rw [HV.out]
 obtain ⟨td, htd⟩ := HS1.out.led.td
 have HTD := Lib.hid htd
 clear htd
 obtain ⟨dd, hdd⟩ : ∃ dd, dd = ddB dead td code := ⟨_, rfl⟩
 have HDD := Lib.hid hdd
 clear hdd
 have q3 : W.cell? ⟨w.heap.size, 3, none⟩ = some (.int .i64 code) := HS1.out.req.cell 3
 have c1 : W.cell? ⟨lb, 1, none⟩ = some (.map (some mw)) := HS1.out.led.cells.2.1
 have hlk' : ∀ w', Below W.heap.size W w' → (Instr.lookup 166 (.map (some mw)) (.int .i64 code) false).run Tryz.prog w' = .ok (.agg #[.int .i64 x.client, .string x.shade, .float .f64 (floatOfInt .f64 x.till), .bool x.used, .float .f64 dd]) w' := fun w' hb => by
  have h := (HTD.out.words.later hb).look Tryz.underlying2 Tryz.underlying166 (hwZ_zero _) HWf.out
  rw [show (wdF words dead td code).getD hwZ = hwV x (ddB dead td code) by simp [wdF, HX.out], ← HDD.out] at h
  exact h
 have hlk := hlk' _ (Below.refl _ _).drew
 have hbz := (Below.refl W.heap.size W).alloc (Nat.le_refl _) (.cells #[.int .i64 0, .string ⟨#[]⟩, .float .f64 0, .bool false, .float .f64 0] 224)
 have hlk2 := hlk' _ hbz.drew
 have q3a : (W.alloc (.cells #[.int .i64 0, .string ⟨#[]⟩, .float .f64 0, .bool false, .float .f64 0] 224)).cell? ⟨w.heap.size, 3, none⟩ = some (.int .i64 code) := (hbz.cell (p := ⟨w.heap.size, 3, none⟩) (by show w.heap.size < W.heap.size; have := HZ1.out; omega)).trans q3
 have c1a : (W.alloc (.cells #[.int .i64 0, .string ⟨#[]⟩, .float .f64 0, .bool false, .float .f64 0] 224)).cell? ⟨lb, 1, none⟩ = some (.map (some mw)) := (hbz.cell (p := ⟨lb, 1, none⟩) (by show lb < W.heap.size; have := HZ1.out; have := HS1.out.old.2.1; omega)).trans c1
 clear hbz hlk'
 go_enter Tryz.func214, Tryz.ntmps214
 go_upto_region 1 with fail
 rw [← HW.out]
 go_cut [5] (fun v5 wx => v5 = .pointer (some ⟨W.heap.size, 0, none⟩) ∧ wx = (W.alloc (.cells #[.int .i64 x.client, .string x.shade, .float .f64 (floatOfInt .f64 x.till), .bool x.used, .float .f64 dd] 224)).drew)
 case first =>
  go_region
  all_goals go_wp2_with fail
  all_goals go_meet
  all_goals exact ⟨rfl, rfl⟩
 case rest =>
  obtain ⟨rfl, rfl⟩ := hcut
  have hb2 : Below W.heap.size W (W.alloc (.cells #[.int .i64 x.client, .string x.shade, .float .f64 (floatOfInt .f64 x.till), .bool x.used, .float .f64 dd] 224)).drew := ((Below.refl _ W).alloc (Nat.le_refl _) _).drew
  have HS2 := Lib.hid (HS1.out.later hb2)
  have HT2 := Lib.hid (HTD.out.later hb2)
  have HK2 : Hid (Row (W.alloc (.cells #[.int .i64 x.client, .string x.shade, .float .f64 (floatOfInt .f64 x.till), .bool x.used, .float .f64 dd] 224)).drew W.heap.size 224 [.int .i64 x.client, .string x.shade, .float .f64 (floatOfInt .f64 x.till), .bool x.used, .float .f64 dd]) := Lib.hid (heap_alloc_new W _)
  clear hb2 HS1 HTD q3 c1 hlk hlk2 q3a c1a HW
  generalize (W.alloc (.cells #[.int .i64 x.client, .string x.shade, .float .f64 (floatOfInt .f64 x.till), .bool x.used, .float .f64 dd] 224)).drew = w3 at HS2 HT2 HK2 ⊢
  have hz1 := HZ1.out
  generalize W.heap.size = wb at HK2 hz1 ⊢
  have z3 : w3.cell? ⟨wb, 3, none⟩ = some (.bool x.used) := HK2.out.cell 3
  have f3 := HK2.out.free 3
  have k5 : Row (w3.setCell ⟨wb, 3, none⟩ (.bool true)) wb 224 [.int .i64 x.client, .string x.shade, .float .f64 (floatOfInt .f64 x.till), .bool true, .float .f64 dd] := HK2.out.set 3 (.bool true)
  have HS5 := Lib.hid (HS2.out.setCell (a := ⟨wb, 3, none⟩) (.bool true) hz1)
  have HT5 : Hid (LedTd (w3.setCell ⟨wb, 3, none⟩ (.bool true)) B lb mw mk ⟨now, words, keys, dead⟩ td) := Lib.hid (HT2.out.setCell (a := ⟨wb, 3, none⟩) (.bool true) (by have := HS2.out.old; show wb ≠ lb ∧ wb ≠ mw ∧ wb ≠ mk; omega))
  have y0 : (w3.setCell ⟨wb, 3, none⟩ (.bool true)).cell? ⟨wb, 0, none⟩ = some (.int .i64 x.client) := k5.cell 0
  have y1 : (w3.setCell ⟨wb, 3, none⟩ (.bool true)).cell? ⟨wb, 1, none⟩ = some (.string x.shade) := k5.cell 1
  have y2 : (w3.setCell ⟨wb, 3, none⟩ (.bool true)).cell? ⟨wb, 2, none⟩ = some (.float .f64 (floatOfInt .f64 x.till)) := k5.cell 2
  have y3 : (w3.setCell ⟨wb, 3, none⟩ (.bool true)).cell? ⟨wb, 3, none⟩ = some (.bool true) := k5.cell 3
  have y4 : (w3.setCell ⟨wb, 3, none⟩ (.bool true)).cell? ⟨wb, 4, none⟩ = some (.float .f64 dd) := k5.cell 4
  have c1 : (w3.setCell ⟨wb, 3, none⟩ (.bool true)).cell? ⟨lb, 1, none⟩ = some (.map (some mw)) := HS5.out.led.cells.2.1
  have q3 : (w3.setCell ⟨wb, 3, none⟩ (.bool true)).cell? ⟨w.heap.size, 3, none⟩ = some (.int .i64 code) := HS5.out.req.cell 3
  clear HS2 HT2 HK2 k5
  go_wp2_with fail
  obtain ⟨w5, hw5⟩ : ∃ w5, w5 = w3.setCell ⟨wb, 3, none⟩ (.bool true) := ⟨_, rfl⟩
  rw [← hw5] at y0 y1 y2 y3 y4 c1 q3 HS5 HT5 ⊢
  clear hw5 z3 f3
  refine region_tail 7 (by kernel_rfl) (by kernel_rfl) ?_
  simp only [List.take_succ_cons, List.take_zero, List.drop_succ_cons, List.drop_zero]
  repeat still_step
  refine wpStill_nil ?_
  refine wpList_put_I rfl (.tmp 17) (.tmp 19) (.tmp 20) 166 rfl Tryz.underlying166 Tryz.underlying2 rfl HT5.out.words (by show words.length < maxLen; unfold maxLen; omega) code rfl HWf.out (hwV (usedW x) (ddB dead td code)) (by rw [hwV, usedW, ← HDD.out]; rfl) ?_
  intro w6 hm6 hg6'
  have hg6 := drew_grown hg6'
  have hl6 := HT5.out.used hg6 HX.out hm6
  have HS6 := Lib.hid (HS5.out.grown hl6 hg6 (.inr (.inl rfl)))
  have hq5 := HS6.out.req
  have p0 : w6.cell? ⟨w.heap.size, 0, none⟩ = some (.int .i64 no) := hq5.cell 0
  have p1 : w6.cell? ⟨w.heap.size, 1, none⟩ = some (.int .i64 kind) := hq5.cell 1
  have p2 : w6.cell? ⟨w.heap.size, 2, none⟩ = some (.int .i64 client) := hq5.cell 2
  have p3 : w6.cell? ⟨w.heap.size, 3, none⟩ = some (.int .i64 code) := hq5.cell 3
  have p4 : w6.cell? ⟨w.heap.size, 4, none⟩ = some (.int .i64 token) := hq5.cell 4
  have p5 : w6.cell? ⟨w.heap.size, 5, none⟩ = some (.string proof) := hq5.cell 5
  have p6 : w6.cell? ⟨w.heap.size, 6, none⟩ = some (.int .i64 by_) := hq5.cell 6
  clear hm6 hg6 hg6' hl6 HS5 HT5 y0 y1 y2 y3 y4 c1 q3 hq5
  go_wp2_with fail
  rw [← HV.out]
  refine (give_any lb mw mk B ⟨now, useW words code, keys, dead⟩ ⟨no, kind, client, code, token, proof, by_⟩ code _ HS6.out.led n0 n1 t0 t1 (by show keys.length ≤ _; omega) HNo.out.1 HNo.out.2).mono ?_
  rintro e w7 ⟨rfl, hl7, hk7⟩
  have HS7 := Lib.hid (HS6.out.step hl7 hk7)
  clear hl7 hk7 HS6 p0 p1 p2 p3 p4 p5 p6
  go_wp2_with (refine wpList_store_mid rfl 33 (.tmp 4) (.tmp 25) rfl (w.heap.size + 1) 0 #[.int .i64 0, .int .i64 (10 * no + 1), .int .i64 (10 * no + 2), .bool false] rfl rfl ?hh sizeResp (oneResp (giveR ⟨no, kind, client, code, token, proof, by_⟩)) ?_)
  case hh => exact HS7.out.there
  refine bodyPost_ret (ret_resp rfl rfl (HS7.out.put (giveR ⟨no, kind, client, code, token, proof, by_⟩)).resp) rfl ?_
  exact (HS7.out.put (giveR ⟨no, kind, client, code, token, proof, by_⟩)).told
/-- What is found of a word that is asked for. -/
def wordCV (o : Option Wd) (dd : Nat) : Value := match o with
 | none => .tuple #[hwZ, .bool false]
 | some x => .tuple #[hwV x dd, .bool true]
theorem wordFor_find {g : Gr} {r : RQ} {x : Wd} (h : wordFor g r = some x) : findW g.words r.code = some x := by
 unfold wordFor at h
 split at h
 ·cases h
 ·rename_i z hz
  split at h
  ·rw [hz]; exact h
  ·cases h
theorem sizeHW : (Tryz.prog.info? 224).map (·.size) = some 5 := by kernel_rfl
theorem oneHW (a : Int) (b : ByteArray) (c : Nat) (d : Bool) (e : Nat) : (#[.int .i64 a, .string b, .float .f64 c, .bool d, .float .f64 e] : Array Value).all (·.oneCell') = true := by simp [Value.oneCell']
set_option maxHeartbeats 2000000 in
theorem forNext_any (c f : Int) (b : Bool) (t : Nat) (s : Int) (th : Bool) (w : World) :
  Calls Tryz.prog 215 #[.agg #[.int .i64 c, .int .i64 f, .bool b, .float .f64 t, .int .i64 s], .bool th] w (Ret (.tuple #[.agg #[.int .i64 c, .int .i64 f, .bool b, .float .f64 t, .int .i64 s], .bool (th && b)]) w) := by
 have hsf := run_store_float
 cases th
 ·go_enter Tryz.func215, Tryz.ntmps215
  go_wp2_with fail
  go_region
  all_goals go_wp2_with fail
  all_goals go_returns
  all_goals exact ⟨rfl, by go_grown⟩
 ·go_enter Tryz.func215, Tryz.ntmps215
  go_wp2_with fail
  go_region
  all_goals go_wp2_with fail
  all_goals go_returns
  all_goals exact ⟨by simp, by go_grown⟩
set_option maxHeartbeats 4000000 in
theorem wordFor_any (lb mw mk B : Nat) (g : Gr) (td : Int → Int) (r : RQ) (w : World) (hl : LedTd w B lb mw mk g td) (hwf : (Lit.int .i64 r.code).wf = true) (hps : r.proof.size ≤ 40) :
  Calls Tryz.prog 212 #[.pointer (some ⟨lb, 0, none⟩), rqV r] w (Ret (wordCV (wordFor g r) (ddB g.dead td r.code)) w) := by
 obtain ⟨no, kind, client, code, token, proof, by_⟩ := r
 simp only at hwf hps
 obtain ⟨W, hW⟩ : ∃ W, W = (w.alloc (.cells #[.int .i64 no, .int .i64 kind, .int .i64 client, .int .i64 code, .int .i64 token, .string proof, .int .i64 by_] 29)).alloc (.cells #[.int .i64 0, .string ⟨#[]⟩, .float .f64 0, .bool false, .float .f64 0] 224) := ⟨_, rfl⟩
 have hb0 : Below w.heap.size w W := by rw [hW]; go_grown
 have r0 : Row W w.heap.size 29 [.int .i64 no, .int .i64 kind, .int .i64 client, .int .i64 code, .int .i64 token, .string proof, .int .i64 by_] := by
  rw [hW]
  exact Row.below (heap_alloc_new w _) ((Below.refl _ _).alloc (Nat.le_refl _) _) (by simp)
 have r1 : Row W (w.heap.size + 1) 224 [.int .i64 0, .string ⟨#[]⟩, .float .f64 0, .bool false, .float .f64 0] := by
  rw [hW]
  have h := heap_alloc_new (w.alloc (.cells #[.int .i64 no, .int .i64 kind, .int .i64 client, .int .i64 code, .int .i64 token, .string proof, .int .i64 by_] 29)) (.cells #[.int .i64 0, .string ⟨#[]⟩, .float .f64 0, .bool false, .float .f64 0] 224)
  rw [World.size_alloc] at h
  exact h
 have HW := Lib.hid hW
 have hl1 := hl.later hb0
 have c1 : W.cell? ⟨lb, 1, none⟩ = some (.map (some mw)) := hl1.led.cells.2.1
 have q3 : W.cell? ⟨w.heap.size, 3, none⟩ = some (.int .i64 code) := r0.cell 3
 have HK := Lib.hid hl1.words
 have hbz : Below W.heap.size W (W.alloc (.cells #[.int .i64 0, .string ⟨#[]⟩, .float .f64 0, .bool false, .float .f64 0] 224)) := (Below.refl W.heap.size W).alloc (Nat.le_refl _) _
 have q3a : (W.alloc (.cells #[.int .i64 0, .string ⟨#[]⟩, .float .f64 0, .bool false, .float .f64 0] 224)).cell? ⟨w.heap.size, 3, none⟩ = some (.int .i64 code) := (hbz.cell (p := ⟨w.heap.size, 3, none⟩) r0.lt).trans q3
 have c1a : (W.alloc (.cells #[.int .i64 0, .string ⟨#[]⟩, .float .f64 0, .bool false, .float .f64 0] 224)).cell? ⟨lb, 1, none⟩ = some (.map (some mw)) := (hbz.cell (p := ⟨lb, 1, none⟩) (World.block_lt_of_cell? W _ c1)).trans c1
 have HB := Lib.hid hb0
 have R0 := Lib.hid r0
 have R1 := Lib.hid r1
 have HV := Lib.hid (show rqV ⟨no, kind, client, code, token, proof, by_⟩ = .agg #[.int .i64 no, .int .i64 kind, .int .i64 client, .int .i64 code, .int .i64 token, .string proof, .int .i64 by_] from rfl)
 obtain ⟨dd, hdd⟩ : ∃ dd, dd = ddB g.dead td code := ⟨_, rfl⟩
 show Calls Tryz.prog 212 _ w (Ret (wordCV (wordFor g ⟨no, kind, client, code, token, proof, by_⟩) (ddB g.dead td code)) w)
 rw [← hdd, HV.out]
 have hsf := run_store_float
 clear hl1 hl hW hb0 r0 r1
 cases hf : findW g.words code with
 | none =>
  have HT : Hid (wordCV (wordFor g ⟨no, kind, client, code, token, proof, by_⟩) dd = .tuple #[.agg #[.int .i64 0, .string ⟨#[]⟩, .float .f64 0, .bool false, .float .f64 0], .bool false]) := Lib.hid (by simp [wordFor, wordCV, hf, hwZ]; rfl)
  have hlk' : ∀ w', Below W.heap.size W w' → (Instr.lookup 166 (.map (some mw)) (.int .i64 code) true).run Tryz.prog w' = .ok (.tuple #[.agg #[.int .i64 0, .string ⟨#[]⟩, .float .f64 0, .bool false, .float .f64 0], .bool false]) w' := fun w' hb => by
   have h := (HK.out.later hb).look_ok Tryz.underlying2 Tryz.underlying166 (hwZ_zero _) hwf
   rw [show wdF g.words g.dead td code = none by simp [wdF, hf]] at h
   exact h
  have hlk := hlk' _ (Below.refl _ _).drew
  have hlk2 := hlk' _ hbz.drew
  clear hlk'
  rw [HT.out]
  clear hf hdd hbz
  go_enter Tryz.func212, Tryz.ntmps212
  go_upto_region 1 with fail
  rw [← HW.out]
  go_cut [6, 7] (fun v6 v7 wx => v6 = .pointer (some ⟨W.heap.size, 0, none⟩) ∧ v7 = .bool false ∧ wx = (W.alloc (.cells #[.int .i64 0, .string ⟨#[]⟩, .float .f64 0, .bool false, .float .f64 0] 224)).drew)
  case first =>
   go_region
   all_goals go_wp2_with fail
   all_goals go_meet
   all_goals exact ⟨rfl, rfl, rfl⟩
  obtain ⟨rfl, rfl, rfl⟩ := hcut
  have hb2 : Below W.heap.size W (W.alloc (.cells #[.int .i64 0, .string ⟨#[]⟩, .float .f64 0, .bool false, .float .f64 0] 224)).drew := ((Below.refl _ _).alloc (Nat.le_refl _) _).drew
  have hx2 : Row (W.alloc (.cells #[.int .i64 0, .string ⟨#[]⟩, .float .f64 0, .bool false, .float .f64 0] 224)).drew W.heap.size 224 [.int .i64 0, .string ⟨#[]⟩, .float .f64 0, .bool false, .float .f64 0] := heap_alloc_new W _
  have HX := Lib.hid hx2
  have HQ := Lib.hid (R0.out.below hb2 R0.out.lt)
  have HR := Lib.hid (R1.out.below hb2 R1.out.lt)
  have HB2 := Lib.hid (HB.out.trans (hb2.mono HB.out.size))
  clear hb2 hx2 hlk hlk2 c1 q3 c1a q3a
  generalize (W.alloc (.cells #[.int .i64 0, .string ⟨#[]⟩, .float .f64 0, .bool false, .float .f64 0] 224)).drew = W2 at HX HQ HR HB2 ⊢
  generalize W.heap.size = wb at HX ⊢
  go_upto_region 2 with fail
  refine ext_region W2 (by kernel_rfl) (by kernel_rfl) (Below.refl _ _) ?_
  repeat (go_big_quiet_step (fail))
  refine wpQuiet_nil ?_
  intro w3 hb3
  have HX3 := Lib.hid (HX.out.below hb3 HX.out.lt)
  have HR3 := Lib.hid (HR.out.below hb3 HR.out.lt)
  have HB3 := Lib.hid (HB2.out.trans (hb3.mono HB2.out.size))
  clear hb3 HX HQ HR HB2 
  go_wp2_with (refine Stop.out (p := wpList _ _ _ [{ dst := none, op := .store 224 (.tmp 4) (.tmp 35), type := _, pos := _, after := _, guard := _ }, _] _ _) ?_)
  constructor
  refine wpList_store_to rfl 224 (.tmp 4) (.tmp 35) rfl (w.heap.size + 1) 0 #[.int .i64 0, .string ⟨#[]⟩, .float .f64 0, .bool false, .float .f64 0] rfl rfl (HR3.out.there 0 5 (by simp)) sizeHW (oneHW _ _ _ _ _) ?_
  intro Z hZ
  have hz : Row Z (w.heap.size + 1) 224 [.int .i64 0, .string ⟨#[]⟩, .float .f64 0, .bool false, .float .f64 0] := by rw [hZ]; exact HR3.out.setCells _ 0
  have HBz : Hid (Below w.heap.size w Z) := Lib.hid (by rw [hZ]; exact below_setCells (by omega) _ _ HB3.out)
  have d0 : Z.cell? ⟨w.heap.size + 1, 0, none⟩ = some (.int .i64 0) := hz.cell 0
  have d1 : Z.cell? ⟨w.heap.size + 1, 1, none⟩ = some (.string ⟨#[]⟩) := hz.cell 1
  have d2 : Z.cell? ⟨w.heap.size + 1, 2, none⟩ = some (.float .f64 0) := hz.cell 2
  have d3 : Z.cell? ⟨w.heap.size + 1, 3, none⟩ = some (.bool false) := hz.cell 3
  have d4 : Z.cell? ⟨w.heap.size + 1, 4, none⟩ = some (.float .f64 0) := hz.cell 4
  clear hZ hz HX3 HR3 HB3
  go_wp2_with fail
  refine bodyPost_ret (v := .tuple #[.agg #[.int .i64 0, .string ⟨#[]⟩, .float .f64 0, .bool false, .float .f64 0], .bool false]) (by simp [results, Tryz.results212, go_sem, d0, d1, d2, d3, d4]; try rfl) rfl ?_
  exact ⟨rfl, HBz.out⟩
 | some x =>
  have hlk' : ∀ w', Below W.heap.size W w' → (Instr.lookup 166 (.map (some mw)) (.int .i64 code) true).run Tryz.prog w' = .ok (.tuple #[.agg #[.int .i64 x.client, .string x.shade, .float .f64 (floatOfInt .f64 x.till), .bool x.used, .float .f64 dd], .bool true]) w' := fun w' hb => by
   have h := (HK.out.later hb).look_ok Tryz.underlying2 Tryz.underlying166 (hwZ_zero _) hwf
   rw [show wdF g.words g.dead td code = some (hwV x dd) by simp [wdF, hf, hdd]] at h
   exact h
  have hlk := hlk' _ (Below.refl _ _).drew
  have hlk2 := hlk' _ hbz.drew
  clear hlk'
  by_cases hc : x.client = client
  ·have e1 : (x.client != client) = false := by simp [hc]
   cases hsd : (x.shade.toList == (shadeT proof).toList) with
   | false =>
    have HT : Hid (wordCV (wordFor g ⟨no, kind, client, code, token, proof, by_⟩) dd = .tuple #[.agg #[.int .i64 0, .string ⟨#[]⟩, .float .f64 0, .bool false, .float .f64 0], .bool false]) := Lib.hid (by simp [wordFor, wordCV, hf, hwZ, hc, hsd]; rfl)
    rw [HT.out]
    clear hf hc hdd hbz
    go_enter Tryz.func212, Tryz.ntmps212
    go_upto_region 1 with fail
    rw [← HW.out]
    go_cut [6, 7] (fun v6 v7 wx => v6 = .pointer (some ⟨W.heap.size, 0, none⟩) ∧ v7 = .bool true ∧ wx = (W.alloc (.cells #[.int .i64 x.client, .string x.shade, .float .f64 (floatOfInt .f64 x.till), .bool x.used, .float .f64 dd] 224)).drew)
    case first =>
     go_region
     all_goals go_wp2_with fail
     all_goals go_meet
     all_goals exact ⟨rfl, rfl, rfl⟩
    obtain ⟨rfl, rfl, rfl⟩ := hcut
    have hb2 : Below W.heap.size W (W.alloc (.cells #[.int .i64 x.client, .string x.shade, .float .f64 (floatOfInt .f64 x.till), .bool x.used, .float .f64 dd] 224)).drew := ((Below.refl _ _).alloc (Nat.le_refl _) _).drew
    have hx2 : Row (W.alloc (.cells #[.int .i64 x.client, .string x.shade, .float .f64 (floatOfInt .f64 x.till), .bool x.used, .float .f64 dd] 224)).drew W.heap.size 224 [.int .i64 x.client, .string x.shade, .float .f64 (floatOfInt .f64 x.till), .bool x.used, .float .f64 dd] := heap_alloc_new W _
    have HX := Lib.hid hx2
    have HQ := Lib.hid (R0.out.below hb2 R0.out.lt)
    have HR := Lib.hid (R1.out.below hb2 R1.out.lt)
    have HB2 := Lib.hid (HB.out.trans (hb2.mono HB.out.size))
    clear hb2 hx2 hlk hlk2 c1 q3 c1a q3a
    generalize (W.alloc (.cells #[.int .i64 x.client, .string x.shade, .float .f64 (floatOfInt .f64 x.till), .bool x.used, .float .f64 dd] 224)).drew = W2 at HX HQ HR HB2 ⊢
    generalize W.heap.size = wb at HX ⊢
    have k0 : ∀ v : Ext W2, v.w.cell? ⟨wb, 0, none⟩ = some (.int .i64 x.client) := fun v => v.cell (HX.out.cell 0)
    have k1 : ∀ v : Ext W2, v.w.cell? ⟨wb, 1, none⟩ = some (.string x.shade) := fun v => v.cell (HX.out.cell 1)
    have q2 : ∀ v : Ext W2, v.w.cell? ⟨w.heap.size, 2, none⟩ = some (.int .i64 client) := fun v => v.cell (HQ.out.cell 2)
    have q5 : ∀ v : Ext W2, v.w.cell? ⟨w.heap.size, 5, none⟩ = some (.string proof) := fun v => v.cell (HQ.out.cell 5)
    go_upto_region 2 with fail
    refine ext_region W2 (by kernel_rfl) (by kernel_rfl) (Below.refl _ _) ?_
    repeat (go_big_quiet_step ((go_at_call 255; exact calls_ext (shade_impl proof _ hps))))
    refine wpQuiet_nil ?_
    intro w3 hb3
    have HX3 := Lib.hid (HX.out.below hb3 HX.out.lt)
    have HR3 := Lib.hid (HR.out.below hb3 HR.out.lt)
    have HB3 := Lib.hid (HB2.out.trans (hb3.mono HB2.out.size))
    clear hb3 HX HQ HR HB2 k0 k1 q2 q5
    go_wp2_with (refine Stop.out (p := wpList _ _ _ [{ dst := none, op := .store 224 (.tmp 4) (.tmp 35), type := _, pos := _, after := _, guard := _ }, _] _ _) ?_)
    constructor
    refine wpList_store_to rfl 224 (.tmp 4) (.tmp 35) rfl (w.heap.size + 1) 0 #[.int .i64 0, .string ⟨#[]⟩, .float .f64 0, .bool false, .float .f64 0] rfl rfl (HR3.out.there 0 5 (by simp)) sizeHW (oneHW _ _ _ _ _) ?_
    intro Z hZ
    have hz : Row Z (w.heap.size + 1) 224 [.int .i64 0, .string ⟨#[]⟩, .float .f64 0, .bool false, .float .f64 0] := by rw [hZ]; exact HR3.out.setCells _ 0
    have HBz : Hid (Below w.heap.size w Z) := Lib.hid (by rw [hZ]; exact below_setCells (by omega) _ _ HB3.out)
    have d0 : Z.cell? ⟨w.heap.size + 1, 0, none⟩ = some (.int .i64 0) := hz.cell 0
    have d1 : Z.cell? ⟨w.heap.size + 1, 1, none⟩ = some (.string ⟨#[]⟩) := hz.cell 1
    have d2 : Z.cell? ⟨w.heap.size + 1, 2, none⟩ = some (.float .f64 0) := hz.cell 2
    have d3 : Z.cell? ⟨w.heap.size + 1, 3, none⟩ = some (.bool false) := hz.cell 3
    have d4 : Z.cell? ⟨w.heap.size + 1, 4, none⟩ = some (.float .f64 0) := hz.cell 4
    clear hZ hz HX3 HR3 HB3
    go_wp2_with fail
    refine bodyPost_ret (v := .tuple #[.agg #[.int .i64 0, .string ⟨#[]⟩, .float .f64 0, .bool false, .float .f64 0], .bool false]) (by simp [results, Tryz.results212, go_sem, d0, d1, d2, d3, d4]; try rfl) rfl ?_
    exact ⟨rfl, HBz.out⟩
   | true =>
    have HT : Hid (wordCV (wordFor g ⟨no, kind, client, code, token, proof, by_⟩) dd = .tuple #[.agg #[.int .i64 x.client, .string x.shade, .float .f64 (floatOfInt .f64 x.till), .bool x.used, .float .f64 dd], .bool true]) := Lib.hid (by simp [wordFor, wordCV, hf, hwV, hc, hsd])
    rw [HT.out]
    clear hf hc hdd hbz
    go_enter Tryz.func212, Tryz.ntmps212
    go_upto_region 1 with fail
    rw [← HW.out]
    go_cut [6, 7] (fun v6 v7 wx => v6 = .pointer (some ⟨W.heap.size, 0, none⟩) ∧ v7 = .bool true ∧ wx = (W.alloc (.cells #[.int .i64 x.client, .string x.shade, .float .f64 (floatOfInt .f64 x.till), .bool x.used, .float .f64 dd] 224)).drew)
    case first =>
     go_region
     all_goals go_wp2_with fail
     all_goals go_meet
     all_goals exact ⟨rfl, rfl, rfl⟩
    obtain ⟨rfl, rfl, rfl⟩ := hcut
    have hb2 : Below W.heap.size W (W.alloc (.cells #[.int .i64 x.client, .string x.shade, .float .f64 (floatOfInt .f64 x.till), .bool x.used, .float .f64 dd] 224)).drew := ((Below.refl _ _).alloc (Nat.le_refl _) _).drew
    have hx2 : Row (W.alloc (.cells #[.int .i64 x.client, .string x.shade, .float .f64 (floatOfInt .f64 x.till), .bool x.used, .float .f64 dd] 224)).drew W.heap.size 224 [.int .i64 x.client, .string x.shade, .float .f64 (floatOfInt .f64 x.till), .bool x.used, .float .f64 dd] := heap_alloc_new W _
    have HX := Lib.hid hx2
    have HQ := Lib.hid (R0.out.below hb2 R0.out.lt)
    have HR := Lib.hid (R1.out.below hb2 R1.out.lt)
    have HB2 := Lib.hid (HB.out.trans (hb2.mono HB.out.size))
    clear hb2 hx2 hlk hlk2 c1 q3 c1a q3a
    generalize (W.alloc (.cells #[.int .i64 x.client, .string x.shade, .float .f64 (floatOfInt .f64 x.till), .bool x.used, .float .f64 dd] 224)).drew = W2 at HX HQ HR HB2 ⊢
    generalize W.heap.size = wb at HX ⊢
    have k0 : ∀ v : Ext W2, v.w.cell? ⟨wb, 0, none⟩ = some (.int .i64 x.client) := fun v => v.cell (HX.out.cell 0)
    have k1 : ∀ v : Ext W2, v.w.cell? ⟨wb, 1, none⟩ = some (.string x.shade) := fun v => v.cell (HX.out.cell 1)
    have q2 : ∀ v : Ext W2, v.w.cell? ⟨w.heap.size, 2, none⟩ = some (.int .i64 client) := fun v => v.cell (HQ.out.cell 2)
    have q5 : ∀ v : Ext W2, v.w.cell? ⟨w.heap.size, 5, none⟩ = some (.string proof) := fun v => v.cell (HQ.out.cell 5)
    go_upto_region 2 with fail
    refine ext_region W2 (by kernel_rfl) (by kernel_rfl) (Below.refl _ _) ?_
    repeat (go_big_quiet_step ((go_at_call 255; exact calls_ext (shade_impl proof _ hps))))
    refine wpQuiet_nil ?_
    intro w3 hb3
    have HX3 := Lib.hid (HX.out.below hb3 HX.out.lt)
    have HR3 := Lib.hid (HR.out.below hb3 HR.out.lt)
    have HB3 := Lib.hid (HB2.out.trans (hb3.mono HB2.out.size))
    clear hb3 HX HQ HR HB2 k0 k1 q2 q5
    have e0 : w3.cell? ⟨wb, 0, none⟩ = some (.int .i64 x.client) := HX3.out.cell 0
    have e1 : w3.cell? ⟨wb, 1, none⟩ = some (.string x.shade) := HX3.out.cell 1
    have e2 : w3.cell? ⟨wb, 2, none⟩ = some (.float .f64 (floatOfInt .f64 x.till)) := HX3.out.cell 2
    have e3 : w3.cell? ⟨wb, 3, none⟩ = some (.bool x.used) := HX3.out.cell 3
    have e4 : w3.cell? ⟨wb, 4, none⟩ = some (.float .f64 dd) := HX3.out.cell 4
    go_wp2_with (refine Stop.out (p := wpList _ _ _ [{ dst := none, op := .store 224 (.tmp 4) (.tmp 36), type := _, pos := _, after := _, guard := _ }, _] _ _) ?_)
    constructor
    refine wpList_store_to rfl 224 (.tmp 4) (.tmp 36) rfl (w.heap.size + 1) 0 #[.int .i64 x.client, .string x.shade, .float .f64 (floatOfInt .f64 x.till), .bool x.used, .float .f64 dd] rfl rfl (HR3.out.there 0 5 (by simp)) sizeHW (oneHW _ _ _ _ _) ?_
    intro Z hZ
    have hz : Row Z (w.heap.size + 1) 224 [.int .i64 x.client, .string x.shade, .float .f64 (floatOfInt .f64 x.till), .bool x.used, .float .f64 dd] := by rw [hZ]; exact HR3.out.setCells _ 0
    have HBz : Hid (Below w.heap.size w Z) := Lib.hid (by rw [hZ]; exact below_setCells (by omega) _ _ HB3.out)
    have d0 : Z.cell? ⟨w.heap.size + 1, 0, none⟩ = some (.int .i64 x.client) := hz.cell 0
    have d1 : Z.cell? ⟨w.heap.size + 1, 1, none⟩ = some (.string x.shade) := hz.cell 1
    have d2 : Z.cell? ⟨w.heap.size + 1, 2, none⟩ = some (.float .f64 (floatOfInt .f64 x.till)) := hz.cell 2
    have d3 : Z.cell? ⟨w.heap.size + 1, 3, none⟩ = some (.bool x.used) := hz.cell 3
    have d4 : Z.cell? ⟨w.heap.size + 1, 4, none⟩ = some (.float .f64 dd) := hz.cell 4
    clear hZ hz HX3 HR3 HB3 e0 e1 e2 e3 e4
    go_wp2_with fail
    refine bodyPost_ret (v := .tuple #[.agg #[.int .i64 x.client, .string x.shade, .float .f64 (floatOfInt .f64 x.till), .bool x.used, .float .f64 dd], .bool true]) (by simp [results, Tryz.results212, go_sem, d0, d1, d2, d3, d4]; try rfl) rfl ?_
    exact ⟨rfl, HBz.out⟩
  ·have HT : Hid (wordCV (wordFor g ⟨no, kind, client, code, token, proof, by_⟩) dd = .tuple #[.agg #[.int .i64 0, .string ⟨#[]⟩, .float .f64 0, .bool false, .float .f64 0], .bool false]) := Lib.hid (by simp [wordFor, wordCV, hf, hwZ, hc]; rfl)
   have e1 : (x.client != client) = true := by simpa using hc
   rw [HT.out]
   clear hf hc hdd hbz
   go_enter Tryz.func212, Tryz.ntmps212
   go_upto_region 1 with fail
   rw [← HW.out]
   go_cut [6, 7] (fun v6 v7 wx => v6 = .pointer (some ⟨W.heap.size, 0, none⟩) ∧ v7 = .bool true ∧ wx = (W.alloc (.cells #[.int .i64 x.client, .string x.shade, .float .f64 (floatOfInt .f64 x.till), .bool x.used, .float .f64 dd] 224)).drew)
   case first =>
    go_region
    all_goals go_wp2_with fail
    all_goals go_meet
    all_goals exact ⟨rfl, rfl, rfl⟩
   obtain ⟨rfl, rfl, rfl⟩ := hcut
   have hb2 : Below W.heap.size W (W.alloc (.cells #[.int .i64 x.client, .string x.shade, .float .f64 (floatOfInt .f64 x.till), .bool x.used, .float .f64 dd] 224)).drew := ((Below.refl _ _).alloc (Nat.le_refl _) _).drew
   have hx2 : Row (W.alloc (.cells #[.int .i64 x.client, .string x.shade, .float .f64 (floatOfInt .f64 x.till), .bool x.used, .float .f64 dd] 224)).drew W.heap.size 224 [.int .i64 x.client, .string x.shade, .float .f64 (floatOfInt .f64 x.till), .bool x.used, .float .f64 dd] := heap_alloc_new W _
   have HX := Lib.hid hx2
   have HQ := Lib.hid (R0.out.below hb2 R0.out.lt)
   have HR := Lib.hid (R1.out.below hb2 R1.out.lt)
   have HB2 := Lib.hid (HB.out.trans (hb2.mono HB.out.size))
   clear hb2 hx2 hlk hlk2 c1 q3 c1a q3a
   generalize (W.alloc (.cells #[.int .i64 x.client, .string x.shade, .float .f64 (floatOfInt .f64 x.till), .bool x.used, .float .f64 dd] 224)).drew = W2 at HX HQ HR HB2 ⊢
   generalize W.heap.size = wb at HX ⊢
   have k0 : ∀ v : Ext W2, v.w.cell? ⟨wb, 0, none⟩ = some (.int .i64 x.client) := fun v => v.cell (HX.out.cell 0)
   have k1 : ∀ v : Ext W2, v.w.cell? ⟨wb, 1, none⟩ = some (.string x.shade) := fun v => v.cell (HX.out.cell 1)
   have q2 : ∀ v : Ext W2, v.w.cell? ⟨w.heap.size, 2, none⟩ = some (.int .i64 client) := fun v => v.cell (HQ.out.cell 2)
   have q5 : ∀ v : Ext W2, v.w.cell? ⟨w.heap.size, 5, none⟩ = some (.string proof) := fun v => v.cell (HQ.out.cell 5)
   go_upto_region 2 with fail
   refine ext_region W2 (by kernel_rfl) (by kernel_rfl) (Below.refl _ _) ?_
   repeat (go_big_quiet_step (fail))
   refine wpQuiet_nil ?_
   intro w3 hb3
   have HX3 := Lib.hid (HX.out.below hb3 HX.out.lt)
   have HR3 := Lib.hid (HR.out.below hb3 HR.out.lt)
   have HB3 := Lib.hid (HB2.out.trans (hb3.mono HB2.out.size))
   clear hb3 HX HQ HR HB2 k0 k1 q2 q5
   go_wp2_with (refine Stop.out (p := wpList _ _ _ [{ dst := none, op := .store 224 (.tmp 4) (.tmp 35), type := _, pos := _, after := _, guard := _ }, _] _ _) ?_)
   constructor
   refine wpList_store_to rfl 224 (.tmp 4) (.tmp 35) rfl (w.heap.size + 1) 0 #[.int .i64 0, .string ⟨#[]⟩, .float .f64 0, .bool false, .float .f64 0] rfl rfl (HR3.out.there 0 5 (by simp)) sizeHW (oneHW _ _ _ _ _) ?_
   intro Z hZ
   have hz : Row Z (w.heap.size + 1) 224 [.int .i64 0, .string ⟨#[]⟩, .float .f64 0, .bool false, .float .f64 0] := by rw [hZ]; exact HR3.out.setCells _ 0
   have HBz : Hid (Below w.heap.size w Z) := Lib.hid (by rw [hZ]; exact below_setCells (by omega) _ _ HB3.out)
   have d0 : Z.cell? ⟨w.heap.size + 1, 0, none⟩ = some (.int .i64 0) := hz.cell 0
   have d1 : Z.cell? ⟨w.heap.size + 1, 1, none⟩ = some (.string ⟨#[]⟩) := hz.cell 1
   have d2 : Z.cell? ⟨w.heap.size + 1, 2, none⟩ = some (.float .f64 0) := hz.cell 2
   have d3 : Z.cell? ⟨w.heap.size + 1, 3, none⟩ = some (.bool false) := hz.cell 3
   have d4 : Z.cell? ⟨w.heap.size + 1, 4, none⟩ = some (.float .f64 0) := hz.cell 4
   clear hZ hz HX3 HR3 HB3
   go_wp2_with fail
   refine bodyPost_ret (v := .tuple #[.agg #[.int .i64 0, .string ⟨#[]⟩, .float .f64 0, .bool false, .float .f64 0], .bool false]) (by simp [results, Tryz.results212, go_sem, d0, d1, d2, d3, d4]; try rfl) rfl ?_
   exact ⟨rfl, HBz.out⟩
theorem good_ways (now till : Int) (d : Bool) : (till < now ∧ (!(decide (till < now) || d)) = false) ∨ (now ≤ till ∧ (!(decide (till < now) || d)) = !d) := by
 by_cases h : till < now
 ·left; exact ⟨h, by simp [h]⟩
 ·right; exact ⟨by omega, by simp [h]⟩
set_option maxHeartbeats 2000000 in
theorem isGood_any (lb mw mk B : Nat) (g : Gr) (td : Int → Int) (no : Int) (x : Wd) (dd : Nat) (hdd : dd = ddB g.dead td no) (w : World) (hl : LedTd w B lb mw mk g td) (h0 : 0 ≤ g.now) (h1 : g.now ≤ 1000000) (t0 : 0 ≤ x.till) (t1 : x.till ≤ 1000000) (b : Bool) (hb : (!(decide (x.till < g.now) || isDeadB g.dead no)) = b) :
  Calls Tryz.prog 213 #[.pointer (some ⟨lb, 0, none⟩), .agg #[.int .i64 x.client, .string x.shade, .float .f64 (floatOfInt .f64 x.till), .bool x.used, .float .f64 dd]] w (Ret (.bool b) w) := by
 subst hb
 have hr : Row w lb 226 [.float .f64 (floatOfInt .f64 g.now), .map (some mw), .map (some mk)] := hl.2.1
 have hlb := hr.lt
 have hcmp := leq_of (whole_of h0 h1) (whole_of t0 t1)
 have hdl := dd_leq (dead := g.dead) h0 h1 (hl.1 no)
 rw [← hdd] at hdl
 have hb1 := (Below.refl w.heap.size w).alloc (Nat.le_refl _) (.cells #[.int .i64 x.client, .string x.shade, .float .f64 (floatOfInt .f64 x.till), .bool x.used, .float .f64 dd] 224)
 have c0 : ∀ u : Ext (w.alloc (.cells #[.int .i64 x.client, .string x.shade, .float .f64 (floatOfInt .f64 x.till), .bool x.used, .float .f64 dd] 224)), u.w.cell? ⟨lb, 0, none⟩ = some (.float .f64 (floatOfInt .f64 g.now)) := fun u => u.cell ((hb1.cell (p := ⟨lb, 0, none⟩) hlb).trans (hr.cell 0))
 have f0 : ∀ u : Ext (w.alloc (.cells #[.int .i64 x.client, .string x.shade, .float .f64 (floatOfInt .f64 x.till), .bool x.used, .float .f64 dd] 224)), u.w.cell? ⟨w.heap.size, 0, none⟩ = some (.int .i64 x.client) := fun u => u.cell (by simp)
 have f1 : ∀ u : Ext (w.alloc (.cells #[.int .i64 x.client, .string x.shade, .float .f64 (floatOfInt .f64 x.till), .bool x.used, .float .f64 dd] 224)), u.w.cell? ⟨w.heap.size, 1, none⟩ = some (.string x.shade) := fun u => u.cell (by simp)
 have f2 : ∀ u : Ext (w.alloc (.cells #[.int .i64 x.client, .string x.shade, .float .f64 (floatOfInt .f64 x.till), .bool x.used, .float .f64 dd] 224)), u.w.cell? ⟨w.heap.size, 2, none⟩ = some (.float .f64 (floatOfInt .f64 x.till)) := fun u => u.cell (by simp)
 have f3 : ∀ u : Ext (w.alloc (.cells #[.int .i64 x.client, .string x.shade, .float .f64 (floatOfInt .f64 x.till), .bool x.used, .float .f64 dd] 224)), u.w.cell? ⟨w.heap.size, 3, none⟩ = some (.bool x.used) := fun u => u.cell (by simp)
 have f4 : ∀ u : Ext (w.alloc (.cells #[.int .i64 x.client, .string x.shade, .float .f64 (floatOfInt .f64 x.till), .bool x.used, .float .f64 dd] 224)), u.w.cell? ⟨w.heap.size, 4, none⟩ = some (.float .f64 dd) := fun u => u.cell (by simp)
 have HC := Lib.hid hdl
 clear hr hl hdl hdd
 rcases good_ways g.now x.till (isDeadB g.dead no) with ⟨s2, te⟩ | ⟨s2, te⟩
 all_goals
  have TE := Lib.hid te
  clear te
  rw [TE.out]
 ·rw [decide_eq_false (by omega)] at hcmp
  go_enter Tryz.func213, Tryz.ntmps213
  go_wp2_with fail
  refine ext_region (w.alloc (.cells #[.int .i64 x.client, .string x.shade, .float .f64 (floatOfInt .f64 x.till), .bool x.used, .float .f64 dd] 224)) (by kernel_rfl) (by kernel_rfl) (Below.refl _ _) ?_
  repeat (go_big_quiet_step (fail))
  refine wpQuiet_nil ?_
  intro w2 hb2
  have HB2 := Lib.hid (hb1.trans (hb2.mono hb1.size))
  clear hb2
  go_wp2_with fail
  go_ret
  exact ⟨rfl, HB2.out⟩
 ·rw [decide_eq_true s2] at hcmp
  go_enter Tryz.func213, Tryz.ntmps213
  go_wp2_with fail
  refine ext_region (w.alloc (.cells #[.int .i64 x.client, .string x.shade, .float .f64 (floatOfInt .f64 x.till), .bool x.used, .float .f64 dd] 224)) (by kernel_rfl) (by kernel_rfl) (Below.refl _ _) ?_
  repeat (go_big_quiet_step ((go_at_call 220; exact calls_ext (deadAt_any _ _ _ _ _ _ _ HC.out _))))
  refine wpQuiet_nil ?_
  intro w2 hb2
  have HB2 := Lib.hid (hb1.trans (hb2.mono hb1.size))
  clear hb2
  go_wp2_with fail
  go_ret
  exact ⟨rfl, HB2.out⟩
end Go.Proofs.YtchfgdiipjbgoaaGreat
