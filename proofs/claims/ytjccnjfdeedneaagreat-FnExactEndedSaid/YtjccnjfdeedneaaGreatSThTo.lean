/- The laws' copy of a thread. -/
import Derived.Test.YtjccnjfdeedneaaGreatSThLaw
import Derived.Test.YtjccnjfdeedneaaGreatSGdA
import Derived.Test.YtjccnjfdeedneaaGreatSGdB
namespace Go.Proofs.YtjccnjfdeedneaaGreat
open Go Go.RowKit Go.Lib
set_option linter.unusedVariables false
set_option maxRecDepth 100000

theorem sizeReqT : (Tryz.prog.info? 143).map (·.size) = some 7 := by kernel_rfl
theorem sizeRespT : (Tryz.prog.info? 145).map (·.size) = some 4 := by kernel_rfl
theorem sizeThread : (Tryz.prog.info? 147).map (·.size) = some 15 := by kernel_rfl
theorem oneThread (t : TH) : (#[.int .i64 t.req.no, .int .i64 t.req.kind, .int .i64 t.req.client, .int .i64 t.req.code, .int .i64 t.req.token, .string t.req.proof, .int .i64 t.req.upTo, .int .i64 t.pc, .int .i64 t.ver, .int .i64 t.till, .int .i64 t.resp.code, .int .i64 t.resp.token, .int .i64 t.resp.next, .bool t.resp.yes, .bool t.done] : Array Value).all (·.oneCell') = true := by simp [Value.oneCell']
theorem ret_thread {fn : Func} {p : Tmp} (h : fn.results = #[.cell p 147]) {tmps : Array Value} {w : World} {g : Nat} {t : TH} (hp : tmps.getD p undef = .pointer (some ⟨g, 0, none⟩)) (hr : Row w g 147 (thL t)) :
  (results fn tmps).run Tryz.prog w = .ok (thV t) w := by
 have hu := Tryz.underlying147
 exact results_cell_row h tmps w g 147 (thL t).toArray (0, 0) _ hp hr hu rfl sizeThread
set_option maxHeartbeats 2000000 in
theorem toThread_any (t : TH) (w : World) : Calls Tryz.prog 141 #[thV t] w (Ret (thV t) w) := by
 obtain ⟨W, hW⟩ : ∃ W, W = ((w.alloc (.cells #[.int .i64 t.req.no, .int .i64 t.req.kind, .int .i64 t.req.client, .int .i64 t.req.code, .int .i64 t.req.token, .string t.req.proof, .int .i64 t.req.upTo, .int .i64 t.pc, .int .i64 t.ver, .int .i64 t.till, .int .i64 t.resp.code, .int .i64 t.resp.token, .int .i64 t.resp.next, .bool t.resp.yes, .bool t.done] 196)).alloc (.cells #[.int .i64 0, .int .i64 0, .int .i64 0, .int .i64 0, .int .i64 0, .string ⟨#[]⟩, .int .i64 0, .int .i64 0, .int .i64 0, .int .i64 0, .int .i64 0, .int .i64 0, .int .i64 0, .bool false, .bool false] 147)).alloc (.cells #[.int .i64 0, .int .i64 0, .int .i64 0, .int .i64 0, .int .i64 0, .string ⟨#[]⟩, .int .i64 0, .int .i64 0, .int .i64 0, .int .i64 0, .int .i64 0, .int .i64 0, .int .i64 0, .bool false, .bool false] 147) := ⟨_, rfl⟩
 obtain ⟨p, hp⟩ : ∃ p, p = w.heap.size + 1 + 1 := ⟨_, rfl⟩
 have hb0 : Below w.heap.size w W := by rw [hW]; go_grown
 have r0 : Row W w.heap.size 196 (thL t) := by
  rw [hW]
  exact Row.below (heap_alloc_new w _) (((Below.refl _ _).alloc (Nat.le_refl _) _).alloc (by simp) _) (by simp)
 have r1 : Row W (w.heap.size + 1) 147 [.int .i64 0, .int .i64 0, .int .i64 0, .int .i64 0, .int .i64 0, .string ⟨#[]⟩, .int .i64 0, .int .i64 0, .int .i64 0, .int .i64 0, .int .i64 0, .int .i64 0, .int .i64 0, .bool false, .bool false] := by
  rw [hW]
  have h := heap_alloc_new (w.alloc (.cells #[.int .i64 t.req.no, .int .i64 t.req.kind, .int .i64 t.req.client, .int .i64 t.req.code, .int .i64 t.req.token, .string t.req.proof, .int .i64 t.req.upTo, .int .i64 t.pc, .int .i64 t.ver, .int .i64 t.till, .int .i64 t.resp.code, .int .i64 t.resp.token, .int .i64 t.resp.next, .bool t.resp.yes, .bool t.done] 196)) (.cells #[.int .i64 0, .int .i64 0, .int .i64 0, .int .i64 0, .int .i64 0, .string ⟨#[]⟩, .int .i64 0, .int .i64 0, .int .i64 0, .int .i64 0, .int .i64 0, .int .i64 0, .int .i64 0, .bool false, .bool false] 147)
  rw [World.size_alloc] at h
  exact Row.below h ((Below.refl _ _).alloc (Nat.le_refl _) _) (by simp)
 have r2 : Row W p 147 [.int .i64 0, .int .i64 0, .int .i64 0, .int .i64 0, .int .i64 0, .string ⟨#[]⟩, .int .i64 0, .int .i64 0, .int .i64 0, .int .i64 0, .int .i64 0, .int .i64 0, .int .i64 0, .bool false, .bool false] := by
  rw [hW, hp]
  have h := heap_alloc_new ((w.alloc (.cells #[.int .i64 t.req.no, .int .i64 t.req.kind, .int .i64 t.req.client, .int .i64 t.req.code, .int .i64 t.req.token, .string t.req.proof, .int .i64 t.req.upTo, .int .i64 t.pc, .int .i64 t.ver, .int .i64 t.till, .int .i64 t.resp.code, .int .i64 t.resp.token, .int .i64 t.resp.next, .bool t.resp.yes, .bool t.done] 196)).alloc (.cells #[.int .i64 0, .int .i64 0, .int .i64 0, .int .i64 0, .int .i64 0, .string ⟨#[]⟩, .int .i64 0, .int .i64 0, .int .i64 0, .int .i64 0, .int .i64 0, .int .i64 0, .int .i64 0, .bool false, .bool false] 147)) (.cells #[.int .i64 0, .int .i64 0, .int .i64 0, .int .i64 0, .int .i64 0, .string ⟨#[]⟩, .int .i64 0, .int .i64 0, .int .i64 0, .int .i64 0, .int .i64 0, .int .i64 0, .int .i64 0, .bool false, .bool false] 147)
  rw [World.size_alloc, World.size_alloc] at h
  exact h
 have HP := Lib.hid hp
 have hp2 : w.heap.size + 1 < p := by omega
 have HW := Lib.hid hW
 have hz := hb0.size
 have HB := Lib.hid hb0
 have R0 := Lib.hid r0
 have R1 := Lib.hid r1
 have R2 := Lib.hid r2
 have hl2 := r2.lt
 have HV := Lib.hid (show thV t = .agg #[.int .i64 t.req.no, .int .i64 t.req.kind, .int .i64 t.req.client, .int .i64 t.req.code, .int .i64 t.req.token, .string t.req.proof, .int .i64 t.req.upTo, .int .i64 t.pc, .int .i64 t.ver, .int .i64 t.till, .int .i64 t.resp.code, .int .i64 t.resp.token, .int .i64 t.resp.next, .bool t.resp.yes, .bool t.done] from rfl)
 have HE := Lib.hid (show rqV t.req = .agg #[.int .i64 t.req.no, .int .i64 t.req.kind, .int .i64 t.req.client, .int .i64 t.req.code, .int .i64 t.req.token, .string t.req.proof, .int .i64 t.req.upTo] from rfl)
 have HY := Lib.hid (show rsV t.resp = .agg #[.int .i64 t.resp.code, .int .i64 t.resp.token, .int .i64 t.resp.next, .bool t.resp.yes] from rfl)
 clear hp hW hb0 r0 r1 r2
 rw [HV.out]
 go_enter Tryz.func141, Tryz.ntmps141
 go_wp2_with fail
 rw [← HW.out, ← HE.out, ← HP.out]
 refine (toReqT_any t.req _).mono ?_
 rintro e w1 ⟨rfl, hb1⟩
 have S0 := Lib.hid (R0.out.below hb1 R0.out.lt)
 have S1 := Lib.hid (R1.out.below hb1 R1.out.lt)
 have S2 := Lib.hid (R2.out.below hb1 R2.out.lt)
 have HB1 := Lib.hid (HB.out.trans (hb1.mono hz))
 have hz1 := hb1.size
 have hth : w1.there p 0 (#[.int .i64 t.req.no, .int .i64 t.req.kind, .int .i64 t.req.client, .int .i64 t.req.code, .int .i64 t.req.token, .string t.req.proof, .int .i64 t.req.upTo] : Array Value).size := S2.out.there 0 7 (by simp)
 have HT := Lib.hid hth
 clear hb1 hth
 rw [HE.out]
 go_wp2_with (refine Stop.out (p := wpList _ _ _ [{ dst := _, op := .store 143 _ _, type := _, pos := _, after := _, guard := _ }] _ _) ?_)
 constructor
 refine wpList_store_to rfl 143 (.tmp 7) (.tmp 6) rfl p 0 #[.int .i64 t.req.no, .int .i64 t.req.kind, .int .i64 t.req.client, .int .i64 t.req.code, .int .i64 t.req.token, .string t.req.proof, .int .i64 t.req.upTo] rfl rfl HT.out sizeReqT (oneReqT t.req) ?_
 intro V hV
 have hk1 : Kept (w1.heap.size) p p p w1 V := by rw [hV]; exact Kept.setCells (.inl rfl) _ 0 (Kept.refl _ _ _ _ _)
 have T0 := Lib.hid (S0.out.kept hk1 S0.out.lt (by omega) (by omega) (by omega))
 have T1 := Lib.hid (S1.out.kept hk1 S1.out.lt (by omega) (by omega) (by omega))
 have T2 : Hid (Row V p 147 [.int .i64 t.req.no, .int .i64 t.req.kind, .int .i64 t.req.client, .int .i64 t.req.code, .int .i64 t.req.token, .string t.req.proof, .int .i64 t.req.upTo, .int .i64 0, .int .i64 0, .int .i64 0, .int .i64 0, .int .i64 0, .int .i64 0, .bool false, .bool false]) := Lib.hid (by rw [hV]; exact S2.out.setCells _ 0)
 have HB2 := Lib.hid (HB1.out.trans (hk1.below (B := w.heap.size) (by omega) (by omega) (by omega) (by omega)))
 have hz2 := hk1.size
 have c7 : V.cell? ⟨w.heap.size, 7, none⟩ = some (.int .i64 t.pc) := T0.out.cell 7
 have c8 : V.cell? ⟨w.heap.size, 8, none⟩ = some (.int .i64 t.ver) := T0.out.cell 8
 have c9 : V.cell? ⟨w.heap.size, 9, none⟩ = some (.int .i64 t.till) := T0.out.cell 9
 have c10 : V.cell? ⟨w.heap.size, 10, none⟩ = some (.int .i64 t.resp.code) := T0.out.cell 10
 have c11 : V.cell? ⟨w.heap.size, 11, none⟩ = some (.int .i64 t.resp.token) := T0.out.cell 11
 have c12 : V.cell? ⟨w.heap.size, 12, none⟩ = some (.int .i64 t.resp.next) := T0.out.cell 12
 have c13 : V.cell? ⟨w.heap.size, 13, none⟩ = some (.bool t.resp.yes) := T0.out.cell 13
 have z7 : V.cell? ⟨p, 7, none⟩ = some (.int .i64 0) := T2.out.cell 7
 have z8 : V.cell? ⟨p, 8, none⟩ = some (.int .i64 0) := T2.out.cell 8
 have z9 : V.cell? ⟨p, 9, none⟩ = some (.int .i64 0) := T2.out.cell 9
 have f7 : V.frozen? ⟨p, 7, none⟩ = false := T2.out.free 7
 have f8 : V.frozen? ⟨p, 8, none⟩ = false := T2.out.free 8
 have f9 : V.frozen? ⟨p, 9, none⟩ = false := T2.out.free 9
 clear hk1 hV
 go_wp2_with fail
 obtain ⟨U, hU⟩ : ∃ U, U = ((V.setCell ⟨p, 7, none⟩ (.int .i64 t.pc)).setCell ⟨p, 8, none⟩ (.int .i64 t.ver)).setCell ⟨p, 9, none⟩ (.int .i64 t.till) := ⟨_, rfl⟩
 have hk2 : Kept (V.heap.size) p p p V U := by rw [hU]; exact (((Kept.refl _ _ _ _ _).setCell (a := ⟨p, 7, none⟩) _ (.inl rfl)).setCell (a := ⟨p, 8, none⟩) _ (.inl rfl)).setCell (a := ⟨p, 9, none⟩) _ (.inl rfl)
 have U0 := Lib.hid (T0.out.kept hk2 T0.out.lt (by omega) (by omega) (by omega))
 have U1 := Lib.hid (T1.out.kept hk2 T1.out.lt (by omega) (by omega) (by omega))
 have U2 : Hid (Row U p 147 [.int .i64 t.req.no, .int .i64 t.req.kind, .int .i64 t.req.client, .int .i64 t.req.code, .int .i64 t.req.token, .string t.req.proof, .int .i64 t.req.upTo, .int .i64 t.pc, .int .i64 t.ver, .int .i64 t.till, .int .i64 0, .int .i64 0, .int .i64 0, .bool false, .bool false]) := Lib.hid (by rw [hU]; exact ((T2.out.set 7 _).set 8 _).set 9 _)
 have HB3 := Lib.hid (HB2.out.trans (hk2.below (B := w.heap.size) (by omega) (by omega) (by omega) (by omega)))
 have hz3 := hk2.size
 rw [← hU, ← HY.out]
 clear hk2 hU c7 c8 c9 c10 c11 c12 c13 z7 z8 z9 f7 f8 f9
 refine (toRespT_any t.resp _).mono ?_
 rintro e w4 ⟨rfl, hb4⟩
 have X0 := Lib.hid (U0.out.below hb4 U0.out.lt)
 have X1 := Lib.hid (U1.out.below hb4 U1.out.lt)
 have X2 := Lib.hid (U2.out.below hb4 U2.out.lt)
 have HB4 := Lib.hid (HB3.out.trans (hb4.mono HB3.out.size))
 have hz4 := hb4.size
 have hth : w4.there p 10 (#[.int .i64 t.resp.code, .int .i64 t.resp.token, .int .i64 t.resp.next, .bool t.resp.yes] : Array Value).size := X2.out.there 10 4 (by simp)
 have HT4 := Lib.hid hth
 clear hb4 hth
 rw [HY.out]
 go_wp2_with (refine Stop.out (p := wpList _ _ _ [{ dst := _, op := .store 145 _ _, type := _, pos := _, after := _, guard := _ }] _ _) ?_)
 constructor
 refine wpList_store_to rfl 145 (.tmp 20) (.tmp 19) rfl p 10 #[.int .i64 t.resp.code, .int .i64 t.resp.token, .int .i64 t.resp.next, .bool t.resp.yes] rfl rfl HT4.out sizeRespT (oneRespT t.resp) ?_
 intro Y hY
 have hk5 : Kept (w4.heap.size) p p p w4 Y := by rw [hY]; exact Kept.setCells (.inl rfl) _ 10 (Kept.refl _ _ _ _ _)
 have Y0 := Lib.hid (X0.out.kept hk5 X0.out.lt (by omega) (by omega) (by omega))
 have Y1 := Lib.hid (X1.out.kept hk5 X1.out.lt (by omega) (by omega) (by omega))
 have Y2 : Hid (Row Y p 147 [.int .i64 t.req.no, .int .i64 t.req.kind, .int .i64 t.req.client, .int .i64 t.req.code, .int .i64 t.req.token, .string t.req.proof, .int .i64 t.req.upTo, .int .i64 t.pc, .int .i64 t.ver, .int .i64 t.till, .int .i64 t.resp.code, .int .i64 t.resp.token, .int .i64 t.resp.next, .bool t.resp.yes, .bool false]) := Lib.hid (by rw [hY]; exact X2.out.setCells _ 10)
 have HB5 := Lib.hid (HB4.out.trans (hk5.below (B := w.heap.size) (by omega) (by omega) (by omega) (by omega)))
 have hz5 := hk5.size
 have d14 : Y.cell? ⟨w.heap.size, 14, none⟩ = some (.bool t.done) := Y0.out.cell 14
 have f14 : Y.frozen? ⟨p, 14, none⟩ = false := Y2.out.free 14
 have y0 : Y.cell? ⟨p, 0, none⟩ = some (.int .i64 t.req.no) := Y2.out.cell 0
 have y1 : Y.cell? ⟨p, 1, none⟩ = some (.int .i64 t.req.kind) := Y2.out.cell 1
 have y2 : Y.cell? ⟨p, 2, none⟩ = some (.int .i64 t.req.client) := Y2.out.cell 2
 have y3 : Y.cell? ⟨p, 3, none⟩ = some (.int .i64 t.req.code) := Y2.out.cell 3
 have y4 : Y.cell? ⟨p, 4, none⟩ = some (.int .i64 t.req.token) := Y2.out.cell 4
 have y5 : Y.cell? ⟨p, 5, none⟩ = some (.string t.req.proof) := Y2.out.cell 5
 have y6 : Y.cell? ⟨p, 6, none⟩ = some (.int .i64 t.req.upTo) := Y2.out.cell 6
 have y7 : Y.cell? ⟨p, 7, none⟩ = some (.int .i64 t.pc) := Y2.out.cell 7
 have y8 : Y.cell? ⟨p, 8, none⟩ = some (.int .i64 t.ver) := Y2.out.cell 8
 have y9 : Y.cell? ⟨p, 9, none⟩ = some (.int .i64 t.till) := Y2.out.cell 9
 have y10 : Y.cell? ⟨p, 10, none⟩ = some (.int .i64 t.resp.code) := Y2.out.cell 10
 have y11 : Y.cell? ⟨p, 11, none⟩ = some (.int .i64 t.resp.token) := Y2.out.cell 11
 have y12 : Y.cell? ⟨p, 12, none⟩ = some (.int .i64 t.resp.next) := Y2.out.cell 12
 have y13 : Y.cell? ⟨p, 13, none⟩ = some (.bool t.resp.yes) := Y2.out.cell 13
 have y14 : Y.cell? ⟨p, 14, none⟩ = some (.bool false) := Y2.out.cell 14
 have hk6 : Kept (Y.heap.size) p p p Y (Y.setCell ⟨p, 14, none⟩ (.bool t.done)) := (Kept.refl _ _ _ _ _).setCell (a := ⟨p, 14, none⟩) _ (.inl rfl)
 have V1 := Lib.hid (Y1.out.kept hk6 Y1.out.lt (by omega) (by omega) (by omega))
 have hth : (Y.setCell ⟨p, 14, none⟩ (.bool t.done)).there (w.heap.size + 1) 0 (#[.int .i64 t.req.no, .int .i64 t.req.kind, .int .i64 t.req.client, .int .i64 t.req.code, .int .i64 t.req.token, .string t.req.proof, .int .i64 t.req.upTo, .int .i64 t.pc, .int .i64 t.ver, .int .i64 t.till, .int .i64 t.resp.code, .int .i64 t.resp.token, .int .i64 t.resp.next, .bool t.resp.yes, .bool t.done] : Array Value).size := V1.out.there 0 15 (by simp)
 have HT6 := Lib.hid hth
 have HK6 := Lib.hid hk6
 have HB6 := Lib.hid (HB5.out.trans (hk6.below (B := w.heap.size) (by omega) (by omega) (by omega) (by omega)))
 clear hk5 hY hth hk6
 go_wp2_with (refine Stop.out (p := wpList _ _ _ [{ dst := _, op := .store 147 _ _, type := _, pos := _, after := _, guard := _ }] _ _) ?_)
 constructor
 refine wpList_store_to rfl 147 (.tmp 2) (.tmp 24) rfl (w.heap.size + 1) 0 #[.int .i64 t.req.no, .int .i64 t.req.kind, .int .i64 t.req.client, .int .i64 t.req.code, .int .i64 t.req.token, .string t.req.proof, .int .i64 t.req.upTo, .int .i64 t.pc, .int .i64 t.ver, .int .i64 t.till, .int .i64 t.resp.code, .int .i64 t.resp.token, .int .i64 t.resp.next, .bool t.resp.yes, .bool t.done] rfl rfl HT6.out sizeThread (oneThread t) ?_
 intro Z hZ
 have hk7 : Kept (w4.heap.size) (w.heap.size + 1) (w.heap.size + 1) (w.heap.size + 1) (Y.setCell ⟨p, 14, none⟩ (.bool t.done)) Z := by rw [hZ]; exact Kept.setCells (.inl rfl) _ 0 (Kept.refl _ _ _ _ _)
 have Z1 : Row Z (w.heap.size + 1) 147 (thL t) := by rw [hZ]; exact V1.out.setCells _ 0
 have HBz := HB6.out.trans (hk7.below (B := w.heap.size) (by have := HB4.out.size; omega) (by omega) (by omega) (by omega))
 clear hZ hk7
 go_wp2_with fail
 refine bodyPost_ret (ret_thread rfl rfl Z1) rfl ?_
 exact ⟨rfl, HBz⟩
end Go.Proofs.YtjccnjfdeedneaaGreat
