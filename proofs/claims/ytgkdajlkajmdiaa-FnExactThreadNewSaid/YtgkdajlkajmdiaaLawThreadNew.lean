/- ThreadNew: the walk of the law. -/
import Derived.Test.YtgkdajlkajmdiaaThNew2
namespace Go.Proofs.Ytgkdajlkajmdiaa
open Go Go.RowKit Go.Lib
set_option linter.unusedVariables false
set_option maxRecDepth 100000

theorem eqReqT_same (r : RQ) (w : World) : Calls Try.prog 59 #[rqV r, rqV r] w (Ret (.bool true) w) := by
  unfold rqV
  go_enter Try.func59, Try.ntmps59
  go_wp2_with fail
  go_ret
  exact ⟨rfl, by go_grown⟩
theorem eqRespT_same (r : RS) (w : World) : Calls Try.prog 60 #[rsV r, rsV r] w (Ret (.bool true) w) := by
  unfold rsV
  go_enter Try.func60, Try.ntmps60
  go_wp2_with fail
  go_ret
  exact ⟨rfl, by go_grown⟩
set_option maxHeartbeats 1000000 in
theorem eqThread_same (t : TH) (w : World) : Calls Try.prog 26 #[thV t, thV t] w (Ret (.bool true) w) := by
  obtain ⟨W, hW⟩ : ∃ W, W = (w.alloc (.cells #[.int .i64 t.req.no, .int .i64 t.req.kind, .int .i64 t.req.client, .int .i64 t.req.code, .int .i64 t.req.token, .string t.req.proof, .int .i64 t.req.upTo, .int .i64 t.pc, .int .i64 t.ver, .int .i64 t.till, .int .i64 t.resp.code, .int .i64 t.resp.token, .int .i64 t.resp.next, .bool t.resp.yes, .bool t.done] 61)).alloc (.cells #[.int .i64 t.req.no, .int .i64 t.req.kind, .int .i64 t.req.client, .int .i64 t.req.code, .int .i64 t.req.token, .string t.req.proof, .int .i64 t.req.upTo, .int .i64 t.pc, .int .i64 t.ver, .int .i64 t.till, .int .i64 t.resp.code, .int .i64 t.resp.token, .int .i64 t.resp.next, .bool t.resp.yes, .bool t.done] 61) := ⟨_, rfl⟩
  have hb0 : Below w.heap.size w W := by rw [hW]; go_grown
  have r0 : Row W w.heap.size 61 (thL t) := by
    rw [hW]
    exact Row.below (heap_alloc_new w _) ((Below.refl _ _).alloc (Nat.le_refl _) _) (by simp)
  have r1 : Row W (w.heap.size + 1) 61 (thL t) := by
    rw [hW]
    have h := heap_alloc_new (w.alloc (.cells #[.int .i64 t.req.no, .int .i64 t.req.kind, .int .i64 t.req.client, .int .i64 t.req.code, .int .i64 t.req.token, .string t.req.proof, .int .i64 t.req.upTo, .int .i64 t.pc, .int .i64 t.ver, .int .i64 t.till, .int .i64 t.resp.code, .int .i64 t.resp.token, .int .i64 t.resp.next, .bool t.resp.yes, .bool t.done] 61)) (.cells #[.int .i64 t.req.no, .int .i64 t.req.kind, .int .i64 t.req.client, .int .i64 t.req.code, .int .i64 t.req.token, .string t.req.proof, .int .i64 t.req.upTo, .int .i64 t.pc, .int .i64 t.ver, .int .i64 t.till, .int .i64 t.resp.code, .int .i64 t.resp.token, .int .i64 t.resp.next, .bool t.resp.yes, .bool t.done] 61)
    rw [World.size_alloc] at h
    exact h
  have HW := Lib.hid hW
  have HB := Lib.hid hb0
  have R0 := Lib.hid r0
  have R1 := Lib.hid r1
  have hz := hb0.size
  have HV := Lib.hid (show thV t = .agg #[.int .i64 t.req.no, .int .i64 t.req.kind, .int .i64 t.req.client, .int .i64 t.req.code, .int .i64 t.req.token, .string t.req.proof, .int .i64 t.req.upTo, .int .i64 t.pc, .int .i64 t.ver, .int .i64 t.till, .int .i64 t.resp.code, .int .i64 t.resp.token, .int .i64 t.resp.next, .bool t.resp.yes, .bool t.done] from rfl)
  have HE := Lib.hid (show rqV t.req = .agg #[.int .i64 t.req.no, .int .i64 t.req.kind, .int .i64 t.req.client, .int .i64 t.req.code, .int .i64 t.req.token, .string t.req.proof, .int .i64 t.req.upTo] from rfl)
  have HY := Lib.hid (show rsV t.resp = .agg #[.int .i64 t.resp.code, .int .i64 t.resp.token, .int .i64 t.resp.next, .bool t.resp.yes] from rfl)
  clear hW hb0 r0 r1
  rw [HV.out]
  go_enter Try.func26, Try.ntmps26
  go_wp2_with fail
  rw [← HE.out, ← HW.out]
  refine (eqReqT_same t.req _).mono ?_
  rintro e w1 ⟨rfl, hb1⟩
  have S0 := Lib.hid (R0.out.below hb1 R0.out.lt)
  have S1 := Lib.hid (R1.out.below hb1 R1.out.lt)
  have HB1 := Lib.hid (HB.out.trans (hb1.mono hz))
  clear hb1
  have c7 : w1.cell? ⟨w.heap.size, 7, none⟩ = some (.int .i64 t.pc) := S0.out.cell 7
  have c8 : w1.cell? ⟨w.heap.size, 8, none⟩ = some (.int .i64 t.ver) := S0.out.cell 8
  have c9 : w1.cell? ⟨w.heap.size, 9, none⟩ = some (.int .i64 t.till) := S0.out.cell 9
  have c10 : w1.cell? ⟨w.heap.size, 10, none⟩ = some (.int .i64 t.resp.code) := S0.out.cell 10
  have c11 : w1.cell? ⟨w.heap.size, 11, none⟩ = some (.int .i64 t.resp.token) := S0.out.cell 11
  have c12 : w1.cell? ⟨w.heap.size, 12, none⟩ = some (.int .i64 t.resp.next) := S0.out.cell 12
  have c13 : w1.cell? ⟨w.heap.size, 13, none⟩ = some (.bool t.resp.yes) := S0.out.cell 13
  have c14 : w1.cell? ⟨w.heap.size, 14, none⟩ = some (.bool t.done) := S0.out.cell 14
  have d7 : w1.cell? ⟨w.heap.size + 1, 7, none⟩ = some (.int .i64 t.pc) := S1.out.cell 7
  have d8 : w1.cell? ⟨w.heap.size + 1, 8, none⟩ = some (.int .i64 t.ver) := S1.out.cell 8
  have d9 : w1.cell? ⟨w.heap.size + 1, 9, none⟩ = some (.int .i64 t.till) := S1.out.cell 9
  have d10 : w1.cell? ⟨w.heap.size + 1, 10, none⟩ = some (.int .i64 t.resp.code) := S1.out.cell 10
  have d11 : w1.cell? ⟨w.heap.size + 1, 11, none⟩ = some (.int .i64 t.resp.token) := S1.out.cell 11
  have d12 : w1.cell? ⟨w.heap.size + 1, 12, none⟩ = some (.int .i64 t.resp.next) := S1.out.cell 12
  have d13 : w1.cell? ⟨w.heap.size + 1, 13, none⟩ = some (.bool t.resp.yes) := S1.out.cell 13
  have d14 : w1.cell? ⟨w.heap.size + 1, 14, none⟩ = some (.bool t.done) := S1.out.cell 14
  go_wp2_with fail
  rw [← HY.out]
  refine (eqRespT_same t.resp _).mono ?_
  rintro e w2 ⟨rfl, hb2⟩
  have HB2 := Lib.hid (HB1.out.trans (hb2.mono HB1.out.size))
  clear d14
  have d14 : w2.cell? ⟨w.heap.size, 14, none⟩ = some (.bool t.done) := (S0.out.below hb2 S0.out.lt).cell 14
  have e14 : w2.cell? ⟨w.heap.size + 1, 14, none⟩ = some (.bool t.done) := (S1.out.below hb2 S1.out.lt).cell 14
  clear hb2 c7 d7 c8 d8 c9 d9 c10 d10 c11 d11 c12 d12 c13 d13 c14
  go_wp2_with fail
  go_ret
  exact ⟨rfl, HB2.out⟩
set_option maxHeartbeats 2000000 in
theorem lawThreadNew (r : RQ) (w : World) (hp : r.proof.size ≤ maxLen) : Calls Try.prog 6 #[rqV r] w fun e w' => e = .returned (.bool true) ∧ Below w.heap.size w w' := by
  have hb0 := (Below.refl w.heap.size w).alloc (Nat.le_refl _) (.cells #[.int .i64 r.no, .int .i64 r.kind, .int .i64 r.client, .int .i64 r.code, .int .i64 r.token, .string r.proof, .int .i64 r.upTo] 51)
  have hr : Row (w.alloc (.cells #[.int .i64 r.no, .int .i64 r.kind, .int .i64 r.client, .int .i64 r.code, .int .i64 r.token, .string r.proof, .int .i64 r.upTo] 51)) w.heap.size 51 [.int .i64 r.no, .int .i64 r.kind, .int .i64 r.client, .int .i64 r.code, .int .i64 r.token, .string r.proof, .int .i64 r.upTo] := heap_alloc_new w _
  have HR := Lib.hid hr
  have HB := Lib.hid hb0
  have hz := hb0.size
  have HV := Lib.hid (show rqV r = .agg #[.int .i64 r.no, .int .i64 r.kind, .int .i64 r.client, .int .i64 r.code, .int .i64 r.token, .string r.proof, .int .i64 r.upTo] from rfl)
  have hgl := hr.lt
  clear hb0 hr
  rw [HV.out]
  go_enter Try.func6, Try.ntmps6
  go_wp2_with fail
  rw [← HV.out]
  refine (szReqT_any r _ hp).mono ?_
  rintro e w1 ⟨⟨n, rfl⟩, hb⟩
  have HR1 := Lib.hid (HR.out.below hb hgl)
  have HB1 := Lib.hid (HB.out.trans (hb.mono hz))
  clear hb HB
  by_cases hn : n < 0
  · go_wp2_with fail
    go_ret
    exact ⟨rfl, HB1.out⟩
  have c0 : w1.cell? ⟨w.heap.size, 0, none⟩ = some (.int .i64 r.no) := HR1.out.cell 0
  have c1 : w1.cell? ⟨w.heap.size, 1, none⟩ = some (.int .i64 r.kind) := HR1.out.cell 1
  have c2 : w1.cell? ⟨w.heap.size, 2, none⟩ = some (.int .i64 r.client) := HR1.out.cell 2
  have c3 : w1.cell? ⟨w.heap.size, 3, none⟩ = some (.int .i64 r.code) := HR1.out.cell 3
  have c4 : w1.cell? ⟨w.heap.size, 4, none⟩ = some (.int .i64 r.token) := HR1.out.cell 4
  have c5 : w1.cell? ⟨w.heap.size, 5, none⟩ = some (.string r.proof) := HR1.out.cell 5
  have c6 : w1.cell? ⟨w.heap.size, 6, none⟩ = some (.int .i64 r.upTo) := HR1.out.cell 6
  go_wp2_with fail
  rw [← HV.out]
  refine (toReqT_any r _).mono ?_
  rintro e w2 ⟨rfl, hb⟩
  have HR2 := Lib.hid (HR1.out.below hb HR1.out.lt)
  have HB2 := Lib.hid (HB1.out.trans (hb.mono HB1.out.size))
  clear hb HB1 HR1 c0 c1 c2 c3 c4 c5 c6
  go_wp2_with fail
  refine (new_spec r _ hp).mono ?_
  rintro e w3 ⟨rfl, hb⟩
  obtain ⟨t, ht⟩ : ∃ t, t = newTh r := ⟨_, rfl⟩
  have HT := Lib.hid ht
  rw [← ht]
  clear ht
  have HVt := Lib.hid (show thV t = .agg #[.int .i64 t.req.no, .int .i64 t.req.kind, .int .i64 t.req.client, .int .i64 t.req.code, .int .i64 t.req.token, .string t.req.proof, .int .i64 t.req.upTo, .int .i64 t.pc, .int .i64 t.ver, .int .i64 t.till, .int .i64 t.resp.code, .int .i64 t.resp.token, .int .i64 t.resp.next, .bool t.resp.yes, .bool t.done] from rfl)
  rw [HVt.out]
  have hbx := (Below.refl w3.heap.size w3).alloc (Nat.le_refl _) (.cells #[.int .i64 t.req.no, .int .i64 t.req.kind, .int .i64 t.req.client, .int .i64 t.req.code, .int .i64 t.req.token, .string t.req.proof, .int .i64 t.req.upTo, .int .i64 t.pc, .int .i64 t.ver, .int .i64 t.till, .int .i64 t.resp.code, .int .i64 t.resp.token, .int .i64 t.resp.next, .bool t.resp.yes, .bool t.done] 61)
  have hrx : Row (w3.alloc (.cells #[.int .i64 t.req.no, .int .i64 t.req.kind, .int .i64 t.req.client, .int .i64 t.req.code, .int .i64 t.req.token, .string t.req.proof, .int .i64 t.req.upTo, .int .i64 t.pc, .int .i64 t.ver, .int .i64 t.till, .int .i64 t.resp.code, .int .i64 t.resp.token, .int .i64 t.resp.next, .bool t.resp.yes, .bool t.done] 61)) w3.heap.size 61 (thL t) := heap_alloc_new w3 _
  have h3 := HR2.out.below hb HR2.out.lt
  have HR3 := Lib.hid (h3.below hbx h3.lt)
  have HB3 := Lib.hid ((HB2.out.trans (hb.mono HB2.out.size)).trans (hbx.mono (by have := (hb.mono HB2.out.size).size; have := HB2.out.size; have := hb.size; omega)))
  have HX3 := Lib.hid hrx
  clear hb HB2 HR2 h3 hbx hrx
  obtain ⟨V, hV⟩ : ∃ V, V = w3.alloc (.cells #[.int .i64 t.req.no, .int .i64 t.req.kind, .int .i64 t.req.client, .int .i64 t.req.code, .int .i64 t.req.token, .string t.req.proof, .int .i64 t.req.upTo, .int .i64 t.pc, .int .i64 t.ver, .int .i64 t.till, .int .i64 t.resp.code, .int .i64 t.resp.token, .int .i64 t.resp.next, .bool t.resp.yes, .bool t.done] 61) := ⟨_, rfl⟩
  have HVV := Lib.hid hV
  rw [← hV] at HR3 HB3 HX3
  clear hV
  obtain ⟨x, hx⟩ : ∃ x, x = w3.heap.size := ⟨_, rfl⟩
  have HXx := Lib.hid hx
  rw [← hx] at HX3
  clear hx
  have c0 : V.cell? ⟨w.heap.size, 0, none⟩ = some (.int .i64 r.no) := HR3.out.cell 0
  have c1 : V.cell? ⟨w.heap.size, 1, none⟩ = some (.int .i64 r.kind) := HR3.out.cell 1
  have c2 : V.cell? ⟨w.heap.size, 2, none⟩ = some (.int .i64 r.client) := HR3.out.cell 2
  have c3 : V.cell? ⟨w.heap.size, 3, none⟩ = some (.int .i64 r.code) := HR3.out.cell 3
  have c4 : V.cell? ⟨w.heap.size, 4, none⟩ = some (.int .i64 r.token) := HR3.out.cell 4
  have c5 : V.cell? ⟨w.heap.size, 5, none⟩ = some (.string r.proof) := HR3.out.cell 5
  have c6 : V.cell? ⟨w.heap.size, 6, none⟩ = some (.int .i64 r.upTo) := HR3.out.cell 6
  rw [HVV.out] at c0 c1 c2 c3 c4 c5 c6
  go_wp2_with fail
  rw [← HV.out, ← HVV.out, ← HXx.out]
  refine (toReqT_any r _).mono ?_
  rintro e w4 ⟨rfl, hb⟩
  have HX4 := Lib.hid (HX3.out.below hb HX3.out.lt)
  have HB4 := Lib.hid (HB3.out.trans (hb.mono HB3.out.size))
  clear hb HB3 HR3 c0 c1 c2 c3 c4 c5 c6
  go_wp2_with fail
  refine (new_impl r _ hp).mono ?_
  rintro e w5 ⟨rfl, hb⟩
  rw [← HT.out, HVt.out]
  have hbx := (Below.refl w5.heap.size w5).alloc (Nat.le_refl _) (.cells #[.int .i64 t.req.no, .int .i64 t.req.kind, .int .i64 t.req.client, .int .i64 t.req.code, .int .i64 t.req.token, .string t.req.proof, .int .i64 t.req.upTo, .int .i64 t.pc, .int .i64 t.ver, .int .i64 t.till, .int .i64 t.resp.code, .int .i64 t.resp.token, .int .i64 t.resp.next, .bool t.resp.yes, .bool t.done] 61)
  have h5 := HX4.out.below hb HX4.out.lt
  have hB5 := HB4.out.trans (hb.mono HB4.out.size)
  have hx5 := h5.below hbx h5.lt
  have HB5 := Lib.hid (hB5.trans (hbx.mono hB5.size))
  have hry : Row (w5.alloc (.cells #[.int .i64 t.req.no, .int .i64 t.req.kind, .int .i64 t.req.client, .int .i64 t.req.code, .int .i64 t.req.token, .string t.req.proof, .int .i64 t.req.upTo, .int .i64 t.pc, .int .i64 t.ver, .int .i64 t.till, .int .i64 t.resp.code, .int .i64 t.resp.token, .int .i64 t.resp.next, .bool t.resp.yes, .bool t.done] 61)) w5.heap.size 61 (thL t) := heap_alloc_new w5 _
  have c0 : (w5.alloc (.cells #[.int .i64 t.req.no, .int .i64 t.req.kind, .int .i64 t.req.client, .int .i64 t.req.code, .int .i64 t.req.token, .string t.req.proof, .int .i64 t.req.upTo, .int .i64 t.pc, .int .i64 t.ver, .int .i64 t.till, .int .i64 t.resp.code, .int .i64 t.resp.token, .int .i64 t.resp.next, .bool t.resp.yes, .bool t.done] 61)).cell? ⟨x, 0, none⟩ = some (.int .i64 t.req.no) := hx5.cell 0
  have c1 : (w5.alloc (.cells #[.int .i64 t.req.no, .int .i64 t.req.kind, .int .i64 t.req.client, .int .i64 t.req.code, .int .i64 t.req.token, .string t.req.proof, .int .i64 t.req.upTo, .int .i64 t.pc, .int .i64 t.ver, .int .i64 t.till, .int .i64 t.resp.code, .int .i64 t.resp.token, .int .i64 t.resp.next, .bool t.resp.yes, .bool t.done] 61)).cell? ⟨x, 1, none⟩ = some (.int .i64 t.req.kind) := hx5.cell 1
  have c2 : (w5.alloc (.cells #[.int .i64 t.req.no, .int .i64 t.req.kind, .int .i64 t.req.client, .int .i64 t.req.code, .int .i64 t.req.token, .string t.req.proof, .int .i64 t.req.upTo, .int .i64 t.pc, .int .i64 t.ver, .int .i64 t.till, .int .i64 t.resp.code, .int .i64 t.resp.token, .int .i64 t.resp.next, .bool t.resp.yes, .bool t.done] 61)).cell? ⟨x, 2, none⟩ = some (.int .i64 t.req.client) := hx5.cell 2
  have c3 : (w5.alloc (.cells #[.int .i64 t.req.no, .int .i64 t.req.kind, .int .i64 t.req.client, .int .i64 t.req.code, .int .i64 t.req.token, .string t.req.proof, .int .i64 t.req.upTo, .int .i64 t.pc, .int .i64 t.ver, .int .i64 t.till, .int .i64 t.resp.code, .int .i64 t.resp.token, .int .i64 t.resp.next, .bool t.resp.yes, .bool t.done] 61)).cell? ⟨x, 3, none⟩ = some (.int .i64 t.req.code) := hx5.cell 3
  have c4 : (w5.alloc (.cells #[.int .i64 t.req.no, .int .i64 t.req.kind, .int .i64 t.req.client, .int .i64 t.req.code, .int .i64 t.req.token, .string t.req.proof, .int .i64 t.req.upTo, .int .i64 t.pc, .int .i64 t.ver, .int .i64 t.till, .int .i64 t.resp.code, .int .i64 t.resp.token, .int .i64 t.resp.next, .bool t.resp.yes, .bool t.done] 61)).cell? ⟨x, 4, none⟩ = some (.int .i64 t.req.token) := hx5.cell 4
  have c5 : (w5.alloc (.cells #[.int .i64 t.req.no, .int .i64 t.req.kind, .int .i64 t.req.client, .int .i64 t.req.code, .int .i64 t.req.token, .string t.req.proof, .int .i64 t.req.upTo, .int .i64 t.pc, .int .i64 t.ver, .int .i64 t.till, .int .i64 t.resp.code, .int .i64 t.resp.token, .int .i64 t.resp.next, .bool t.resp.yes, .bool t.done] 61)).cell? ⟨x, 5, none⟩ = some (.string t.req.proof) := hx5.cell 5
  have c6 : (w5.alloc (.cells #[.int .i64 t.req.no, .int .i64 t.req.kind, .int .i64 t.req.client, .int .i64 t.req.code, .int .i64 t.req.token, .string t.req.proof, .int .i64 t.req.upTo, .int .i64 t.pc, .int .i64 t.ver, .int .i64 t.till, .int .i64 t.resp.code, .int .i64 t.resp.token, .int .i64 t.resp.next, .bool t.resp.yes, .bool t.done] 61)).cell? ⟨x, 6, none⟩ = some (.int .i64 t.req.upTo) := hx5.cell 6
  have c7 : (w5.alloc (.cells #[.int .i64 t.req.no, .int .i64 t.req.kind, .int .i64 t.req.client, .int .i64 t.req.code, .int .i64 t.req.token, .string t.req.proof, .int .i64 t.req.upTo, .int .i64 t.pc, .int .i64 t.ver, .int .i64 t.till, .int .i64 t.resp.code, .int .i64 t.resp.token, .int .i64 t.resp.next, .bool t.resp.yes, .bool t.done] 61)).cell? ⟨x, 7, none⟩ = some (.int .i64 t.pc) := hx5.cell 7
  have c8 : (w5.alloc (.cells #[.int .i64 t.req.no, .int .i64 t.req.kind, .int .i64 t.req.client, .int .i64 t.req.code, .int .i64 t.req.token, .string t.req.proof, .int .i64 t.req.upTo, .int .i64 t.pc, .int .i64 t.ver, .int .i64 t.till, .int .i64 t.resp.code, .int .i64 t.resp.token, .int .i64 t.resp.next, .bool t.resp.yes, .bool t.done] 61)).cell? ⟨x, 8, none⟩ = some (.int .i64 t.ver) := hx5.cell 8
  have c9 : (w5.alloc (.cells #[.int .i64 t.req.no, .int .i64 t.req.kind, .int .i64 t.req.client, .int .i64 t.req.code, .int .i64 t.req.token, .string t.req.proof, .int .i64 t.req.upTo, .int .i64 t.pc, .int .i64 t.ver, .int .i64 t.till, .int .i64 t.resp.code, .int .i64 t.resp.token, .int .i64 t.resp.next, .bool t.resp.yes, .bool t.done] 61)).cell? ⟨x, 9, none⟩ = some (.int .i64 t.till) := hx5.cell 9
  have c10 : (w5.alloc (.cells #[.int .i64 t.req.no, .int .i64 t.req.kind, .int .i64 t.req.client, .int .i64 t.req.code, .int .i64 t.req.token, .string t.req.proof, .int .i64 t.req.upTo, .int .i64 t.pc, .int .i64 t.ver, .int .i64 t.till, .int .i64 t.resp.code, .int .i64 t.resp.token, .int .i64 t.resp.next, .bool t.resp.yes, .bool t.done] 61)).cell? ⟨x, 10, none⟩ = some (.int .i64 t.resp.code) := hx5.cell 10
  have c11 : (w5.alloc (.cells #[.int .i64 t.req.no, .int .i64 t.req.kind, .int .i64 t.req.client, .int .i64 t.req.code, .int .i64 t.req.token, .string t.req.proof, .int .i64 t.req.upTo, .int .i64 t.pc, .int .i64 t.ver, .int .i64 t.till, .int .i64 t.resp.code, .int .i64 t.resp.token, .int .i64 t.resp.next, .bool t.resp.yes, .bool t.done] 61)).cell? ⟨x, 11, none⟩ = some (.int .i64 t.resp.token) := hx5.cell 11
  have c12 : (w5.alloc (.cells #[.int .i64 t.req.no, .int .i64 t.req.kind, .int .i64 t.req.client, .int .i64 t.req.code, .int .i64 t.req.token, .string t.req.proof, .int .i64 t.req.upTo, .int .i64 t.pc, .int .i64 t.ver, .int .i64 t.till, .int .i64 t.resp.code, .int .i64 t.resp.token, .int .i64 t.resp.next, .bool t.resp.yes, .bool t.done] 61)).cell? ⟨x, 12, none⟩ = some (.int .i64 t.resp.next) := hx5.cell 12
  have c13 : (w5.alloc (.cells #[.int .i64 t.req.no, .int .i64 t.req.kind, .int .i64 t.req.client, .int .i64 t.req.code, .int .i64 t.req.token, .string t.req.proof, .int .i64 t.req.upTo, .int .i64 t.pc, .int .i64 t.ver, .int .i64 t.till, .int .i64 t.resp.code, .int .i64 t.resp.token, .int .i64 t.resp.next, .bool t.resp.yes, .bool t.done] 61)).cell? ⟨x, 13, none⟩ = some (.bool t.resp.yes) := hx5.cell 13
  have c14 : (w5.alloc (.cells #[.int .i64 t.req.no, .int .i64 t.req.kind, .int .i64 t.req.client, .int .i64 t.req.code, .int .i64 t.req.token, .string t.req.proof, .int .i64 t.req.upTo, .int .i64 t.pc, .int .i64 t.ver, .int .i64 t.till, .int .i64 t.resp.code, .int .i64 t.resp.token, .int .i64 t.resp.next, .bool t.resp.yes, .bool t.done] 61)).cell? ⟨x, 14, none⟩ = some (.bool t.done) := hx5.cell 14
  have d0 : (w5.alloc (.cells #[.int .i64 t.req.no, .int .i64 t.req.kind, .int .i64 t.req.client, .int .i64 t.req.code, .int .i64 t.req.token, .string t.req.proof, .int .i64 t.req.upTo, .int .i64 t.pc, .int .i64 t.ver, .int .i64 t.till, .int .i64 t.resp.code, .int .i64 t.resp.token, .int .i64 t.resp.next, .bool t.resp.yes, .bool t.done] 61)).cell? ⟨w5.heap.size, 0, none⟩ = some (.int .i64 t.req.no) := hry.cell 0
  have d1 : (w5.alloc (.cells #[.int .i64 t.req.no, .int .i64 t.req.kind, .int .i64 t.req.client, .int .i64 t.req.code, .int .i64 t.req.token, .string t.req.proof, .int .i64 t.req.upTo, .int .i64 t.pc, .int .i64 t.ver, .int .i64 t.till, .int .i64 t.resp.code, .int .i64 t.resp.token, .int .i64 t.resp.next, .bool t.resp.yes, .bool t.done] 61)).cell? ⟨w5.heap.size, 1, none⟩ = some (.int .i64 t.req.kind) := hry.cell 1
  have d2 : (w5.alloc (.cells #[.int .i64 t.req.no, .int .i64 t.req.kind, .int .i64 t.req.client, .int .i64 t.req.code, .int .i64 t.req.token, .string t.req.proof, .int .i64 t.req.upTo, .int .i64 t.pc, .int .i64 t.ver, .int .i64 t.till, .int .i64 t.resp.code, .int .i64 t.resp.token, .int .i64 t.resp.next, .bool t.resp.yes, .bool t.done] 61)).cell? ⟨w5.heap.size, 2, none⟩ = some (.int .i64 t.req.client) := hry.cell 2
  have d3 : (w5.alloc (.cells #[.int .i64 t.req.no, .int .i64 t.req.kind, .int .i64 t.req.client, .int .i64 t.req.code, .int .i64 t.req.token, .string t.req.proof, .int .i64 t.req.upTo, .int .i64 t.pc, .int .i64 t.ver, .int .i64 t.till, .int .i64 t.resp.code, .int .i64 t.resp.token, .int .i64 t.resp.next, .bool t.resp.yes, .bool t.done] 61)).cell? ⟨w5.heap.size, 3, none⟩ = some (.int .i64 t.req.code) := hry.cell 3
  have d4 : (w5.alloc (.cells #[.int .i64 t.req.no, .int .i64 t.req.kind, .int .i64 t.req.client, .int .i64 t.req.code, .int .i64 t.req.token, .string t.req.proof, .int .i64 t.req.upTo, .int .i64 t.pc, .int .i64 t.ver, .int .i64 t.till, .int .i64 t.resp.code, .int .i64 t.resp.token, .int .i64 t.resp.next, .bool t.resp.yes, .bool t.done] 61)).cell? ⟨w5.heap.size, 4, none⟩ = some (.int .i64 t.req.token) := hry.cell 4
  have d5 : (w5.alloc (.cells #[.int .i64 t.req.no, .int .i64 t.req.kind, .int .i64 t.req.client, .int .i64 t.req.code, .int .i64 t.req.token, .string t.req.proof, .int .i64 t.req.upTo, .int .i64 t.pc, .int .i64 t.ver, .int .i64 t.till, .int .i64 t.resp.code, .int .i64 t.resp.token, .int .i64 t.resp.next, .bool t.resp.yes, .bool t.done] 61)).cell? ⟨w5.heap.size, 5, none⟩ = some (.string t.req.proof) := hry.cell 5
  have d6 : (w5.alloc (.cells #[.int .i64 t.req.no, .int .i64 t.req.kind, .int .i64 t.req.client, .int .i64 t.req.code, .int .i64 t.req.token, .string t.req.proof, .int .i64 t.req.upTo, .int .i64 t.pc, .int .i64 t.ver, .int .i64 t.till, .int .i64 t.resp.code, .int .i64 t.resp.token, .int .i64 t.resp.next, .bool t.resp.yes, .bool t.done] 61)).cell? ⟨w5.heap.size, 6, none⟩ = some (.int .i64 t.req.upTo) := hry.cell 6
  have d7 : (w5.alloc (.cells #[.int .i64 t.req.no, .int .i64 t.req.kind, .int .i64 t.req.client, .int .i64 t.req.code, .int .i64 t.req.token, .string t.req.proof, .int .i64 t.req.upTo, .int .i64 t.pc, .int .i64 t.ver, .int .i64 t.till, .int .i64 t.resp.code, .int .i64 t.resp.token, .int .i64 t.resp.next, .bool t.resp.yes, .bool t.done] 61)).cell? ⟨w5.heap.size, 7, none⟩ = some (.int .i64 t.pc) := hry.cell 7
  have d8 : (w5.alloc (.cells #[.int .i64 t.req.no, .int .i64 t.req.kind, .int .i64 t.req.client, .int .i64 t.req.code, .int .i64 t.req.token, .string t.req.proof, .int .i64 t.req.upTo, .int .i64 t.pc, .int .i64 t.ver, .int .i64 t.till, .int .i64 t.resp.code, .int .i64 t.resp.token, .int .i64 t.resp.next, .bool t.resp.yes, .bool t.done] 61)).cell? ⟨w5.heap.size, 8, none⟩ = some (.int .i64 t.ver) := hry.cell 8
  have d9 : (w5.alloc (.cells #[.int .i64 t.req.no, .int .i64 t.req.kind, .int .i64 t.req.client, .int .i64 t.req.code, .int .i64 t.req.token, .string t.req.proof, .int .i64 t.req.upTo, .int .i64 t.pc, .int .i64 t.ver, .int .i64 t.till, .int .i64 t.resp.code, .int .i64 t.resp.token, .int .i64 t.resp.next, .bool t.resp.yes, .bool t.done] 61)).cell? ⟨w5.heap.size, 9, none⟩ = some (.int .i64 t.till) := hry.cell 9
  have d10 : (w5.alloc (.cells #[.int .i64 t.req.no, .int .i64 t.req.kind, .int .i64 t.req.client, .int .i64 t.req.code, .int .i64 t.req.token, .string t.req.proof, .int .i64 t.req.upTo, .int .i64 t.pc, .int .i64 t.ver, .int .i64 t.till, .int .i64 t.resp.code, .int .i64 t.resp.token, .int .i64 t.resp.next, .bool t.resp.yes, .bool t.done] 61)).cell? ⟨w5.heap.size, 10, none⟩ = some (.int .i64 t.resp.code) := hry.cell 10
  have d11 : (w5.alloc (.cells #[.int .i64 t.req.no, .int .i64 t.req.kind, .int .i64 t.req.client, .int .i64 t.req.code, .int .i64 t.req.token, .string t.req.proof, .int .i64 t.req.upTo, .int .i64 t.pc, .int .i64 t.ver, .int .i64 t.till, .int .i64 t.resp.code, .int .i64 t.resp.token, .int .i64 t.resp.next, .bool t.resp.yes, .bool t.done] 61)).cell? ⟨w5.heap.size, 11, none⟩ = some (.int .i64 t.resp.token) := hry.cell 11
  have d12 : (w5.alloc (.cells #[.int .i64 t.req.no, .int .i64 t.req.kind, .int .i64 t.req.client, .int .i64 t.req.code, .int .i64 t.req.token, .string t.req.proof, .int .i64 t.req.upTo, .int .i64 t.pc, .int .i64 t.ver, .int .i64 t.till, .int .i64 t.resp.code, .int .i64 t.resp.token, .int .i64 t.resp.next, .bool t.resp.yes, .bool t.done] 61)).cell? ⟨w5.heap.size, 12, none⟩ = some (.int .i64 t.resp.next) := hry.cell 12
  have d13 : (w5.alloc (.cells #[.int .i64 t.req.no, .int .i64 t.req.kind, .int .i64 t.req.client, .int .i64 t.req.code, .int .i64 t.req.token, .string t.req.proof, .int .i64 t.req.upTo, .int .i64 t.pc, .int .i64 t.ver, .int .i64 t.till, .int .i64 t.resp.code, .int .i64 t.resp.token, .int .i64 t.resp.next, .bool t.resp.yes, .bool t.done] 61)).cell? ⟨w5.heap.size, 13, none⟩ = some (.bool t.resp.yes) := hry.cell 13
  have d14 : (w5.alloc (.cells #[.int .i64 t.req.no, .int .i64 t.req.kind, .int .i64 t.req.client, .int .i64 t.req.code, .int .i64 t.req.token, .string t.req.proof, .int .i64 t.req.upTo, .int .i64 t.pc, .int .i64 t.ver, .int .i64 t.till, .int .i64 t.resp.code, .int .i64 t.resp.token, .int .i64 t.resp.next, .bool t.resp.yes, .bool t.done] 61)).cell? ⟨w5.heap.size, 14, none⟩ = some (.bool t.done) := hry.cell 14
  clear hb hbx h5 hB5 hx5 hry HX3 HX4
  go_wp2_with fail
  rw [← HVt.out]
  refine (eqThread_same t _).mono ?_
  rintro e w6 ⟨rfl, hb⟩
  have bb := HB5.out.trans (hb.mono HB5.out.size)
  clear hb HB5
  go_wp2_with fail
  go_ret
  exact ⟨rfl, bb⟩
end Go.Proofs.Ytgkdajlkajmdiaa
