/- ThreadRight: the walk of the law. -/
import Derived.Test.YtgkdajlkajmdiaaThRight
import Derived.Test.YtgkdajlkajmdiaaThTo
namespace Go.Proofs.Ytgkdajlkajmdiaa
open Go Go.RowKit Go.Lib
set_option linter.unusedVariables false
set_option maxRecDepth 100000

set_option maxHeartbeats 2000000 in
theorem lawThreadRight (t : TH) (w : World) (hp : t.req.proof.size ≤ maxLen) : Calls Try.prog 5 #[thV t] w fun e w' => e = .returned (.bool true) ∧ Below w.heap.size w w' := by
  have hb0 := (Below.refl w.heap.size w).alloc (Nat.le_refl _) (.cells #[.int .i64 t.req.no, .int .i64 t.req.kind, .int .i64 t.req.client, .int .i64 t.req.code, .int .i64 t.req.token, .string t.req.proof, .int .i64 t.req.upTo, .int .i64 t.pc, .int .i64 t.ver, .int .i64 t.till, .int .i64 t.resp.code, .int .i64 t.resp.token, .int .i64 t.resp.next, .bool t.resp.yes, .bool t.done] 55)
  have hr : Row (w.alloc (.cells #[.int .i64 t.req.no, .int .i64 t.req.kind, .int .i64 t.req.client, .int .i64 t.req.code, .int .i64 t.req.token, .string t.req.proof, .int .i64 t.req.upTo, .int .i64 t.pc, .int .i64 t.ver, .int .i64 t.till, .int .i64 t.resp.code, .int .i64 t.resp.token, .int .i64 t.resp.next, .bool t.resp.yes, .bool t.done] 55)) w.heap.size 55 (thL t) := heap_alloc_new w _
  have HS := Lib.hid (TH15.of hr hb0)
  have HV := Lib.hid (show thV t = .agg #[.int .i64 t.req.no, .int .i64 t.req.kind, .int .i64 t.req.client, .int .i64 t.req.code, .int .i64 t.req.token, .string t.req.proof, .int .i64 t.req.upTo, .int .i64 t.pc, .int .i64 t.ver, .int .i64 t.till, .int .i64 t.resp.code, .int .i64 t.resp.token, .int .i64 t.resp.next, .bool t.resp.yes, .bool t.done] from rfl)
  clear hb0 hr
  rw [HV.out]
  go_enter Try.func5, Try.ntmps5
  go_wp2_with fail
  rw [← HV.out]
  refine (szThread_any t _ hp).mono ?_
  rintro e w1 ⟨⟨n, rfl⟩, hb⟩
  have HS1 := Lib.hid (HS.out.keep hb)
  clear hb HS
  by_cases hn : n < 0
  · go_wp2_with fail
    go_ret
    exact ⟨rfl, HS1.out.2⟩
  have c0 : w1.cell? ⟨w.heap.size, 0, none⟩ = some (.int .i64 t.req.no) := HS1.out.1.cell 0
  have c1 : w1.cell? ⟨w.heap.size, 1, none⟩ = some (.int .i64 t.req.kind) := HS1.out.1.cell 1
  have c2 : w1.cell? ⟨w.heap.size, 2, none⟩ = some (.int .i64 t.req.client) := HS1.out.1.cell 2
  have c3 : w1.cell? ⟨w.heap.size, 3, none⟩ = some (.int .i64 t.req.code) := HS1.out.1.cell 3
  have c4 : w1.cell? ⟨w.heap.size, 4, none⟩ = some (.int .i64 t.req.token) := HS1.out.1.cell 4
  have c5 : w1.cell? ⟨w.heap.size, 5, none⟩ = some (.string t.req.proof) := HS1.out.1.cell 5
  have c6 : w1.cell? ⟨w.heap.size, 6, none⟩ = some (.int .i64 t.req.upTo) := HS1.out.1.cell 6
  have c7 : w1.cell? ⟨w.heap.size, 7, none⟩ = some (.int .i64 t.pc) := HS1.out.1.cell 7
  have c8 : w1.cell? ⟨w.heap.size, 8, none⟩ = some (.int .i64 t.ver) := HS1.out.1.cell 8
  have c9 : w1.cell? ⟨w.heap.size, 9, none⟩ = some (.int .i64 t.till) := HS1.out.1.cell 9
  have c10 : w1.cell? ⟨w.heap.size, 10, none⟩ = some (.int .i64 t.resp.code) := HS1.out.1.cell 10
  have c11 : w1.cell? ⟨w.heap.size, 11, none⟩ = some (.int .i64 t.resp.token) := HS1.out.1.cell 11
  have c12 : w1.cell? ⟨w.heap.size, 12, none⟩ = some (.int .i64 t.resp.next) := HS1.out.1.cell 12
  have c13 : w1.cell? ⟨w.heap.size, 13, none⟩ = some (.bool t.resp.yes) := HS1.out.1.cell 13
  have c14 : w1.cell? ⟨w.heap.size, 14, none⟩ = some (.bool t.done) := HS1.out.1.cell 14
  go_wp2_with fail
  rw [← HV.out]
  refine (toThread_any t _).mono ?_
  rintro e w2 ⟨rfl, hb⟩
  have HS2 := Lib.hid (HS1.out.keep hb)
  clear hb HS1 c0 c1 c2 c3 c4 c5 c6 c7 c8 c9 c10 c11 c12 c13 c14
  go_wp2_with fail
  refine (thread_spec t _ hp).mono ?_
  rintro e w3 ⟨rfl, hb⟩
  have HS3 := Lib.hid (HS2.out.keep hb)
  clear hb HS2
  have c0 : w3.cell? ⟨w.heap.size, 0, none⟩ = some (.int .i64 t.req.no) := HS3.out.1.cell 0
  have c1 : w3.cell? ⟨w.heap.size, 1, none⟩ = some (.int .i64 t.req.kind) := HS3.out.1.cell 1
  have c2 : w3.cell? ⟨w.heap.size, 2, none⟩ = some (.int .i64 t.req.client) := HS3.out.1.cell 2
  have c3 : w3.cell? ⟨w.heap.size, 3, none⟩ = some (.int .i64 t.req.code) := HS3.out.1.cell 3
  have c4 : w3.cell? ⟨w.heap.size, 4, none⟩ = some (.int .i64 t.req.token) := HS3.out.1.cell 4
  have c5 : w3.cell? ⟨w.heap.size, 5, none⟩ = some (.string t.req.proof) := HS3.out.1.cell 5
  have c6 : w3.cell? ⟨w.heap.size, 6, none⟩ = some (.int .i64 t.req.upTo) := HS3.out.1.cell 6
  have c7 : w3.cell? ⟨w.heap.size, 7, none⟩ = some (.int .i64 t.pc) := HS3.out.1.cell 7
  have c8 : w3.cell? ⟨w.heap.size, 8, none⟩ = some (.int .i64 t.ver) := HS3.out.1.cell 8
  have c9 : w3.cell? ⟨w.heap.size, 9, none⟩ = some (.int .i64 t.till) := HS3.out.1.cell 9
  have c10 : w3.cell? ⟨w.heap.size, 10, none⟩ = some (.int .i64 t.resp.code) := HS3.out.1.cell 10
  have c11 : w3.cell? ⟨w.heap.size, 11, none⟩ = some (.int .i64 t.resp.token) := HS3.out.1.cell 11
  have c12 : w3.cell? ⟨w.heap.size, 12, none⟩ = some (.int .i64 t.resp.next) := HS3.out.1.cell 12
  have c13 : w3.cell? ⟨w.heap.size, 13, none⟩ = some (.bool t.resp.yes) := HS3.out.1.cell 13
  have c14 : w3.cell? ⟨w.heap.size, 14, none⟩ = some (.bool t.done) := HS3.out.1.cell 14
  go_wp2_with fail
  rw [← HV.out]
  refine (toThread_any t _).mono ?_
  rintro e w4 ⟨rfl, hb⟩
  have HS4 := Lib.hid (HS3.out.keep hb)
  clear hb HS3 c0 c1 c2 c3 c4 c5 c6 c7 c8 c9 c10 c11 c12 c13 c14
  go_wp2_with fail
  refine (thread_imp t _ hp).mono ?_
  rintro e w5 ⟨rfl, hb⟩
  have bb := (HS4.out.keep hb).2
  clear hb HS4
  go_wp2_with fail
  go_ret
  exact ⟨rfl, bb⟩
end Go.Proofs.Ytgkdajlkajmdiaa
