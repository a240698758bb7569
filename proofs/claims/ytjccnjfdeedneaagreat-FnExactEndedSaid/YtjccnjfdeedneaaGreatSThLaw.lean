/- The laws' helpers on threads: measured, copied. -/
import Derived.Test.YtjccnjfdeedneaaGreatSTh
import Derived.Test.YtjccnjfdeedneaaGreatSGdA
import Derived.Laws.Rows
namespace Go.Proofs.YtjccnjfdeedneaaGreat
open Go Go.RowKit Go.Lib
set_option linter.unusedVariables false
set_option maxRecDepth 100000

/-- The cells of a thread, in a box of the call's own. -/
def TH15 (g : Nat) (T : TypeId) (t : TH) (w0 w : World) : Prop := Row w g T (thL t) ∧ Below g w0 w
theorem TH15.of {g : Nat} {T : TypeId} {t : TH} {w0 w : World} (h : Row w g T (thL t)) (hb : Below g w0 w) : TH15 g T t w0 w := ⟨h, hb⟩
theorem TH15.keep {g : Nat} {T : TypeId} {t : TH} {w0 w w' : World} (h : TH15 g T t w0 w) (hb : Below w.heap.size w w') : TH15 g T t w0 w' := ⟨h.1.below hb h.1.lt, h.2.trans (hb.mono (Nat.le_of_lt h.1.lt))⟩
theorem szReqT_any (r : RQ) (w : World) (hp : r.proof.size ≤ maxLen) : Calls Tryz.prog 87 #[rqV r, .int .i64 1048576] w fun e w' => (∃ n : Int, e = .returned (.int .i64 n)) ∧ Below w.heap.size w w' := by
 unfold maxLen at hp
 unfold rqV
 by_cases h : r.proof.size ≤ 1048576
 ·have d : decide ((1048576 : Int) - r.proof.size < 0) = false := decide_eq_false (by omega)
  go_enter Tryz.func87, Tryz.ntmps87
  go_wp2_with fail
  go_ret
  exact ⟨⟨_, rfl⟩, by go_grown⟩
 ·have d : decide ((1048576 : Int) - r.proof.size < 0) = true := decide_eq_true (by omega)
  go_enter Tryz.func87, Tryz.ntmps87
  go_wp2_with fail
  go_ret
  exact ⟨⟨_, rfl⟩, by go_grown⟩
set_option maxHeartbeats 400000 in
theorem toReqT_any (r : RQ) (w : World) : Calls Tryz.prog 90 #[rqV r] w (Ret (rqV r) w) := by
 unfold rqV
 go_enter Tryz.func90, Tryz.ntmps90
 go_wp2_with fail
 go_returns
 exact ⟨rfl, by go_grown⟩
set_option maxHeartbeats 400000 in
theorem toRespT_any (r : RS) (w : World) : Calls Tryz.prog 183 #[rsV r] w (Ret (rsV r) w) := by
 unfold rsV
 go_enter Tryz.func183, Tryz.ntmps183
 go_wp2_with fail
 go_returns
 exact ⟨rfl, by go_grown⟩
set_option maxHeartbeats 1000000 in
theorem szThread_any (t : TH) (w : World) (hp : t.req.proof.size ≤ maxLen) : Calls Tryz.prog 139 #[thV t, .int .i64 1048576] w fun e w' => (∃ n : Int, e = .returned (.int .i64 n)) ∧ Below w.heap.size w w' := by
 have hb0 := (Below.refl w.heap.size w).alloc (Nat.le_refl _) (.cells #[.int .i64 t.req.no, .int .i64 t.req.kind, .int .i64 t.req.client, .int .i64 t.req.code, .int .i64 t.req.token, .string t.req.proof, .int .i64 t.req.upTo, .int .i64 t.pc, .int .i64 t.ver, .int .i64 t.till, .int .i64 t.resp.code, .int .i64 t.resp.token, .int .i64 t.resp.next, .bool t.resp.yes, .bool t.done] 196)
 have hr : Row (w.alloc (.cells #[.int .i64 t.req.no, .int .i64 t.req.kind, .int .i64 t.req.client, .int .i64 t.req.code, .int .i64 t.req.token, .string t.req.proof, .int .i64 t.req.upTo, .int .i64 t.pc, .int .i64 t.ver, .int .i64 t.till, .int .i64 t.resp.code, .int .i64 t.resp.token, .int .i64 t.resp.next, .bool t.resp.yes, .bool t.done] 196)) w.heap.size 196 (thL t) := heap_alloc_new w _
 have HS := Lib.hid (TH15.of hr hb0)
 have HV := Lib.hid (show thV t = .agg #[.int .i64 t.req.no, .int .i64 t.req.kind, .int .i64 t.req.client, .int .i64 t.req.code, .int .i64 t.req.token, .string t.req.proof, .int .i64 t.req.upTo, .int .i64 t.pc, .int .i64 t.ver, .int .i64 t.till, .int .i64 t.resp.code, .int .i64 t.resp.token, .int .i64 t.resp.next, .bool t.resp.yes, .bool t.done] from rfl)
 have HE := Lib.hid (show rqV t.req = .agg #[.int .i64 t.req.no, .int .i64 t.req.kind, .int .i64 t.req.client, .int .i64 t.req.code, .int .i64 t.req.token, .string t.req.proof, .int .i64 t.req.upTo] from rfl)
 clear hb0 hr
 rw [HV.out]
 go_enter Tryz.func139, Tryz.ntmps139
 go_wp2_with fail
 rw [← HE.out]
 refine (szReqT_any t.req _ hp).mono ?_
 rintro e w1 ⟨⟨n, rfl⟩, hb⟩
 have HB := Lib.hid (HS.out.keep hb).2
 clear hb HS
 by_cases hn : n < 0
 ·go_wp2_with fail
  go_ret
  exact ⟨⟨_, rfl⟩, HB.out⟩
 ·go_wp2_with fail
  go_ret
  exact ⟨⟨_, rfl⟩, HB.out⟩
theorem oneReqT (r : RQ) : (#[Value.int .i64 r.no, .int .i64 r.kind, .int .i64 r.client, .int .i64 r.code, .int .i64 r.token, .string r.proof, .int .i64 r.upTo] : Array Value).all (·.oneCell') = true := by simp [Value.oneCell']
theorem oneRespT (s : RS) : (#[Value.int .i64 s.code, .int .i64 s.token, .int .i64 s.next, .bool s.yes] : Array Value).all (·.oneCell') = true := by simp [Value.oneCell']
end Go.Proofs.YtjccnjfdeedneaaGreat
