/- Right threads: the model, the program, the law. -/
import Derived.Test.YtjccnjfdeedneaaGreatSTh
import Derived.Test.YtjccnjfdeedneaaGreatSImp4
import Derived.Test.YtjccnjfdeedneaaGreatSGrSpec
import Derived.Test.YtjccnjfdeedneaaGreatSGdB
namespace Go.Proofs.YtjccnjfdeedneaaGreat
open Go Go.RowKit Go.Lib
set_option linter.unusedVariables false
set_option maxRecDepth 100000

theorem thread_ways (t : TH) : (rightB t.req = false ∧ threadB t = false) ∨ (rightB t.req = true ∧ isB t.pc 0 9 = false ∧ threadB t = false) ∨ (rightB t.req = true ∧ isB t.pc 0 9 = true ∧ isB t.ver 0 1000000 = false ∧ threadB t = false) ∨ (rightB t.req = true ∧ isB t.pc 0 9 = true ∧ isB t.ver 0 1000000 = true ∧ isB t.till 0 1000000 = false ∧ threadB t = false) ∨ (rightB t.req = true ∧ isB t.pc 0 9 = true ∧ isB t.ver 0 1000000 = true ∧ isB t.till 0 1000000 = true ∧ threadB t = true) := by
 unfold threadB
 cases rightB t.req <;> cases isB t.pc 0 9 <;> cases isB t.ver 0 1000000 <;> cases isB t.till 0 1000000 <;> simp
theorem pc_ways {t : TH} (h : isB t.pc 0 9 = false) : t.pc < 0 ∨ (0 ≤ t.pc ∧ 10 ≤ t.pc) := by
 simp only [isB, Bool.and_eq_false_iff, decide_eq_false_iff_not] at h
 omega
theorem pc_in {t : TH} (h : isB t.pc 0 9 = true) : 0 ≤ t.pc ∧ t.pc < 10 := by
 simp only [isB, Bool.and_eq_true, decide_eq_true_eq] at h
 omega
theorem th_req (t : TH) : rqV t.req = .agg #[.int .i64 t.req.no, .int .i64 t.req.kind, .int .i64 t.req.client, .int .i64 t.req.code, .int .i64 t.req.token, .string t.req.proof, .int .i64 t.req.upTo] := rfl
set_option maxHeartbeats 1000000 in
theorem thread_spec (t : TH) (w : World) (hp : t.req.proof.size ≤ maxLen) : Calls Tryz.prog 140 #[thV t] w (Ret (.bool (threadB t)) w) := by
 have hb0 := (Below.refl w.heap.size w).alloc (Nat.le_refl _) (.cells #[.int .i64 t.req.no, .int .i64 t.req.kind, .int .i64 t.req.client, .int .i64 t.req.code, .int .i64 t.req.token, .string t.req.proof, .int .i64 t.req.upTo, .int .i64 t.pc, .int .i64 t.ver, .int .i64 t.till, .int .i64 t.resp.code, .int .i64 t.resp.token, .int .i64 t.resp.next, .bool t.resp.yes, .bool t.done] 147)
 have hr : Row (w.alloc (.cells #[.int .i64 t.req.no, .int .i64 t.req.kind, .int .i64 t.req.client, .int .i64 t.req.code, .int .i64 t.req.token, .string t.req.proof, .int .i64 t.req.upTo, .int .i64 t.pc, .int .i64 t.ver, .int .i64 t.till, .int .i64 t.resp.code, .int .i64 t.resp.token, .int .i64 t.resp.next, .bool t.resp.yes, .bool t.done] 147)) w.heap.size 147 (thL t) := heap_alloc_new w _
 have HB := Lib.hid hb0
 have HR := Lib.hid hr
 have hz := hb0.size
 have hgl := hr.lt
 have HE := Lib.hid (th_req t)
 have HV := Lib.hid (show thV t = .agg #[.int .i64 t.req.no, .int .i64 t.req.kind, .int .i64 t.req.client, .int .i64 t.req.code, .int .i64 t.req.token, .string t.req.proof, .int .i64 t.req.upTo, .int .i64 t.pc, .int .i64 t.ver, .int .i64 t.till, .int .i64 t.resp.code, .int .i64 t.resp.token, .int .i64 t.resp.next, .bool t.resp.yes, .bool t.done] from rfl)
 clear hb0 hr
 rcases thread_ways t with ⟨tg, te⟩ | ⟨tg, tv, te⟩ | ⟨tg, tv, tl, te⟩ | ⟨tg, tv, tl, tc, te⟩ | ⟨tg, tv, tl, tc, te⟩
 all_goals
  have TG := Lib.hid tg
  have TE := Lib.hid te
  clear tg te
  rw [HV.out]
  go_enter Tryz.func140, Tryz.ntmps140
  go_wp2_with fail
  rw [← HE.out]
  refine (right_spec t.req _ hp).mono ?_
  rw [TG.out]
  rintro e w2 ⟨rfl, hb2⟩
  have HB2 := Lib.hid (HB.out.trans (hb2.mono hz))
  have HR2 := HR.out.below hb2 hgl
  have a7 : w2.cell? ⟨w.heap.size, 7, none⟩ = some (.int .i64 t.pc) := HR2.cell 7
  have a8 : w2.cell? ⟨w.heap.size, 8, none⟩ = some (.int .i64 t.ver) := HR2.cell 8
  have a9 : w2.cell? ⟨w.heap.size, 9, none⟩ = some (.int .i64 t.till) := HR2.cell 9
  clear hb2 HR2
  go_wp2_with (first | (go_at_call 102; refine (is_at (by assumption)).mono ?_; rintro e w' ⟨rfl, hww⟩; rw [hww]; clear hww w') | (go_at_call 101; refine (time_at (by assumption)).mono ?_; rintro e w' ⟨rfl, hww⟩; rw [hww]; clear hww w'))
  go_ret
  exact ⟨by rw [TE.out]; rfl, HB2.out⟩
set_option maxHeartbeats 1000000 in
theorem thread_imp (t : TH) (w : World) (hp : t.req.proof.size ≤ maxLen) : Calls Tryz.prog 143 #[thV t] w (Ret (.bool (threadB t)) w) := by
 have hb0 := (Below.refl w.heap.size w).alloc (Nat.le_refl _) (.cells #[.int .i64 t.req.no, .int .i64 t.req.kind, .int .i64 t.req.client, .int .i64 t.req.code, .int .i64 t.req.token, .string t.req.proof, .int .i64 t.req.upTo, .int .i64 t.pc, .int .i64 t.ver, .int .i64 t.till, .int .i64 t.resp.code, .int .i64 t.resp.token, .int .i64 t.resp.next, .bool t.resp.yes, .bool t.done] 147)
 have hr : Row (w.alloc (.cells #[.int .i64 t.req.no, .int .i64 t.req.kind, .int .i64 t.req.client, .int .i64 t.req.code, .int .i64 t.req.token, .string t.req.proof, .int .i64 t.req.upTo, .int .i64 t.pc, .int .i64 t.ver, .int .i64 t.till, .int .i64 t.resp.code, .int .i64 t.resp.token, .int .i64 t.resp.next, .bool t.resp.yes, .bool t.done] 147)) w.heap.size 147 (thL t) := heap_alloc_new w _
 have HB := Lib.hid hb0
 have HR := Lib.hid hr
 have hz := hb0.size
 have hgl := hr.lt
 have HE := Lib.hid (th_req t)
 have HV := Lib.hid (show thV t = .agg #[.int .i64 t.req.no, .int .i64 t.req.kind, .int .i64 t.req.client, .int .i64 t.req.code, .int .i64 t.req.token, .string t.req.proof, .int .i64 t.req.upTo, .int .i64 t.pc, .int .i64 t.ver, .int .i64 t.till, .int .i64 t.resp.code, .int .i64 t.resp.token, .int .i64 t.resp.next, .bool t.resp.yes, .bool t.done] from rfl)
 clear hb0 hr
 have go : ∀ (b : Bool), rightB t.req = b → (b = true → (t.pc < 0 ∧ threadB t = false) ∨ (0 ≤ t.pc ∧ 10 ≤ t.pc ∧ threadB t = false) ∨ (0 ≤ t.pc ∧ t.pc < 10 ∧ isB t.ver 0 1000000 = false ∧ threadB t = false) ∨ (0 ≤ t.pc ∧ t.pc < 10 ∧ isB t.ver 0 1000000 = true ∧ isB t.till 0 1000000 = threadB t)) → (b = false → threadB t = false) → Calls Tryz.prog 143 #[thV t] w (Ret (.bool (threadB t)) w) := by
  intro b tg hw hn
  have TG := Lib.hid tg
  clear tg
  rw [HV.out]
  go_enter Tryz.func143, Tryz.ntmps143
  go_wp2_with fail
  rw [← HE.out]
  refine (right_impl t.req _ hp).mono ?_
  rw [TG.out]
  rintro e w2 ⟨rfl, hb2⟩
  have HB2 := Lib.hid (HB.out.trans (hb2.mono hz))
  have HR2 := HR.out.below hb2 hgl
  have a7 : w2.cell? ⟨w.heap.size, 7, none⟩ = some (.int .i64 t.pc) := HR2.cell 7
  have a8 : w2.cell? ⟨w.heap.size, 8, none⟩ = some (.int .i64 t.ver) := HR2.cell 8
  have a9 : w2.cell? ⟨w.heap.size, 9, none⟩ = some (.int .i64 t.till) := HR2.cell 9
  clear hb2 HR2
  cases b with
  | false =>
   have TE := Lib.hid (hn rfl)
   clear hn hw
   go_wp2_with fail
   go_ret
   exact ⟨by rw [TE.out]; rfl, HB2.out⟩
  | true =>
   have hw' := hw rfl
   clear hw hn
   rcases hw' with ⟨p1, te⟩ | ⟨p1, p2, te⟩ | ⟨p1, p2, tv, te⟩ | ⟨p1, p2, tv, te⟩
   all_goals
    have TE := Lib.hid te
    clear te
    go_wp2_with (go_at_call 107; refine (isTime_at (by first | assumption | exact TE.out)).mono ?_; rintro e w' ⟨rfl, hww⟩; rw [hww]; clear hww w')
    go_ret
    exact ⟨by first | rfl | (rw [TE.out]; rfl), HB2.out⟩
 rcases thread_ways t with ⟨tg, te⟩ | ⟨tg, tv, te⟩ | ⟨tg, tv, tl, te⟩ | ⟨tg, tv, tl, tc, te⟩ | ⟨tg, tv, tl, tc, te⟩
 ·exact go _ tg (fun h => by cases h) (fun _ => te)
 ·exact go _ tg (fun _ => by rcases pc_ways tv with h | h; exact .inl ⟨h, te⟩; exact .inr (.inl ⟨h.1, h.2, te⟩)) (fun h => by cases h)
 ·exact go _ tg (fun _ => .inr (.inr (.inl ⟨(pc_in tv).1, (pc_in tv).2, tl, te⟩))) (fun h => by cases h)
 ·exact go _ tg (fun _ => .inr (.inr (.inr ⟨(pc_in tv).1, (pc_in tv).2, tl, tc.trans te.symm⟩))) (fun h => by cases h)
 ·exact go _ tg (fun _ => .inr (.inr (.inr ⟨(pc_in tv).1, (pc_in tv).2, tl, tc.trans te.symm⟩))) (fun h => by cases h)
end Go.Proofs.YtjccnjfdeedneaaGreat
