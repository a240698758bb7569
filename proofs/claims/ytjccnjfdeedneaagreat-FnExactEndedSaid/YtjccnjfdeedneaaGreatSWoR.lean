/- Which worlds are right: both sides. -/
import Derived.Test.YtjccnjfdeedneaaGreatSWoT
import Derived.Test.YtjccnjfdeedneaaGreatSWoO
import Derived.Test.YtjccnjfdeedneaaGreatSWoL
import Derived.Test.YtjccnjfdeedneaaGreatSWoN
namespace Go.Proofs.YtjccnjfdeedneaaGreat
open Go Go.RowKit Go.Lib
set_option linter.unusedVariables false
set_option linter.unusedSimpArgs false
set_option maxRecDepth 100000

theorem worldB_alt (x : Wr) : worldB x = (decide (1 ≤ x.ths.length) && decide (x.ths.length ≤ 6) && grantB x.first && storeB x.store && nosB x && roomB x.first x.ths.length && logOk x.ths.length no0 no0 x.log) := by
 unfold worldB nosB thsB
 cases grantB x.first <;> cases storeB x.store <;> cases decide (1 ≤ x.ths.length) <;> cases decide (x.ths.length ≤ 6) <;> cases thrOk [] x.ths <;> cases lockB x.store.lock x.ths <;> cases roomB x.first x.ths.length <;> cases freeB x.first x.ths <;> simp
set_option maxHeartbeats 8000000 in
theorem world_spec (x : Wr) (h : WH) (w : World) (hin : WoIn w h x) (hs : WoSmall x) (hpr : ∀ t ∈ x.ths, t.req.proof.size ≤ maxLen) : Calls Tryz.prog 26 #[woV x h] w (Ret (.bool (worldB x)) w) := by
 obtain ⟨W, hW⟩ : ∃ W, W = w.alloc (.cells #[.int .i64 x.first.now, .slice h.fh.wp h.fh.wn h.fh.wc, .slice h.fh.kp h.fh.kn h.fh.kc, .slice h.fh.dp h.fh.dn h.fh.dc, .int .i64 x.store.gr.now, .slice h.sh.gh.wp h.sh.gh.wn h.sh.gh.wc, .slice h.sh.gh.kp h.sh.gh.kn h.sh.gh.kc, .slice h.sh.gh.dp h.sh.gh.dn h.sh.gh.dc, .int .i64 x.store.ver, .int .i64 x.store.lock, .slice h.sh.cp h.sh.cn h.sh.cc, .slice h.tp h.tn h.tc, .slice h.lp h.ln h.lc] 64) := ⟨_, rfl⟩
 have hb0 : Below w.heap.size w W := by rw [hW]; exact (Below.refl _ _).alloc (Nat.le_refl _) _
 have r0 : Row W w.heap.size 64 (woL x h) := by rw [hW]; exact heap_alloc_new w _
 have HW := Lib.hid hW
 have HIN := Lib.hid (hin.later hb0)
 have HB := Lib.hid hb0
 have HR := Lib.hid r0
 have HPr := Lib.hid hpr
 have HS := Lib.hid hs
 have HE := Lib.hid (wG x h)
 have HF := Lib.hid (wS x h)
 have HV := Lib.hid (show woV x h = .agg #[.int .i64 x.first.now, .slice h.fh.wp h.fh.wn h.fh.wc, .slice h.fh.kp h.fh.kn h.fh.kc, .slice h.fh.dp h.fh.dn h.fh.dc, .int .i64 x.store.gr.now, .slice h.sh.gh.wp h.sh.gh.wn h.sh.gh.wc, .slice h.sh.gh.kp h.sh.gh.kn h.sh.gh.kc, .slice h.sh.gh.dp h.sh.gh.dn h.sh.gh.dc, .int .i64 x.store.ver, .int .i64 x.store.lock, .slice h.sh.cp h.sh.cn h.sh.cc, .slice h.tp h.tn h.tc, .slice h.lp h.ln h.lc] from rfl)
 have HAlt := Lib.hid (worldB_alt x)
 have hn : h.tn = x.ths.length := hin.2.2.1.1
 rw [← hn] at HAlt
 have hnm : h.tn ≤ 1048576 := by rw [hn]; exact hs.2.2.1
 have hll : h.ln = x.log.length ∧ h.ln ≤ 1048576 := ⟨hin.2.2.2.1, by rw [hin.2.2.2.1]; exact hs.2.2.2⟩
 have HLl := Lib.hid hll
 have HWl := Lib.hid hin.1.1
 clear hW hb0 r0 hin hs hpr hn hll
 unfold woV
 rcases (show h.tn < 1 ∨ (1 ≤ h.tn ∧ 6 < h.tn) ∨ (1 ≤ h.tn ∧ h.tn ≤ 6) by omega) with t1 | ⟨t0, t1⟩ | ⟨t0, t1⟩
 ·have HD : Hid (worldB x = false) := Lib.hid (by rw [HAlt.out, decide_eq_false (by omega)]; rfl)
  go_enter Tryz.func26, Tryz.ntmps26
  go_wp2_with fail
  rw [← HW.out]
  go_ret
  exact ⟨by rw [HD.out]; rfl, HB.out⟩
 ·have HD : Hid (worldB x = false) := Lib.hid (by rw [HAlt.out, decide_eq_false (show ¬ h.tn ≤ 6 by omega)]; simp)
  go_enter Tryz.func26, Tryz.ntmps26
  go_wp2_with fail
  rw [← HW.out]
  go_ret
  exact ⟨by rw [HD.out]; rfl, HB.out⟩
 ·go_enter Tryz.func26, Tryz.ntmps26
  go_wp2_with fail
  rw [← HW.out, ← HE.out]
  refine (grant_spec x.first h.fh _ HIN.out.1 HS.out.1).mono ?_
  rintro e w2 ⟨rfl, hb2⟩
  have HB2 := Lib.hid (HB.out.trans (hb2.mono HB.out.size))
  have HR2 := Lib.hid (HR.out.below hb2 HR.out.lt)
  have HIN2 := Lib.hid (HIN.out.later hb2)
  clear hb2
  cases hg : grantB x.first with
  | false =>
   have HD : Hid (worldB x = false) := Lib.hid (by rw [HAlt.out, hg]; simp)
   clear hg
   go_wp2_with fail
   go_ret
   exact ⟨by rw [HD.out]; rfl, HB2.out⟩
  | true =>
   have HGb := Lib.hid hg
   clear hg
   have c0 : w2.cell? ⟨w.heap.size, 0, none⟩ = some (.int .i64 x.first.now) := HR2.out.cell 0
   have c1 : w2.cell? ⟨w.heap.size, 1, none⟩ = some (.slice h.fh.wp h.fh.wn h.fh.wc) := HR2.out.cell 1
   have c2 : w2.cell? ⟨w.heap.size, 2, none⟩ = some (.slice h.fh.kp h.fh.kn h.fh.kc) := HR2.out.cell 2
   have c3 : w2.cell? ⟨w.heap.size, 3, none⟩ = some (.slice h.fh.dp h.fh.dn h.fh.dc) := HR2.out.cell 3
   have c4 : w2.cell? ⟨w.heap.size, 4, none⟩ = some (.int .i64 x.store.gr.now) := HR2.out.cell 4
   have c5 : w2.cell? ⟨w.heap.size, 5, none⟩ = some (.slice h.sh.gh.wp h.sh.gh.wn h.sh.gh.wc) := HR2.out.cell 5
   have c6 : w2.cell? ⟨w.heap.size, 6, none⟩ = some (.slice h.sh.gh.kp h.sh.gh.kn h.sh.gh.kc) := HR2.out.cell 6
   have c7 : w2.cell? ⟨w.heap.size, 7, none⟩ = some (.slice h.sh.gh.dp h.sh.gh.dn h.sh.gh.dc) := HR2.out.cell 7
   have c8 : w2.cell? ⟨w.heap.size, 8, none⟩ = some (.int .i64 x.store.ver) := HR2.out.cell 8
   have c9 : w2.cell? ⟨w.heap.size, 9, none⟩ = some (.int .i64 x.store.lock) := HR2.out.cell 9
   have c10 : w2.cell? ⟨w.heap.size, 10, none⟩ = some (.slice h.sh.cp h.sh.cn h.sh.cc) := HR2.out.cell 10
   have c11 : w2.cell? ⟨w.heap.size, 11, none⟩ = some (.slice h.tp h.tn h.tc) := HR2.out.cell 11
   have c12 : w2.cell? ⟨w.heap.size, 12, none⟩ = some (.slice h.lp h.ln h.lc) := HR2.out.cell 12
   go_wp2_with fail
   rw [← HF.out]
   clear c0 c1 c2 c3 c4 c5 c6 c7 c8 c9 c10 c11 c12
   refine (store_spec x.store h.sh _ HIN2.out.2.1 HS.out.2.1).mono ?_
   rintro e w3 ⟨rfl, hb3⟩
   have HB3 := Lib.hid (HB2.out.trans (hb3.mono HB2.out.size))
   have HR3 := Lib.hid (HR2.out.below hb3 HR2.out.lt)
   have HIN3 := Lib.hid (HIN2.out.later hb3)
   clear hb3
   cases hst : storeB x.store with
   | false =>
    have HD : Hid (worldB x = false) := Lib.hid (by rw [HAlt.out, hst]; simp)
    clear hst
    go_wp2_with fail
    go_ret
    exact ⟨by rw [HD.out]; rfl, HB3.out⟩
   | true =>
    have HSb := Lib.hid hst
    clear hst
    have c0 : w3.cell? ⟨w.heap.size, 0, none⟩ = some (.int .i64 x.first.now) := HR3.out.cell 0
    have c1 : w3.cell? ⟨w.heap.size, 1, none⟩ = some (.slice h.fh.wp h.fh.wn h.fh.wc) := HR3.out.cell 1
    have c2 : w3.cell? ⟨w.heap.size, 2, none⟩ = some (.slice h.fh.kp h.fh.kn h.fh.kc) := HR3.out.cell 2
    have c3 : w3.cell? ⟨w.heap.size, 3, none⟩ = some (.slice h.fh.dp h.fh.dn h.fh.dc) := HR3.out.cell 3
    have c4 : w3.cell? ⟨w.heap.size, 4, none⟩ = some (.int .i64 x.store.gr.now) := HR3.out.cell 4
    have c5 : w3.cell? ⟨w.heap.size, 5, none⟩ = some (.slice h.sh.gh.wp h.sh.gh.wn h.sh.gh.wc) := HR3.out.cell 5
    have c6 : w3.cell? ⟨w.heap.size, 6, none⟩ = some (.slice h.sh.gh.kp h.sh.gh.kn h.sh.gh.kc) := HR3.out.cell 6
    have c7 : w3.cell? ⟨w.heap.size, 7, none⟩ = some (.slice h.sh.gh.dp h.sh.gh.dn h.sh.gh.dc) := HR3.out.cell 7
    have c8 : w3.cell? ⟨w.heap.size, 8, none⟩ = some (.int .i64 x.store.ver) := HR3.out.cell 8
    have c9 : w3.cell? ⟨w.heap.size, 9, none⟩ = some (.int .i64 x.store.lock) := HR3.out.cell 9
    have c10 : w3.cell? ⟨w.heap.size, 10, none⟩ = some (.slice h.sh.cp h.sh.cn h.sh.cc) := HR3.out.cell 10
    have c11 : w3.cell? ⟨w.heap.size, 11, none⟩ = some (.slice h.tp h.tn h.tc) := HR3.out.cell 11
    have c12 : w3.cell? ⟨w.heap.size, 12, none⟩ = some (.slice h.lp h.ln h.lc) := HR3.out.cell 12
    go_wp2_with fail
    rw [← HV.out]
    clear c0 c1 c2 c3 c4 c5 c6 c7 c8 c9 c10 c11 c12
    refine (nos_spec x h _ HIN3.out HS.out HPr.out).mono ?_
    rintro e w4 ⟨rfl, hb4⟩
    have HB4 := Lib.hid (HB3.out.trans (hb4.mono HB3.out.size))
    have HR4 := Lib.hid (HR3.out.below hb4 HR3.out.lt)
    have HIN4 := Lib.hid (HIN3.out.later hb4)
    clear hb4
    cases hno : nosB x with
    | false =>
     have HD : Hid (worldB x = false) := Lib.hid (by rw [HAlt.out, hno]; simp)
     clear hno
     go_wp2_with fail
     go_ret
     exact ⟨by rw [HD.out]; rfl, HB4.out⟩
    | true =>
     have HNo := Lib.hid hno
     clear hno
     have c0 : w4.cell? ⟨w.heap.size, 0, none⟩ = some (.int .i64 x.first.now) := HR4.out.cell 0
     have c1 : w4.cell? ⟨w.heap.size, 1, none⟩ = some (.slice h.fh.wp h.fh.wn h.fh.wc) := HR4.out.cell 1
     have c2 : w4.cell? ⟨w.heap.size, 2, none⟩ = some (.slice h.fh.kp h.fh.kn h.fh.kc) := HR4.out.cell 2
     have c3 : w4.cell? ⟨w.heap.size, 3, none⟩ = some (.slice h.fh.dp h.fh.dn h.fh.dc) := HR4.out.cell 3
     have c4 : w4.cell? ⟨w.heap.size, 4, none⟩ = some (.int .i64 x.store.gr.now) := HR4.out.cell 4
     have c5 : w4.cell? ⟨w.heap.size, 5, none⟩ = some (.slice h.sh.gh.wp h.sh.gh.wn h.sh.gh.wc) := HR4.out.cell 5
     have c6 : w4.cell? ⟨w.heap.size, 6, none⟩ = some (.slice h.sh.gh.kp h.sh.gh.kn h.sh.gh.kc) := HR4.out.cell 6
     have c7 : w4.cell? ⟨w.heap.size, 7, none⟩ = some (.slice h.sh.gh.dp h.sh.gh.dn h.sh.gh.dc) := HR4.out.cell 7
     have c8 : w4.cell? ⟨w.heap.size, 8, none⟩ = some (.int .i64 x.store.ver) := HR4.out.cell 8
     have c9 : w4.cell? ⟨w.heap.size, 9, none⟩ = some (.int .i64 x.store.lock) := HR4.out.cell 9
     have c10 : w4.cell? ⟨w.heap.size, 10, none⟩ = some (.slice h.sh.cp h.sh.cn h.sh.cc) := HR4.out.cell 10
     have c11 : w4.cell? ⟨w.heap.size, 11, none⟩ = some (.slice h.tp h.tn h.tc) := HR4.out.cell 11
     have c12 : w4.cell? ⟨w.heap.size, 12, none⟩ = some (.slice h.lp h.ln h.lc) := HR4.out.cell 12
     have HRm : Hid (worldB x = (roomB x.first h.tn && logOk h.tn no0 no0 x.log)) := Lib.hid (by rw [HAlt.out, decide_eq_true (show 1 ≤ h.tn from t0), decide_eq_true (show h.tn ≤ 6 from t1), HGb.out, HSb.out, HNo.out]; simp)
     have hgf := gr_facts HGb.out
     have hwl : h.fh.wn = x.first.words.length := HWl.out.1
     have hkl : h.fh.kn = x.first.keys.length := HWl.out.2.1
     rcases (show x.first.words.length + h.tn > 20 ∨ (x.first.words.length + h.tn ≤ 20 ∧ x.first.keys.length + 2 * h.tn > 40) ∨ (x.first.words.length + h.tn ≤ 20 ∧ x.first.keys.length + 2 * h.tn ≤ 40) by omega) with u1 | ⟨u1, u2⟩ | ⟨u1, u2⟩
     ·have HD : Hid (worldB x = false) := Lib.hid (by rw [HRm.out]; unfold roomB; rw [decide_eq_false (by omega)]; rfl)
      have d1 : decide ((h.fh.wn : Int) ≤ 20 - h.tn) = false := decide_eq_false (by omega)
      clear hgf hwl hkl
      go_wp2_with fail
      go_ret
      exact ⟨by rw [HD.out]; rfl, HB4.out⟩
     ·have HD : Hid (worldB x = false) := Lib.hid (by rw [HRm.out]; unfold roomB; rw [decide_eq_false (show ¬ x.first.keys.length + 2 * h.tn ≤ 40 by omega)]; simp)
      have d1 : decide ((h.fh.wn : Int) ≤ 20 - h.tn) = true := decide_eq_true (by omega)
      have d2 : decide ((h.fh.kn : Int) ≤ 40 - 2 * h.tn) = false := decide_eq_false (by omega)
      clear hgf hwl hkl
      go_wp2_with fail
      go_ret
      exact ⟨by rw [HD.out]; rfl, HB4.out⟩
     ·have HD : Hid (worldB x = logOk h.tn no0 no0 x.log) := Lib.hid (by rw [HRm.out]; unfold roomB; rw [decide_eq_true (by omega), decide_eq_true (by omega)]; rfl)
      have d1 : decide ((h.fh.wn : Int) ≤ 20 - h.tn) = true := decide_eq_true (by omega)
      have d2 : decide ((h.fh.kn : Int) ≤ 40 - 2 * h.tn) = true := decide_eq_true (by omega)
      clear hgf hwl hkl
      go_wp2_with fail
      refine (log_spec h.lp h.ln h.lc h.tn x.log _ HLl.out.1 HIN4.out.2.2.2.2 HLl.out.2 t0 t1).mono ?_
      rintro e w5 ⟨rfl, hb5⟩
      have HB5 := Lib.hid (HB4.out.trans (hb5.mono HB4.out.size))
      clear hb5
      go_wp2_with fail
      go_ret
      exact ⟨by rw [HD.out]; rfl, HB5.out⟩
/-- What the program's side wants of a world besides. -/
def WoCap (h : WH) : Prop := (h.sh.cn ≤ h.sh.cc ∧ h.sh.cc ≤ 1048576) ∧ (h.tn ≤ h.tc ∧ h.tc ≤ 1048576)
set_option maxHeartbeats 8000000 in
theorem world_imp (x : Wr) (h : WH) (w : World) (hin : WoIn w h x) (hs : WoSmall x) (hpr : ∀ t ∈ x.ths, t.req.proof.size ≤ maxLen) (hf1 : GrWf x.first) (hf2 : GrWf x.store.gr) (hcap : WoCap h) : Calls Tryz.prog 28 #[woV x h] w (Ret (.bool (worldB x)) w) := by
 obtain ⟨W, hW⟩ : ∃ W, W = w.alloc (.cells #[.int .i64 x.first.now, .slice h.fh.wp h.fh.wn h.fh.wc, .slice h.fh.kp h.fh.kn h.fh.kc, .slice h.fh.dp h.fh.dn h.fh.dc, .int .i64 x.store.gr.now, .slice h.sh.gh.wp h.sh.gh.wn h.sh.gh.wc, .slice h.sh.gh.kp h.sh.gh.kn h.sh.gh.kc, .slice h.sh.gh.dp h.sh.gh.dn h.sh.gh.dc, .int .i64 x.store.ver, .int .i64 x.store.lock, .slice h.sh.cp h.sh.cn h.sh.cc, .slice h.tp h.tn h.tc, .slice h.lp h.ln h.lc] 64) := ⟨_, rfl⟩
 have hb0 : Below w.heap.size w W := by rw [hW]; exact (Below.refl _ _).alloc (Nat.le_refl _) _
 have r0 : Row W w.heap.size 64 (woL x h) := by rw [hW]; exact heap_alloc_new w _
 have HW := Lib.hid hW
 have HIN := Lib.hid (hin.later hb0)
 have HB := Lib.hid hb0
 have HR := Lib.hid r0
 have HPr := Lib.hid hpr
 have HS := Lib.hid hs
 have HE := Lib.hid (wG x h)
 have HF := Lib.hid (wS x h)
 have HC := Lib.hid hcap
 have HF1 := Lib.hid hf1
 have HF2 := Lib.hid hf2
 have hn : h.tn = x.ths.length := hin.2.2.1.1
 have HN := Lib.hid hn
 have hnm : h.tn ≤ 1048576 := by rw [hn]; exact hs.2.2.1
 have hcn : h.tn ≤ h.tc := hcap.2.1
 have hll : h.ln = x.log.length ∧ h.ln ≤ 1048576 := ⟨hin.2.2.2.1, by rw [hin.2.2.2.1]; exact hs.2.2.2⟩
 have HLl := Lib.hid hll
 clear hW hb0 r0 hin hs hpr hn hll hcap hf1 hf2
 unfold woV
 go_enter Tryz.func28, Tryz.ntmps28
 go_wp2_with fail
 rw [← HW.out, ← HE.out]
 refine (grant_imp x.first h.fh _ HIN.out.1 HS.out.1 HF1.out).mono ?_
 rintro e w2 ⟨rfl, hb2⟩
 have HB2 := Lib.hid (HB.out.trans (hb2.mono HB.out.size))
 have HR2 := Lib.hid (HR.out.below hb2 HR.out.lt)
 have HIN2 := Lib.hid (HIN.out.later hb2)
 clear hb2
 cases hg : grantB x.first with
 | false =>
  have HD : Hid (worldB x = false) := Lib.hid (by unfold worldB; rw [hg]; rfl)
  clear hg
  go_wp2_with fail
  go_ret
  exact ⟨by rw [HD.out]; rfl, HB2.out⟩
 | true =>
  have HGb := Lib.hid hg
  clear hg
  have c0 : w2.cell? ⟨w.heap.size, 0, none⟩ = some (.int .i64 x.first.now) := HR2.out.cell 0
  have c1 : w2.cell? ⟨w.heap.size, 1, none⟩ = some (.slice h.fh.wp h.fh.wn h.fh.wc) := HR2.out.cell 1
  have c2 : w2.cell? ⟨w.heap.size, 2, none⟩ = some (.slice h.fh.kp h.fh.kn h.fh.kc) := HR2.out.cell 2
  have c3 : w2.cell? ⟨w.heap.size, 3, none⟩ = some (.slice h.fh.dp h.fh.dn h.fh.dc) := HR2.out.cell 3
  have c4 : w2.cell? ⟨w.heap.size, 4, none⟩ = some (.int .i64 x.store.gr.now) := HR2.out.cell 4
  have c5 : w2.cell? ⟨w.heap.size, 5, none⟩ = some (.slice h.sh.gh.wp h.sh.gh.wn h.sh.gh.wc) := HR2.out.cell 5
  have c6 : w2.cell? ⟨w.heap.size, 6, none⟩ = some (.slice h.sh.gh.kp h.sh.gh.kn h.sh.gh.kc) := HR2.out.cell 6
  have c7 : w2.cell? ⟨w.heap.size, 7, none⟩ = some (.slice h.sh.gh.dp h.sh.gh.dn h.sh.gh.dc) := HR2.out.cell 7
  have c8 : w2.cell? ⟨w.heap.size, 8, none⟩ = some (.int .i64 x.store.ver) := HR2.out.cell 8
  have c9 : w2.cell? ⟨w.heap.size, 9, none⟩ = some (.int .i64 x.store.lock) := HR2.out.cell 9
  have c10 : w2.cell? ⟨w.heap.size, 10, none⟩ = some (.slice h.sh.cp h.sh.cn h.sh.cc) := HR2.out.cell 10
  have c11 : w2.cell? ⟨w.heap.size, 11, none⟩ = some (.slice h.tp h.tn h.tc) := HR2.out.cell 11
  have c12 : w2.cell? ⟨w.heap.size, 12, none⟩ = some (.slice h.lp h.ln h.lc) := HR2.out.cell 12
  go_wp2_with fail
  rw [← HF.out]
  clear c0 c1 c2 c3 c4 c5 c6 c7 c8 c9 c10 c11 c12
  refine (store_imp x.store h.sh _ HIN2.out.2.1 HS.out.2.1 HF2.out HC.out.1).mono ?_
  rintro e w3 ⟨rfl, hb3⟩
  have HB3 := Lib.hid (HB2.out.trans (hb3.mono HB2.out.size))
  have HR3 := Lib.hid (HR2.out.below hb3 HR2.out.lt)
  have HIN3 := Lib.hid (HIN2.out.later hb3)
  clear hb3
  cases hst : storeB x.store with
  | false =>
   have HD : Hid (worldB x = false) := Lib.hid (by unfold worldB; rw [hst]; simp)
   clear hst
   go_wp2_with fail
   go_ret
   exact ⟨by rw [HD.out]; rfl, HB3.out⟩
  | true =>
   have HSb := Lib.hid hst
   clear hst
   have c0 : w3.cell? ⟨w.heap.size, 0, none⟩ = some (.int .i64 x.first.now) := HR3.out.cell 0
   have c1 : w3.cell? ⟨w.heap.size, 1, none⟩ = some (.slice h.fh.wp h.fh.wn h.fh.wc) := HR3.out.cell 1
   have c2 : w3.cell? ⟨w.heap.size, 2, none⟩ = some (.slice h.fh.kp h.fh.kn h.fh.kc) := HR3.out.cell 2
   have c3 : w3.cell? ⟨w.heap.size, 3, none⟩ = some (.slice h.fh.dp h.fh.dn h.fh.dc) := HR3.out.cell 3
   have c4 : w3.cell? ⟨w.heap.size, 4, none⟩ = some (.int .i64 x.store.gr.now) := HR3.out.cell 4
   have c5 : w3.cell? ⟨w.heap.size, 5, none⟩ = some (.slice h.sh.gh.wp h.sh.gh.wn h.sh.gh.wc) := HR3.out.cell 5
   have c6 : w3.cell? ⟨w.heap.size, 6, none⟩ = some (.slice h.sh.gh.kp h.sh.gh.kn h.sh.gh.kc) := HR3.out.cell 6
   have c7 : w3.cell? ⟨w.heap.size, 7, none⟩ = some (.slice h.sh.gh.dp h.sh.gh.dn h.sh.gh.dc) := HR3.out.cell 7
   have c8 : w3.cell? ⟨w.heap.size, 8, none⟩ = some (.int .i64 x.store.ver) := HR3.out.cell 8
   have c9 : w3.cell? ⟨w.heap.size, 9, none⟩ = some (.int .i64 x.store.lock) := HR3.out.cell 9
   have c10 : w3.cell? ⟨w.heap.size, 10, none⟩ = some (.slice h.sh.cp h.sh.cn h.sh.cc) := HR3.out.cell 10
   have c11 : w3.cell? ⟨w.heap.size, 11, none⟩ = some (.slice h.tp h.tn h.tc) := HR3.out.cell 11
   have c12 : w3.cell? ⟨w.heap.size, 12, none⟩ = some (.slice h.lp h.ln h.lc) := HR3.out.cell 12
   go_wp2_with fail
   clear c0 c1 c2 c3 c4 c5 c6 c7 c8 c9 c10 c11 c12
   refine (threads_imp h.tp h.tn h.tc x.ths _ HN.out HIN3.out.2.2.1.2 HPr.out hnm hcn HC.out.2.2).mono ?_
   rintro e w4 ⟨rfl, hb4⟩
   have HB4 := Lib.hid (HB3.out.trans (hb4.mono HB3.out.size))
   have HR4 := Lib.hid (HR3.out.below hb4 HR3.out.lt)
   have HIN4 := Lib.hid (HIN3.out.later hb4)
   clear hb4
   cases hth : thsB x.ths with
   | false =>
    have HD : Hid (worldB x = false) := Lib.hid (by unfold worldB; rw [hth]; simp)
    clear hth
    go_wp2_with fail
    go_ret
    exact ⟨by rw [HD.out]; rfl, HB4.out⟩
   | true =>
    have hth2 : (1 ≤ h.tn ∧ h.tn ≤ 6) ∧ thrOk [] x.ths = true := by
     unfold thsB at hth
     simp only [Bool.and_eq_true, decide_eq_true_eq] at hth
     rw [← HN.out] at hth
     exact hth
    have HTh := Lib.hid hth
    have HTo := Lib.hid hth2.2
    have hn6 := hth2.1.2
    clear hth hth2
    have c0 : w4.cell? ⟨w.heap.size, 0, none⟩ = some (.int .i64 x.first.now) := HR4.out.cell 0
    have c1 : w4.cell? ⟨w.heap.size, 1, none⟩ = some (.slice h.fh.wp h.fh.wn h.fh.wc) := HR4.out.cell 1
    have c2 : w4.cell? ⟨w.heap.size, 2, none⟩ = some (.slice h.fh.kp h.fh.kn h.fh.kc) := HR4.out.cell 2
    have c3 : w4.cell? ⟨w.heap.size, 3, none⟩ = some (.slice h.fh.dp h.fh.dn h.fh.dc) := HR4.out.cell 3
    have c4 : w4.cell? ⟨w.heap.size, 4, none⟩ = some (.int .i64 x.store.gr.now) := HR4.out.cell 4
    have c5 : w4.cell? ⟨w.heap.size, 5, none⟩ = some (.slice h.sh.gh.wp h.sh.gh.wn h.sh.gh.wc) := HR4.out.cell 5
    have c6 : w4.cell? ⟨w.heap.size, 6, none⟩ = some (.slice h.sh.gh.kp h.sh.gh.kn h.sh.gh.kc) := HR4.out.cell 6
    have c7 : w4.cell? ⟨w.heap.size, 7, none⟩ = some (.slice h.sh.gh.dp h.sh.gh.dn h.sh.gh.dc) := HR4.out.cell 7
    have c8 : w4.cell? ⟨w.heap.size, 8, none⟩ = some (.int .i64 x.store.ver) := HR4.out.cell 8
    have c9 : w4.cell? ⟨w.heap.size, 9, none⟩ = some (.int .i64 x.store.lock) := HR4.out.cell 9
    have c10 : w4.cell? ⟨w.heap.size, 10, none⟩ = some (.slice h.sh.cp h.sh.cn h.sh.cc) := HR4.out.cell 10
    have c11 : w4.cell? ⟨w.heap.size, 11, none⟩ = some (.slice h.tp h.tn h.tc) := HR4.out.cell 11
    have c12 : w4.cell? ⟨w.heap.size, 12, none⟩ = some (.slice h.lp h.ln h.lc) := HR4.out.cell 12
    have HD : Hid (worldB x = (lockB x.store.lock x.ths && (roomB x.first h.tn && freeB x.first x.ths) && logOk h.tn no0 no0 x.log)) := Lib.hid (by unfold worldB; rw [HGb.out, HSb.out, HTh.out, ← HN.out]; rfl)
    by_cases hl0 : x.store.lock = 0
    ·have HLo : Hid (lockB x.store.lock x.ths = true) := Lib.hid (by unfold lockB; rw [hl0]; rfl)
     have e0 : (x.store.lock != 0) = false := by simp [hl0]
     clear hl0
     go_wp2_with fail
     rw [← HE.out]
     refine (open_imp x.first h.fh h.tp h.tn h.tc x.ths _ HIN4.out.1 HGb.out HN.out HIN4.out.2.2.1.2 hn6 (fun t ht => threadB_no (thrOk_th HTo.out t ht))).mono ?_
     rintro e w6 ⟨rfl, hb6⟩
     have HB6 := Lib.hid (HB4.out.trans (hb6.mono HB4.out.size))
     have HR6 := Lib.hid (HR4.out.below hb6 HR4.out.lt)
     have HIN6 := Lib.hid (HIN4.out.later hb6)
     clear hb6 c0 c1 c2 c3 c4 c5 c6 c7 c8 c9 c10 c11 c12
     cases hop : (roomB x.first h.tn && freeB x.first x.ths) with
     | false =>
      have HDf : Hid (worldB x = false) := Lib.hid (by rw [HD.out, hop]; simp)
      clear hop
      go_wp2_with fail
      go_ret
      exact ⟨by rw [HDf.out]; rfl, HB6.out⟩
     | true =>
      have HDt : Hid (worldB x = logOk h.tn no0 no0 x.log) := Lib.hid (by rw [HD.out, hop, HLo.out]; rfl)
      clear hop
      have c11 : w6.cell? ⟨w.heap.size, 11, none⟩ = some (.slice h.tp h.tn h.tc) := HR6.out.cell 11
      have c12 : w6.cell? ⟨w.heap.size, 12, none⟩ = some (.slice h.lp h.ln h.lc) := HR6.out.cell 12
      go_wp2_with fail
      refine (events_imp h.lp h.ln h.lc h.tn x.log _ HLl.out.1 HIN6.out.2.2.2.2 HLl.out.2 hn6).mono ?_
      rintro e w7 ⟨rfl, hb7⟩
      have HB7 := Lib.hid (HB6.out.trans (hb7.mono HB6.out.size))
      clear hb7
      go_wp2_with fail
      go_ret
      exact ⟨by rw [HDt.out]; rfl, HB7.out⟩
    ·have e0 : (x.store.lock != 0) = true := by simpa using hl0
     have HL0 := Lib.hid hl0
     clear hl0
     go_wp2_with fail
     rw [HN.out]
     refine (threadOf_any h.tp h.tc x.ths x.store.lock _ HIN4.out.2.2.1.2 (by rw [← HN.out]; exact hnm)).mono ?_
     rw [← HN.out]
     rintro e w5 ⟨rfl, hb5⟩
     have HB5 := Lib.hid (HB4.out.trans (hb5.mono HB4.out.size))
     have HR5 := Lib.hid (HR4.out.below hb5 HR4.out.lt)
     have HIN5 := Lib.hid (HIN4.out.later hb5)
     clear hb5 c0 c1 c2 c3 c4 c5 c6 c7 c8 c9 c10 c11 c12
     obtain ⟨ix, hix⟩ : ∃ ix, ix = thIx x.ths x.store.lock := ⟨_, rfl⟩
     have hneg : decide (ix < 0) = !hasNoT x.ths x.store.lock := by rw [hix]; exact lockB_neg
     rw [← hix]
     clear hix
     cases hhn : hasNoT x.ths x.store.lock with
     | false =>
      have HDf : Hid (worldB x = false) := Lib.hid (by rw [HD.out]; unfold lockB; rw [hhn, show (x.store.lock == 0) = false by simpa using HL0.out]; rfl)
      rw [hhn] at hneg
      have hneg2 : decide (ix < 0) = true := hneg
      clear hhn hneg
      go_wp2_with fail
      go_ret
      exact ⟨by rw [HDf.out]; rfl, HB5.out⟩
     | true =>
      have HLo : Hid (lockB x.store.lock x.ths = true) := Lib.hid (by unfold lockB; rw [hhn]; simp)
      rw [hhn] at hneg
      have hneg2 : decide (ix < 0) = false := hneg
      clear hhn hneg
      have c0 : w5.cell? ⟨w.heap.size, 0, none⟩ = some (.int .i64 x.first.now) := HR5.out.cell 0
      have c1 : w5.cell? ⟨w.heap.size, 1, none⟩ = some (.slice h.fh.wp h.fh.wn h.fh.wc) := HR5.out.cell 1
      have c2 : w5.cell? ⟨w.heap.size, 2, none⟩ = some (.slice h.fh.kp h.fh.kn h.fh.kc) := HR5.out.cell 2
      have c3 : w5.cell? ⟨w.heap.size, 3, none⟩ = some (.slice h.fh.dp h.fh.dn h.fh.dc) := HR5.out.cell 3
      have c4 : w5.cell? ⟨w.heap.size, 4, none⟩ = some (.int .i64 x.store.gr.now) := HR5.out.cell 4
      have c5 : w5.cell? ⟨w.heap.size, 5, none⟩ = some (.slice h.sh.gh.wp h.sh.gh.wn h.sh.gh.wc) := HR5.out.cell 5
      have c6 : w5.cell? ⟨w.heap.size, 6, none⟩ = some (.slice h.sh.gh.kp h.sh.gh.kn h.sh.gh.kc) := HR5.out.cell 6
      have c7 : w5.cell? ⟨w.heap.size, 7, none⟩ = some (.slice h.sh.gh.dp h.sh.gh.dn h.sh.gh.dc) := HR5.out.cell 7
      have c8 : w5.cell? ⟨w.heap.size, 8, none⟩ = some (.int .i64 x.store.ver) := HR5.out.cell 8
      have c9 : w5.cell? ⟨w.heap.size, 9, none⟩ = some (.int .i64 x.store.lock) := HR5.out.cell 9
      have c10 : w5.cell? ⟨w.heap.size, 10, none⟩ = some (.slice h.sh.cp h.sh.cn h.sh.cc) := HR5.out.cell 10
      have c11 : w5.cell? ⟨w.heap.size, 11, none⟩ = some (.slice h.tp h.tn h.tc) := HR5.out.cell 11
      have c12 : w5.cell? ⟨w.heap.size, 12, none⟩ = some (.slice h.lp h.ln h.lc) := HR5.out.cell 12
      go_wp2_with fail
      rw [← HE.out]
      refine (open_imp x.first h.fh h.tp h.tn h.tc x.ths _ HIN5.out.1 HGb.out HN.out HIN5.out.2.2.1.2 hn6 (fun t ht => threadB_no (thrOk_th HTo.out t ht))).mono ?_
      rintro e w6 ⟨rfl, hb6⟩
      have HB6 := Lib.hid (HB5.out.trans (hb6.mono HB5.out.size))
      have HR6 := Lib.hid (HR5.out.below hb6 HR5.out.lt)
      have HIN6 := Lib.hid (HIN5.out.later hb6)
      clear hb6 c0 c1 c2 c3 c4 c5 c6 c7 c8 c9 c10 c11 c12
      cases hop : (roomB x.first h.tn && freeB x.first x.ths) with
      | false =>
       have HDf : Hid (worldB x = false) := Lib.hid (by rw [HD.out, hop]; simp)
       clear hop
       go_wp2_with fail
       go_ret
       exact ⟨by rw [HDf.out]; rfl, HB6.out⟩
      | true =>
       have HDt : Hid (worldB x = logOk h.tn no0 no0 x.log) := Lib.hid (by rw [HD.out, hop, HLo.out]; rfl)
       clear hop
       have c11 : w6.cell? ⟨w.heap.size, 11, none⟩ = some (.slice h.tp h.tn h.tc) := HR6.out.cell 11
       have c12 : w6.cell? ⟨w.heap.size, 12, none⟩ = some (.slice h.lp h.ln h.lc) := HR6.out.cell 12
       go_wp2_with fail
       refine (events_imp h.lp h.ln h.lc h.tn x.log _ HLl.out.1 HIN6.out.2.2.2.2 HLl.out.2 hn6).mono ?_
       rintro e w7 ⟨rfl, hb7⟩
       have HB7 := Lib.hid (HB6.out.trans (hb7.mono HB6.out.size))
       clear hb7
       go_wp2_with fail
       go_ret
       exact ⟨by rw [HDt.out]; rfl, HB7.out⟩
end Go.Proofs.YtjccnjfdeedneaaGreat
