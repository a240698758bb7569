/- Ended: the walk of the law. -/
import Derived.Test.YtjccnjfdeedneaaGreatSWoF
import Derived.Test.YtjccnjfdeedneaaGreatSLawWr
namespace Go.Proofs.YtjccnjfdeedneaaGreat
open Go Go.RowKit Go.Lib
set_option linter.unusedVariables false
set_option maxRecDepth 100000

set_option maxHeartbeats 8000000 in
theorem lawEnded (h : WH) (x : Wr) (w : World) (hin : WoArgF w h x) : Calls Tryz.prog 8 #[woV x h] w fun e w' => e = .returned (.bool true) ∧ Below w.heap.size w w' := by
 have hb0 := (Below.refl w.heap.size w).alloc (Nat.le_refl _) (.cells #[.int .i64 x.first.now, .slice h.fh.wp h.fh.wn h.fh.wc, .slice h.fh.kp h.fh.kn h.fh.kc, .slice h.fh.dp h.fh.dn h.fh.dc, .int .i64 x.store.gr.now, .slice h.sh.gh.wp h.sh.gh.wn h.sh.gh.wc, .slice h.sh.gh.kp h.sh.gh.kn h.sh.gh.kc, .slice h.sh.gh.dp h.sh.gh.dn h.sh.gh.dc, .int .i64 x.store.ver, .int .i64 x.store.lock, .slice h.sh.cp h.sh.cn h.sh.cc, .slice h.tp h.tn h.tc, .slice h.lp h.ln h.lc] 58)
 have hrow : Row (w.alloc (.cells #[.int .i64 x.first.now, .slice h.fh.wp h.fh.wn h.fh.wc, .slice h.fh.kp h.fh.kn h.fh.kc, .slice h.fh.dp h.fh.dn h.fh.dc, .int .i64 x.store.gr.now, .slice h.sh.gh.wp h.sh.gh.wn h.sh.gh.wc, .slice h.sh.gh.kp h.sh.gh.kn h.sh.gh.kc, .slice h.sh.gh.dp h.sh.gh.dn h.sh.gh.dc, .int .i64 x.store.ver, .int .i64 x.store.lock, .slice h.sh.cp h.sh.cn h.sh.cc, .slice h.tp h.tn h.tc, .slice h.lp h.ln h.lc] 58)) w.heap.size 58 (woL x h) := heap_alloc_new w _
 obtain ⟨W, hW⟩ : ∃ W, W = w.alloc (.cells #[.int .i64 x.first.now, .slice h.fh.wp h.fh.wn h.fh.wc, .slice h.fh.kp h.fh.kn h.fh.kc, .slice h.fh.dp h.fh.dn h.fh.dc, .int .i64 x.store.gr.now, .slice h.sh.gh.wp h.sh.gh.wn h.sh.gh.wc, .slice h.sh.gh.kp h.sh.gh.kn h.sh.gh.kc, .slice h.sh.gh.dp h.sh.gh.dn h.sh.gh.dc, .int .i64 x.store.ver, .int .i64 x.store.lock, .slice h.sh.cp h.sh.cn h.sh.cc, .slice h.tp h.tn h.tc, .slice h.lp h.ln h.lc] 58) := ⟨_, rfl⟩
 rw [← hW] at hb0 hrow
 have HW := Lib.hid hW
 have HR := Lib.hid hrow
 have HB := Lib.hid hb0
 have hz := hb0.size
 have hgl := hrow.lt
 have HA : Hid (WoArg W h x) := Lib.hid ⟨⟨hin.1.1.1.later hb0, hin.1.1.2⟩, ⟨⟨hin.1.2.1.1.1.later hb0, hin.1.2.1.1.2⟩, hin.1.2.1.2.1, hin.1.2.1.2.2.1.later hb0, hin.1.2.1.2.2.2⟩, ⟨hin.1.2.2.1.1, hin.1.2.2.1.2.1.later hb0, hin.1.2.2.1.2.2⟩, ⟨hin.1.2.2.2.1, hin.1.2.2.2.2.1.later hb0, hin.1.2.2.2.2.2⟩⟩
 have HPr := Lib.hid hin.1.2.2.1.2.2.1
 have HWf := Lib.hid hin.2
 have HE := Lib.hid (show woV x h = .agg #[.int .i64 x.first.now, .slice h.fh.wp h.fh.wn h.fh.wc, .slice h.fh.kp h.fh.kn h.fh.kc, .slice h.fh.dp h.fh.dn h.fh.dc, .int .i64 x.store.gr.now, .slice h.sh.gh.wp h.sh.gh.wn h.sh.gh.wc, .slice h.sh.gh.kp h.sh.gh.kn h.sh.gh.kc, .slice h.sh.gh.dp h.sh.gh.dn h.sh.gh.dc, .int .i64 x.store.ver, .int .i64 x.store.lock, .slice h.sh.cp h.sh.cn h.sh.cc, .slice h.tp h.tn h.tc, .slice h.lp h.ln h.lc] from rfl)
 obtain ⟨y, hy⟩ : ∃ y, y = endB x := ⟨_, rfl⟩
 have HY := Lib.hid hy
 clear hb0 hrow hW hin hy
 rw [HE.out]
 go_enter Tryz.func8, Tryz.ntmps8
 go_wp2_with fail
 rw [← HW.out, ← HE.out]
 refine (szWorld_any h x _ HA.out).mono ?_
 rintro e w1 ⟨r, rfl, hr, hr2, hb1⟩
 have HB1 := Lib.hid (HB.out.trans (hb1.mono hz))
 have HR1 := Lib.hid (HR.out.below hb1 hgl)
 have HA1 := Lib.hid (WoIn.later HA.out.isIn hb1)
 clear hb1
 by_cases hneg : r < 0
 ·clear hr
  go_wp2_with fail
  go_ret
  exact ⟨rfl, HB1.out⟩
 have HS := Lib.hid (hr (by omega))
 clear hr
 have a0 : w1.cell? ⟨w.heap.size, 0, none⟩ = some (.int .i64 x.first.now) := HR1.out.cell 0
 have a1 : w1.cell? ⟨w.heap.size, 1, none⟩ = some (.slice h.fh.wp h.fh.wn h.fh.wc) := HR1.out.cell 1
 have a2 : w1.cell? ⟨w.heap.size, 2, none⟩ = some (.slice h.fh.kp h.fh.kn h.fh.kc) := HR1.out.cell 2
 have a3 : w1.cell? ⟨w.heap.size, 3, none⟩ = some (.slice h.fh.dp h.fh.dn h.fh.dc) := HR1.out.cell 3
 have a4 : w1.cell? ⟨w.heap.size, 4, none⟩ = some (.int .i64 x.store.gr.now) := HR1.out.cell 4
 have a5 : w1.cell? ⟨w.heap.size, 5, none⟩ = some (.slice h.sh.gh.wp h.sh.gh.wn h.sh.gh.wc) := HR1.out.cell 5
 have a6 : w1.cell? ⟨w.heap.size, 6, none⟩ = some (.slice h.sh.gh.kp h.sh.gh.kn h.sh.gh.kc) := HR1.out.cell 6
 have a7 : w1.cell? ⟨w.heap.size, 7, none⟩ = some (.slice h.sh.gh.dp h.sh.gh.dn h.sh.gh.dc) := HR1.out.cell 7
 have a8 : w1.cell? ⟨w.heap.size, 8, none⟩ = some (.int .i64 x.store.ver) := HR1.out.cell 8
 have a9 : w1.cell? ⟨w.heap.size, 9, none⟩ = some (.int .i64 x.store.lock) := HR1.out.cell 9
 have a10 : w1.cell? ⟨w.heap.size, 10, none⟩ = some (.slice h.sh.cp h.sh.cn h.sh.cc) := HR1.out.cell 10
 have a11 : w1.cell? ⟨w.heap.size, 11, none⟩ = some (.slice h.tp h.tn h.tc) := HR1.out.cell 11
 have a12 : w1.cell? ⟨w.heap.size, 12, none⟩ = some (.slice h.lp h.ln h.lc) := HR1.out.cell 12
 go_wp2_with fail
 rw [← HE.out]
 refine (toWorld_any h x _ HA1.out HS.out).mono ?_
 rintro e w2 ⟨h2, rfl, hn2, hb2⟩
 have HB2 := Lib.hid (HB1.out.trans (hb2.mono HB1.out.size))
 have HR2 := Lib.hid (HR1.out.below hb2 HR1.out.lt)
 have HA2 := Lib.hid (WoIn.later HA1.out hb2)
 have HN2 := Lib.hid hn2.isIn
 clear hn2 hb2 a0 a1 a2 a3 a4 a5 a6 a7 a8 a9 a10 a11 a12
 go_wp2_with fail
 refine (end_spec x h2 _ HN2.out HS.out HPr.out).mono ?_
 rintro e w3 ⟨rfl, hb3⟩
 rw [← HY.out]
 have HB3 := Lib.hid (HB2.out.trans (hb3.mono HB2.out.size))
 have HR3 := Lib.hid (HR2.out.below hb3 HR2.out.lt)
 have HA3 := Lib.hid (WoIn.later HA2.out hb3)
 have a0 : w3.cell? ⟨w.heap.size, 0, none⟩ = some (.int .i64 x.first.now) := HR3.out.cell 0
 have a1 : w3.cell? ⟨w.heap.size, 1, none⟩ = some (.slice h.fh.wp h.fh.wn h.fh.wc) := HR3.out.cell 1
 have a2 : w3.cell? ⟨w.heap.size, 2, none⟩ = some (.slice h.fh.kp h.fh.kn h.fh.kc) := HR3.out.cell 2
 have a3 : w3.cell? ⟨w.heap.size, 3, none⟩ = some (.slice h.fh.dp h.fh.dn h.fh.dc) := HR3.out.cell 3
 have a4 : w3.cell? ⟨w.heap.size, 4, none⟩ = some (.int .i64 x.store.gr.now) := HR3.out.cell 4
 have a5 : w3.cell? ⟨w.heap.size, 5, none⟩ = some (.slice h.sh.gh.wp h.sh.gh.wn h.sh.gh.wc) := HR3.out.cell 5
 have a6 : w3.cell? ⟨w.heap.size, 6, none⟩ = some (.slice h.sh.gh.kp h.sh.gh.kn h.sh.gh.kc) := HR3.out.cell 6
 have a7 : w3.cell? ⟨w.heap.size, 7, none⟩ = some (.slice h.sh.gh.dp h.sh.gh.dn h.sh.gh.dc) := HR3.out.cell 7
 have a8 : w3.cell? ⟨w.heap.size, 8, none⟩ = some (.int .i64 x.store.ver) := HR3.out.cell 8
 have a9 : w3.cell? ⟨w.heap.size, 9, none⟩ = some (.int .i64 x.store.lock) := HR3.out.cell 9
 have a10 : w3.cell? ⟨w.heap.size, 10, none⟩ = some (.slice h.sh.cp h.sh.cn h.sh.cc) := HR3.out.cell 10
 have a11 : w3.cell? ⟨w.heap.size, 11, none⟩ = some (.slice h.tp h.tn h.tc) := HR3.out.cell 11
 have a12 : w3.cell? ⟨w.heap.size, 12, none⟩ = some (.slice h.lp h.ln h.lc) := HR3.out.cell 12
 clear hb3
 go_wp2_with fail
 rw [← HE.out]
 refine (toWorld_any h x _ HA3.out HS.out).mono ?_
 rintro e w4 ⟨h4, rfl, hn4, hb4⟩
 have HB4 := Lib.hid (HB3.out.trans (hb4.mono HB3.out.size))
 have HR4 := Lib.hid (HR3.out.below hb4 HR3.out.lt)
 have HA4 := Lib.hid (WoIn.later HA3.out hb4)
 have HN4 := Lib.hid hn4.isIn
 have HCp : Hid (WoCap h4) := Lib.hid (wocap hn4 HS.out)
 clear hn4 hb4 a0 a1 a2 a3 a4 a5 a6 a7 a8 a9 a10 a11 a12
 have HE4 := Lib.hid (show woV x h4 = .agg #[.int .i64 x.first.now, .slice h4.fh.wp h4.fh.wn h4.fh.wc, .slice h4.fh.kp h4.fh.kn h4.fh.kc, .slice h4.fh.dp h4.fh.dn h4.fh.dc, .int .i64 x.store.gr.now, .slice h4.sh.gh.wp h4.sh.gh.wn h4.sh.gh.wc, .slice h4.sh.gh.kp h4.sh.gh.kn h4.sh.gh.kc, .slice h4.sh.gh.dp h4.sh.gh.dn h4.sh.gh.dc, .int .i64 x.store.ver, .int .i64 x.store.lock, .slice h4.sh.cp h4.sh.cn h4.sh.cc, .slice h4.tp h4.tn h4.tc, .slice h4.lp h4.ln h4.lc] from rfl)
 rw [HE4.out]
 have hb5 := (Below.refl w4.heap.size w4).alloc (Nat.le_refl _) (.cells #[.int .i64 x.first.now, .slice h4.fh.wp h4.fh.wn h4.fh.wc, .slice h4.fh.kp h4.fh.kn h4.fh.kc, .slice h4.fh.dp h4.fh.dn h4.fh.dc, .int .i64 x.store.gr.now, .slice h4.sh.gh.wp h4.sh.gh.wn h4.sh.gh.wc, .slice h4.sh.gh.kp h4.sh.gh.kn h4.sh.gh.kc, .slice h4.sh.gh.dp h4.sh.gh.dn h4.sh.gh.dc, .int .i64 x.store.ver, .int .i64 x.store.lock, .slice h4.sh.cp h4.sh.cn h4.sh.cc, .slice h4.tp h4.tn h4.tc, .slice h4.lp h4.ln h4.lc] 64)
 have hr5 : Row (w4.alloc (.cells #[.int .i64 x.first.now, .slice h4.fh.wp h4.fh.wn h4.fh.wc, .slice h4.fh.kp h4.fh.kn h4.fh.kc, .slice h4.fh.dp h4.fh.dn h4.fh.dc, .int .i64 x.store.gr.now, .slice h4.sh.gh.wp h4.sh.gh.wn h4.sh.gh.wc, .slice h4.sh.gh.kp h4.sh.gh.kn h4.sh.gh.kc, .slice h4.sh.gh.dp h4.sh.gh.dn h4.sh.gh.dc, .int .i64 x.store.ver, .int .i64 x.store.lock, .slice h4.sh.cp h4.sh.cn h4.sh.cc, .slice h4.tp h4.tn h4.tc, .slice h4.lp h4.ln h4.lc] 64)) w4.heap.size 64 (woL x h4) := heap_alloc_new w4 _
 obtain ⟨V, hV⟩ : ∃ V, V = w4.alloc (.cells #[.int .i64 x.first.now, .slice h4.fh.wp h4.fh.wn h4.fh.wc, .slice h4.fh.kp h4.fh.kn h4.fh.kc, .slice h4.fh.dp h4.fh.dn h4.fh.dc, .int .i64 x.store.gr.now, .slice h4.sh.gh.wp h4.sh.gh.wn h4.sh.gh.wc, .slice h4.sh.gh.kp h4.sh.gh.kn h4.sh.gh.kc, .slice h4.sh.gh.dp h4.sh.gh.dn h4.sh.gh.dc, .int .i64 x.store.ver, .int .i64 x.store.lock, .slice h4.sh.cp h4.sh.cn h4.sh.cc, .slice h4.tp h4.tn h4.tc, .slice h4.lp h4.ln h4.lc] 64) := ⟨_, rfl⟩
 obtain ⟨q, hx⟩ : ∃ q, q = w4.heap.size := ⟨_, rfl⟩
 rw [← hV] at hb5 hr5
 rw [← hx] at hr5
 have HV := Lib.hid hV
 have HX := Lib.hid hx
 have HB5 := Lib.hid (HB4.out.trans (hb5.mono HB4.out.size))
 have HR5 := Lib.hid (HR4.out.below hb5 HR4.out.lt)
 have HA5 := Lib.hid (WoIn.later HA4.out hb5)
 have HN5 := Lib.hid (WoIn.later HN4.out hb5)
 have HX5 := Lib.hid hr5
 have x0 : V.cell? ⟨q, 0, none⟩ = some (.int .i64 x.first.now) := hr5.cell 0
 have x1 : V.cell? ⟨q, 1, none⟩ = some (.slice h4.fh.wp h4.fh.wn h4.fh.wc) := hr5.cell 1
 have x2 : V.cell? ⟨q, 2, none⟩ = some (.slice h4.fh.kp h4.fh.kn h4.fh.kc) := hr5.cell 2
 have x3 : V.cell? ⟨q, 3, none⟩ = some (.slice h4.fh.dp h4.fh.dn h4.fh.dc) := hr5.cell 3
 have x4 : V.cell? ⟨q, 4, none⟩ = some (.int .i64 x.store.gr.now) := hr5.cell 4
 have x5 : V.cell? ⟨q, 5, none⟩ = some (.slice h4.sh.gh.wp h4.sh.gh.wn h4.sh.gh.wc) := hr5.cell 5
 have x6 : V.cell? ⟨q, 6, none⟩ = some (.slice h4.sh.gh.kp h4.sh.gh.kn h4.sh.gh.kc) := hr5.cell 6
 have x7 : V.cell? ⟨q, 7, none⟩ = some (.slice h4.sh.gh.dp h4.sh.gh.dn h4.sh.gh.dc) := hr5.cell 7
 have x8 : V.cell? ⟨q, 8, none⟩ = some (.int .i64 x.store.ver) := hr5.cell 8
 have x9 : V.cell? ⟨q, 9, none⟩ = some (.int .i64 x.store.lock) := hr5.cell 9
 have x10 : V.cell? ⟨q, 10, none⟩ = some (.slice h4.sh.cp h4.sh.cn h4.sh.cc) := hr5.cell 10
 have x11 : V.cell? ⟨q, 11, none⟩ = some (.slice h4.tp h4.tn h4.tc) := hr5.cell 11
 have x12 : V.cell? ⟨q, 12, none⟩ = some (.slice h4.lp h4.ln h4.lc) := hr5.cell 12
 rw [hV, hx] at x0 x1 x2 x3 x4 x5 x6 x7 x8 x9 x10 x11 x12
 clear hb5 hr5 hV hx
 go_wp2_with fail
 rw [← HV.out, ← HX.out, ← HE4.out]
 clear x0 x1 x2 x3 x4 x5 x6 x7 x8 x9 x10 x11 x12
 refine (end_imp x h4 _ HN5.out HS.out HPr.out HWf.out.1 HWf.out.2 HCp.out).mono ?_
 rintro e w6 ⟨rfl, hb6⟩
 rw [← HY.out]
 have HB6 := Lib.hid (HB5.out.trans (hb6.mono HB5.out.size))
 have HR6 := Lib.hid (HR5.out.below hb6 HR5.out.lt)
 have HA6 := Lib.hid (WoIn.later HA5.out hb6)
 have HN6 := Lib.hid (WoIn.later HN5.out hb6)
 have HX6 := Lib.hid (HX5.out.below hb6 HX5.out.lt)
 have hne : (y != y) = false := by cases y <;> rfl
 clear hb6
 go_upto_region 10 with fail
 have HK9 : Hid (∀ w', Below w6.heap.size w6 w' → w'.cell? ⟨q, 0, none⟩ = some (.int .i64 x.first.now) ∧ w'.cell? ⟨q, 1, none⟩ = some (.slice h4.fh.wp h4.fh.wn h4.fh.wc) ∧ w'.cell? ⟨q, 2, none⟩ = some (.slice h4.fh.kp h4.fh.kn h4.fh.kc) ∧ w'.cell? ⟨q, 3, none⟩ = some (.slice h4.fh.dp h4.fh.dn h4.fh.dc) ∧ w'.cell? ⟨q, 4, none⟩ = some (.int .i64 x.store.gr.now) ∧ w'.cell? ⟨q, 5, none⟩ = some (.slice h4.sh.gh.wp h4.sh.gh.wn h4.sh.gh.wc) ∧ w'.cell? ⟨q, 6, none⟩ = some (.slice h4.sh.gh.kp h4.sh.gh.kn h4.sh.gh.kc) ∧ w'.cell? ⟨q, 7, none⟩ = some (.slice h4.sh.gh.dp h4.sh.gh.dn h4.sh.gh.dc) ∧ w'.cell? ⟨q, 8, none⟩ = some (.int .i64 x.store.ver) ∧ w'.cell? ⟨q, 9, none⟩ = some (.int .i64 x.store.lock) ∧ w'.cell? ⟨q, 10, none⟩ = some (.slice h4.sh.cp h4.sh.cn h4.sh.cc) ∧ w'.cell? ⟨q, 11, none⟩ = some (.slice h4.tp h4.tn h4.tc) ∧ w'.cell? ⟨q, 12, none⟩ = some (.slice h4.lp h4.ln h4.lc) ∧ w'.cell? ⟨w.heap.size, 0, none⟩ = some (.int .i64 x.first.now) ∧ w'.cell? ⟨w.heap.size, 1, none⟩ = some (.slice h.fh.wp h.fh.wn h.fh.wc) ∧ w'.cell? ⟨w.heap.size, 2, none⟩ = some (.slice h.fh.kp h.fh.kn h.fh.kc) ∧ w'.cell? ⟨w.heap.size, 3, none⟩ = some (.slice h.fh.dp h.fh.dn h.fh.dc) ∧ w'.cell? ⟨w.heap.size, 4, none⟩ = some (.int .i64 x.store.gr.now) ∧ w'.cell? ⟨w.heap.size, 5, none⟩ = some (.slice h.sh.gh.wp h.sh.gh.wn h.sh.gh.wc) ∧ w'.cell? ⟨w.heap.size, 6, none⟩ = some (.slice h.sh.gh.kp h.sh.gh.kn h.sh.gh.kc) ∧ w'.cell? ⟨w.heap.size, 7, none⟩ = some (.slice h.sh.gh.dp h.sh.gh.dn h.sh.gh.dc) ∧ w'.cell? ⟨w.heap.size, 8, none⟩ = some (.int .i64 x.store.ver) ∧ w'.cell? ⟨w.heap.size, 9, none⟩ = some (.int .i64 x.store.lock) ∧ w'.cell? ⟨w.heap.size, 10, none⟩ = some (.slice h.sh.cp h.sh.cn h.sh.cc) ∧ w'.cell? ⟨w.heap.size, 11, none⟩ = some (.slice h.tp h.tn h.tc) ∧ w'.cell? ⟨w.heap.size, 12, none⟩ = some (.slice h.lp h.ln h.lc)) := Lib.hid (fun w' hb => by
  have k := HR6.out.below hb HR6.out.lt
  have z := HX6.out.below hb HX6.out.lt
  exact ⟨z.cell 0, z.cell 1, z.cell 2, z.cell 3, z.cell 4, z.cell 5, z.cell 6, z.cell 7, z.cell 8, z.cell 9, z.cell 10, z.cell 11, z.cell 12, k.cell 0, k.cell 1, k.cell 2, k.cell 3, k.cell 4, k.cell 5, k.cell 6, k.cell 7, k.cell 8, k.cell 9, k.cell 10, k.cell 11, k.cell 12⟩)
 have HB0 := Lib.hid ((Below.refl w6.heap.size w6).drew)
 refine region_L 2 (fun _ => True) (fun w' => w'.cell? ⟨q, 0, none⟩ = some (.int .i64 x.first.now) ∧ w'.cell? ⟨q, 1, none⟩ = some (.slice h4.fh.wp h4.fh.wn h4.fh.wc) ∧ w'.cell? ⟨q, 2, none⟩ = some (.slice h4.fh.kp h4.fh.kn h4.fh.kc) ∧ w'.cell? ⟨q, 3, none⟩ = some (.slice h4.fh.dp h4.fh.dn h4.fh.dc) ∧ w'.cell? ⟨q, 4, none⟩ = some (.int .i64 x.store.gr.now) ∧ w'.cell? ⟨q, 5, none⟩ = some (.slice h4.sh.gh.wp h4.sh.gh.wn h4.sh.gh.wc) ∧ w'.cell? ⟨q, 6, none⟩ = some (.slice h4.sh.gh.kp h4.sh.gh.kn h4.sh.gh.kc) ∧ w'.cell? ⟨q, 7, none⟩ = some (.slice h4.sh.gh.dp h4.sh.gh.dn h4.sh.gh.dc) ∧ w'.cell? ⟨q, 8, none⟩ = some (.int .i64 x.store.ver) ∧ w'.cell? ⟨q, 9, none⟩ = some (.int .i64 x.store.lock) ∧ w'.cell? ⟨q, 10, none⟩ = some (.slice h4.sh.cp h4.sh.cn h4.sh.cc) ∧ w'.cell? ⟨q, 11, none⟩ = some (.slice h4.tp h4.tn h4.tc) ∧ w'.cell? ⟨q, 12, none⟩ = some (.slice h4.lp h4.ln h4.lc) ∧ w'.cell? ⟨w.heap.size, 0, none⟩ = some (.int .i64 x.first.now) ∧ w'.cell? ⟨w.heap.size, 1, none⟩ = some (.slice h.fh.wp h.fh.wn h.fh.wc) ∧ w'.cell? ⟨w.heap.size, 2, none⟩ = some (.slice h.fh.kp h.fh.kn h.fh.kc) ∧ w'.cell? ⟨w.heap.size, 3, none⟩ = some (.slice h.fh.dp h.fh.dn h.fh.dc) ∧ w'.cell? ⟨w.heap.size, 4, none⟩ = some (.int .i64 x.store.gr.now) ∧ w'.cell? ⟨w.heap.size, 5, none⟩ = some (.slice h.sh.gh.wp h.sh.gh.wn h.sh.gh.wc) ∧ w'.cell? ⟨w.heap.size, 6, none⟩ = some (.slice h.sh.gh.kp h.sh.gh.kn h.sh.gh.kc) ∧ w'.cell? ⟨w.heap.size, 7, none⟩ = some (.slice h.sh.gh.dp h.sh.gh.dn h.sh.gh.dc) ∧ w'.cell? ⟨w.heap.size, 8, none⟩ = some (.int .i64 x.store.ver) ∧ w'.cell? ⟨w.heap.size, 9, none⟩ = some (.int .i64 x.store.lock) ∧ w'.cell? ⟨w.heap.size, 10, none⟩ = some (.slice h.sh.cp h.sh.cn h.sh.cc) ∧ w'.cell? ⟨w.heap.size, 11, none⟩ = some (.slice h.tp h.tn h.tc) ∧ w'.cell? ⟨w.heap.size, 12, none⟩ = some (.slice h.lp h.ln h.lc)) (by kernel_rfl) ⟨fun _ => trivial, HK9.out _ HB0.out⟩ (fun hHL => ?_)
 refine wpAnyL_take (i := 0) (v := ?_) (by rfl) rfl (by kernel_rfl) (by kernel_rfl) (by kernel_rfl) (fun _ _ _ h => h) (Or.inl ⟨by rfl, ?_⟩) hHL ?_
 rotate_left
 ·intro w hSw; (try dsimp only at hSw); (first | (go_simp; done) | (go_simp; with_reducible rfl))
 clear hHL
 intro hHL
 (try simp only [Act.put, List.setIfInBounds_toArray, List.set_cons_zero, List.set_cons_succ])
 refine wpAnyL_take (i := 1) (v := ?_) (by rfl) rfl (by kernel_rfl) (by kernel_rfl) (by kernel_rfl) (fun _ _ _ h => h) (Or.inl ⟨by rfl, ?_⟩) hHL ?_
 rotate_left
 ·intro w hSw; (try dsimp only at hSw); (first | (go_simp; done) | (go_simp; with_reducible rfl))
 clear hHL
 intro hHL
 (try simp only [Act.put, List.setIfInBounds_toArray, List.set_cons_zero, List.set_cons_succ])
 refine wpAnyL_ready (rs := [2]) (by kernel_rfl) (by simp) ?_
 refine AllReadyL.cons rfl (fun K hK => ?_) AllReadyL.nil
 refine step_callS rfl 27 #[woV x h] (by kernel_rfl) (fun k => woV x k) (fun k w' => WoNew w6.drew w' k x ∧ Below w6.drew.heap.size w6.drew w') (toWorld_any h x _ (WoIn.later HA6.out HB0.out) HS.out) ?_
 intro h7 u1 hn
 have HNu := Lib.hid hn.1.isIn
 have HBu := Lib.hid (HB0.out.trans (hn.2.mono HB0.out.size))
 clear hn
 refine hK.out _ _ ⟨fun _ => trivial, HK9.out _ HBu.out⟩ (fun hHL => ?_)
 clear hK K
 (try simp only [Act.put, List.setIfInBounds_toArray, List.set_cons_zero, List.set_cons_succ])
 refine wpAnyL_ready (rs := [3]) (by kernel_rfl) (by simp) ?_
 refine AllReadyL.cons rfl (fun K hK => ?_) AllReadyL.nil
 refine step_callTo rfl 29 #[woV x h4, woV x h7] (by kernel_rfl) (.bool true) (fun w' => Below u1.heap.size u1 w') (eqWorld_same h4 h7 x _ (WoIn.later HN6.out HBu.out) HNu.out HS.out) ?_
 intro u2 hn
 have HB7 := Lib.hid (HBu.out.trans (hn.mono HBu.out.size))
 clear hn
 refine hK.out _ _ ⟨fun _ => trivial, HK9.out _ HB7.out⟩ (fun hHL => ?_)
 clear hK K
 (try simp only [Act.put, List.setIfInBounds_toArray, List.set_cons_zero, List.set_cons_succ])
 refine wpAnyL_take (i := 4) (v := ?_) (by rfl) rfl (by kernel_rfl) (by kernel_rfl) (by kernel_rfl) (fun _ _ _ h => h) (Or.inl ⟨by rfl, ?_⟩) hHL ?_
 rotate_left
 ·intro w hSw; (try dsimp only at hSw); (first | (go_simp; done) | (go_simp; with_reducible rfl))
 clear hHL
 intro hHL
 (try simp only [Act.put, List.setIfInBounds_toArray, List.set_cons_zero, List.set_cons_succ])
 refine wpAnyL_done (by kernel_rfl) ?_ _
 have HB8 := Lib.hid (HB6.out.trans (HB7.out.mono HB6.out.size))
 clear hHL HB0 HBu HB7 HNu HK9
 go_wp2_with fail
 go_ret
 exact ⟨rfl, HB8.out⟩
end Go.Proofs.YtjccnjfdeedneaaGreat
