/- Opens: the walk of the law. -/
import Derived.Test.YtgkdajlkajmdiaaOpSpec2
import Derived.Test.YtgkdajlkajmdiaaOpImp
import Derived.Test.YtgkdajlkajmdiaaGrArg
namespace Go.Proofs.Ytgkdajlkajmdiaa
open Go Go.RowKit Go.Lib
set_option linter.unusedVariables false

set_option maxRecDepth 100000 in
set_option maxHeartbeats 2000000 in
theorem lawOpens (h : GH) (g : Gr) (no client : Int) (w : World) (hin : GrArgF w h g) (hno : (Lit.int .i64 no).wf = true) : Calls Try.prog 3 #[grV g.now h, .int .i64 no, .int .i64 client] w fun e w' => e = .returned (.bool true) ∧ Below w.heap.size w w' := by
  have hb0 := (Below.refl w.heap.size w).alloc (Nat.le_refl _) (.cells #[.int .i64 g.now, .slice h.wp h.wn h.wc, .slice h.kp h.kn h.kc, .slice h.dp h.dn h.dc] 26)
  have hrow : Row (w.alloc (.cells #[.int .i64 g.now, .slice h.wp h.wn h.wc, .slice h.kp h.kn h.kc, .slice h.dp h.dn h.dc] 26)) w.heap.size 26 [.int .i64 g.now, .slice h.wp h.wn h.wc, .slice h.kp h.kn h.kc, .slice h.dp h.dn h.dc] := heap_alloc_new w _
  obtain ⟨W, hW⟩ : ∃ W, W = w.alloc (.cells #[.int .i64 g.now, .slice h.wp h.wn h.wc, .slice h.kp h.kn h.kc, .slice h.dp h.dn h.dc] 26) := ⟨_, rfl⟩
  rw [← hW] at hb0 hrow
  have HW := Lib.hid hW
  have HR := Lib.hid hrow
  have HB := Lib.hid hb0
  have hz := hb0.size
  have hgl := hrow.lt
  have HA : Hid (GrArg W h g) := Lib.hid ⟨hin.1.1.later hb0, hin.1.2⟩
  have HWf := Lib.hid hin.2
  have HNo := Lib.hid hno
  have HE := Lib.hid (show grV g.now h = .agg #[.int .i64 g.now, .slice h.wp h.wn h.wc, .slice h.kp h.kn h.kc, .slice h.dp h.dn h.dc] from rfl)
  clear hb0 hrow hW hin hno
  rw [HE.out]
  go_enter Try.func3, Try.ntmps3
  go_wp2_with fail
  rw [← HW.out, ← HE.out]
  refine (szGrant_any h g _ HA.out).mono ?_
  rintro e w1 ⟨r, rfl, hr, hr2, hb1⟩
  have HB1 := Lib.hid (HB.out.trans (hb1.mono hz))
  have HR1 := Lib.hid (HR.out.below hb1 hgl)
  have HA1 := Lib.hid (GrIn.later HA.out.1 hb1)
  have hz1 := HB1.out.size
  have hg1 := HR1.out.lt
  clear hb1
  by_cases hneg : r < 0
  · clear hr
    go_wp2_with fail
    go_ret
    exact ⟨rfl, HB1.out⟩
  have HS := Lib.hid (hr (by omega))
  clear hr
  have a0 : w1.cell? ⟨w.heap.size, 0, none⟩ = some (.int .i64 g.now) := HR1.out.cell 0
  have a1 : w1.cell? ⟨w.heap.size, 1, none⟩ = some (.slice h.wp h.wn h.wc) := HR1.out.cell 1
  have a2 : w1.cell? ⟨w.heap.size, 2, none⟩ = some (.slice h.kp h.kn h.kc) := HR1.out.cell 2
  have a3 : w1.cell? ⟨w.heap.size, 3, none⟩ = some (.slice h.dp h.dn h.dc) := HR1.out.cell 3
  go_wp2_with fail
  rw [← HE.out]
  refine (toGrant_any h g _ HA1.out HS.out).mono ?_
  rintro e w2 ⟨h2, rfl, hn2, hb2⟩
  have HB2 := Lib.hid (HB1.out.trans (hb2.mono hz1))
  have HR2 := Lib.hid (HR1.out.below hb2 hg1)
  have HA2 := Lib.hid (GrIn.later HA1.out hb2)
  have HN2 := Lib.hid hn2.isIn
  have hz2 := HB2.out.size
  have hg2 := HR2.out.lt
  clear hn2 hb2 a0 a1 a2 a3
  go_wp2_with fail
  refine (opens_spec g h2 no client _ HN2.out HS.out).mono ?_
  rintro e w3 ⟨rfl, hb3⟩
  have HB3 := Lib.hid (HB2.out.trans (hb3.mono hz2))
  have HR3 := Lib.hid (HR2.out.below hb3 hg2)
  have HA3 := Lib.hid (GrIn.later HA2.out hb3)
  have hz3 := HB3.out.size
  have hg3 := HR3.out.lt
  have a0 : w3.cell? ⟨w.heap.size, 0, none⟩ = some (.int .i64 g.now) := HR3.out.cell 0
  have a1 : w3.cell? ⟨w.heap.size, 1, none⟩ = some (.slice h.wp h.wn h.wc) := HR3.out.cell 1
  have a2 : w3.cell? ⟨w.heap.size, 2, none⟩ = some (.slice h.kp h.kn h.kc) := HR3.out.cell 2
  have a3 : w3.cell? ⟨w.heap.size, 3, none⟩ = some (.slice h.dp h.dn h.dc) := HR3.out.cell 3
  clear hb3
  go_wp2_with fail
  rw [← HE.out]
  refine (toGrant_any h g _ HA3.out HS.out).mono ?_
  rintro e w4 ⟨h4, rfl, hn4, hb4⟩
  have HB4 := Lib.hid (HB3.out.trans (hb4.mono hz3))
  have HR4 := Lib.hid (HR3.out.below hb4 hg3)
  have HA4 := Lib.hid (GrIn.later HA3.out hb4)
  have HN4 := Lib.hid hn4.isIn
  have hz4 := HB4.out.size
  have hg4 := HR4.out.lt
  clear hn4 hb4 a0 a1 a2 a3
  have HE4 := Lib.hid (show grV g.now h4 = .agg #[.int .i64 g.now, .slice h4.wp h4.wn h4.wc, .slice h4.kp h4.kn h4.kc, .slice h4.dp h4.dn h4.dc] from rfl)
  rw [HE4.out]
  have hb5 := (Below.refl w4.heap.size w4).alloc (Nat.le_refl _) (.cells #[.int .i64 g.now, .slice h4.wp h4.wn h4.wc, .slice h4.kp h4.kn h4.kc, .slice h4.dp h4.dn h4.dc] 32)
  have hr5 : Row (w4.alloc (.cells #[.int .i64 g.now, .slice h4.wp h4.wn h4.wc, .slice h4.kp h4.kn h4.kc, .slice h4.dp h4.dn h4.dc] 32)) w4.heap.size 32 [.int .i64 g.now, .slice h4.wp h4.wn h4.wc, .slice h4.kp h4.kn h4.kc, .slice h4.dp h4.dn h4.dc] := heap_alloc_new w4 _
  obtain ⟨V, hV⟩ : ∃ V, V = w4.alloc (.cells #[.int .i64 g.now, .slice h4.wp h4.wn h4.wc, .slice h4.kp h4.kn h4.kc, .slice h4.dp h4.dn h4.dc] 32) := ⟨_, rfl⟩
  rw [← hV] at hb5 hr5
  have HV := Lib.hid hV
  have HB5 := Lib.hid (HB4.out.trans (hb5.mono hz4))
  have HR5 := Lib.hid (HR4.out.below hb5 hg4)
  have HA5 := Lib.hid (GrIn.later HA4.out hb5)
  have HN5 := Lib.hid (GrIn.later HN4.out hb5)
  have HX5 := Lib.hid hr5
  have hz5 := HB5.out.size
  have hg5 := HR5.out.lt
  have hx5 := hr5.lt
  clear hb5 hr5 hV
  obtain ⟨x, hx⟩ : ∃ x, x = w4.heap.size := ⟨_, rfl⟩
  rw [← hx] at HX5 hx5
  go_wp2_with fail
  rw [← HV.out, ← hx, ← HE4.out]
  clear hx
  refine (opens_imp g h4 no client _ HN5.out HS.out HWf.out HNo.out).mono ?_
  rintro e w6 ⟨rfl, hb6⟩
  have HB6 := Lib.hid (HB5.out.trans (hb6.mono hz5))
  have HR6 := Lib.hid (HR5.out.below hb6 hg5)
  have HA6 := Lib.hid (GrIn.later HA5.out hb6)
  have HN6 := Lib.hid (GrIn.later HN5.out hb6)
  have HX6 := Lib.hid (HX5.out.below hb6 hx5)
  have hz6 := HB6.out.size
  have hg6 := HR6.out.lt
  have hx6 := HX6.out.lt
  have a0 : w6.cell? ⟨w.heap.size, 0, none⟩ = some (.int .i64 g.now) := HR6.out.cell 0
  have a1 : w6.cell? ⟨w.heap.size, 1, none⟩ = some (.slice h.wp h.wn h.wc) := HR6.out.cell 1
  have a2 : w6.cell? ⟨w.heap.size, 2, none⟩ = some (.slice h.kp h.kn h.kc) := HR6.out.cell 2
  have a3 : w6.cell? ⟨w.heap.size, 3, none⟩ = some (.slice h.dp h.dn h.dc) := HR6.out.cell 3
  have x0 : w6.cell? ⟨x, 0, none⟩ = some (.int .i64 g.now) := HX6.out.cell 0
  have x1 : w6.cell? ⟨x, 1, none⟩ = some (.slice h4.wp h4.wn h4.wc) := HX6.out.cell 1
  have x2 : w6.cell? ⟨x, 2, none⟩ = some (.slice h4.kp h4.kn h4.kc) := HX6.out.cell 2
  have x3 : w6.cell? ⟨x, 3, none⟩ = some (.slice h4.dp h4.dn h4.dc) := HX6.out.cell 3
  have hbb : (opensB g no client != opensB g no client) = false := by simp
  clear hb6
  go_wp2_with fail
  go_region_with (first
    | (go_at_call 9; rw [← HE.out]; refine (toGrant_any h g _ (GrIn.later HA6.out (Below.refl _ _).drew) HS.out).mono ?_; rintro e w7 ⟨h7, rfl, hn7, hb7⟩; have y0 := (hb7.cell (p := ⟨x, 0, none⟩) hx6).trans x0; have y1 := (hb7.cell (p := ⟨x, 1, none⟩) hx6).trans x1; have y2 := (hb7.cell (p := ⟨x, 2, none⟩) hx6).trans x2; have y3 := (hb7.cell (p := ⟨x, 3, none⟩) hx6).trans x3)
    | (go_at_call 11; refine (eqGrant_same h4 h7 g _ (GrIn.later (GrIn.later HN6.out (Below.refl _ _).drew) hb7) hn7.isIn HS.out).mono ?_; rintro e w8 ⟨rfl, hb8⟩))
  all_goals
    have HB8 := Lib.hid ((HB6.out.drew.trans (hb7.mono hz6)).trans (hb8.mono (Nat.le_trans hz6 hb7.size)))
    clear hb7 hb8
    go_wp2_with fail
    go_ret
    exact ⟨rfl, HB8.out⟩
end Go.Proofs.Ytgkdajlkajmdiaa
