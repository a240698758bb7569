/- CacheFind: the walk of the law. -/
import Derived.Test.YtchfgdiipjbgoaaCf
import Derived.Test.YtchfgdiipjbgoaaStArg
namespace Go.Proofs.Ytchfgdiipjbgoaa
open Go Go.RowKit Go.Lib
set_option linter.unusedVariables false

set_option maxRecDepth 100000
theorem eqEn_same (x : En) (w : World) : Calls Try.prog 8 #[.agg #[.int .i64 x.token, .int .i64 x.client, .int .i64 x.till, .int .i64 x.ver], .agg #[.int .i64 x.token, .int .i64 x.client, .int .i64 x.till, .int .i64 x.ver]] w (Ret (.bool true) w) := by
  go_enter Try.func8, Try.ntmps8
  go_wp2_with fail
  go_ret
  exact ⟨rfl, by go_grown⟩
theorem StNew.src {w0 w : World} {h : SH} {s : St} (hn : StNew w0 w h s) : Src enCf w (.slice h.cp h.cn h.cc) s.cache := by
  obtain ⟨h1, g4, h2, h3, h4, h5, h6, h7⟩ := hn
  rw [h2]
  exact Src.of_in h3 (LIn.of h7.lat)
set_option maxHeartbeats 4000000 in
theorem lawCacheFind (h : SH) (s : St) (t v : Int) (w : World) (hin : StArgF w h s) : Calls Try.prog 3 #[stV s h, .int .i64 t, .int .i64 v] w fun e w' => e = .returned (.bool true) ∧ Below w.heap.size w w' := by
  have hb0 := (Below.refl w.heap.size w).alloc (Nat.le_refl _) (.cells #[.int .i64 s.gr.now, .slice h.gh.wp h.gh.wn h.gh.wc, .slice h.gh.kp h.gh.kn h.gh.kc, .slice h.gh.dp h.gh.dn h.gh.dc, .int .i64 s.ver, .int .i64 s.lock, .slice h.cp h.cn h.cc] 29)
  have hrow : Row (w.alloc (.cells #[.int .i64 s.gr.now, .slice h.gh.wp h.gh.wn h.gh.wc, .slice h.gh.kp h.gh.kn h.gh.kc, .slice h.gh.dp h.gh.dn h.gh.dc, .int .i64 s.ver, .int .i64 s.lock, .slice h.cp h.cn h.cc] 29)) w.heap.size 29 [.int .i64 s.gr.now, .slice h.gh.wp h.gh.wn h.gh.wc, .slice h.gh.kp h.gh.kn h.gh.kc, .slice h.gh.dp h.gh.dn h.gh.dc, .int .i64 s.ver, .int .i64 s.lock, .slice h.cp h.cn h.cc] := heap_alloc_new w _
  obtain ⟨W, hW⟩ : ∃ W, W = w.alloc (.cells #[.int .i64 s.gr.now, .slice h.gh.wp h.gh.wn h.gh.wc, .slice h.gh.kp h.gh.kn h.gh.kc, .slice h.gh.dp h.gh.dn h.gh.dc, .int .i64 s.ver, .int .i64 s.lock, .slice h.cp h.cn h.cc] 29) := ⟨_, rfl⟩
  rw [← hW] at hb0 hrow
  have HW := Lib.hid hW
  have HR := Lib.hid hrow
  have HB := Lib.hid hb0
  have hz := hb0.size
  have hgl := hrow.lt
  have HA : Hid (StArg W h s) := Lib.hid ⟨⟨hin.1.1.1.later hb0, hin.1.1.2⟩, hin.1.2.1, hin.1.2.2.1.later hb0, hin.1.2.2.2⟩
  have HWf := Lib.hid hin.2
  have HE := Lib.hid (show stV s h = .agg #[.int .i64 s.gr.now, .slice h.gh.wp h.gh.wn h.gh.wc, .slice h.gh.kp h.gh.kn h.gh.kc, .slice h.gh.dp h.gh.dn h.gh.dc, .int .i64 s.ver, .int .i64 s.lock, .slice h.cp h.cn h.cc] from rfl)
  clear hb0 hrow hW hin
  rw [HE.out]
  go_enter Try.func3, Try.ntmps3
  go_wp2_with fail
  rw [← HW.out, ← HE.out]
  refine (szStore_any h s _ HA.out).mono ?_
  rintro e w1 ⟨r, rfl, hr, hr2, hb1⟩
  have HB1 := Lib.hid (HB.out.trans (hb1.mono hz))
  have HR1 := Lib.hid (HR.out.below hb1 hgl)
  have HA1 := Lib.hid (StIn.later HA.out.isIn hb1)
  have hz1 := HB1.out.size
  have hg1 := HR1.out.lt
  clear hb1
  by_cases hneg : r < 0
  · clear hr
    go_wp2_with fail
    go_ret
    exact ⟨rfl, HB1.out⟩
  have HS := Lib.hid (hr (by omega))
  clear hr
  have a0 : w1.cell? ⟨w.heap.size, 0, none⟩ = some (.int .i64 s.gr.now) := HR1.out.cell 0
  have a1 : w1.cell? ⟨w.heap.size, 1, none⟩ = some (.slice h.gh.wp h.gh.wn h.gh.wc) := HR1.out.cell 1
  have a2 : w1.cell? ⟨w.heap.size, 2, none⟩ = some (.slice h.gh.kp h.gh.kn h.gh.kc) := HR1.out.cell 2
  have a3 : w1.cell? ⟨w.heap.size, 3, none⟩ = some (.slice h.gh.dp h.gh.dn h.gh.dc) := HR1.out.cell 3
  have a4 : w1.cell? ⟨w.heap.size, 4, none⟩ = some (.int .i64 s.ver) := HR1.out.cell 4
  have a5 : w1.cell? ⟨w.heap.size, 5, none⟩ = some (.int .i64 s.lock) := HR1.out.cell 5
  have a6 : w1.cell? ⟨w.heap.size, 6, none⟩ = some (.slice h.cp h.cn h.cc) := HR1.out.cell 6
  go_wp2_with fail
  rw [← HE.out]
  refine (toStore_any h s _ HA1.out HS.out).mono ?_
  rintro e w2 ⟨h2, rfl, hn2, hb2⟩
  have HB2 := Lib.hid (HB1.out.trans (hb2.mono hz1))
  have HR2 := Lib.hid (HR1.out.below hb2 hg1)
  have HA2 := Lib.hid (StIn.later HA1.out hb2)
  have HN2 := Lib.hid hn2.isIn
  have hz2 := HB2.out.size
  have hg2 := HR2.out.lt
  clear hn2 hb2 a0 a1 a2 a3 a4 a5 a6
  go_wp2_with fail
  obtain ⟨y, hy⟩ : ∃ y, y = cfE s t v := ⟨_, rfl⟩
  refine (cf_spec s h2 t v _ HN2.out HS.out).mono ?_
  rintro e w3' ⟨rfl, hb3'⟩
  rw [← hy]
  obtain ⟨w3, hw3⟩ : ∃ w3, w3 = w3'.alloc (.cells #[.int .i64 y.token, .int .i64 y.client, .int .i64 y.till, .int .i64 y.ver] 32) := ⟨_, rfl⟩
  obtain ⟨p8, hp8⟩ : ∃ p, p = w3'.heap.size := ⟨_, rfl⟩
  have hb3 : Below w2.heap.size w2 w3 := by rw [hw3]; exact hb3'.alloc hb3'.size _
  have ry3 : Row w3 p8 32 (enCf y) := by rw [hw3, hp8]; exact heap_alloc_new _ _
  have HY3 := Lib.hid ry3
  have HW3 := Lib.hid hw3
  have HP8 := Lib.hid hp8
  have hp3 := ry3.lt
  have HyE := Lib.hid hy
  have HB3 := Lib.hid (HB2.out.trans (hb3.mono hz2))
  have HR3 := Lib.hid (HR2.out.below hb3 hg2)
  have HA3 := Lib.hid (StIn.later HA2.out hb3)
  have hz3 := HB3.out.size
  have hg3 := HR3.out.lt
  have a0 : w3.cell? ⟨w.heap.size, 0, none⟩ = some (.int .i64 s.gr.now) := HR3.out.cell 0
  have a1 : w3.cell? ⟨w.heap.size, 1, none⟩ = some (.slice h.gh.wp h.gh.wn h.gh.wc) := HR3.out.cell 1
  have a2 : w3.cell? ⟨w.heap.size, 2, none⟩ = some (.slice h.gh.kp h.gh.kn h.gh.kc) := HR3.out.cell 2
  have a3 : w3.cell? ⟨w.heap.size, 3, none⟩ = some (.slice h.gh.dp h.gh.dn h.gh.dc) := HR3.out.cell 3
  have a4 : w3.cell? ⟨w.heap.size, 4, none⟩ = some (.int .i64 s.ver) := HR3.out.cell 4
  have a5 : w3.cell? ⟨w.heap.size, 5, none⟩ = some (.int .i64 s.lock) := HR3.out.cell 5
  have a6 : w3.cell? ⟨w.heap.size, 6, none⟩ = some (.slice h.cp h.cn h.cc) := HR3.out.cell 6
  rw [hw3] at a0 a1 a2 a3 a4 a5 a6
  clear hb3 hb3' hw3 hp8 ry3 hy
  unfold enV
  go_wp2_with fail
  rw [← HP8.out, ← HW3.out, ← HE.out]
  refine (toStore_any h s _ HA3.out HS.out).mono ?_
  rintro e w4 ⟨h4, rfl, hn4, hb4⟩
  have HB4 := Lib.hid (HB3.out.trans (hb4.mono hz3))
  have HR4 := Lib.hid (HR3.out.below hb4 hg3)
  have HA4 := Lib.hid (StIn.later HA3.out hb4)
  have HN4 := Lib.hid hn4.isIn
  have hz4 := HB4.out.size
  have hg4 := HR4.out.lt
  have HY4 := Lib.hid (HY3.out.below hb4 hp3)
  have hp4 := HY4.out.lt
  have HSr4 := Lib.hid hn4.src
  have HCp : Hid (h4.cn ≤ h4.cc ∧ h4.cc ≤ 1048576) := Lib.hid (by obtain ⟨_, _, _, e1, e2, _⟩ := hn4; have := HS.out.2; omega)
  clear hn4 hb4 a0 a1 a2 a3 a4 a5 a6
  have HE4 := Lib.hid (show stV s h4 = .agg #[.int .i64 s.gr.now, .slice h4.gh.wp h4.gh.wn h4.gh.wc, .slice h4.gh.kp h4.gh.kn h4.gh.kc, .slice h4.gh.dp h4.gh.dn h4.gh.dc, .int .i64 s.ver, .int .i64 s.lock, .slice h4.cp h4.cn h4.cc] from rfl)
  rw [HE4.out]
  have hb5 := (Below.refl w4.heap.size w4).alloc (Nat.le_refl _) (.cells #[.int .i64 s.gr.now, .slice h4.gh.wp h4.gh.wn h4.gh.wc, .slice h4.gh.kp h4.gh.kn h4.gh.kc, .slice h4.gh.dp h4.gh.dn h4.gh.dc, .int .i64 s.ver, .int .i64 s.lock, .slice h4.cp h4.cn h4.cc] 40)
  have hr5 : Row (w4.alloc (.cells #[.int .i64 s.gr.now, .slice h4.gh.wp h4.gh.wn h4.gh.wc, .slice h4.gh.kp h4.gh.kn h4.gh.kc, .slice h4.gh.dp h4.gh.dn h4.gh.dc, .int .i64 s.ver, .int .i64 s.lock, .slice h4.cp h4.cn h4.cc] 40)) w4.heap.size 40 [.int .i64 s.gr.now, .slice h4.gh.wp h4.gh.wn h4.gh.wc, .slice h4.gh.kp h4.gh.kn h4.gh.kc, .slice h4.gh.dp h4.gh.dn h4.gh.dc, .int .i64 s.ver, .int .i64 s.lock, .slice h4.cp h4.cn h4.cc] := heap_alloc_new w4 _
  obtain ⟨V, hV⟩ : ∃ V, V = w4.alloc (.cells #[.int .i64 s.gr.now, .slice h4.gh.wp h4.gh.wn h4.gh.wc, .slice h4.gh.kp h4.gh.kn h4.gh.kc, .slice h4.gh.dp h4.gh.dn h4.gh.dc, .int .i64 s.ver, .int .i64 s.lock, .slice h4.cp h4.cn h4.cc] 40) := ⟨_, rfl⟩
  rw [← hV] at hb5 hr5
  have HV := Lib.hid hV
  have HB5 := Lib.hid (HB4.out.trans (hb5.mono hz4))
  have HR5 := Lib.hid (HR4.out.below hb5 hg4)
  have HA5 := Lib.hid (StIn.later HA4.out hb5)
  have HN5 := Lib.hid (StIn.later HN4.out hb5)
  have HX5 := Lib.hid hr5
  have hz5 := HB5.out.size
  have hg5 := HR5.out.lt
  have hx5 := hr5.lt
  have HY5 := Lib.hid (HY4.out.below hb5 hp4)
  have hp5 := HY5.out.lt
  have HSr5 := Lib.hid (Src.later HSr4.out hb5)
  clear hb5 hr5 hV
  obtain ⟨x, hx⟩ : ∃ x, x = w4.heap.size := ⟨_, rfl⟩
  rw [← hx] at HX5 hx5
  go_wp2_with fail
  rw [← HV.out, ← hx, ← HE4.out]
  clear hx
  refine (cf_impl s h4 t v _ HN5.out HS.out HWf.out HCp.out HSr5.out).mono ?_
  rintro e w6' ⟨rfl, hb6'⟩
  rw [← HyE.out]
  obtain ⟨w6, hw6⟩ : ∃ w6, w6 = w6'.alloc (.cells #[.int .i64 y.token, .int .i64 y.client, .int .i64 y.till, .int .i64 y.ver] 32) := ⟨_, rfl⟩
  obtain ⟨p10, hp10⟩ : ∃ p, p = w6'.heap.size := ⟨_, rfl⟩
  have hb6 : Below V.heap.size V w6 := by rw [hw6]; exact hb6'.alloc hb6'.size _
  have HW6 := Lib.hid hw6
  have HP10 := Lib.hid hp10
  have HY6 := Lib.hid (HY5.out.below hb6 hp5)
  have d0 : w6.cell? ⟨p8, 0, none⟩ = some (.int .i64 y.token) := HY6.out.cell 0
  have d1 : w6.cell? ⟨p8, 1, none⟩ = some (.int .i64 y.client) := HY6.out.cell 1
  have d2 : w6.cell? ⟨p8, 2, none⟩ = some (.int .i64 y.till) := HY6.out.cell 2
  have d3 : w6.cell? ⟨p8, 3, none⟩ = some (.int .i64 y.ver) := HY6.out.cell 3
  rw [hw6] at d0 d1 d2 d3
  have HB6 := Lib.hid (HB5.out.trans (hb6.mono hz5))
  have HR6 := Lib.hid (HR5.out.below hb6 hg5)
  have HA6 := Lib.hid (StIn.later HA5.out hb6)
  have HN6 := Lib.hid (StIn.later HN5.out hb6)
  have HX6 := Lib.hid (HX5.out.below hb6 hx5)
  have hz6 := HB6.out.size
  have hg6 := HR6.out.lt
  have hx6 := HX6.out.lt
  clear hb6 hb6' hw6 hp10
  unfold enV
  go_wp2_with fail
  refine (eqEn_same y _).mono ?_
  rintro e w9 ⟨rfl, hb9⟩
  rw [← HW6.out] at hb9
  have HB9 := Lib.hid (HB6.out.trans (hb9.mono hz6))
  have HR9 := Lib.hid (HR6.out.below hb9 hg6)
  have HA9 := Lib.hid (StIn.later HA6.out hb9)
  have HN9 := Lib.hid (StIn.later HN6.out hb9)
  have HX9 := Lib.hid (HX6.out.below hb9 hx6)
  have hz9 := HB9.out.size
  have hg9 := HR9.out.lt
  have hx9 := HX9.out.lt
  have a0 : w9.cell? ⟨w.heap.size, 0, none⟩ = some (.int .i64 s.gr.now) := HR9.out.cell 0
  have a1 : w9.cell? ⟨w.heap.size, 1, none⟩ = some (.slice h.gh.wp h.gh.wn h.gh.wc) := HR9.out.cell 1
  have a2 : w9.cell? ⟨w.heap.size, 2, none⟩ = some (.slice h.gh.kp h.gh.kn h.gh.kc) := HR9.out.cell 2
  have a3 : w9.cell? ⟨w.heap.size, 3, none⟩ = some (.slice h.gh.dp h.gh.dn h.gh.dc) := HR9.out.cell 3
  have a4 : w9.cell? ⟨w.heap.size, 4, none⟩ = some (.int .i64 s.ver) := HR9.out.cell 4
  have a5 : w9.cell? ⟨w.heap.size, 5, none⟩ = some (.int .i64 s.lock) := HR9.out.cell 5
  have a6 : w9.cell? ⟨w.heap.size, 6, none⟩ = some (.slice h.cp h.cn h.cc) := HR9.out.cell 6
  have x0 : w9.cell? ⟨x, 0, none⟩ = some (.int .i64 s.gr.now) := HX9.out.cell 0
  have x1 : w9.cell? ⟨x, 1, none⟩ = some (.slice h4.gh.wp h4.gh.wn h4.gh.wc) := HX9.out.cell 1
  have x2 : w9.cell? ⟨x, 2, none⟩ = some (.slice h4.gh.kp h4.gh.kn h4.gh.kc) := HX9.out.cell 2
  have x3 : w9.cell? ⟨x, 3, none⟩ = some (.slice h4.gh.dp h4.gh.dn h4.gh.dc) := HX9.out.cell 3
  have x4 : w9.cell? ⟨x, 4, none⟩ = some (.int .i64 s.ver) := HX9.out.cell 4
  have x5 : w9.cell? ⟨x, 5, none⟩ = some (.int .i64 s.lock) := HX9.out.cell 5
  have x6 : w9.cell? ⟨x, 6, none⟩ = some (.slice h4.cp h4.cn h4.cc) := HX9.out.cell 6
  clear hb9 d0 d1 d2 d3
  go_wp2_with fail
  go_region_with (first
    | (go_at_call 6; rw [← HE.out]; refine (toStore_any h s _ (StIn.later HA9.out (Below.refl _ _).drew) HS.out).mono ?_; rintro e w7 ⟨h7, rfl, hn7, hb7⟩; have y0 := (hb7.cell (p := ⟨x, 0, none⟩) hx9).trans x0; have y1 := (hb7.cell (p := ⟨x, 1, none⟩) hx9).trans x1; have y2 := (hb7.cell (p := ⟨x, 2, none⟩) hx9).trans x2; have y3 := (hb7.cell (p := ⟨x, 3, none⟩) hx9).trans x3; have y4 := (hb7.cell (p := ⟨x, 4, none⟩) hx9).trans x4; have y5 := (hb7.cell (p := ⟨x, 5, none⟩) hx9).trans x5; have y6 := (hb7.cell (p := ⟨x, 6, none⟩) hx9).trans x6)
    | (go_at_call 9; refine (eqStore_same h4 h7 s _ (StIn.later (StIn.later HN9.out (Below.refl _ _).drew) hb7) hn7.isIn HS.out).mono ?_; rintro e w8 ⟨rfl, hb8⟩))
  all_goals
    have HB8 := Lib.hid ((HB9.out.drew.trans (hb7.mono hz9)).trans (hb8.mono (Nat.le_trans hz9 hb7.size)))
    clear hb7 hb8
    go_wp2_with fail
    go_ret
    exact ⟨rfl, HB8.out⟩
end Go.Proofs.Ytchfgdiipjbgoaa
