/- Honest: the walk of the law. -/
import Derived.Test.YtjccnjfdeedneaaGreatSHoS
import Derived.Test.YtjccnjfdeedneaaGreatSStArg
import Derived.Test.YtjccnjfdeedneaaGreatSGdN
import Derived.Test.YtjccnjfdeedneaaGreatSSh10
namespace Go.Proofs.YtjccnjfdeedneaaGreat
open Go Go.RowKit Go.Lib
set_option linter.unusedVariables false
set_option maxRecDepth 100000

theorem StNew.srcC {w0 w : World} {h : SH} {s : St} (hn : StNew w0 w h s) : Src enCf w (.slice h.cp h.cn h.cc) s.cache := by
 obtain ⟨h1, g4, h2, h3, h4, h5, h6, h7⟩ := hn
 rw [h2]
 exact Src.of_in h3 (LIn.of h7.lat)
set_option maxHeartbeats 8000000 in
theorem lawHonest (h : SH) (s : St) (w : World) (hin : StArgF w h s) : Calls Tryz.prog 5 #[stV s h] w fun e w' => e = .returned (.bool true) ∧ Below w.heap.size w w' := by
 have hb0 := (Below.refl w.heap.size w).alloc (Nat.le_refl _) (.cells #[.int .i64 s.gr.now, .slice h.gh.wp h.gh.wn h.gh.wc, .slice h.gh.kp h.gh.kn h.gh.kc, .slice h.gh.dp h.gh.dn h.gh.dc, .int .i64 s.ver, .int .i64 s.lock, .slice h.cp h.cn h.cc] 44)
 have hrow : Row (w.alloc (.cells #[.int .i64 s.gr.now, .slice h.gh.wp h.gh.wn h.gh.wc, .slice h.gh.kp h.gh.kn h.gh.kc, .slice h.gh.dp h.gh.dn h.gh.dc, .int .i64 s.ver, .int .i64 s.lock, .slice h.cp h.cn h.cc] 44)) w.heap.size 44 (stL s h) := heap_alloc_new w _
 obtain ⟨W, hW⟩ : ∃ W, W = w.alloc (.cells #[.int .i64 s.gr.now, .slice h.gh.wp h.gh.wn h.gh.wc, .slice h.gh.kp h.gh.kn h.gh.kc, .slice h.gh.dp h.gh.dn h.gh.dc, .int .i64 s.ver, .int .i64 s.lock, .slice h.cp h.cn h.cc] 44) := ⟨_, rfl⟩
 rw [← hW] at hb0 hrow
 have HW := Lib.hid hW
 have HR := Lib.hid hrow
 have HB := Lib.hid hb0
 have hz := hb0.size
 have hgl := hrow.lt
 have HA : Hid (StArg W h s) := Lib.hid ⟨⟨hin.1.1.1.later hb0, hin.1.1.2⟩, hin.1.2.1, hin.1.2.2.1.later hb0, hin.1.2.2.2⟩
 have HWf := Lib.hid hin.2
 have HE := Lib.hid (show stV s h = .agg #[.int .i64 s.gr.now, .slice h.gh.wp h.gh.wn h.gh.wc, .slice h.gh.kp h.gh.kn h.gh.kc, .slice h.gh.dp h.gh.dn h.gh.dc, .int .i64 s.ver, .int .i64 s.lock, .slice h.cp h.cn h.cc] from rfl)
 obtain ⟨y, hy⟩ : ∃ y, y = honB s := ⟨_, rfl⟩
 have HY := Lib.hid hy
 clear hb0 hrow hW hin hy
 rw [HE.out]
 go_enter Tryz.func5, Tryz.ntmps5
 go_wp2_with fail
 rw [← HW.out, ← HE.out]
 refine (szStore_any h s _ HA.out).mono ?_
 rintro e w1 ⟨r, rfl, hr, hr2, hb1⟩
 have HB1 := Lib.hid (HB.out.trans (hb1.mono hz))
 have HR1 := Lib.hid (HR.out.below hb1 hgl)
 have HA1 := Lib.hid (StIn.later HA.out.isIn hb1)
 clear hb1
 by_cases hneg : r < 0
 ·clear hr
  go_wp2_with fail
  go_ret
  exact ⟨rfl, HB1.out⟩
 have HS := Lib.hid (hr (by omega))
 clear hr
 have a0 : w1.cell? ⟨w.heap.size, 0, none⟩ = some (.int .i64 s.gr.now) := HR1.out.cell 0
 have a1 : w1.cell? ⟨w.heap.size, 1, none⟩ = some (.slice h.gh.wp h.gh.wn h.gh.wc) := HR1.out.cell 1
 have a2 : w1.cell? ⟨w.heap.size, 2, none⟩ = some (.slice h.gh.kp h.gh.kn h.gh.kc) := HR1.out.cell 2
 have a3 : w1.cell? ⟨w.heap.size, 3, none⟩ = some (.slice h.gh.dp h.gh.dn h.gh.dc) := HR1.out.cell 3
 have a4 : w1.cell? ⟨w.heap.size, 4, none⟩ = some (.int .i64 s.ver) := HR1.out.cell 4
 have a5 : w1.cell? ⟨w.heap.size, 5, none⟩ = some (.int .i64 s.lock) := HR1.out.cell 5
 have a6 : w1.cell? ⟨w.heap.size, 6, none⟩ = some (.slice h.cp h.cn h.cc) := HR1.out.cell 6
 go_wp2_with fail
 rw [← HE.out]
 refine (toStore_any h s _ HA1.out HS.out).mono ?_
 rintro e w2 ⟨h2, rfl, hn2, hb2⟩
 have HB2 := Lib.hid (HB1.out.trans (hb2.mono HB1.out.size))
 have HR2 := Lib.hid (HR1.out.below hb2 HR1.out.lt)
 have HA2 := Lib.hid (StIn.later HA1.out hb2)
 have HN2 := Lib.hid hn2.isIn
 clear hn2 hb2 a0 a1 a2 a3 a4 a5 a6
 go_wp2_with fail
 refine (hon_spec s h2 _ HN2.out HS.out).mono ?_
 rintro e w3 ⟨rfl, hb3⟩
 rw [← HY.out]
 have HB3 := Lib.hid (HB2.out.trans (hb3.mono HB2.out.size))
 have HR3 := Lib.hid (HR2.out.below hb3 HR2.out.lt)
 have HA3 := Lib.hid (StIn.later HA2.out hb3)
 have a0 : w3.cell? ⟨w.heap.size, 0, none⟩ = some (.int .i64 s.gr.now) := HR3.out.cell 0
 have a1 : w3.cell? ⟨w.heap.size, 1, none⟩ = some (.slice h.gh.wp h.gh.wn h.gh.wc) := HR3.out.cell 1
 have a2 : w3.cell? ⟨w.heap.size, 2, none⟩ = some (.slice h.gh.kp h.gh.kn h.gh.kc) := HR3.out.cell 2
 have a3 : w3.cell? ⟨w.heap.size, 3, none⟩ = some (.slice h.gh.dp h.gh.dn h.gh.dc) := HR3.out.cell 3
 have a4 : w3.cell? ⟨w.heap.size, 4, none⟩ = some (.int .i64 s.ver) := HR3.out.cell 4
 have a5 : w3.cell? ⟨w.heap.size, 5, none⟩ = some (.int .i64 s.lock) := HR3.out.cell 5
 have a6 : w3.cell? ⟨w.heap.size, 6, none⟩ = some (.slice h.cp h.cn h.cc) := HR3.out.cell 6
 clear hb3
 go_wp2_with fail
 rw [← HE.out]
 refine (toStore_any h s _ HA3.out HS.out).mono ?_
 rintro e w4 ⟨h4, rfl, hn4, hb4⟩
 have HB4 := Lib.hid (HB3.out.trans (hb4.mono HB3.out.size))
 have HR4 := Lib.hid (HR3.out.below hb4 HR3.out.lt)
 have HA4 := Lib.hid (StIn.later HA3.out hb4)
 have HN4 := Lib.hid hn4.isIn
 have HSr4 := Lib.hid hn4.srcC
 have HCp : Hid (h4.cn ≤ h4.cc ∧ h4.cc ≤ 1048576) := Lib.hid (by obtain ⟨_, _, _, e1, e2, _⟩ := hn4; have := HS.out.2; omega)
 clear hn4 hb4 a0 a1 a2 a3 a4 a5 a6
 have HE4 := Lib.hid (show stV s h4 = .agg #[.int .i64 s.gr.now, .slice h4.gh.wp h4.gh.wn h4.gh.wc, .slice h4.gh.kp h4.gh.kn h4.gh.kc, .slice h4.gh.dp h4.gh.dn h4.gh.dc, .int .i64 s.ver, .int .i64 s.lock, .slice h4.cp h4.cn h4.cc] from rfl)
 rw [HE4.out]
 have hb5 := (Below.refl w4.heap.size w4).alloc (Nat.le_refl _) (.cells #[.int .i64 s.gr.now, .slice h4.gh.wp h4.gh.wn h4.gh.wc, .slice h4.gh.kp h4.gh.kn h4.gh.kc, .slice h4.gh.dp h4.gh.dn h4.gh.dc, .int .i64 s.ver, .int .i64 s.lock, .slice h4.cp h4.cn h4.cc] 34)
 have hr5 : Row (w4.alloc (.cells #[.int .i64 s.gr.now, .slice h4.gh.wp h4.gh.wn h4.gh.wc, .slice h4.gh.kp h4.gh.kn h4.gh.kc, .slice h4.gh.dp h4.gh.dn h4.gh.dc, .int .i64 s.ver, .int .i64 s.lock, .slice h4.cp h4.cn h4.cc] 34)) w4.heap.size 34 (stL s h4) := heap_alloc_new w4 _
 obtain ⟨V, hV⟩ : ∃ V, V = w4.alloc (.cells #[.int .i64 s.gr.now, .slice h4.gh.wp h4.gh.wn h4.gh.wc, .slice h4.gh.kp h4.gh.kn h4.gh.kc, .slice h4.gh.dp h4.gh.dn h4.gh.dc, .int .i64 s.ver, .int .i64 s.lock, .slice h4.cp h4.cn h4.cc] 34) := ⟨_, rfl⟩
 obtain ⟨x, hx⟩ : ∃ x, x = w4.heap.size := ⟨_, rfl⟩
 rw [← hV] at hb5 hr5
 rw [← hx] at hr5
 have HV := Lib.hid hV
 have HX := Lib.hid hx
 have HB5 := Lib.hid (HB4.out.trans (hb5.mono HB4.out.size))
 have HR5 := Lib.hid (HR4.out.below hb5 HR4.out.lt)
 have HA5 := Lib.hid (StIn.later HA4.out hb5)
 have HN5 := Lib.hid (StIn.later HN4.out hb5)
 have HX5 := Lib.hid hr5
 have HSr5 := Lib.hid (Src.later HSr4.out hb5)
 have x0 : V.cell? ⟨x, 0, none⟩ = some (.int .i64 s.gr.now) := hr5.cell 0
 have x1 : V.cell? ⟨x, 1, none⟩ = some (.slice h4.gh.wp h4.gh.wn h4.gh.wc) := hr5.cell 1
 have x2 : V.cell? ⟨x, 2, none⟩ = some (.slice h4.gh.kp h4.gh.kn h4.gh.kc) := hr5.cell 2
 have x3 : V.cell? ⟨x, 3, none⟩ = some (.slice h4.gh.dp h4.gh.dn h4.gh.dc) := hr5.cell 3
 have x4 : V.cell? ⟨x, 4, none⟩ = some (.int .i64 s.ver) := hr5.cell 4
 have x5 : V.cell? ⟨x, 5, none⟩ = some (.int .i64 s.lock) := hr5.cell 5
 have x6 : V.cell? ⟨x, 6, none⟩ = some (.slice h4.cp h4.cn h4.cc) := hr5.cell 6
 rw [hV, hx] at x0 x1 x2 x3 x4 x5 x6
 clear hb5 hr5 hV hx
 go_wp2_with fail
 rw [← HV.out, ← HX.out, ← HE4.out]
 clear x0 x1 x2 x3 x4 x5 x6
 refine (hon_impl s h4 _ HN5.out HS.out HWf.out HCp.out HSr5.out).mono ?_
 rintro e w6 ⟨rfl, hb6⟩
 rw [← HY.out]
 have HB6 := Lib.hid (HB5.out.trans (hb6.mono HB5.out.size))
 have HR6 := Lib.hid (HR5.out.below hb6 HR5.out.lt)
 have HA6 := Lib.hid (StIn.later HA5.out hb6)
 have HN6 := Lib.hid (StIn.later HN5.out hb6)
 have HX6 := Lib.hid (HX5.out.below hb6 HX5.out.lt)
 have hne : (y != y) = false := by cases y <;> rfl
 clear hb6
 go_upto_region 10 with fail
 have HK9 : Hid (∀ w', Below w6.heap.size w6 w' → w'.cell? ⟨x, 0, none⟩ = some (.int .i64 s.gr.now) ∧ w'.cell? ⟨x, 1, none⟩ = some (.slice h4.gh.wp h4.gh.wn h4.gh.wc) ∧ w'.cell? ⟨x, 2, none⟩ = some (.slice h4.gh.kp h4.gh.kn h4.gh.kc) ∧ w'.cell? ⟨x, 3, none⟩ = some (.slice h4.gh.dp h4.gh.dn h4.gh.dc) ∧ w'.cell? ⟨x, 4, none⟩ = some (.int .i64 s.ver) ∧ w'.cell? ⟨x, 5, none⟩ = some (.int .i64 s.lock) ∧ w'.cell? ⟨x, 6, none⟩ = some (.slice h4.cp h4.cn h4.cc) ∧ w'.cell? ⟨w.heap.size, 0, none⟩ = some (.int .i64 s.gr.now) ∧ w'.cell? ⟨w.heap.size, 1, none⟩ = some (.slice h.gh.wp h.gh.wn h.gh.wc) ∧ w'.cell? ⟨w.heap.size, 2, none⟩ = some (.slice h.gh.kp h.gh.kn h.gh.kc) ∧ w'.cell? ⟨w.heap.size, 3, none⟩ = some (.slice h.gh.dp h.gh.dn h.gh.dc) ∧ w'.cell? ⟨w.heap.size, 4, none⟩ = some (.int .i64 s.ver) ∧ w'.cell? ⟨w.heap.size, 5, none⟩ = some (.int .i64 s.lock) ∧ w'.cell? ⟨w.heap.size, 6, none⟩ = some (.slice h.cp h.cn h.cc)) := Lib.hid (fun w' hb => by
  have k := HR6.out.below hb HR6.out.lt
  have z := HX6.out.below hb HX6.out.lt
  exact ⟨z.cell 0, z.cell 1, z.cell 2, z.cell 3, z.cell 4, z.cell 5, z.cell 6, k.cell 0, k.cell 1, k.cell 2, k.cell 3, k.cell 4, k.cell 5, k.cell 6⟩)
 have HB0 := Lib.hid ((Below.refl w6.heap.size w6).drew)
 refine region_L 2 (fun _ => True) (fun w' => w'.cell? ⟨x, 0, none⟩ = some (.int .i64 s.gr.now) ∧ w'.cell? ⟨x, 1, none⟩ = some (.slice h4.gh.wp h4.gh.wn h4.gh.wc) ∧ w'.cell? ⟨x, 2, none⟩ = some (.slice h4.gh.kp h4.gh.kn h4.gh.kc) ∧ w'.cell? ⟨x, 3, none⟩ = some (.slice h4.gh.dp h4.gh.dn h4.gh.dc) ∧ w'.cell? ⟨x, 4, none⟩ = some (.int .i64 s.ver) ∧ w'.cell? ⟨x, 5, none⟩ = some (.int .i64 s.lock) ∧ w'.cell? ⟨x, 6, none⟩ = some (.slice h4.cp h4.cn h4.cc) ∧ w'.cell? ⟨w.heap.size, 0, none⟩ = some (.int .i64 s.gr.now) ∧ w'.cell? ⟨w.heap.size, 1, none⟩ = some (.slice h.gh.wp h.gh.wn h.gh.wc) ∧ w'.cell? ⟨w.heap.size, 2, none⟩ = some (.slice h.gh.kp h.gh.kn h.gh.kc) ∧ w'.cell? ⟨w.heap.size, 3, none⟩ = some (.slice h.gh.dp h.gh.dn h.gh.dc) ∧ w'.cell? ⟨w.heap.size, 4, none⟩ = some (.int .i64 s.ver) ∧ w'.cell? ⟨w.heap.size, 5, none⟩ = some (.int .i64 s.lock) ∧ w'.cell? ⟨w.heap.size, 6, none⟩ = some (.slice h.cp h.cn h.cc)) (by kernel_rfl) ⟨fun _ => trivial, HK9.out _ HB0.out⟩ (fun hHL => ?_)
 refine wpAnyL_take (i := 0) (v := ?_) (by rfl) rfl (by kernel_rfl) (by kernel_rfl) (by kernel_rfl) (fun _ _ _ h => h) (Or.inl ⟨by rfl, ?_⟩) hHL ?_
 rotate_left
 ·intro w hSw; (try dsimp only at hSw); (first | (go_simp; done) | (go_simp; with_reducible rfl))
 clear hHL
 intro hHL
 (try simp only [Act.put, List.setIfInBounds_toArray, List.set_cons_zero, List.set_cons_succ])
 refine wpAnyL_take (i := 1) (v := ?_) (by rfl) rfl (by kernel_rfl) (by kernel_rfl) (by kernel_rfl) (fun _ _ _ h => h) (Or.inl ⟨by rfl, ?_⟩) hHL ?_
 rotate_left
 ·intro w hSw; (try dsimp only at hSw); (first | (go_simp; done) | (go_simp; with_reducible rfl))
 clear hHL
 intro hHL
 (try simp only [Act.put, List.setIfInBounds_toArray, List.set_cons_zero, List.set_cons_succ])
 refine wpAnyL_ready (rs := [2]) (by kernel_rfl) (by simp) ?_
 refine AllReadyL.cons rfl (fun K hK => ?_) AllReadyL.nil
 refine step_callS rfl 20 #[stV s h] (by kernel_rfl) (fun k => stV s k) (fun k w' => StNew w6.drew w' k s ∧ Below w6.drew.heap.size w6.drew w') (toStore_any h s _ (StIn.later HA6.out HB0.out) HS.out) ?_
 intro h7 u1 hn
 have HNu := Lib.hid hn.1.isIn
 have HBu := Lib.hid (HB0.out.trans (hn.2.mono HB0.out.size))
 clear hn
 refine hK.out _ _ ⟨fun _ => trivial, HK9.out _ HBu.out⟩ (fun hHL => ?_)
 clear hK K
 (try simp only [Act.put, List.setIfInBounds_toArray, List.set_cons_zero, List.set_cons_succ])
 refine wpAnyL_ready (rs := [3]) (by kernel_rfl) (by simp) ?_
 refine AllReadyL.cons rfl (fun K hK => ?_) AllReadyL.nil
 refine step_callTo rfl 13 #[stV s h4, stV s h7] (by kernel_rfl) (.bool true) (fun w' => Below u1.heap.size u1 w') (eqStore_same h4 h7 s _ (StIn.later HN6.out HBu.out) HNu.out HS.out) ?_
 intro u2 hn
 have HB7 := Lib.hid (HBu.out.trans (hn.mono HBu.out.size))
 clear hn
 refine hK.out _ _ ⟨fun _ => trivial, HK9.out _ HB7.out⟩ (fun hHL => ?_)
 clear hK K
 (try simp only [Act.put, List.setIfInBounds_toArray, List.set_cons_zero, List.set_cons_succ])
 refine wpAnyL_take (i := 4) (v := ?_) (by rfl) rfl (by kernel_rfl) (by kernel_rfl) (by kernel_rfl) (fun _ _ _ h => h) (Or.inl ⟨by rfl, ?_⟩) hHL ?_
 rotate_left
 ·intro w hSw; (try dsimp only at hSw); (first | (go_simp; done) | (go_simp; with_reducible rfl))
 clear hHL
 intro hHL
 (try simp only [Act.put, List.setIfInBounds_toArray, List.set_cons_zero, List.set_cons_succ])
 refine wpAnyL_done (by kernel_rfl) ?_ _
 have HB8 := Lib.hid (HB6.out.trans (HB7.out.mono HB6.out.size))
 clear hHL HB0 HBu HB7 HNu HK9
 go_wp2_with fail
 go_ret
 exact ⟨rfl, HB8.out⟩
end Go.Proofs.YtjccnjfdeedneaaGreat
