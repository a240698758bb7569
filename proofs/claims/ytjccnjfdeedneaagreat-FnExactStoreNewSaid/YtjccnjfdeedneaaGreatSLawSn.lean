/- StoreNew: the walk of the law. -/
import Derived.Test.YtjccnjfdeedneaaGreatSSn
import Derived.Test.YtjccnjfdeedneaaGreatSGdN
import Derived.Test.YtjccnjfdeedneaaGreatSGrArg
namespace Go.Proofs.YtjccnjfdeedneaaGreat
open Go Go.RowKit Go.Lib
set_option linter.unusedVariables false
set_option maxRecDepth 100000

theorem new_srcN {w0 w : World} {h : GH} {g : Gr} (hn : GrNew w0 w h g) : SrcG w h g := by
 have hi := hn.isIn
 obtain ⟨g1, g2, g3, rfl, _⟩ := hn
 exact ⟨Src.of_in hi.1.1 hi.2.1, Src.of_in hi.1.2.1 hi.2.2.1, Src.of_in hi.1.2.2 hi.2.2.2⟩
theorem sn_small {g : Gr} (hs : GrSmall g) : StSmall (snS g) := by
 unfold snS
 split
 ·exact ⟨hs, by simp⟩
 ·exact ⟨⟨by simp [zGr], by simp [zGr], by simp [zGr], fun x hx => by simp [zGr] at hx⟩, by simp⟩
/-- The law's box. -/
def BoxG (w : World) (h : GH) (g : Gr) (W : World) : Prop := Row W w.heap.size 26 (grL g.now h) ∧ Below w.heap.size w W
theorem BoxG.later {w W W' : World} {h : GH} {g : Gr} {M : Nat} (k : BoxG w h g W) (hb : Below M W W') (hM : w.heap.size + 1 ≤ M) : BoxG w h g W' := ⟨k.1.below hb (by omega), k.2.trans (hb.mono (by omega))⟩
theorem BoxG.size {w W : World} {h : GH} {g : Gr} (k : BoxG w h g W) : w.heap.size + 1 ≤ W.heap.size := k.1.lt
set_option maxHeartbeats 16000000 in
theorem lawStoreNew (h : GH) (g : Gr) (w : World) (hin : GrArgF w h g) : Calls Tryz.prog 3 #[grV g.now h] w fun e w' => e = .returned (.bool true) ∧ Below w.heap.size w w' := by
 have hb0 := (Below.refl w.heap.size w).alloc (Nat.le_refl _) (.cells #[.int .i64 g.now, .slice h.wp h.wn h.wc, .slice h.kp h.kn h.kc, .slice h.dp h.dn h.dc] 26)
 have hrow : Row (w.alloc (.cells #[.int .i64 g.now, .slice h.wp h.wn h.wc, .slice h.kp h.kn h.kc, .slice h.dp h.dn h.dc] 26)) w.heap.size 26 (grL g.now h) := heap_alloc_new w _
 obtain ⟨W, hW⟩ : ∃ W, W = w.alloc (.cells #[.int .i64 g.now, .slice h.wp h.wn h.wc, .slice h.kp h.kn h.kc, .slice h.dp h.dn h.dc] 26) := ⟨_, rfl⟩
 rw [← hW] at hb0 hrow
 have HBo := Lib.hid (show BoxG w h g W from ⟨hrow, hb0⟩)
 have HW := Lib.hid hW
 have HA : Hid (GrArg W h g) := Lib.hid ⟨hin.1.1.later hb0, hin.1.2⟩
 have HGi : Hid (GrIn w h g) := Lib.hid hin.1.1
 have HWf := Lib.hid hin.2
 have HE := Lib.hid (show grV g.now h = .agg #[.int .i64 g.now, .slice h.wp h.wn h.wc, .slice h.kp h.kn h.kc, .slice h.dp h.dn h.dc] from rfl)
 obtain ⟨S, hS⟩ : ∃ S, S = snS g := ⟨_, rfl⟩
 have HS := Lib.hid hS
 clear hb0 hrow hW hin hS
 rw [HE.out]
 go_enter Tryz.func3, Tryz.ntmps3
 go_wp2_with fail
 rw [← HW.out, ← HE.out]
 refine (szGrant_any h g _ HA.out).mono ?_
 rintro e W1 ⟨n, rfl, hr, hr2, hb1⟩
 have HBo1 := Lib.hid (HBo.out.later hb1 HBo.out.size)
 clear hb1 HA HW HBo
 by_cases hneg : n < 0
 ·clear hr
  go_wp2_with fail
  go_ret
  exact ⟨rfl, HBo1.out.2⟩
 have HSm := Lib.hid (hr (by omega))
 have HSS : Hid (StSmall S) := Lib.hid (by rw [HS.out]; exact sn_small HSm.out)
 clear hr
 have a0 : W1.cell? ⟨w.heap.size, 0, none⟩ = some (.int .i64 g.now) := HBo1.out.1.cell 0
 have a1 : W1.cell? ⟨w.heap.size, 1, none⟩ = some (.slice h.wp h.wn h.wc) := HBo1.out.1.cell 1
 have a2 : W1.cell? ⟨w.heap.size, 2, none⟩ = some (.slice h.kp h.kn h.kc) := HBo1.out.1.cell 2
 have a3 : W1.cell? ⟨w.heap.size, 3, none⟩ = some (.slice h.dp h.dn h.dc) := HBo1.out.1.cell 3
 go_wp2_with fail
 rw [← HE.out]
 refine (toGrant_any h g _ (HGi.out.later HBo1.out.2) HSm.out).mono ?_
 rintro e W2 ⟨h2, rfl, hn2, hb2⟩
 have HBo2 := Lib.hid (HBo1.out.later hb2 HBo1.out.size)
 have HN2 := Lib.hid hn2
 clear hn2 hb2 HBo1 a0 a1 a2 a3
 go_wp2_with fail
 refine (sn_spec g h2 W2 HN2.out.isIn HSm.out (new_srcN HN2.out)).mono ?_
 rintro e W3' ⟨k4, rfl, ho4, hb3'⟩
 rw [← HS.out] at ho4 ⊢
 obtain ⟨W3, hw3⟩ : ∃ w3, w3 = W3'.alloc (.cells #[.int .i64 S.gr.now, .slice k4.gh.wp k4.gh.wn k4.gh.wc, .slice k4.gh.kp k4.gh.kn k4.gh.kc, .slice k4.gh.dp k4.gh.dn k4.gh.dc, .int .i64 S.ver, .int .i64 S.lock, .slice k4.cp k4.cn k4.cc] 34) := ⟨_, rfl⟩
 obtain ⟨p4, hp4⟩ : ∃ p, p = W3'.heap.size := ⟨_, rfl⟩
 have hb3 : Below W2.heap.size W2 W3 := by rw [hw3]; exact hb3'.alloc hb3'.size _
 have HBo3 := Lib.hid (HBo2.out.later hb3 HBo2.out.size)
 have HA4 : Hid (AnsS W2.heap.size S W3 p4 k4) := Lib.hid (by rw [hw3, hp4]; exact ⟨heap_alloc_new _ _, ho4.lat ((Below.refl _ _).alloc (Nat.le_refl _) _)⟩)
 have HK4 : Hid (BlkS k4 W2.heap.size p4) := Lib.hid (by rw [hp4]; exact own4_blk ho4)
 have hz3 : W3.heap.size = p4 + 1 := by rw [hw3, hp4]; simp
 have hz2 : W2.heap.size ≤ p4 := by rw [hp4]; exact hb3'.size
 have hz0 := HBo2.out.size
 have HW3 := Lib.hid hw3
 have HP4 := Lib.hid hp4
 have a0 : W3.cell? ⟨w.heap.size, 0, none⟩ = some (.int .i64 g.now) := HBo3.out.1.cell 0
 have a1 : W3.cell? ⟨w.heap.size, 1, none⟩ = some (.slice h.wp h.wn h.wc) := HBo3.out.1.cell 1
 have a2 : W3.cell? ⟨w.heap.size, 2, none⟩ = some (.slice h.kp h.kn h.kc) := HBo3.out.1.cell 2
 have a3 : W3.cell? ⟨w.heap.size, 3, none⟩ = some (.slice h.dp h.dn h.dc) := HBo3.out.1.cell 3
 rw [hw3] at a0 a1 a2 a3
 clear ho4 hb3 hb3' hw3 hp4 HN2 HBo2
 unfold stV
 go_wp2_with fail
 rw [← HP4.out, ← HW3.out, ← HE.out]
 clear a0 a1 a2 a3
 refine (toGrant_any h g _ (HGi.out.later HBo3.out.2) HSm.out).mono ?_
 rintro e W4' ⟨h5, rfl, hn5, hb4'⟩
 obtain ⟨W4, hw4⟩ : ∃ w4, w4 = W4'.alloc (.cells #[.int .i64 g.now, .slice h5.wp h5.wn h5.wc, .slice h5.kp h5.kn h5.kc, .slice h5.dp h5.dn h5.dc] 31) := ⟨_, rfl⟩
 obtain ⟨p5, hp5⟩ : ∃ p, p = W4'.heap.size := ⟨_, rfl⟩
 have hb4 : Below W3.heap.size W3 W4 := by rw [hw4]; exact hb4'.alloc hb4'.size _
 have HBo4 := Lib.hid (HBo3.out.later hb4 HBo3.out.size)
 have HA44 := Lib.hid (HA4.out.later hb4)
 have HR5 : Hid (Row W4 p5 31 (grL g.now h5)) := Lib.hid (by rw [hw4, hp5]; exact heap_alloc_new _ _)
 have HN5 : Hid (GrNew W3 W4 h5 g) := Lib.hid (by rw [hw4]; exact hn5.later ((Below.refl _ _).alloc (Nat.le_refl _) _))
 have HK5 : Hid (BlkIn h5 (p4 + 1) p5) := Lib.hid (fun j hj => by have := new_blk hn5 j hj; omega)
 have hz4 : W4.heap.size = p5 + 1 := by rw [hw4, hp5]; simp
 have hz34 : p4 + 1 ≤ p5 := by rw [hp5, ← hz3]; exact hb4'.size
 have HW4 := Lib.hid hw4
 have HP5 := Lib.hid hp5
 have HE5 := Lib.hid (show grV g.now h5 = .agg #[.int .i64 g.now, .slice h5.wp h5.wn h5.wc, .slice h5.kp h5.kn h5.kc, .slice h5.dp h5.dn h5.dc] from rfl)
 clear hn5 hb4 hb4' hw4 hp5 HBo3 HA4
 rw [HE5.out]
 have x0 : W4.cell? ⟨p5, 0, none⟩ = some (.int .i64 g.now) := HR5.out.cell 0
 have x1 : W4.cell? ⟨p5, 1, none⟩ = some (.slice h5.wp h5.wn h5.wc) := HR5.out.cell 1
 have x2 : W4.cell? ⟨p5, 2, none⟩ = some (.slice h5.kp h5.kn h5.kc) := HR5.out.cell 2
 have x3 : W4.cell? ⟨p5, 3, none⟩ = some (.slice h5.dp h5.dn h5.dc) := HR5.out.cell 3
 rw [HW4.out] at x0 x1 x2 x3
 go_wp2_with fail
 rw [← HP5.out, ← HW4.out, ← HE5.out]
 clear x0 x1 x2 x3
 refine (sn_impl g h5 W4 HN5.out.isIn HSm.out HWf.out).mono ?_
 rintro e W5' ⟨k6, rfl, ho6, hb5'⟩
 rw [← HS.out] at ho6 ⊢
 obtain ⟨W5, hw5⟩ : ∃ w5, w5 = W5'.alloc (.cells #[.int .i64 S.gr.now, .slice k6.gh.wp k6.gh.wn k6.gh.wc, .slice k6.gh.kp k6.gh.kn k6.gh.kc, .slice k6.gh.dp k6.gh.dn k6.gh.dc, .int .i64 S.ver, .int .i64 S.lock, .slice k6.cp k6.cn k6.cc] 34) := ⟨_, rfl⟩
 obtain ⟨p6, hp6⟩ : ∃ p, p = W5'.heap.size := ⟨_, rfl⟩
 have hb5 : Below W4.heap.size W4 W5 := by rw [hw5]; exact hb5'.alloc hb5'.size _
 have HBo5 := Lib.hid (HBo4.out.later hb5 HBo4.out.size)
 have HA45 := Lib.hid (HA44.out.later hb5)
 have HA6 : Hid (AnsS W4.heap.size S W5 p6 k6) := Lib.hid (by rw [hw5, hp6]; exact ⟨heap_alloc_new _ _, ho6.lat ((Below.refl _ _).alloc (Nat.le_refl _) _)⟩)
 have HK6 : Hid (BlkS k6 (p5 + 1) p6) := Lib.hid (by rw [hp6, ← hz4]; exact own4_blk ho6)
 have HR55 := Lib.hid (HR5.out.below hb5 HR5.out.lt)
 have HN55 := Lib.hid (HN5.out.later hb5)
 have hz5 : W5.heap.size = p6 + 1 := by rw [hw5, hp6]; simp
 have hz45 : p5 + 1 ≤ p6 := by rw [hp6, ← hz4]; exact hb5'.size
 have HW5 := Lib.hid hw5
 have HP6 := Lib.hid hp6
 have HE4 := Lib.hid (show stV S k4 = .agg #[.int .i64 S.gr.now, .slice k4.gh.wp k4.gh.wn k4.gh.wc, .slice k4.gh.kp k4.gh.kn k4.gh.kc, .slice k4.gh.dp k4.gh.dn k4.gh.dc, .int .i64 S.ver, .int .i64 S.lock, .slice k4.cp k4.cn k4.cc] from rfl)
 have HE6 := Lib.hid (show stV S k6 = .agg #[.int .i64 S.gr.now, .slice k6.gh.wp k6.gh.wn k6.gh.wc, .slice k6.gh.kp k6.gh.kn k6.gh.kc, .slice k6.gh.dp k6.gh.dn k6.gh.dc, .int .i64 S.ver, .int .i64 S.lock, .slice k6.cp k6.cn k6.cc] from rfl)
 clear ho6 hb5 hb5' hw5 hp6 HBo4 HA44 HR5 HN5
 have c0 : W5.cell? ⟨p6, 0, none⟩ = some (.int .i64 S.gr.now) := HA6.out.1.cell 0
 have c1 : W5.cell? ⟨p6, 1, none⟩ = some (.slice k6.gh.wp k6.gh.wn k6.gh.wc) := HA6.out.1.cell 1
 have c2 : W5.cell? ⟨p6, 2, none⟩ = some (.slice k6.gh.kp k6.gh.kn k6.gh.kc) := HA6.out.1.cell 2
 have c3 : W5.cell? ⟨p6, 3, none⟩ = some (.slice k6.gh.dp k6.gh.dn k6.gh.dc) := HA6.out.1.cell 3
 have c4 : W5.cell? ⟨p6, 4, none⟩ = some (.int .i64 S.ver) := HA6.out.1.cell 4
 have c5 : W5.cell? ⟨p6, 5, none⟩ = some (.int .i64 S.lock) := HA6.out.1.cell 5
 have c6 : W5.cell? ⟨p6, 6, none⟩ = some (.slice k6.cp k6.cn k6.cc) := HA6.out.1.cell 6
 have d0 : W5.cell? ⟨p4, 0, none⟩ = some (.int .i64 S.gr.now) := HA45.out.1.cell 0
 have d1 : W5.cell? ⟨p4, 1, none⟩ = some (.slice k4.gh.wp k4.gh.wn k4.gh.wc) := HA45.out.1.cell 1
 have d2 : W5.cell? ⟨p4, 2, none⟩ = some (.slice k4.gh.kp k4.gh.kn k4.gh.kc) := HA45.out.1.cell 2
 have d3 : W5.cell? ⟨p4, 3, none⟩ = some (.slice k4.gh.dp k4.gh.dn k4.gh.dc) := HA45.out.1.cell 3
 have d4 : W5.cell? ⟨p4, 4, none⟩ = some (.int .i64 S.ver) := HA45.out.1.cell 4
 have d5 : W5.cell? ⟨p4, 5, none⟩ = some (.int .i64 S.lock) := HA45.out.1.cell 5
 have d6 : W5.cell? ⟨p4, 6, none⟩ = some (.slice k4.cp k4.cn k4.cc) := HA45.out.1.cell 6
 rw [HW5.out] at c0 c1 c2 c3 c4 c5 c6
 rw [HW5.out] at d0 d1 d2 d3 d4 d5 d6
 unfold stV
 go_wp2_with fail
 rw [← HW5.out, ← HE6.out, ← HE4.out]
 clear c0 c1 c2 c3 c4 c5 c6 d0 d1 d2 d3 d4 d5 d6
 refine (eqStore_same k6 k4 S _ (own4_isIn HA6.out.2) (own4_isIn HA45.out.2) HSS.out).mono ?_
 rintro e Y ⟨rfl, hb⟩
 have HBoY := Lib.hid (HBo5.out.later hb HBo5.out.size)
 have HA4Y := Lib.hid (HA45.out.later hb)
 have HA6Y := Lib.hid (HA6.out.later hb)
 have HR5Y := Lib.hid (HR55.out.below hb HR55.out.lt)
 have HN5Y := Lib.hid (HN55.out.later hb)
 have hzY : p6 + 1 ≤ Y.heap.size := by rw [← hz5]; exact hb.size
 clear hb HBo5 HA45 HA6 HR55 HN55
 rw [← HP6.out]
 go_upto_region 10 with fail
 have HK9 : Hid (∀ w', Below Y.heap.size Y w' → w'.cell? ⟨p5, 0, none⟩ = some (.int .i64 g.now) ∧ w'.cell? ⟨p5, 1, none⟩ = some (.slice h5.wp h5.wn h5.wc) ∧ w'.cell? ⟨p5, 2, none⟩ = some (.slice h5.kp h5.kn h5.kc) ∧ w'.cell? ⟨p5, 3, none⟩ = some (.slice h5.dp h5.dn h5.dc) ∧ w'.cell? ⟨w.heap.size, 0, none⟩ = some (.int .i64 g.now) ∧ w'.cell? ⟨w.heap.size, 1, none⟩ = some (.slice h.wp h.wn h.wc) ∧ w'.cell? ⟨w.heap.size, 2, none⟩ = some (.slice h.kp h.kn h.kc) ∧ w'.cell? ⟨w.heap.size, 3, none⟩ = some (.slice h.dp h.dn h.dc)) := Lib.hid (fun w' hb => by
  have k := HBoY.out.later hb HBoY.out.size
  have x := HR5Y.out.below hb HR5Y.out.lt
  exact ⟨x.cell 0, x.cell 1, x.cell 2, x.cell 3, k.1.cell 0, k.1.cell 1, k.1.cell 2, k.1.cell 3⟩)
 have HB0 := Lib.hid ((Below.refl Y.heap.size Y).drew)
 refine region_L 2 (fun _ => True) (fun w' => w'.cell? ⟨p5, 0, none⟩ = some (.int .i64 g.now) ∧ w'.cell? ⟨p5, 1, none⟩ = some (.slice h5.wp h5.wn h5.wc) ∧ w'.cell? ⟨p5, 2, none⟩ = some (.slice h5.kp h5.kn h5.kc) ∧ w'.cell? ⟨p5, 3, none⟩ = some (.slice h5.dp h5.dn h5.dc) ∧ w'.cell? ⟨w.heap.size, 0, none⟩ = some (.int .i64 g.now) ∧ w'.cell? ⟨w.heap.size, 1, none⟩ = some (.slice h.wp h.wn h.wc) ∧ w'.cell? ⟨w.heap.size, 2, none⟩ = some (.slice h.kp h.kn h.kc) ∧ w'.cell? ⟨w.heap.size, 3, none⟩ = some (.slice h.dp h.dn h.dc)) (by kernel_rfl) ⟨fun _ => trivial, HK9.out _ HB0.out⟩ (fun hHL => ?_)
 refine wpAnyL_take (i := 0) (v := ?_) (by rfl) rfl (by kernel_rfl) (by kernel_rfl) (by kernel_rfl) (fun _ _ _ h => h) (Or.inl ⟨by rfl, ?_⟩) hHL ?_
 rotate_left
 ·intro w hSw; (try dsimp only at hSw); (first | (go_simp; done) | (go_simp; with_reducible rfl))
 clear hHL
 intro hHL
 (try simp only [Act.put, List.setIfInBounds_toArray, List.set_cons_zero, List.set_cons_succ])
 refine wpAnyL_take (i := 1) (v := ?_) (by rfl) rfl (by kernel_rfl) (by kernel_rfl) (by kernel_rfl) (fun _ _ _ h => h) (Or.inl ⟨by rfl, ?_⟩) hHL ?_
 rotate_left
 ·intro w hSw; (try dsimp only at hSw); (first | (go_simp; done) | (go_simp; with_reducible rfl))
 clear hHL
 intro hHL
 (try simp only [Act.put, List.setIfInBounds_toArray, List.set_cons_zero, List.set_cons_succ])
 refine wpAnyL_ready (rs := [2]) (by kernel_rfl) (by simp) ?_
 refine AllReadyL.cons rfl (fun K hK => ?_) AllReadyL.nil
 refine step_callS rfl 11 #[grV g.now h] (by kernel_rfl) (fun x => grV g.now x) (fun x w' => GrNew Y.drew w' x g ∧ Below Y.drew.heap.size Y.drew w') (toGrant_any h g _ (HGi.out.later (HBoY.out.later HB0.out HBoY.out.size).2) HSm.out) ?_
 intro hx u1 hn
 have HNu := Lib.hid hn.1
 have HB1 := Lib.hid (HB0.out.trans (hn.2.mono HB0.out.size))
 clear hn
 refine hK.out _ _ ⟨fun _ => trivial, HK9.out _ HB1.out⟩ (fun hHL => ?_)
 clear hK K
 (try simp only [Act.put, List.setIfInBounds_toArray, List.set_cons_zero, List.set_cons_succ])
 refine wpAnyL_ready (rs := [3]) (by kernel_rfl) (by simp) ?_
 refine AllReadyL.cons rfl (fun K hK => ?_) AllReadyL.nil
 refine step_callTo rfl 14 #[grV g.now h5, grV g.now hx] (by kernel_rfl) (.bool true) (fun w' => Below u1.heap.size u1 w') (eqGrant_same h5 hx g _ (HN5Y.out.isIn.later HB1.out) HNu.out.isIn HSm.out) ?_
 intro u2 hn
 have HB2 := Lib.hid (HB1.out.trans (hn.mono HB1.out.size))
 clear hn
 refine hK.out _ _ ⟨fun _ => trivial, HK9.out _ HB2.out⟩ (fun hHL => ?_)
 clear hK K
 (try simp only [Act.put, List.setIfInBounds_toArray, List.set_cons_zero, List.set_cons_succ])
 refine wpAnyL_take (i := 4) (v := ?_) (by rfl) rfl (by kernel_rfl) (by kernel_rfl) (by kernel_rfl) (fun _ _ _ h => h) (Or.inl ⟨by rfl, ?_⟩) hHL ?_
 rotate_left
 ·intro w hSw; (try dsimp only at hSw); (first | (go_simp; done) | (go_simp; with_reducible rfl))
 clear hHL
 intro hHL
 (try simp only [Act.put, List.setIfInBounds_toArray, List.set_cons_zero, List.set_cons_succ])
 refine wpAnyL_done (by kernel_rfl) ?_ _
 have hb := HB2.out
 have HBoZ := Lib.hid (HBoY.out.later hb HBoY.out.size)
 have HA4Z := Lib.hid (HA4Y.out.later hb)
 have HA6Z := Lib.hid (HA6Y.out.later hb)
 have HR5Z := Lib.hid (HR5Y.out.below hb HR5Y.out.lt)
 have HN5Z := Lib.hid (HN5Y.out.later hb)
 have hzZ : p6 + 1 ≤ u2.heap.size := Nat.le_trans hzY hb.size
 clear hb hHL HB0 HB1 HB2 HNu HK9 HBoY HA4Y HA6Y HR5Y HN5Y
 have x0 : u2.cell? ⟨p5, 0, none⟩ = some (.int .i64 g.now) := HR5Z.out.cell 0
 have x1 : u2.cell? ⟨p5, 1, none⟩ = some (.slice h5.wp h5.wn h5.wc) := HR5Z.out.cell 1
 have x2 : u2.cell? ⟨p5, 2, none⟩ = some (.slice h5.kp h5.kn h5.kc) := HR5Z.out.cell 2
 have x3 : u2.cell? ⟨p5, 3, none⟩ = some (.slice h5.dp h5.dn h5.dc) := HR5Z.out.cell 3
 go_wp2_with fail
 rw [← HE5.out]
 have hw5 : h5.wn = g.words.length ∧ h5.kn = g.keys.length ∧ h5.dn = g.dead.length := HN5Z.out.isIn.1
 have hend5 : end3 h5 1 < 100000000 := by
  have := HSm.out
  unfold GrSmall at this
  unfold end3
  omega
 clear hw5
 refine (markGrant_any h5 g.now 1 _ (by omega) hend5 (new_lst HN5Z.out) (new_apart HN5Z.out)).mono ?_
 rintro e M1 ⟨rfl, _, ho⟩
 have fr5 : ∀ j, InB h5 j → p4 + 1 ≤ j ∧ j < p5 := fun j hj => HK5.out j hj
 have HBoM := Lib.hid (HBoZ.out.later (ho.below (B := p4 + 1) (by omega) (fun j hj => (fr5 j hj).1)) (by omega))
 have HA4M := Lib.hid (HA4Z.out.outG ho (fun hj => by have := fr5 _ hj; omega) (fun j hj hj' => by have := fr5 _ hj'; have := HK4.out j hj; omega))
 have HA6M := Lib.hid (HA6Z.out.outG ho (fun hj => by have := fr5 _ hj; omega) (fun j hj hj' => by have := fr5 _ hj'; have := HK6.out j hj; omega))
 have hzM : p6 + 1 ≤ M1.heap.size := Nat.le_trans hzZ ho.2.2.2.1
 have hneg5 : ¬ (((end3 h5 1 : Nat) : Int) < 0) := by omega
 clear ho fr5 HBoZ HA4Z HA6Z HR5Z HN5Z x0 x1 x2 x3
 have c0 : M1.cell? ⟨p6, 0, none⟩ = some (.int .i64 S.gr.now) := HA6M.out.1.cell 0
 have c1 : M1.cell? ⟨p6, 1, none⟩ = some (.slice k6.gh.wp k6.gh.wn k6.gh.wc) := HA6M.out.1.cell 1
 have c2 : M1.cell? ⟨p6, 2, none⟩ = some (.slice k6.gh.kp k6.gh.kn k6.gh.kc) := HA6M.out.1.cell 2
 have c3 : M1.cell? ⟨p6, 3, none⟩ = some (.slice k6.gh.dp k6.gh.dn k6.gh.dc) := HA6M.out.1.cell 3
 have c4 : M1.cell? ⟨p6, 4, none⟩ = some (.int .i64 S.ver) := HA6M.out.1.cell 4
 have c5 : M1.cell? ⟨p6, 5, none⟩ = some (.int .i64 S.lock) := HA6M.out.1.cell 5
 have c6 : M1.cell? ⟨p6, 6, none⟩ = some (.slice k6.cp k6.cn k6.cc) := HA6M.out.1.cell 6
 have d0 : M1.cell? ⟨p4, 0, none⟩ = some (.int .i64 S.gr.now) := HA4M.out.1.cell 0
 have d1 : M1.cell? ⟨p4, 1, none⟩ = some (.slice k4.gh.wp k4.gh.wn k4.gh.wc) := HA4M.out.1.cell 1
 have d2 : M1.cell? ⟨p4, 2, none⟩ = some (.slice k4.gh.kp k4.gh.kn k4.gh.kc) := HA4M.out.1.cell 2
 have d3 : M1.cell? ⟨p4, 3, none⟩ = some (.slice k4.gh.dp k4.gh.dn k4.gh.dc) := HA4M.out.1.cell 3
 have d4 : M1.cell? ⟨p4, 4, none⟩ = some (.int .i64 S.ver) := HA4M.out.1.cell 4
 have d5 : M1.cell? ⟨p4, 5, none⟩ = some (.int .i64 S.lock) := HA4M.out.1.cell 5
 have d6 : M1.cell? ⟨p4, 6, none⟩ = some (.slice k4.cp k4.cn k4.cc) := HA4M.out.1.cell 6
 go_wp2_with fail
 rw [← HE6.out, ← HE4.out]
 refine (eqStore_same k6 k4 S _ (own4_isIn HA6M.out.2) (own4_isIn HA4M.out.2) HSS.out).mono ?_
 rintro e M2 ⟨rfl, hb⟩
 have HBoN := Lib.hid (HBoM.out.later hb HBoM.out.size)
 have HA4N := Lib.hid (HA4M.out.later hb)
 have HA6N := Lib.hid (HA6M.out.later hb)
 have hzN : p6 + 1 ≤ M2.heap.size := Nat.le_trans hzM hb.size
 clear hb HBoM HA4M HA6M c0 c1 c2 c3 c4 c5 c6 d0 d1 d2 d3 d4 d5 d6
 have c0 : M2.cell? ⟨p6, 0, none⟩ = some (.int .i64 S.gr.now) := HA6N.out.1.cell 0
 have c1 : M2.cell? ⟨p6, 1, none⟩ = some (.slice k6.gh.wp k6.gh.wn k6.gh.wc) := HA6N.out.1.cell 1
 have c2 : M2.cell? ⟨p6, 2, none⟩ = some (.slice k6.gh.kp k6.gh.kn k6.gh.kc) := HA6N.out.1.cell 2
 have c3 : M2.cell? ⟨p6, 3, none⟩ = some (.slice k6.gh.dp k6.gh.dn k6.gh.dc) := HA6N.out.1.cell 3
 have c4 : M2.cell? ⟨p6, 4, none⟩ = some (.int .i64 S.ver) := HA6N.out.1.cell 4
 have c5 : M2.cell? ⟨p6, 5, none⟩ = some (.int .i64 S.lock) := HA6N.out.1.cell 5
 have c6 : M2.cell? ⟨p6, 6, none⟩ = some (.slice k6.cp k6.cn k6.cc) := HA6N.out.1.cell 6
 go_wp2_with fail
 rw [← HE6.out]
 have hend6 : end4 k6 1 < 100000000 := own4_end HA6N.out.2 HSS.out
 refine (markStore_any k6 S 1 _ (by omega) hend6 (own4_lst HA6N.out.2) (own4_apart HA6N.out.2) (fun j hj => (own4_blk HA6N.out.2 j hj).2)).mono ?_
 rintro e M3 ⟨rfl, hm3, ho⟩
 have fr6 : ∀ j, InS k6 j → p5 + 1 ≤ j ∧ j < p6 := fun j hj => HK6.out j hj
 have HBoO := Lib.hid (HBoN.out.later (ho.below (B := p5 + 1) (by omega) (fun j hj => (fr6 j hj).1)) (by omega))
 have HA4O := Lib.hid (HA4N.out.out ho (fun hj => by have := fr6 _ hj; omega) (fun j hj hj' => by have := fr6 _ hj'; have := HK4.out j hj; omega))
 have HR6O := Lib.hid (ho.row HA6N.out.1 HA6N.out.free)
 have HMkO := Lib.hid hm3
 have hneg6 : ¬ (((end4 k6 1 : Nat) : Int) < 0) := by omega
 have heq6 : (((end4 k6 1 : Nat) : Int) != ((end4 k6 1 : Nat) : Int)) = false := by simp
 clear ho fr6 hm3 HBoN HA4N HA6N c0 c1 c2 c3 c4 c5 c6
 have c0 : M3.cell? ⟨p6, 0, none⟩ = some (.int .i64 S.gr.now) := HR6O.out.cell 0
 have c1 : M3.cell? ⟨p6, 1, none⟩ = some (.slice k6.gh.wp k6.gh.wn k6.gh.wc) := HR6O.out.cell 1
 have c2 : M3.cell? ⟨p6, 2, none⟩ = some (.slice k6.gh.kp k6.gh.kn k6.gh.kc) := HR6O.out.cell 2
 have c3 : M3.cell? ⟨p6, 3, none⟩ = some (.slice k6.gh.dp k6.gh.dn k6.gh.dc) := HR6O.out.cell 3
 have c4 : M3.cell? ⟨p6, 4, none⟩ = some (.int .i64 S.ver) := HR6O.out.cell 4
 have c5 : M3.cell? ⟨p6, 5, none⟩ = some (.int .i64 S.lock) := HR6O.out.cell 5
 have c6 : M3.cell? ⟨p6, 6, none⟩ = some (.slice k6.cp k6.cn k6.cc) := HR6O.out.cell 6
 go_wp2_with fail
 rw [← HE6.out]
 refine (heldStore_any k6 S 1 _ (by omega) hend6 HMkO.out).mono ?_
 rintro e M4 ⟨rfl, hb⟩
 have HBoP := Lib.hid (HBoO.out.later hb HBoO.out.size)
 have HA4P := Lib.hid (HA4O.out.later hb)
 have HR6P := Lib.hid (HR6O.out.below hb HR6O.out.lt)
 have HMkP := Lib.hid (HMkO.out.below hb)
 clear hb HBoO HA4O HR6O HMkO c0 c1 c2 c3 c4 c5 c6
 have a0 : M4.cell? ⟨w.heap.size, 0, none⟩ = some (.int .i64 g.now) := HBoP.out.1.cell 0
 have a1 : M4.cell? ⟨w.heap.size, 1, none⟩ = some (.slice h.wp h.wn h.wc) := HBoP.out.1.cell 1
 have a2 : M4.cell? ⟨w.heap.size, 2, none⟩ = some (.slice h.kp h.kn h.kc) := HBoP.out.1.cell 2
 have a3 : M4.cell? ⟨w.heap.size, 3, none⟩ = some (.slice h.dp h.dn h.dc) := HBoP.out.1.cell 3
 go_wp2_with fail
 rw [← HE.out]
 refine (toGrant_any h g _ (HGi.out.later HBoP.out.2) HSm.out).mono ?_
 rintro e M5 ⟨h9, rfl, hn9, hb⟩
 have HBoQ := Lib.hid (HBoP.out.later hb HBoP.out.size)
 have HA4Q := Lib.hid (HA4P.out.later hb)
 have HR6Q := Lib.hid (HR6P.out.below hb HR6P.out.lt)
 have HMkQ := Lib.hid (HMkP.out.below hb)
 have HN9 := Lib.hid hn9
 clear hb hn9 HBoP HA4P HR6P HMkP a0 a1 a2 a3
 go_wp2_with fail
 refine (sn_impl g h9 M5 HN9.out.isIn HSm.out HWf.out).mono ?_
 rintro e M6' ⟨k10, rfl, ho10, hb6'⟩
 rw [← HS.out] at ho10 ⊢
 obtain ⟨M6, hm6⟩ : ∃ m6, m6 = M6'.alloc (.cells #[.int .i64 S.gr.now, .slice k10.gh.wp k10.gh.wn k10.gh.wc, .slice k10.gh.kp k10.gh.kn k10.gh.kc, .slice k10.gh.dp k10.gh.dn k10.gh.dc, .int .i64 S.ver, .int .i64 S.lock, .slice k10.cp k10.cn k10.cc] 34) := ⟨_, rfl⟩
 obtain ⟨p10, hp10⟩ : ∃ p, p = M6'.heap.size := ⟨_, rfl⟩
 have hb6 : Below M5.heap.size M5 M6 := by rw [hm6]; exact hb6'.alloc hb6'.size _
 have HBoR := Lib.hid (HBoQ.out.later hb6 HBoQ.out.size)
 have HA4R := Lib.hid (HA4Q.out.later hb6)
 have HR6R := Lib.hid (HR6Q.out.below hb6 HR6Q.out.lt)
 have HMkR := Lib.hid (HMkQ.out.below hb6)
 have HA10 : Hid (AnsS M5.heap.size S M6 p10 k10) := Lib.hid (by rw [hm6, hp10]; exact ⟨heap_alloc_new _ _, ho10.lat ((Below.refl _ _).alloc (Nat.le_refl _) _)⟩)
 have HM6 := Lib.hid hm6
 have HP10 := Lib.hid hp10
 have HE10 := Lib.hid (show stV S k10 = .agg #[.int .i64 S.gr.now, .slice k10.gh.wp k10.gh.wn k10.gh.wc, .slice k10.gh.kp k10.gh.kn k10.gh.kc, .slice k10.gh.dp k10.gh.dn k10.gh.dc, .int .i64 S.ver, .int .i64 S.lock, .slice k10.cp k10.cn k10.cc] from rfl)
 clear ho10 hb6 hb6' hm6 hp10 HN9 HBoQ HA4Q HR6Q HMkQ
 have c0 : M6.cell? ⟨p10, 0, none⟩ = some (.int .i64 S.gr.now) := HA10.out.1.cell 0
 have c1 : M6.cell? ⟨p10, 1, none⟩ = some (.slice k10.gh.wp k10.gh.wn k10.gh.wc) := HA10.out.1.cell 1
 have c2 : M6.cell? ⟨p10, 2, none⟩ = some (.slice k10.gh.kp k10.gh.kn k10.gh.kc) := HA10.out.1.cell 2
 have c3 : M6.cell? ⟨p10, 3, none⟩ = some (.slice k10.gh.dp k10.gh.dn k10.gh.dc) := HA10.out.1.cell 3
 have c4 : M6.cell? ⟨p10, 4, none⟩ = some (.int .i64 S.ver) := HA10.out.1.cell 4
 have c5 : M6.cell? ⟨p10, 5, none⟩ = some (.int .i64 S.lock) := HA10.out.1.cell 5
 have c6 : M6.cell? ⟨p10, 6, none⟩ = some (.slice k10.cp k10.cn k10.cc) := HA10.out.1.cell 6
 have d0 : M6.cell? ⟨p4, 0, none⟩ = some (.int .i64 S.gr.now) := HA4R.out.1.cell 0
 have d1 : M6.cell? ⟨p4, 1, none⟩ = some (.slice k4.gh.wp k4.gh.wn k4.gh.wc) := HA4R.out.1.cell 1
 have d2 : M6.cell? ⟨p4, 2, none⟩ = some (.slice k4.gh.kp k4.gh.kn k4.gh.kc) := HA4R.out.1.cell 2
 have d3 : M6.cell? ⟨p4, 3, none⟩ = some (.slice k4.gh.dp k4.gh.dn k4.gh.dc) := HA4R.out.1.cell 3
 have d4 : M6.cell? ⟨p4, 4, none⟩ = some (.int .i64 S.ver) := HA4R.out.1.cell 4
 have d5 : M6.cell? ⟨p4, 5, none⟩ = some (.int .i64 S.lock) := HA4R.out.1.cell 5
 have d6 : M6.cell? ⟨p4, 6, none⟩ = some (.slice k4.cp k4.cn k4.cc) := HA4R.out.1.cell 6
 rw [HM6.out] at c0 c1 c2 c3 c4 c5 c6
 rw [HM6.out] at d0 d1 d2 d3 d4 d5 d6
 unfold stV
 go_wp2_with fail
 rw [← HM6.out, ← HE10.out, ← HE4.out]
 clear c0 c1 c2 c3 c4 c5 c6 d0 d1 d2 d3 d4 d5 d6
 refine (eqStore_same k10 k4 S _ (own4_isIn HA10.out.2) (own4_isIn HA4R.out.2) HSS.out).mono ?_
 rintro e M7 ⟨rfl, hb⟩
 have HBoS := Lib.hid (HBoR.out.later hb HBoR.out.size)
 have HR6S := Lib.hid (HR6R.out.below hb HR6R.out.lt)
 have HMkS := Lib.hid (HMkR.out.below hb)
 clear hb HBoR HA4R HR6R HMkR HA10
 have c0 : M7.cell? ⟨p6, 0, none⟩ = some (.int .i64 S.gr.now) := HR6S.out.cell 0
 have c1 : M7.cell? ⟨p6, 1, none⟩ = some (.slice k6.gh.wp k6.gh.wn k6.gh.wc) := HR6S.out.cell 1
 have c2 : M7.cell? ⟨p6, 2, none⟩ = some (.slice k6.gh.kp k6.gh.kn k6.gh.kc) := HR6S.out.cell 2
 have c3 : M7.cell? ⟨p6, 3, none⟩ = some (.slice k6.gh.dp k6.gh.dn k6.gh.dc) := HR6S.out.cell 3
 have c4 : M7.cell? ⟨p6, 4, none⟩ = some (.int .i64 S.ver) := HR6S.out.cell 4
 have c5 : M7.cell? ⟨p6, 5, none⟩ = some (.int .i64 S.lock) := HR6S.out.cell 5
 have c6 : M7.cell? ⟨p6, 6, none⟩ = some (.slice k6.cp k6.cn k6.cc) := HR6S.out.cell 6
 go_wp2_with fail
 rw [← HE6.out]
 refine (heldStore_any k6 S 1 _ (by omega) hend6 HMkS.out).mono ?_
 rintro e M8 ⟨rfl, hb⟩
 have HBoT := Lib.hid (HBoS.out.later hb HBoS.out.size)
 clear hb HBoS HR6S HMkS c0 c1 c2 c3 c4 c5 c6
 go_wp2_with fail
 go_ret
 exact ⟨rfl, HBoT.out.2⟩
end Go.Proofs.YtjccnjfdeedneaaGreat
