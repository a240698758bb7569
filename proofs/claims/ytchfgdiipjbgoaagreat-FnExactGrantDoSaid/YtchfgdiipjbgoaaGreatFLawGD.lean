/- GrantDo: the walk of the law. -/
import Derived.Test.YtchfgdiipjbgoaaGreatFLawGD0
namespace Go.Proofs.YtchfgdiipjbgoaaGreat
open Go Go.RowKit Go.Lib
set_option linter.unusedVariables false
set_option maxRecDepth 100000

set_option maxHeartbeats 16000000 in
theorem lawGrantDo (h : GH) (g : Gr) (r : RQ) (w : World) (hin : GrArgF w h g) (hp : r.proof.size ≤ maxLen) : Calls Tryz.prog 5 #[grV g.now h, rqV r] w fun e w' => e = .returned (.bool true) ∧ Below w.heap.size w w' := by
 obtain ⟨W, hW⟩ : ∃ W, W = (w.alloc (.cells #[.int .i64 g.now, .slice h.wp h.wn h.wc, .slice h.kp h.kn h.kc, .slice h.dp h.dn h.dc] 82)).alloc (.cells #[.int .i64 r.no, .int .i64 r.kind, .int .i64 r.client, .int .i64 r.code, .int .i64 r.token, .string r.proof, .int .i64 r.upTo] 83) := ⟨_, rfl⟩
 have hb0 : Below w.heap.size w W := by rw [hW]; go_grown
 have r0 : Row W w.heap.size 82 (grL g.now h) := by
  rw [hW]
  exact Row.below (heap_alloc_new w _) ((Below.refl _ _).alloc (Nat.le_refl _) _) (by simp)
 have r1 : Row W (w.heap.size + 1) 83 (rqL r) := by
  rw [hW]
  have h := heap_alloc_new (w.alloc (.cells #[.int .i64 g.now, .slice h.wp h.wn h.wc, .slice h.kp h.kn h.kc, .slice h.dp h.dn h.dc] 82)) (.cells #[.int .i64 r.no, .int .i64 r.kind, .int .i64 r.client, .int .i64 r.code, .int .i64 r.token, .string r.proof, .int .i64 r.upTo] 83)
  rw [World.size_alloc] at h
  exact h
 have HBo := Lib.hid (show Boxes w h g r W from ⟨r0, r1, hb0⟩)
 have HW := Lib.hid hW
 have HA : Hid (GrArg W h g) := Lib.hid ⟨hin.1.1.later hb0, hin.1.2⟩
 have HGi : Hid (GrIn w h g) := Lib.hid hin.1.1
 have HWf := Lib.hid hin.2
 have HE := Lib.hid (show grV g.now h = .agg #[.int .i64 g.now, .slice h.wp h.wn h.wc, .slice h.kp h.kn h.kc, .slice h.dp h.dn h.dc] from rfl)
 have HV := Lib.hid (show rqV r = .agg #[.int .i64 r.no, .int .i64 r.kind, .int .i64 r.client, .int .i64 r.code, .int .i64 r.token, .string r.proof, .int .i64 r.upTo] from rfl)
 obtain ⟨⟨G, s, c⟩, hD⟩ : ∃ x, gdD g r = x := ⟨_, rfl⟩
 have HSG := Lib.hid (gd_small hD)
 have HD := Lib.hid hD
 clear hb0 r0 r1 hW hin hD
 rw [HE.out, HV.out]
 go_enter Tryz.func5, Tryz.ntmps5
 go_wp2_with fail
 rw [← HW.out, ← HE.out]
 refine (szGrant_any h g _ HA.out).mono ?_
 rintro e W1 ⟨n, rfl, hr, hr2, hb1⟩
 have HBo1 := Lib.hid (HBo.out.later hb1 HBo.out.size)
 clear hb1 HA HW HBo
 by_cases hneg : n < 0
 ·clear hr
  go_wp2_with fail
  go_ret
  exact ⟨rfl, HBo1.out.2.2⟩
 have HSm := Lib.hid (hr (by omega))
 have hn0 : 0 ≤ n := by omega
 clear hr
 have b0 : W1.cell? ⟨w.heap.size + 1, 0, none⟩ = some (.int .i64 r.no) := HBo1.out.2.1.cell 0
 have b1 : W1.cell? ⟨w.heap.size + 1, 1, none⟩ = some (.int .i64 r.kind) := HBo1.out.2.1.cell 1
 have b2 : W1.cell? ⟨w.heap.size + 1, 2, none⟩ = some (.int .i64 r.client) := HBo1.out.2.1.cell 2
 have b3 : W1.cell? ⟨w.heap.size + 1, 3, none⟩ = some (.int .i64 r.code) := HBo1.out.2.1.cell 3
 have b4 : W1.cell? ⟨w.heap.size + 1, 4, none⟩ = some (.int .i64 r.token) := HBo1.out.2.1.cell 4
 have b5 : W1.cell? ⟨w.heap.size + 1, 5, none⟩ = some (.string r.proof) := HBo1.out.2.1.cell 5
 have b6 : W1.cell? ⟨w.heap.size + 1, 6, none⟩ = some (.int .i64 r.upTo) := HBo1.out.2.1.cell 6
 go_wp2_with fail
 rw [← HV.out]
 refine (szReqL_any r n _ hp hn0 hr2).mono ?_
 rintro e W7 ⟨⟨m, rfl⟩, hb2⟩
 have HBo7 := Lib.hid (HBo1.out.later hb2 HBo1.out.size)
 clear hb2 HBo1 b0 b1 b2 b3 b4 b5 b6 hneg hn0 hr2
 by_cases hneg : m < 0
 ·go_wp2_with fail
  go_ret
  exact ⟨rfl, HBo7.out.2.2⟩
 have HDs : Hid (∀ w' k, GrIn w' k g → SrcG w' k g → Calls Tryz.prog 18 #[grV g.now k, rqV r] w' (GDMade G s c w')) := Lib.hid (fun w' k h1 h2 => by
  have := gdo_spec g k r w' h1 h2 HSm.out hp
  rwa [HD.out] at this)
 have HDi : Hid (∀ w' k, GrIn w' k g → Calls Tryz.prog 13 #[grV g.now k, rqV r] w' (GDMade G s c w')) := Lib.hid (fun w' k h1 => by
  have := gdo_impl g k r w' h1 HWf.out HSm.out hp
  rwa [HD.out] at this)
 have HK9 : Hid (∀ w', Below W7.heap.size W7 w' → w'.cell? ⟨w.heap.size, 0, none⟩ = some (.int .i64 g.now) ∧ w'.cell? ⟨w.heap.size, 1, none⟩ = some (.slice h.wp h.wn h.wc) ∧ w'.cell? ⟨w.heap.size, 2, none⟩ = some (.slice h.kp h.kn h.kc) ∧ w'.cell? ⟨w.heap.size, 3, none⟩ = some (.slice h.dp h.dn h.dc) ∧ w'.cell? ⟨w.heap.size + 1, 0, none⟩ = some (.int .i64 r.no) ∧ w'.cell? ⟨w.heap.size + 1, 1, none⟩ = some (.int .i64 r.kind) ∧ w'.cell? ⟨w.heap.size + 1, 2, none⟩ = some (.int .i64 r.client) ∧ w'.cell? ⟨w.heap.size + 1, 3, none⟩ = some (.int .i64 r.code) ∧ w'.cell? ⟨w.heap.size + 1, 4, none⟩ = some (.int .i64 r.token) ∧ w'.cell? ⟨w.heap.size + 1, 5, none⟩ = some (.string r.proof) ∧ w'.cell? ⟨w.heap.size + 1, 6, none⟩ = some (.int .i64 r.upTo)) := Lib.hid (fun w' hb => by
  have k := HBo7.out.later hb HBo7.out.size
  exact ⟨k.1.cell 0, k.1.cell 1, k.1.cell 2, k.1.cell 3, k.2.1.cell 0, k.2.1.cell 1, k.2.1.cell 2, k.2.1.cell 3, k.2.1.cell 4, k.2.1.cell 5, k.2.1.cell 6⟩)
 have HIn : Hid (∀ w', Below W7.heap.size W7 w' → GrIn w' h g) := Lib.hid (fun w' hb => HGi.out.later (HBo7.out.later hb HBo7.out.size).2.2)
 go_upto_region 8 with fail
 go_cut [6] (fun v6 wx => ∃ q k, v6 = .pointer (some ⟨q, 0, none⟩) ∧ Ans W7.heap.size G s c wx q k ∧ Below W7.heap.size W7 wx)
 case first =>
  have HB0 := Lib.hid ((Below.refl W7.heap.size W7).drew)
  refine region_L 6 (fun _ => True) (fun w' => w'.cell? ⟨w.heap.size, 0, none⟩ = some (.int .i64 g.now) ∧ w'.cell? ⟨w.heap.size, 1, none⟩ = some (.slice h.wp h.wn h.wc) ∧ w'.cell? ⟨w.heap.size, 2, none⟩ = some (.slice h.kp h.kn h.kc) ∧ w'.cell? ⟨w.heap.size, 3, none⟩ = some (.slice h.dp h.dn h.dc) ∧ w'.cell? ⟨w.heap.size + 1, 0, none⟩ = some (.int .i64 r.no) ∧ w'.cell? ⟨w.heap.size + 1, 1, none⟩ = some (.int .i64 r.kind) ∧ w'.cell? ⟨w.heap.size + 1, 2, none⟩ = some (.int .i64 r.client) ∧ w'.cell? ⟨w.heap.size + 1, 3, none⟩ = some (.int .i64 r.code) ∧ w'.cell? ⟨w.heap.size + 1, 4, none⟩ = some (.int .i64 r.token) ∧ w'.cell? ⟨w.heap.size + 1, 5, none⟩ = some (.string r.proof) ∧ w'.cell? ⟨w.heap.size + 1, 6, none⟩ = some (.int .i64 r.upTo)) (by kernel_rfl) ⟨fun _ => trivial, HK9.out _ HB0.out⟩ (fun hHL => ?_)
  refine wpAnyL_take (i := 0) (v := ?_) (by rfl) rfl (by kernel_rfl) (by kernel_rfl) (by kernel_rfl) (fun _ _ _ h => h) (Or.inl ⟨by rfl, ?_⟩) hHL ?_
  rotate_left
  ·intro w hSw; (try dsimp only at hSw); (first | (go_simp; done) | (go_simp; with_reducible rfl))
  clear hHL
  intro hHL
  (try simp only [Act.put, List.setIfInBounds_toArray, List.set_cons_zero, List.set_cons_succ])
  refine wpAnyL_take (i := 2) (v := ?_) (by rfl) rfl (by kernel_rfl) (by kernel_rfl) (by kernel_rfl) (fun _ _ _ h => h) (Or.inl ⟨by rfl, ?_⟩) hHL ?_
  rotate_left
  ·intro w hSw; (try dsimp only at hSw); (first | (go_simp; done) | (go_simp; with_reducible rfl))
  clear hHL
  intro hHL
  (try simp only [Act.put, List.setIfInBounds_toArray, List.set_cons_zero, List.set_cons_succ])
  refine wpAnyL_ready (rs := [1, 5]) (by kernel_rfl) (by simp) ?_
  refine AllReadyL.cons rfl (fun K hK => ?_) (AllReadyL.cons rfl (fun K hK => ?_) AllReadyL.nil)
  ·refine step_callE rfl 55 #[grV g.now h] (by kernel_rfl) (fun x => grV g.now x) (fun x w' => GrNew W7.drew w' x g ∧ Below W7.drew.heap.size W7.drew w') (toGrant_any h g _ (HIn.out _ HB0.out) HSm.out) ?_
   intro h9 u1 hn
   have HC := Lib.hid hn.2
   have HN := Lib.hid hn.1
   have HB1 := Lib.hid (HB0.out.trans (hn.2.mono HB0.out.size))
   clear hn
   refine hK.out _ _ ⟨fun _ => trivial, HK9.out _ HB1.out⟩ (fun hHL => ?_)
   clear hK K
   (try simp only [Act.put, List.setIfInBounds_toArray, List.set_cons_zero, List.set_cons_succ])
   refine wpAnyL_ready (rs := [3, 5]) (by kernel_rfl) (by simp) ?_
   refine AllReadyL.cons rfl (fun K hK => ?_) (AllReadyL.cons rfl (fun K hK => ?_) AllReadyL.nil)
   ·refine step_callTo rfl 56 #[rqV r] (by kernel_rfl) (rqV r) (fun w' => Below u1.heap.size u1 w') (toReqG_any r _) ?_
    intro u2 hn
    have HC := Lib.hid hn
    have HN := Lib.hid (HN.out.later hn)
    have HB2 := Lib.hid (HB1.out.trans (hn.mono HB1.out.size))
    clear hn
    refine hK.out _ _ ⟨fun _ => trivial, HK9.out _ HB2.out⟩ (fun hHL => ?_)
    clear hK K
    (try simp only [Act.put, List.setIfInBounds_toArray, List.set_cons_zero, List.set_cons_succ])
    refine wpAnyL_ready (rs := [4, 5]) (by kernel_rfl) (by simp) ?_
    refine AllReadyL.cons rfl (fun K hK => ?_) (AllReadyL.cons rfl (fun K hK => ?_) AllReadyL.nil)
    ·refine step_callE rfl 18 #[grV g.now h9, rqV r] (by kernel_rfl) (fun x => goV G.now x s c) (fun x w' => GrOwn u2.heap.size G x w' ∧ Below u2.heap.size u2 w') (HDs.out _ h9 HN.out.isIn (new_src HN.out)) ?_
     intro k u3 hn
     have HC := Lib.hid hn.2
     have HOw := Lib.hid (own3_down hn.1 HB2.out.size)
     have HB3 := Lib.hid (HB2.out.trans (hn.2.mono HB2.out.size))
     clear hn HN
     refine hK.out _ _ ⟨fun _ => trivial, HK9.out _ HB3.out⟩ (fun hHL => ?_)
     clear hK K
     (try simp only [Act.put, List.setIfInBounds_toArray, List.set_cons_zero, List.set_cons_succ])
     refine wpAnyL_ready (rs := [5]) (by kernel_rfl) (by simp) ?_
     refine AllReadyL.cons rfl (fun K hK => ?_) AllReadyL.nil
     ·go_simp
      have HQ := Lib.hid (show Row (u3.alloc (.cells #[.int .i64 0, .slice none 0 0, .slice none 0 0, .slice none 0 0, .int .i64 0, .int .i64 0, .int .i64 0, .bool false, .int .i64 0] 35)) u3.heap.size 35 [.int .i64 0, .slice none 0 0, .slice none 0 0, .slice none 0 0, .int .i64 0, .int .i64 0, .int .i64 0, .bool false, .int .i64 0] from heap_alloc_new u3 _)
      have hq : W7.heap.size ≤ u3.heap.size := HB3.out.size
      have HB4 := Lib.hid (HB3.out.alloc HB3.out.size (.cells #[.int .i64 0, .slice none 0 0, .slice none 0 0, .slice none 0 0, .int .i64 0, .int .i64 0, .int .i64 0, .bool false, .int .i64 0] 35))
      have HOw := Lib.hid (HOw.out.later ((Below.refl u3.heap.size u3).alloc (Nat.le_refl _) (.cells #[.int .i64 0, .slice none 0 0, .slice none 0 0, .slice none 0 0, .int .i64 0, .int .i64 0, .int .i64 0, .bool false, .int .i64 0] 35)))
      refine hK.out _ _ ⟨fun _ => trivial, HK9.out _ HB4.out⟩ (fun hHL => ?_)
      clear hK K
      (try simp only [Act.put, List.setIfInBounds_toArray, List.set_cons_zero, List.set_cons_succ])
      refine wpAnyL_ready (rs := [6]) (by kernel_rfl) (by simp) ?_
      refine AllReadyL.cons rfl (fun K hK => ?_) AllReadyL.nil
      refine step_stG rfl 35 (.tmp 6) (.tmp 27) rfl _ 0 #[.int .i64 G.now, .slice k.wp k.wn k.wc, .slice k.kp k.kn k.kc, .slice k.dp k.dn k.dc, .int .i64 s.code, .int .i64 s.token, .int .i64 s.next, .bool s.yes, .int .i64 c] rfl rfl (HQ.out.there 0 9 (by simp)) sizeGO (oneGO G.now k s c) ?_
      obtain ⟨hb8, ha8⟩ := ans_put (s := s) (c := c) HQ.out HOw.out hq HB4.out
      refine hK.out _ _ ⟨fun _ => trivial, HK9.out _ hb8⟩ (fun hHL => ?_)
      clear hK K hHL
      refine wpAnyL_done (by kernel_rfl) ?_ _
      have HA8 := Lib.hid ha8
      have HB8 := Lib.hid hb8
      clear ha8 hb8 HQ HOw
      go_wp2_with fail
      go_meet
      exact ⟨_, k, rfl, HA8.out, HB8.out⟩
    ·go_simp
     have HQ := Lib.hid (show Row (u2.alloc (.cells #[.int .i64 0, .slice none 0 0, .slice none 0 0, .slice none 0 0, .int .i64 0, .int .i64 0, .int .i64 0, .bool false, .int .i64 0] 35)) u2.heap.size 35 [.int .i64 0, .slice none 0 0, .slice none 0 0, .slice none 0 0, .int .i64 0, .int .i64 0, .int .i64 0, .bool false, .int .i64 0] from heap_alloc_new u2 _)
     have hq : W7.heap.size ≤ u2.heap.size := HB2.out.size
     have HB3 := Lib.hid (HB2.out.alloc HB2.out.size (.cells #[.int .i64 0, .slice none 0 0, .slice none 0 0, .slice none 0 0, .int .i64 0, .int .i64 0, .int .i64 0, .bool false, .int .i64 0] 35))
     have HN := Lib.hid (HN.out.later ((Below.refl u2.heap.size u2).alloc (Nat.le_refl _) (.cells #[.int .i64 0, .slice none 0 0, .slice none 0 0, .slice none 0 0, .int .i64 0, .int .i64 0, .int .i64 0, .bool false, .int .i64 0] 35)))
     refine hK.out _ _ ⟨fun _ => trivial, HK9.out _ HB3.out⟩ (fun hHL => ?_)
     clear hK K
     (try simp only [Act.put, List.setIfInBounds_toArray, List.set_cons_zero, List.set_cons_succ])
     refine wpAnyL_ready (rs := [4]) (by kernel_rfl) (by simp) ?_
     refine AllReadyL.cons rfl (fun K hK => ?_) AllReadyL.nil
     ·refine step_callE rfl 18 #[grV g.now h9, rqV r] (by kernel_rfl) (fun x => goV G.now x s c) (fun x w' => GrOwn (u2.alloc (.cells #[.int .i64 0, .slice none 0 0, .slice none 0 0, .slice none 0 0, .int .i64 0, .int .i64 0, .int .i64 0, .bool false, .int .i64 0] 35)).heap.size G x w' ∧ Below (u2.alloc (.cells #[.int .i64 0, .slice none 0 0, .slice none 0 0, .slice none 0 0, .int .i64 0, .int .i64 0, .int .i64 0, .bool false, .int .i64 0] 35)).heap.size (u2.alloc (.cells #[.int .i64 0, .slice none 0 0, .slice none 0 0, .slice none 0 0, .int .i64 0, .int .i64 0, .int .i64 0, .bool false, .int .i64 0] 35)) w') (HDs.out _ h9 HN.out.isIn (new_src HN.out)) ?_
      intro k u4 hn
      have HC := Lib.hid hn.2
      have HOw := Lib.hid (own3_down hn.1 HB3.out.size)
      have HB4 := Lib.hid (HB3.out.trans (hn.2.mono HB3.out.size))
      clear hn HN
      have HQ := Lib.hid (HQ.out.below HC.out HQ.out.lt)
      refine hK.out _ _ ⟨fun _ => trivial, HK9.out _ HB4.out⟩ (fun hHL => ?_)
      clear hK K
      (try simp only [Act.put, List.setIfInBounds_toArray, List.set_cons_zero, List.set_cons_succ])
      refine wpAnyL_ready (rs := [6]) (by kernel_rfl) (by simp) ?_
      refine AllReadyL.cons rfl (fun K hK => ?_) AllReadyL.nil
      refine step_stG rfl 35 (.tmp 6) (.tmp 27) rfl _ 0 #[.int .i64 G.now, .slice k.wp k.wn k.wc, .slice k.kp k.kn k.kc, .slice k.dp k.dn k.dc, .int .i64 s.code, .int .i64 s.token, .int .i64 s.next, .bool s.yes, .int .i64 c] rfl rfl (HQ.out.there 0 9 (by simp)) sizeGO (oneGO G.now k s c) ?_
      obtain ⟨hb8, ha8⟩ := ans_put (s := s) (c := c) HQ.out HOw.out hq HB4.out
      refine hK.out _ _ ⟨fun _ => trivial, HK9.out _ hb8⟩ (fun hHL => ?_)
      clear hK K hHL
      refine wpAnyL_done (by kernel_rfl) ?_ _
      have HA8 := Lib.hid ha8
      have HB8 := Lib.hid hb8
      clear ha8 hb8 HQ HOw
      go_wp2_with fail
      go_meet
      exact ⟨_, k, rfl, HA8.out, HB8.out⟩
   ·go_simp
    have HQ := Lib.hid (show Row (u1.alloc (.cells #[.int .i64 0, .slice none 0 0, .slice none 0 0, .slice none 0 0, .int .i64 0, .int .i64 0, .int .i64 0, .bool false, .int .i64 0] 35)) u1.heap.size 35 [.int .i64 0, .slice none 0 0, .slice none 0 0, .slice none 0 0, .int .i64 0, .int .i64 0, .int .i64 0, .bool false, .int .i64 0] from heap_alloc_new u1 _)
    have hq : W7.heap.size ≤ u1.heap.size := HB1.out.size
    have HB2 := Lib.hid (HB1.out.alloc HB1.out.size (.cells #[.int .i64 0, .slice none 0 0, .slice none 0 0, .slice none 0 0, .int .i64 0, .int .i64 0, .int .i64 0, .bool false, .int .i64 0] 35))
    have HN := Lib.hid (HN.out.later ((Below.refl u1.heap.size u1).alloc (Nat.le_refl _) (.cells #[.int .i64 0, .slice none 0 0, .slice none 0 0, .slice none 0 0, .int .i64 0, .int .i64 0, .int .i64 0, .bool false, .int .i64 0] 35)))
    refine hK.out _ _ ⟨fun _ => trivial, HK9.out _ HB2.out⟩ (fun hHL => ?_)
    clear hK K
    (try simp only [Act.put, List.setIfInBounds_toArray, List.set_cons_zero, List.set_cons_succ])
    refine wpAnyL_ready (rs := [3]) (by kernel_rfl) (by simp) ?_
    refine AllReadyL.cons rfl (fun K hK => ?_) AllReadyL.nil
    ·refine step_callTo rfl 56 #[rqV r] (by kernel_rfl) (rqV r) (fun w' => Below (u1.alloc (.cells #[.int .i64 0, .slice none 0 0, .slice none 0 0, .slice none 0 0, .int .i64 0, .int .i64 0, .int .i64 0, .bool false, .int .i64 0] 35)).heap.size (u1.alloc (.cells #[.int .i64 0, .slice none 0 0, .slice none 0 0, .slice none 0 0, .int .i64 0, .int .i64 0, .int .i64 0, .bool false, .int .i64 0] 35)) w') (toReqG_any r _) ?_
     intro u3 hn
     have HC := Lib.hid hn
     have HN := Lib.hid (HN.out.later hn)
     have HB3 := Lib.hid (HB2.out.trans (hn.mono HB2.out.size))
     clear hn
     have HQ := Lib.hid (HQ.out.below HC.out HQ.out.lt)
     refine hK.out _ _ ⟨fun _ => trivial, HK9.out _ HB3.out⟩ (fun hHL => ?_)
     clear hK K
     (try simp only [Act.put, List.setIfInBounds_toArray, List.set_cons_zero, List.set_cons_succ])
     refine wpAnyL_ready (rs := [4]) (by kernel_rfl) (by simp) ?_
     refine AllReadyL.cons rfl (fun K hK => ?_) AllReadyL.nil
     ·refine step_callE rfl 18 #[grV g.now h9, rqV r] (by kernel_rfl) (fun x => goV G.now x s c) (fun x w' => GrOwn u3.heap.size G x w' ∧ Below u3.heap.size u3 w') (HDs.out _ h9 HN.out.isIn (new_src HN.out)) ?_
      intro k u4 hn
      have HC := Lib.hid hn.2
      have HOw := Lib.hid (own3_down hn.1 HB3.out.size)
      have HB4 := Lib.hid (HB3.out.trans (hn.2.mono HB3.out.size))
      clear hn HN
      have HQ := Lib.hid (HQ.out.below HC.out HQ.out.lt)
      refine hK.out _ _ ⟨fun _ => trivial, HK9.out _ HB4.out⟩ (fun hHL => ?_)
      clear hK K
      (try simp only [Act.put, List.setIfInBounds_toArray, List.set_cons_zero, List.set_cons_succ])
      refine wpAnyL_ready (rs := [6]) (by kernel_rfl) (by simp) ?_
      refine AllReadyL.cons rfl (fun K hK => ?_) AllReadyL.nil
      refine step_stG rfl 35 (.tmp 6) (.tmp 27) rfl _ 0 #[.int .i64 G.now, .slice k.wp k.wn k.wc, .slice k.kp k.kn k.kc, .slice k.dp k.dn k.dc, .int .i64 s.code, .int .i64 s.token, .int .i64 s.next, .bool s.yes, .int .i64 c] rfl rfl (HQ.out.there 0 9 (by simp)) sizeGO (oneGO G.now k s c) ?_
      obtain ⟨hb8, ha8⟩ := ans_put (s := s) (c := c) HQ.out HOw.out hq HB4.out
      refine hK.out _ _ ⟨fun _ => trivial, HK9.out _ hb8⟩ (fun hHL => ?_)
      clear hK K hHL
      refine wpAnyL_done (by kernel_rfl) ?_ _
      have HA8 := Lib.hid ha8
      have HB8 := Lib.hid hb8
      clear ha8 hb8 HQ HOw
      go_wp2_with fail
      go_meet
      exact ⟨_, k, rfl, HA8.out, HB8.out⟩
  ·go_simp
   have HQ := Lib.hid (show Row (W7.drew.alloc (.cells #[.int .i64 0, .slice none 0 0, .slice none 0 0, .slice none 0 0, .int .i64 0, .int .i64 0, .int .i64 0, .bool false, .int .i64 0] 35)) W7.heap.size 35 [.int .i64 0, .slice none 0 0, .slice none 0 0, .slice none 0 0, .int .i64 0, .int .i64 0, .int .i64 0, .bool false, .int .i64 0] from heap_alloc_new W7.drew _)
   have hq : W7.heap.size ≤ W7.heap.size := HB0.out.size
   have HB1 := Lib.hid (HB0.out.alloc HB0.out.size (.cells #[.int .i64 0, .slice none 0 0, .slice none 0 0, .slice none 0 0, .int .i64 0, .int .i64 0, .int .i64 0, .bool false, .int .i64 0] 35))
   refine hK.out _ _ ⟨fun _ => trivial, HK9.out _ HB1.out⟩ (fun hHL => ?_)
   clear hK K
   (try simp only [Act.put, List.setIfInBounds_toArray, List.set_cons_zero, List.set_cons_succ])
   refine wpAnyL_ready (rs := [1]) (by kernel_rfl) (by simp) ?_
   refine AllReadyL.cons rfl (fun K hK => ?_) AllReadyL.nil
   ·refine step_callE rfl 55 #[grV g.now h] (by kernel_rfl) (fun x => grV g.now x) (fun x w' => GrNew (W7.drew.alloc (.cells #[.int .i64 0, .slice none 0 0, .slice none 0 0, .slice none 0 0, .int .i64 0, .int .i64 0, .int .i64 0, .bool false, .int .i64 0] 35)) w' x g ∧ Below (W7.drew.alloc (.cells #[.int .i64 0, .slice none 0 0, .slice none 0 0, .slice none 0 0, .int .i64 0, .int .i64 0, .int .i64 0, .bool false, .int .i64 0] 35)).heap.size (W7.drew.alloc (.cells #[.int .i64 0, .slice none 0 0, .slice none 0 0, .slice none 0 0, .int .i64 0, .int .i64 0, .int .i64 0, .bool false, .int .i64 0] 35)) w') (toGrant_any h g _ (HIn.out _ HB1.out) HSm.out) ?_
    intro h9 u2 hn
    have HC := Lib.hid hn.2
    have HN := Lib.hid hn.1
    have HB2 := Lib.hid (HB1.out.trans (hn.2.mono HB1.out.size))
    clear hn
    have HQ := Lib.hid (HQ.out.below HC.out HQ.out.lt)
    refine hK.out _ _ ⟨fun _ => trivial, HK9.out _ HB2.out⟩ (fun hHL => ?_)
    clear hK K
    (try simp only [Act.put, List.setIfInBounds_toArray, List.set_cons_zero, List.set_cons_succ])
    refine wpAnyL_ready (rs := [3]) (by kernel_rfl) (by simp) ?_
    refine AllReadyL.cons rfl (fun K hK => ?_) AllReadyL.nil
    ·refine step_callTo rfl 56 #[rqV r] (by kernel_rfl) (rqV r) (fun w' => Below u2.heap.size u2 w') (toReqG_any r _) ?_
     intro u3 hn
     have HC := Lib.hid hn
     have HN := Lib.hid (HN.out.later hn)
     have HB3 := Lib.hid (HB2.out.trans (hn.mono HB2.out.size))
     clear hn
     have HQ := Lib.hid (HQ.out.below HC.out HQ.out.lt)
     refine hK.out _ _ ⟨fun _ => trivial, HK9.out _ HB3.out⟩ (fun hHL => ?_)
     clear hK K
     (try simp only [Act.put, List.setIfInBounds_toArray, List.set_cons_zero, List.set_cons_succ])
     refine wpAnyL_ready (rs := [4]) (by kernel_rfl) (by simp) ?_
     refine AllReadyL.cons rfl (fun K hK => ?_) AllReadyL.nil
     ·refine step_callE rfl 18 #[grV g.now h9, rqV r] (by kernel_rfl) (fun x => goV G.now x s c) (fun x w' => GrOwn u3.heap.size G x w' ∧ Below u3.heap.size u3 w') (HDs.out _ h9 HN.out.isIn (new_src HN.out)) ?_
      intro k u4 hn
      have HC := Lib.hid hn.2
      have HOw := Lib.hid (own3_down hn.1 HB3.out.size)
      have HB4 := Lib.hid (HB3.out.trans (hn.2.mono HB3.out.size))
      clear hn HN
      have HQ := Lib.hid (HQ.out.below HC.out HQ.out.lt)
      refine hK.out _ _ ⟨fun _ => trivial, HK9.out _ HB4.out⟩ (fun hHL => ?_)
      clear hK K
      (try simp only [Act.put, List.setIfInBounds_toArray, List.set_cons_zero, List.set_cons_succ])
      refine wpAnyL_ready (rs := [6]) (by kernel_rfl) (by simp) ?_
      refine AllReadyL.cons rfl (fun K hK => ?_) AllReadyL.nil
      refine step_stG rfl 35 (.tmp 6) (.tmp 27) rfl _ 0 #[.int .i64 G.now, .slice k.wp k.wn k.wc, .slice k.kp k.kn k.kc, .slice k.dp k.dn k.dc, .int .i64 s.code, .int .i64 s.token, .int .i64 s.next, .bool s.yes, .int .i64 c] rfl rfl (HQ.out.there 0 9 (by simp)) sizeGO (oneGO G.now k s c) ?_
      obtain ⟨hb8, ha8⟩ := ans_put (s := s) (c := c) HQ.out HOw.out hq HB4.out
      refine hK.out _ _ ⟨fun _ => trivial, HK9.out _ hb8⟩ (fun hHL => ?_)
      clear hK K hHL
      refine wpAnyL_done (by kernel_rfl) ?_ _
      have HA8 := Lib.hid ha8
      have HB8 := Lib.hid hb8
      clear ha8 hb8 HQ HOw
      go_wp2_with fail
      go_meet
      exact ⟨_, k, rfl, HA8.out, HB8.out⟩
 case rest =>
 obtain ⟨q6, k6, rfl, ha6, hb⟩ := hcut
 obtain ⟨W8, hwx⟩ : ∃ wx : World, wx = wc := ⟨_, rfl⟩
 rw [← hwx] at ha6 hb ⊢
 clear hwx HK9 HIn
 have HBo8 := Lib.hid (HBo7.out.later hb HBo7.out.size)
 have HA6 := Lib.hid ha6
 have HA6B : Hid (BlkIn k6 W7.heap.size W8.heap.size) := Lib.hid (own_blk ha6.2.1)
 have hS6 : W7.heap.size ≤ W8.heap.size := hb.size
 have hz7 := HBo7.out.size
 clear ha6 hb HBo7
 have a0 : W8.cell? ⟨w.heap.size, 0, none⟩ = some (.int .i64 g.now) := HBo8.out.1.cell 0
 have a1 : W8.cell? ⟨w.heap.size, 1, none⟩ = some (.slice h.wp h.wn h.wc) := HBo8.out.1.cell 1
 have a2 : W8.cell? ⟨w.heap.size, 2, none⟩ = some (.slice h.kp h.kn h.kc) := HBo8.out.1.cell 2
 have a3 : W8.cell? ⟨w.heap.size, 3, none⟩ = some (.slice h.dp h.dn h.dc) := HBo8.out.1.cell 3
 go_wp2_with fail
 rw [← HE.out]
 refine (toGrant_any h g _ (HGi.out.later HBo8.out.2.2) HSm.out).mono ?_
 rintro e W9 ⟨h7, rfl, hn7, hb9⟩
 have HBo9 := Lib.hid (HBo8.out.later hb9 HBo8.out.size)
 have HA69 := Lib.hid (HA6.out.later hb9)
 have HN9 := Lib.hid hn7
 have hz9 := hb9.size
 have hq6 : q6 < W8.heap.size := HA6.out.1.lt
 clear hn7 hb9 HBo8 a0 a1 a2 a3
 have HE7 := Lib.hid (show grV g.now h7 = .agg #[.int .i64 g.now, .slice h7.wp h7.wn h7.wc, .slice h7.kp h7.kn h7.kc, .slice h7.dp h7.dn h7.dc] from rfl)
 rw [HE7.out]
 have hbV := (Below.refl W9.heap.size W9).alloc (Nat.le_refl _) (.cells #[.int .i64 g.now, .slice h7.wp h7.wn h7.wc, .slice h7.kp h7.kn h7.kc, .slice h7.dp h7.dn h7.dc] 27)
 have hrV : Row (W9.alloc (.cells #[.int .i64 g.now, .slice h7.wp h7.wn h7.wc, .slice h7.kp h7.kn h7.kc, .slice h7.dp h7.dn h7.dc] 27)) W9.heap.size 27 (grL g.now h7) := heap_alloc_new W9 _
 obtain ⟨V, hV⟩ : ∃ V, V = W9.alloc (.cells #[.int .i64 g.now, .slice h7.wp h7.wn h7.wc, .slice h7.kp h7.kn h7.kc, .slice h7.dp h7.dn h7.dc] 27) := ⟨_, rfl⟩
 obtain ⟨q7, hq7⟩ : ∃ q7, q7 = W9.heap.size := ⟨_, rfl⟩
 rw [← hV] at hbV hrV
 rw [← hq7] at hrV
 have HBoV := Lib.hid (HBo9.out.later hbV HBo9.out.size)
 have HA6V := Lib.hid (HA69.out.later hbV)
 have HNV := Lib.hid (HN9.out.later hbV)
 have HX7 := Lib.hid hrV
 have HVe := Lib.hid hV
 have HQe := Lib.hid hq7
 have hzV := hbV.size
 have HBk7 : Hid (BlkIn h7 W8.heap.size V.heap.size) := Lib.hid (fun j hj => by have := new_blk HN9.out j hj; omega)
 clear hbV hrV hV hq7 HBo9 HA69 HN9 HA6
 go_upto_region 10 with fail
 rw [← HVe.out, ← HQe.out]
 have HK9 : Hid (∀ w', Below V.heap.size V w' → w'.cell? ⟨q7, 0, none⟩ = some (.int .i64 g.now) ∧ w'.cell? ⟨q7, 1, none⟩ = some (.slice h7.wp h7.wn h7.wc) ∧ w'.cell? ⟨q7, 2, none⟩ = some (.slice h7.kp h7.kn h7.kc) ∧ w'.cell? ⟨q7, 3, none⟩ = some (.slice h7.dp h7.dn h7.dc) ∧ w'.cell? ⟨w.heap.size + 1, 0, none⟩ = some (.int .i64 r.no) ∧ w'.cell? ⟨w.heap.size + 1, 1, none⟩ = some (.int .i64 r.kind) ∧ w'.cell? ⟨w.heap.size + 1, 2, none⟩ = some (.int .i64 r.client) ∧ w'.cell? ⟨w.heap.size + 1, 3, none⟩ = some (.int .i64 r.code) ∧ w'.cell? ⟨w.heap.size + 1, 4, none⟩ = some (.int .i64 r.token) ∧ w'.cell? ⟨w.heap.size + 1, 5, none⟩ = some (.string r.proof) ∧ w'.cell? ⟨w.heap.size + 1, 6, none⟩ = some (.int .i64 r.upTo)) := Lib.hid (fun w' hb => by
  have k := HBoV.out.later hb HBoV.out.size
  have x := HX7.out.below hb HX7.out.lt
  exact ⟨x.cell 0, x.cell 1, x.cell 2, x.cell 3, k.2.1.cell 0, k.2.1.cell 1, k.2.1.cell 2, k.2.1.cell 3, k.2.1.cell 4, k.2.1.cell 5, k.2.1.cell 6⟩)
 go_cut [8] (fun v8 wx => ∃ q k, v8 = .pointer (some ⟨q, 0, none⟩) ∧ Ans V.heap.size G s c wx q k ∧ Below V.heap.size V wx)
 case first =>
  have HB0 := Lib.hid ((Below.refl V.heap.size V).drew)
  obtain ⟨h9, hh9⟩ : ∃ h9, h9 = h7 := ⟨_, rfl⟩
  rw [← hh9] at HNV
  rw [← hh9] at HK9
  rw [← hh9]
  clear hh9
  have HN := Lib.hid (HNV.out.later (Below.refl V.heap.size V).drew)
  refine region_L 5 (fun _ => True) (fun w' => w'.cell? ⟨q7, 0, none⟩ = some (.int .i64 g.now) ∧ w'.cell? ⟨q7, 1, none⟩ = some (.slice h9.wp h9.wn h9.wc) ∧ w'.cell? ⟨q7, 2, none⟩ = some (.slice h9.kp h9.kn h9.kc) ∧ w'.cell? ⟨q7, 3, none⟩ = some (.slice h9.dp h9.dn h9.dc) ∧ w'.cell? ⟨w.heap.size + 1, 0, none⟩ = some (.int .i64 r.no) ∧ w'.cell? ⟨w.heap.size + 1, 1, none⟩ = some (.int .i64 r.kind) ∧ w'.cell? ⟨w.heap.size + 1, 2, none⟩ = some (.int .i64 r.client) ∧ w'.cell? ⟨w.heap.size + 1, 3, none⟩ = some (.int .i64 r.code) ∧ w'.cell? ⟨w.heap.size + 1, 4, none⟩ = some (.int .i64 r.token) ∧ w'.cell? ⟨w.heap.size + 1, 5, none⟩ = some (.string r.proof) ∧ w'.cell? ⟨w.heap.size + 1, 6, none⟩ = some (.int .i64 r.upTo)) (by kernel_rfl) ⟨fun _ => trivial, HK9.out _ HB0.out⟩ (fun hHL => ?_)
  refine wpAnyL_take (i := 0) (v := ?_) (by rfl) rfl (by kernel_rfl) (by kernel_rfl) (by kernel_rfl) (fun _ _ _ h => h) (Or.inl ⟨by rfl, ?_⟩) hHL ?_
  rotate_left
  ·intro w hSw; (try dsimp only at hSw); (first | (go_simp; done) | (go_simp; with_reducible rfl))
  clear hHL
  intro hHL
  (try simp only [Act.put, List.setIfInBounds_toArray, List.set_cons_zero, List.set_cons_succ])
  refine wpAnyL_take (i := 1) (v := ?_) (by rfl) rfl (by kernel_rfl) (by kernel_rfl) (by kernel_rfl) (fun _ _ _ h => h) (Or.inl ⟨by rfl, ?_⟩) hHL ?_
  rotate_left
  ·intro w hSw; (try dsimp only at hSw); (first | (go_simp; done) | (go_simp; with_reducible rfl))
  clear hHL
  intro hHL
  (try simp only [Act.put, List.setIfInBounds_toArray, List.set_cons_zero, List.set_cons_succ])
  refine wpAnyL_ready (rs := [2, 4]) (by kernel_rfl) (by simp) ?_
  refine AllReadyL.cons rfl (fun K hK => ?_) (AllReadyL.cons rfl (fun K hK => ?_) AllReadyL.nil)
  ·refine step_callTo rfl 56 #[rqV r] (by kernel_rfl) (rqV r) (fun w' => Below V.drew.heap.size V.drew w') (toReqG_any r _) ?_
   intro u1 hn
   have HC := Lib.hid hn
   have HN := Lib.hid (HN.out.later hn)
   have HB1 := Lib.hid (HB0.out.trans (hn.mono HB0.out.size))
   clear hn
   refine hK.out _ _ ⟨fun _ => trivial, HK9.out _ HB1.out⟩ (fun hHL => ?_)
   clear hK K
   (try simp only [Act.put, List.setIfInBounds_toArray, List.set_cons_zero, List.set_cons_succ])
   refine wpAnyL_ready (rs := [3, 4]) (by kernel_rfl) (by simp) ?_
   refine AllReadyL.cons rfl (fun K hK => ?_) (AllReadyL.cons rfl (fun K hK => ?_) AllReadyL.nil)
   ·refine step_callE rfl 13 #[grV g.now h9, rqV r] (by kernel_rfl) (fun x => goV G.now x s c) (fun x w' => GrOwn u1.heap.size G x w' ∧ Below u1.heap.size u1 w') (HDi.out _ h9 HN.out.isIn) ?_
    intro k u2 hn
    have HC := Lib.hid hn.2
    have HOw := Lib.hid (own3_down hn.1 HB1.out.size)
    have HB2 := Lib.hid (HB1.out.trans (hn.2.mono HB1.out.size))
    clear hn HN
    refine hK.out _ _ ⟨fun _ => trivial, HK9.out _ HB2.out⟩ (fun hHL => ?_)
    clear hK K
    (try simp only [Act.put, List.setIfInBounds_toArray, List.set_cons_zero, List.set_cons_succ])
    refine wpAnyL_ready (rs := [4]) (by kernel_rfl) (by simp) ?_
    refine AllReadyL.cons rfl (fun K hK => ?_) AllReadyL.nil
    ·go_simp
     have HQ := Lib.hid (show Row (u2.alloc (.cells #[.int .i64 0, .slice none 0 0, .slice none 0 0, .slice none 0 0, .int .i64 0, .int .i64 0, .int .i64 0, .bool false, .int .i64 0] 35)) u2.heap.size 35 [.int .i64 0, .slice none 0 0, .slice none 0 0, .slice none 0 0, .int .i64 0, .int .i64 0, .int .i64 0, .bool false, .int .i64 0] from heap_alloc_new u2 _)
     have hq : V.heap.size ≤ u2.heap.size := HB2.out.size
     have HB3 := Lib.hid (HB2.out.alloc HB2.out.size (.cells #[.int .i64 0, .slice none 0 0, .slice none 0 0, .slice none 0 0, .int .i64 0, .int .i64 0, .int .i64 0, .bool false, .int .i64 0] 35))
     have HOw := Lib.hid (HOw.out.later ((Below.refl u2.heap.size u2).alloc (Nat.le_refl _) (.cells #[.int .i64 0, .slice none 0 0, .slice none 0 0, .slice none 0 0, .int .i64 0, .int .i64 0, .int .i64 0, .bool false, .int .i64 0] 35)))
     refine hK.out _ _ ⟨fun _ => trivial, HK9.out _ HB3.out⟩ (fun hHL => ?_)
     clear hK K
     (try simp only [Act.put, List.setIfInBounds_toArray, List.set_cons_zero, List.set_cons_succ])
     refine wpAnyL_ready (rs := [5]) (by kernel_rfl) (by simp) ?_
     refine AllReadyL.cons rfl (fun K hK => ?_) AllReadyL.nil
     refine step_stG rfl 35 (.tmp 8) (.tmp 33) rfl _ 0 #[.int .i64 G.now, .slice k.wp k.wn k.wc, .slice k.kp k.kn k.kc, .slice k.dp k.dn k.dc, .int .i64 s.code, .int .i64 s.token, .int .i64 s.next, .bool s.yes, .int .i64 c] rfl rfl (HQ.out.there 0 9 (by simp)) sizeGO (oneGO G.now k s c) ?_
     obtain ⟨hb8, ha8⟩ := ans_put (s := s) (c := c) HQ.out HOw.out hq HB3.out
     refine hK.out _ _ ⟨fun _ => trivial, HK9.out _ hb8⟩ (fun hHL => ?_)
     clear hK K hHL
     refine wpAnyL_done (by kernel_rfl) ?_ _
     have HA8 := Lib.hid ha8
     have HB8 := Lib.hid hb8
     clear ha8 hb8 HQ HOw
     go_wp2_with fail
     go_meet
     exact ⟨_, k, rfl, HA8.out, HB8.out⟩
   ·go_simp
    have HQ := Lib.hid (show Row (u1.alloc (.cells #[.int .i64 0, .slice none 0 0, .slice none 0 0, .slice none 0 0, .int .i64 0, .int .i64 0, .int .i64 0, .bool false, .int .i64 0] 35)) u1.heap.size 35 [.int .i64 0, .slice none 0 0, .slice none 0 0, .slice none 0 0, .int .i64 0, .int .i64 0, .int .i64 0, .bool false, .int .i64 0] from heap_alloc_new u1 _)
    have hq : V.heap.size ≤ u1.heap.size := HB1.out.size
    have HB2 := Lib.hid (HB1.out.alloc HB1.out.size (.cells #[.int .i64 0, .slice none 0 0, .slice none 0 0, .slice none 0 0, .int .i64 0, .int .i64 0, .int .i64 0, .bool false, .int .i64 0] 35))
    have HN := Lib.hid (HN.out.later ((Below.refl u1.heap.size u1).alloc (Nat.le_refl _) (.cells #[.int .i64 0, .slice none 0 0, .slice none 0 0, .slice none 0 0, .int .i64 0, .int .i64 0, .int .i64 0, .bool false, .int .i64 0] 35)))
    refine hK.out _ _ ⟨fun _ => trivial, HK9.out _ HB2.out⟩ (fun hHL => ?_)
    clear hK K
    (try simp only [Act.put, List.setIfInBounds_toArray, List.set_cons_zero, List.set_cons_succ])
    refine wpAnyL_ready (rs := [3]) (by kernel_rfl) (by simp) ?_
    refine AllReadyL.cons rfl (fun K hK => ?_) AllReadyL.nil
    ·refine step_callE rfl 13 #[grV g.now h9, rqV r] (by kernel_rfl) (fun x => goV G.now x s c) (fun x w' => GrOwn (u1.alloc (.cells #[.int .i64 0, .slice none 0 0, .slice none 0 0, .slice none 0 0, .int .i64 0, .int .i64 0, .int .i64 0, .bool false, .int .i64 0] 35)).heap.size G x w' ∧ Below (u1.alloc (.cells #[.int .i64 0, .slice none 0 0, .slice none 0 0, .slice none 0 0, .int .i64 0, .int .i64 0, .int .i64 0, .bool false, .int .i64 0] 35)).heap.size (u1.alloc (.cells #[.int .i64 0, .slice none 0 0, .slice none 0 0, .slice none 0 0, .int .i64 0, .int .i64 0, .int .i64 0, .bool false, .int .i64 0] 35)) w') (HDi.out _ h9 HN.out.isIn) ?_
     intro k u3 hn
     have HC := Lib.hid hn.2
     have HOw := Lib.hid (own3_down hn.1 HB2.out.size)
     have HB3 := Lib.hid (HB2.out.trans (hn.2.mono HB2.out.size))
     clear hn HN
     have HQ := Lib.hid (HQ.out.below HC.out HQ.out.lt)
     refine hK.out _ _ ⟨fun _ => trivial, HK9.out _ HB3.out⟩ (fun hHL => ?_)
     clear hK K
     (try simp only [Act.put, List.setIfInBounds_toArray, List.set_cons_zero, List.set_cons_succ])
     refine wpAnyL_ready (rs := [5]) (by kernel_rfl) (by simp) ?_
     refine AllReadyL.cons rfl (fun K hK => ?_) AllReadyL.nil
     refine step_stG rfl 35 (.tmp 8) (.tmp 33) rfl _ 0 #[.int .i64 G.now, .slice k.wp k.wn k.wc, .slice k.kp k.kn k.kc, .slice k.dp k.dn k.dc, .int .i64 s.code, .int .i64 s.token, .int .i64 s.next, .bool s.yes, .int .i64 c] rfl rfl (HQ.out.there 0 9 (by simp)) sizeGO (oneGO G.now k s c) ?_
     obtain ⟨hb8, ha8⟩ := ans_put (s := s) (c := c) HQ.out HOw.out hq HB3.out
     refine hK.out _ _ ⟨fun _ => trivial, HK9.out _ hb8⟩ (fun hHL => ?_)
     clear hK K hHL
     refine wpAnyL_done (by kernel_rfl) ?_ _
     have HA8 := Lib.hid ha8
     have HB8 := Lib.hid hb8
     clear ha8 hb8 HQ HOw
     go_wp2_with fail
     go_meet
     exact ⟨_, k, rfl, HA8.out, HB8.out⟩
  ·go_simp
   have HQ := Lib.hid (show Row (V.drew.alloc (.cells #[.int .i64 0, .slice none 0 0, .slice none 0 0, .slice none 0 0, .int .i64 0, .int .i64 0, .int .i64 0, .bool false, .int .i64 0] 35)) V.heap.size 35 [.int .i64 0, .slice none 0 0, .slice none 0 0, .slice none 0 0, .int .i64 0, .int .i64 0, .int .i64 0, .bool false, .int .i64 0] from heap_alloc_new V.drew _)
   have hq : V.heap.size ≤ V.heap.size := HB0.out.size
   have HB1 := Lib.hid (HB0.out.alloc HB0.out.size (.cells #[.int .i64 0, .slice none 0 0, .slice none 0 0, .slice none 0 0, .int .i64 0, .int .i64 0, .int .i64 0, .bool false, .int .i64 0] 35))
   have HN := Lib.hid (HN.out.later ((Below.refl V.drew.heap.size V.drew).alloc (Nat.le_refl _) (.cells #[.int .i64 0, .slice none 0 0, .slice none 0 0, .slice none 0 0, .int .i64 0, .int .i64 0, .int .i64 0, .bool false, .int .i64 0] 35)))
   refine hK.out _ _ ⟨fun _ => trivial, HK9.out _ HB1.out⟩ (fun hHL => ?_)
   clear hK K
   (try simp only [Act.put, List.setIfInBounds_toArray, List.set_cons_zero, List.set_cons_succ])
   refine wpAnyL_ready (rs := [2]) (by kernel_rfl) (by simp) ?_
   refine AllReadyL.cons rfl (fun K hK => ?_) AllReadyL.nil
   ·refine step_callTo rfl 56 #[rqV r] (by kernel_rfl) (rqV r) (fun w' => Below (V.drew.alloc (.cells #[.int .i64 0, .slice none 0 0, .slice none 0 0, .slice none 0 0, .int .i64 0, .int .i64 0, .int .i64 0, .bool false, .int .i64 0] 35)).heap.size (V.drew.alloc (.cells #[.int .i64 0, .slice none 0 0, .slice none 0 0, .slice none 0 0, .int .i64 0, .int .i64 0, .int .i64 0, .bool false, .int .i64 0] 35)) w') (toReqG_any r _) ?_
    intro u2 hn
    have HC := Lib.hid hn
    have HN := Lib.hid (HN.out.later hn)
    have HB2 := Lib.hid (HB1.out.trans (hn.mono HB1.out.size))
    clear hn
    have HQ := Lib.hid (HQ.out.below HC.out HQ.out.lt)
    refine hK.out _ _ ⟨fun _ => trivial, HK9.out _ HB2.out⟩ (fun hHL => ?_)
    clear hK K
    (try simp only [Act.put, List.setIfInBounds_toArray, List.set_cons_zero, List.set_cons_succ])
    refine wpAnyL_ready (rs := [3]) (by kernel_rfl) (by simp) ?_
    refine AllReadyL.cons rfl (fun K hK => ?_) AllReadyL.nil
    ·refine step_callE rfl 13 #[grV g.now h9, rqV r] (by kernel_rfl) (fun x => goV G.now x s c) (fun x w' => GrOwn u2.heap.size G x w' ∧ Below u2.heap.size u2 w') (HDi.out _ h9 HN.out.isIn) ?_
     intro k u3 hn
     have HC := Lib.hid hn.2
     have HOw := Lib.hid (own3_down hn.1 HB2.out.size)
     have HB3 := Lib.hid (HB2.out.trans (hn.2.mono HB2.out.size))
     clear hn HN
     have HQ := Lib.hid (HQ.out.below HC.out HQ.out.lt)
     refine hK.out _ _ ⟨fun _ => trivial, HK9.out _ HB3.out⟩ (fun hHL => ?_)
     clear hK K
     (try simp only [Act.put, List.setIfInBounds_toArray, List.set_cons_zero, List.set_cons_succ])
     refine wpAnyL_ready (rs := [5]) (by kernel_rfl) (by simp) ?_
     refine AllReadyL.cons rfl (fun K hK => ?_) AllReadyL.nil
     refine step_stG rfl 35 (.tmp 8) (.tmp 33) rfl _ 0 #[.int .i64 G.now, .slice k.wp k.wn k.wc, .slice k.kp k.kn k.kc, .slice k.dp k.dn k.dc, .int .i64 s.code, .int .i64 s.token, .int .i64 s.next, .bool s.yes, .int .i64 c] rfl rfl (HQ.out.there 0 9 (by simp)) sizeGO (oneGO G.now k s c) ?_
     obtain ⟨hb8, ha8⟩ := ans_put (s := s) (c := c) HQ.out HOw.out hq HB3.out
     refine hK.out _ _ ⟨fun _ => trivial, HK9.out _ hb8⟩ (fun hHL => ?_)
     clear hK K hHL
     refine wpAnyL_done (by kernel_rfl) ?_ _
     have HA8 := Lib.hid ha8
     have HB8 := Lib.hid hb8
     clear ha8 hb8 HQ HOw
     go_wp2_with fail
     go_meet
     exact ⟨_, k, rfl, HA8.out, HB8.out⟩
 case rest =>
 obtain ⟨q8, k8, rfl, ha8, hb⟩ := hcut
 obtain ⟨X, hwx⟩ : ∃ wx : World, wx = wc := ⟨_, rfl⟩
 rw [← hwx] at ha8 hb ⊢
 clear hwx HK9
 have HBoX := Lib.hid (HBoV.out.later hb HBoV.out.size)
 have HA6X := Lib.hid (HA6V.out.later hb)
 have HA8X := Lib.hid ha8
 have HX7X := Lib.hid (HX7.out.below hb HX7.out.lt)
 have HNX := Lib.hid (HNV.out.later hb)
 have hzX := hb.size
 have HBk8 : Hid (BlkIn k8 V.heap.size X.heap.size) := Lib.hid (own_blk HA8X.out.2.1)
 have hq8 : V.heap.size ≤ q8 := ha8.2.2
 clear ha8 hb HBoV HA6V HX7 HNV HVe HQe
 have c0 : X.cell? ⟨q8, 0, none⟩ = some (.int .i64 G.now) := HA8X.out.1.cell 0
 have c1 : X.cell? ⟨q8, 1, none⟩ = some (.slice k8.wp k8.wn k8.wc) := HA8X.out.1.cell 1
 have c2 : X.cell? ⟨q8, 2, none⟩ = some (.slice k8.kp k8.kn k8.kc) := HA8X.out.1.cell 2
 have c3 : X.cell? ⟨q8, 3, none⟩ = some (.slice k8.dp k8.dn k8.dc) := HA8X.out.1.cell 3
 have c4 : X.cell? ⟨q8, 4, none⟩ = some (.int .i64 s.code) := HA8X.out.1.cell 4
 have c5 : X.cell? ⟨q8, 5, none⟩ = some (.int .i64 s.token) := HA8X.out.1.cell 5
 have c6 : X.cell? ⟨q8, 6, none⟩ = some (.int .i64 s.next) := HA8X.out.1.cell 6
 have c7 : X.cell? ⟨q8, 7, none⟩ = some (.bool s.yes) := HA8X.out.1.cell 7
 have c8 : X.cell? ⟨q8, 8, none⟩ = some (.int .i64 c) := HA8X.out.1.cell 8
 have d0 : X.cell? ⟨q6, 0, none⟩ = some (.int .i64 G.now) := HA6X.out.1.cell 0
 have d1 : X.cell? ⟨q6, 1, none⟩ = some (.slice k6.wp k6.wn k6.wc) := HA6X.out.1.cell 1
 have d2 : X.cell? ⟨q6, 2, none⟩ = some (.slice k6.kp k6.kn k6.kc) := HA6X.out.1.cell 2
 have d3 : X.cell? ⟨q6, 3, none⟩ = some (.slice k6.dp k6.dn k6.dc) := HA6X.out.1.cell 3
 have d4 : X.cell? ⟨q6, 4, none⟩ = some (.int .i64 s.code) := HA6X.out.1.cell 4
 have d5 : X.cell? ⟨q6, 5, none⟩ = some (.int .i64 s.token) := HA6X.out.1.cell 5
 have d6 : X.cell? ⟨q6, 6, none⟩ = some (.int .i64 s.next) := HA6X.out.1.cell 6
 have d7 : X.cell? ⟨q6, 7, none⟩ = some (.bool s.yes) := HA6X.out.1.cell 7
 have d8 : X.cell? ⟨q6, 8, none⟩ = some (.int .i64 c) := HA6X.out.1.cell 8
 have HE8 := Lib.hid (show goV G.now k8 s c = .agg #[.int .i64 G.now, .slice k8.wp k8.wn k8.wc, .slice k8.kp k8.kn k8.kc, .slice k8.dp k8.dn k8.dc, .int .i64 s.code, .int .i64 s.token, .int .i64 s.next, .bool s.yes, .int .i64 c] from rfl)
 have HE6 := Lib.hid (show goV G.now k6 s c = .agg #[.int .i64 G.now, .slice k6.wp k6.wn k6.wc, .slice k6.kp k6.kn k6.kc, .slice k6.dp k6.dn k6.dc, .int .i64 s.code, .int .i64 s.token, .int .i64 s.next, .bool s.yes, .int .i64 c] from rfl)
 go_wp2_with fail
 rw [← HE8.out, ← HE6.out]
 refine (eqGO_same k8 k6 G s c _ (own_isIn HA8X.out.2.1) (own_isIn HA6X.out.2.1) HSG.out).mono ?_
 rintro e Y ⟨rfl, hb⟩
 have HBoY := Lib.hid (HBoX.out.later hb HBoX.out.size)
 have HA6Y := Lib.hid (HA6X.out.later hb)
 have HA8Y := Lib.hid (HA8X.out.later hb)
 have HX7Y := Lib.hid (HX7X.out.below hb HX7X.out.lt)
 have HNY := Lib.hid (HNX.out.later hb)
 have hzY := hb.size
 clear hb HBoX HA6X HA8X HX7X HNX c0 c1 c2 c3 c4 c5 c6 c7 c8 d0 d1 d2 d3 d4 d5 d6 d7 d8
 go_upto_region 13 with fail
 have HK9 : Hid (∀ w', Below Y.heap.size Y w' → w'.cell? ⟨q7, 0, none⟩ = some (.int .i64 g.now) ∧ w'.cell? ⟨q7, 1, none⟩ = some (.slice h7.wp h7.wn h7.wc) ∧ w'.cell? ⟨q7, 2, none⟩ = some (.slice h7.kp h7.kn h7.kc) ∧ w'.cell? ⟨q7, 3, none⟩ = some (.slice h7.dp h7.dn h7.dc) ∧ w'.cell? ⟨w.heap.size, 0, none⟩ = some (.int .i64 g.now) ∧ w'.cell? ⟨w.heap.size, 1, none⟩ = some (.slice h.wp h.wn h.wc) ∧ w'.cell? ⟨w.heap.size, 2, none⟩ = some (.slice h.kp h.kn h.kc) ∧ w'.cell? ⟨w.heap.size, 3, none⟩ = some (.slice h.dp h.dn h.dc)) := Lib.hid (fun w' hb => by
  have k := HBoY.out.later hb HBoY.out.size
  have x := HX7Y.out.below hb HX7Y.out.lt
  exact ⟨x.cell 0, x.cell 1, x.cell 2, x.cell 3, k.1.cell 0, k.1.cell 1, k.1.cell 2, k.1.cell 3⟩)
 have HB0 := Lib.hid ((Below.refl Y.heap.size Y).drew)
 refine region_L 2 (fun _ => True) (fun w' => w'.cell? ⟨q7, 0, none⟩ = some (.int .i64 g.now) ∧ w'.cell? ⟨q7, 1, none⟩ = some (.slice h7.wp h7.wn h7.wc) ∧ w'.cell? ⟨q7, 2, none⟩ = some (.slice h7.kp h7.kn h7.kc) ∧ w'.cell? ⟨q7, 3, none⟩ = some (.slice h7.dp h7.dn h7.dc) ∧ w'.cell? ⟨w.heap.size, 0, none⟩ = some (.int .i64 g.now) ∧ w'.cell? ⟨w.heap.size, 1, none⟩ = some (.slice h.wp h.wn h.wc) ∧ w'.cell? ⟨w.heap.size, 2, none⟩ = some (.slice h.kp h.kn h.kc) ∧ w'.cell? ⟨w.heap.size, 3, none⟩ = some (.slice h.dp h.dn h.dc)) (by kernel_rfl) ⟨fun _ => trivial, HK9.out _ HB0.out⟩ (fun hHL => ?_)
 refine wpAnyL_take (i := 0) (v := ?_) (by rfl) rfl (by kernel_rfl) (by kernel_rfl) (by kernel_rfl) (fun _ _ _ h => h) (Or.inl ⟨by rfl, ?_⟩) hHL ?_
 rotate_left
 ·intro w hSw; (try dsimp only at hSw); (first | (go_simp; done) | (go_simp; with_reducible rfl))
 clear hHL
 intro hHL
 (try simp only [Act.put, List.setIfInBounds_toArray, List.set_cons_zero, List.set_cons_succ])
 refine wpAnyL_take (i := 1) (v := ?_) (by rfl) rfl (by kernel_rfl) (by kernel_rfl) (by kernel_rfl) (fun _ _ _ h => h) (Or.inl ⟨by rfl, ?_⟩) hHL ?_
 rotate_left
 ·intro w hSw; (try dsimp only at hSw); (first | (go_simp; done) | (go_simp; with_reducible rfl))
 clear hHL
 intro hHL
 (try simp only [Act.put, List.setIfInBounds_toArray, List.set_cons_zero, List.set_cons_succ])
 refine wpAnyL_ready (rs := [2]) (by kernel_rfl) (by simp) ?_
 refine AllReadyL.cons rfl (fun K hK => ?_) AllReadyL.nil
 refine step_callE rfl 55 #[grV g.now h] (by kernel_rfl) (fun x => grV g.now x) (fun x w' => GrNew Y.drew w' x g ∧ Below Y.drew.heap.size Y.drew w') (toGrant_any h g _ (HGi.out.later (HBoY.out.later HB0.out HBoY.out.size).2.2) HSm.out) ?_
 intro hx u1 hn
 have HNu := Lib.hid hn.1
 have HB1 := Lib.hid (HB0.out.trans (hn.2.mono HB0.out.size))
 clear hn
 refine hK.out _ _ ⟨fun _ => trivial, HK9.out _ HB1.out⟩ (fun hHL => ?_)
 clear hK K
 (try simp only [Act.put, List.setIfInBounds_toArray, List.set_cons_zero, List.set_cons_succ])
 refine wpAnyL_ready (rs := [3]) (by kernel_rfl) (by simp) ?_
 refine AllReadyL.cons rfl (fun K hK => ?_) AllReadyL.nil
 refine step_callTo rfl 58 #[grV g.now h7, grV g.now hx] (by kernel_rfl) (.bool true) (fun w' => Below u1.heap.size u1 w') (eqGrant_same h7 hx g _ (HNY.out.isIn.later HB1.out) HNu.out.isIn HSm.out) ?_
 intro u2 hn
 have HB2 := Lib.hid (HB1.out.trans (hn.mono HB1.out.size))
 clear hn
 refine hK.out _ _ ⟨fun _ => trivial, HK9.out _ HB2.out⟩ (fun hHL => ?_)
 clear hK K
 (try simp only [Act.put, List.setIfInBounds_toArray, List.set_cons_zero, List.set_cons_succ])
 refine wpAnyL_take (i := 4) (v := ?_) (by rfl) rfl (by kernel_rfl) (by kernel_rfl) (by kernel_rfl) (fun _ _ _ h => h) (Or.inl ⟨by rfl, ?_⟩) hHL ?_
 rotate_left
 ·intro w hSw; (try dsimp only at hSw); (first | (go_simp; done) | (go_simp; with_reducible rfl))
 clear hHL
 intro hHL
 (try simp only [Act.put, List.setIfInBounds_toArray, List.set_cons_zero, List.set_cons_succ])
 refine wpAnyL_done (by kernel_rfl) ?_ _
 have hb := HB2.out
 have HBoZ := Lib.hid (HBoY.out.later hb HBoY.out.size)
 have HA6Z := Lib.hid (HA6Y.out.later hb)
 have HA8Z := Lib.hid (HA8Y.out.later hb)
 have HX7Z := Lib.hid (HX7Y.out.below hb HX7Y.out.lt)
 have HNZ := Lib.hid (HNY.out.later hb)
 have hzZ := hb.size
 clear hb hHL HB0 HB1 HB2 HNu HK9 HBoY HA6Y HA8Y HX7Y HNY
 have x0 : u2.cell? ⟨q7, 0, none⟩ = some (.int .i64 g.now) := HX7Z.out.cell 0
 have x1 : u2.cell? ⟨q7, 1, none⟩ = some (.slice h7.wp h7.wn h7.wc) := HX7Z.out.cell 1
 have x2 : u2.cell? ⟨q7, 2, none⟩ = some (.slice h7.kp h7.kn h7.kc) := HX7Z.out.cell 2
 have x3 : u2.cell? ⟨q7, 3, none⟩ = some (.slice h7.dp h7.dn h7.dc) := HX7Z.out.cell 3
 go_wp2_with fail
 rw [← HE7.out]
 have hw7 : h7.wn = g.words.length ∧ h7.kn = g.keys.length ∧ h7.dn = g.dead.length := HNZ.out.isIn.1
 have hend7 : end3 h7 1 < 100000000 := by
  have := HSm.out
  unfold GrSmall at this
  unfold end3
  omega
 clear hw7
 refine (markGrant_any h7 g.now 1 _ (by omega) hend7 (new_lst HNZ.out) (new_apart HNZ.out)).mono ?_
 rintro e M1 ⟨rfl, _, ho⟩
 have fr7 : ∀ j, InB h7 j → W8.heap.size ≤ j ∧ j < V.heap.size := fun j hj => HBk7.out j hj
 have HBoM := Lib.hid (HBoZ.out.later (ho.below (B := W8.heap.size) (by omega) (fun j hj => (fr7 j hj).1)) (by omega))
 have HA6M := Lib.hid (HA6Z.out.out ho (fun hj => by have := fr7 _ hj; omega) (fun j hj hj' => by have := fr7 _ hj'; have := HA6B.out j hj; omega))
 have HA8M := Lib.hid (HA8Z.out.out ho (fun hj => by have := fr7 _ hj; omega) (fun j hj hj' => by have := fr7 _ hj'; have := HBk8.out j hj; omega))
 have hzM := ho.2.2.2.1
 have hneg7 : ¬ (((end3 h7 1 : Nat) : Int) < 0) := by omega
 clear ho fr7 HBoZ HA6Z HA8Z HX7Z HNZ x0 x1 x2 x3
 have c0 : M1.cell? ⟨q8, 0, none⟩ = some (.int .i64 G.now) := HA8M.out.1.cell 0
 have c1 : M1.cell? ⟨q8, 1, none⟩ = some (.slice k8.wp k8.wn k8.wc) := HA8M.out.1.cell 1
 have c2 : M1.cell? ⟨q8, 2, none⟩ = some (.slice k8.kp k8.kn k8.kc) := HA8M.out.1.cell 2
 have c3 : M1.cell? ⟨q8, 3, none⟩ = some (.slice k8.dp k8.dn k8.dc) := HA8M.out.1.cell 3
 have c4 : M1.cell? ⟨q8, 4, none⟩ = some (.int .i64 s.code) := HA8M.out.1.cell 4
 have c5 : M1.cell? ⟨q8, 5, none⟩ = some (.int .i64 s.token) := HA8M.out.1.cell 5
 have c6 : M1.cell? ⟨q8, 6, none⟩ = some (.int .i64 s.next) := HA8M.out.1.cell 6
 have c7 : M1.cell? ⟨q8, 7, none⟩ = some (.bool s.yes) := HA8M.out.1.cell 7
 have c8 : M1.cell? ⟨q8, 8, none⟩ = some (.int .i64 c) := HA8M.out.1.cell 8
 have d0 : M1.cell? ⟨q6, 0, none⟩ = some (.int .i64 G.now) := HA6M.out.1.cell 0
 have d1 : M1.cell? ⟨q6, 1, none⟩ = some (.slice k6.wp k6.wn k6.wc) := HA6M.out.1.cell 1
 have d2 : M1.cell? ⟨q6, 2, none⟩ = some (.slice k6.kp k6.kn k6.kc) := HA6M.out.1.cell 2
 have d3 : M1.cell? ⟨q6, 3, none⟩ = some (.slice k6.dp k6.dn k6.dc) := HA6M.out.1.cell 3
 have d4 : M1.cell? ⟨q6, 4, none⟩ = some (.int .i64 s.code) := HA6M.out.1.cell 4
 have d5 : M1.cell? ⟨q6, 5, none⟩ = some (.int .i64 s.token) := HA6M.out.1.cell 5
 have d6 : M1.cell? ⟨q6, 6, none⟩ = some (.int .i64 s.next) := HA6M.out.1.cell 6
 have d7 : M1.cell? ⟨q6, 7, none⟩ = some (.bool s.yes) := HA6M.out.1.cell 7
 have d8 : M1.cell? ⟨q6, 8, none⟩ = some (.int .i64 c) := HA6M.out.1.cell 8
 go_wp2_with fail
 rw [← HE8.out, ← HE6.out]
 refine (eqGO_same k8 k6 G s c _ (own_isIn HA8M.out.2.1) (own_isIn HA6M.out.2.1) HSG.out).mono ?_
 rintro e M2 ⟨rfl, hb⟩
 have HBoN := Lib.hid (HBoM.out.later hb HBoM.out.size)
 have HA6N := Lib.hid (HA6M.out.later hb)
 have HA8N := Lib.hid (HA8M.out.later hb)
 have hzN := hb.size
 clear hb HBoM HA6M HA8M c0 c1 c2 c3 c4 c5 c6 c7 c8 d0 d1 d2 d3 d4 d5 d6 d7 d8
 have c0 : M2.cell? ⟨q8, 0, none⟩ = some (.int .i64 G.now) := HA8N.out.1.cell 0
 have c1 : M2.cell? ⟨q8, 1, none⟩ = some (.slice k8.wp k8.wn k8.wc) := HA8N.out.1.cell 1
 have c2 : M2.cell? ⟨q8, 2, none⟩ = some (.slice k8.kp k8.kn k8.kc) := HA8N.out.1.cell 2
 have c3 : M2.cell? ⟨q8, 3, none⟩ = some (.slice k8.dp k8.dn k8.dc) := HA8N.out.1.cell 3
 have c4 : M2.cell? ⟨q8, 4, none⟩ = some (.int .i64 s.code) := HA8N.out.1.cell 4
 have c5 : M2.cell? ⟨q8, 5, none⟩ = some (.int .i64 s.token) := HA8N.out.1.cell 5
 have c6 : M2.cell? ⟨q8, 6, none⟩ = some (.int .i64 s.next) := HA8N.out.1.cell 6
 have c7 : M2.cell? ⟨q8, 7, none⟩ = some (.bool s.yes) := HA8N.out.1.cell 7
 have c8 : M2.cell? ⟨q8, 8, none⟩ = some (.int .i64 c) := HA8N.out.1.cell 8
 go_wp2_with fail
 rw [← HE8.out]
 have hw8 : k8.wn = G.words.length ∧ k8.kn = G.keys.length ∧ k8.dn = G.dead.length := (own_isIn HA8N.out.2.1).1
 have hend8 : end3 k8 1 < 100000000 := by
  have := HSG.out
  unfold GrSmall at this
  unfold end3
  omega
 clear hw8
 refine (markGO_any k8 G.now s c 1 _ (by omega) hend8 (own_lst3 HA8N.out.2.1) (own_apart3 HA8N.out.2.1)).mono ?_
 rintro e M3 ⟨rfl, hm3, ho⟩
 have fr8 : ∀ j, InB k8 j → V.heap.size ≤ j ∧ j < X.heap.size := fun j hj => HBk8.out j hj
 have HBoO := Lib.hid (HBoN.out.later (ho.below (B := V.heap.size) (by omega) (fun j hj => (fr8 j hj).1)) (by omega))
 have HA6O := Lib.hid (HA6N.out.out ho (fun hj => by have := fr8 _ hj; omega) (fun j hj hj' => by have := fr8 _ hj'; have := HA6B.out j hj; omega))
 have HR8O := Lib.hid (ho.row HA8N.out.1 HA8N.out.free)
 have HMkO := Lib.hid hm3
 have hneg8 : ¬ (((end3 k8 1 : Nat) : Int) < 0) := by omega
 have heq8 : (((end3 k8 1 : Nat) : Int) != ((end3 k8 1 : Nat) : Int)) = false := by simp
 clear ho fr8 hm3 HBoN HA6N HA8N c0 c1 c2 c3 c4 c5 c6 c7 c8
 have c0 : M3.cell? ⟨q8, 0, none⟩ = some (.int .i64 G.now) := HR8O.out.cell 0
 have c1 : M3.cell? ⟨q8, 1, none⟩ = some (.slice k8.wp k8.wn k8.wc) := HR8O.out.cell 1
 have c2 : M3.cell? ⟨q8, 2, none⟩ = some (.slice k8.kp k8.kn k8.kc) := HR8O.out.cell 2
 have c3 : M3.cell? ⟨q8, 3, none⟩ = some (.slice k8.dp k8.dn k8.dc) := HR8O.out.cell 3
 have c4 : M3.cell? ⟨q8, 4, none⟩ = some (.int .i64 s.code) := HR8O.out.cell 4
 have c5 : M3.cell? ⟨q8, 5, none⟩ = some (.int .i64 s.token) := HR8O.out.cell 5
 have c6 : M3.cell? ⟨q8, 6, none⟩ = some (.int .i64 s.next) := HR8O.out.cell 6
 have c7 : M3.cell? ⟨q8, 7, none⟩ = some (.bool s.yes) := HR8O.out.cell 7
 have c8 : M3.cell? ⟨q8, 8, none⟩ = some (.int .i64 c) := HR8O.out.cell 8
 go_wp2_with fail
 rw [← HE8.out]
 refine (heldGO_any k8 G.now s c 1 _ (by omega) hend8 HMkO.out).mono ?_
 rintro e M4 ⟨rfl, hb⟩
 have HBoP := Lib.hid (HBoO.out.later hb HBoO.out.size)
 have HA6P := Lib.hid (HA6O.out.later hb)
 have HR8P := Lib.hid (HR8O.out.below hb HR8O.out.lt)
 have HMkP := Lib.hid (HMkO.out.below hb)
 clear hb HBoO HA6O HR8O HMkO c0 c1 c2 c3 c4 c5 c6 c7 c8
 have HK9 : Hid (∀ w', Below M4.heap.size M4 w' → w'.cell? ⟨w.heap.size, 0, none⟩ = some (.int .i64 g.now) ∧ w'.cell? ⟨w.heap.size, 1, none⟩ = some (.slice h.wp h.wn h.wc) ∧ w'.cell? ⟨w.heap.size, 2, none⟩ = some (.slice h.kp h.kn h.kc) ∧ w'.cell? ⟨w.heap.size, 3, none⟩ = some (.slice h.dp h.dn h.dc) ∧ w'.cell? ⟨w.heap.size + 1, 0, none⟩ = some (.int .i64 r.no) ∧ w'.cell? ⟨w.heap.size + 1, 1, none⟩ = some (.int .i64 r.kind) ∧ w'.cell? ⟨w.heap.size + 1, 2, none⟩ = some (.int .i64 r.client) ∧ w'.cell? ⟨w.heap.size + 1, 3, none⟩ = some (.int .i64 r.code) ∧ w'.cell? ⟨w.heap.size + 1, 4, none⟩ = some (.int .i64 r.token) ∧ w'.cell? ⟨w.heap.size + 1, 5, none⟩ = some (.string r.proof) ∧ w'.cell? ⟨w.heap.size + 1, 6, none⟩ = some (.int .i64 r.upTo)) := Lib.hid (fun w' hb => by
  have k := HBoP.out.later hb HBoP.out.size
  exact ⟨k.1.cell 0, k.1.cell 1, k.1.cell 2, k.1.cell 3, k.2.1.cell 0, k.2.1.cell 1, k.2.1.cell 2, k.2.1.cell 3, k.2.1.cell 4, k.2.1.cell 5, k.2.1.cell 6⟩)
 have HIn : Hid (∀ w', Below M4.heap.size M4 w' → GrIn w' h g) := Lib.hid (fun w' hb => HGi.out.later (HBoP.out.later hb HBoP.out.size).2.2)
 go_upto_region 27 with fail
 go_cut [12] (fun v12 wx => ∃ q k, v12 = .pointer (some ⟨q, 0, none⟩) ∧ Ans M4.heap.size G s c wx q k ∧ Below M4.heap.size M4 wx)
 case first =>
  have HB0 := Lib.hid ((Below.refl M4.heap.size M4).drew)
  refine region_L 6 (fun _ => True) (fun w' => w'.cell? ⟨w.heap.size, 0, none⟩ = some (.int .i64 g.now) ∧ w'.cell? ⟨w.heap.size, 1, none⟩ = some (.slice h.wp h.wn h.wc) ∧ w'.cell? ⟨w.heap.size, 2, none⟩ = some (.slice h.kp h.kn h.kc) ∧ w'.cell? ⟨w.heap.size, 3, none⟩ = some (.slice h.dp h.dn h.dc) ∧ w'.cell? ⟨w.heap.size + 1, 0, none⟩ = some (.int .i64 r.no) ∧ w'.cell? ⟨w.heap.size + 1, 1, none⟩ = some (.int .i64 r.kind) ∧ w'.cell? ⟨w.heap.size + 1, 2, none⟩ = some (.int .i64 r.client) ∧ w'.cell? ⟨w.heap.size + 1, 3, none⟩ = some (.int .i64 r.code) ∧ w'.cell? ⟨w.heap.size + 1, 4, none⟩ = some (.int .i64 r.token) ∧ w'.cell? ⟨w.heap.size + 1, 5, none⟩ = some (.string r.proof) ∧ w'.cell? ⟨w.heap.size + 1, 6, none⟩ = some (.int .i64 r.upTo)) (by kernel_rfl) ⟨fun _ => trivial, HK9.out _ HB0.out⟩ (fun hHL => ?_)
  refine wpAnyL_take (i := 0) (v := ?_) (by rfl) rfl (by kernel_rfl) (by kernel_rfl) (by kernel_rfl) (fun _ _ _ h => h) (Or.inl ⟨by rfl, ?_⟩) hHL ?_
  rotate_left
  ·intro w hSw; (try dsimp only at hSw); (first | (go_simp; done) | (go_simp; with_reducible rfl))
  clear hHL
  intro hHL
  (try simp only [Act.put, List.setIfInBounds_toArray, List.set_cons_zero, List.set_cons_succ])
  refine wpAnyL_take (i := 2) (v := ?_) (by rfl) rfl (by kernel_rfl) (by kernel_rfl) (by kernel_rfl) (fun _ _ _ h => h) (Or.inl ⟨by rfl, ?_⟩) hHL ?_
  rotate_left
  ·intro w hSw; (try dsimp only at hSw); (first | (go_simp; done) | (go_simp; with_reducible rfl))
  clear hHL
  intro hHL
  (try simp only [Act.put, List.setIfInBounds_toArray, List.set_cons_zero, List.set_cons_succ])
  refine wpAnyL_ready (rs := [1, 5]) (by kernel_rfl) (by simp) ?_
  refine AllReadyL.cons rfl (fun K hK => ?_) (AllReadyL.cons rfl (fun K hK => ?_) AllReadyL.nil)
  ·refine step_callE rfl 55 #[grV g.now h] (by kernel_rfl) (fun x => grV g.now x) (fun x w' => GrNew M4.drew w' x g ∧ Below M4.drew.heap.size M4.drew w') (toGrant_any h g _ (HIn.out _ HB0.out) HSm.out) ?_
   intro h9 u1 hn
   have HC := Lib.hid hn.2
   have HN := Lib.hid hn.1
   have HB1 := Lib.hid (HB0.out.trans (hn.2.mono HB0.out.size))
   clear hn
   refine hK.out _ _ ⟨fun _ => trivial, HK9.out _ HB1.out⟩ (fun hHL => ?_)
   clear hK K
   (try simp only [Act.put, List.setIfInBounds_toArray, List.set_cons_zero, List.set_cons_succ])
   refine wpAnyL_ready (rs := [3, 5]) (by kernel_rfl) (by simp) ?_
   refine AllReadyL.cons rfl (fun K hK => ?_) (AllReadyL.cons rfl (fun K hK => ?_) AllReadyL.nil)
   ·refine step_callTo rfl 56 #[rqV r] (by kernel_rfl) (rqV r) (fun w' => Below u1.heap.size u1 w') (toReqG_any r _) ?_
    intro u2 hn
    have HC := Lib.hid hn
    have HN := Lib.hid (HN.out.later hn)
    have HB2 := Lib.hid (HB1.out.trans (hn.mono HB1.out.size))
    clear hn
    refine hK.out _ _ ⟨fun _ => trivial, HK9.out _ HB2.out⟩ (fun hHL => ?_)
    clear hK K
    (try simp only [Act.put, List.setIfInBounds_toArray, List.set_cons_zero, List.set_cons_succ])
    refine wpAnyL_ready (rs := [4, 5]) (by kernel_rfl) (by simp) ?_
    refine AllReadyL.cons rfl (fun K hK => ?_) (AllReadyL.cons rfl (fun K hK => ?_) AllReadyL.nil)
    ·refine step_callE rfl 13 #[grV g.now h9, rqV r] (by kernel_rfl) (fun x => goV G.now x s c) (fun x w' => GrOwn u2.heap.size G x w' ∧ Below u2.heap.size u2 w') (HDi.out _ h9 HN.out.isIn) ?_
     intro k u3 hn
     have HC := Lib.hid hn.2
     have HOw := Lib.hid (own3_down hn.1 HB2.out.size)
     have HB3 := Lib.hid (HB2.out.trans (hn.2.mono HB2.out.size))
     clear hn HN
     refine hK.out _ _ ⟨fun _ => trivial, HK9.out _ HB3.out⟩ (fun hHL => ?_)
     clear hK K
     (try simp only [Act.put, List.setIfInBounds_toArray, List.set_cons_zero, List.set_cons_succ])
     refine wpAnyL_ready (rs := [5]) (by kernel_rfl) (by simp) ?_
     refine AllReadyL.cons rfl (fun K hK => ?_) AllReadyL.nil
     ·go_simp
      have HQ := Lib.hid (show Row (u3.alloc (.cells #[.int .i64 0, .slice none 0 0, .slice none 0 0, .slice none 0 0, .int .i64 0, .int .i64 0, .int .i64 0, .bool false, .int .i64 0] 35)) u3.heap.size 35 [.int .i64 0, .slice none 0 0, .slice none 0 0, .slice none 0 0, .int .i64 0, .int .i64 0, .int .i64 0, .bool false, .int .i64 0] from heap_alloc_new u3 _)
      have hq : M4.heap.size ≤ u3.heap.size := HB3.out.size
      have HB4 := Lib.hid (HB3.out.alloc HB3.out.size (.cells #[.int .i64 0, .slice none 0 0, .slice none 0 0, .slice none 0 0, .int .i64 0, .int .i64 0, .int .i64 0, .bool false, .int .i64 0] 35))
      have HOw := Lib.hid (HOw.out.later ((Below.refl u3.heap.size u3).alloc (Nat.le_refl _) (.cells #[.int .i64 0, .slice none 0 0, .slice none 0 0, .slice none 0 0, .int .i64 0, .int .i64 0, .int .i64 0, .bool false, .int .i64 0] 35)))
      refine hK.out _ _ ⟨fun _ => trivial, HK9.out _ HB4.out⟩ (fun hHL => ?_)
      clear hK K
      (try simp only [Act.put, List.setIfInBounds_toArray, List.set_cons_zero, List.set_cons_succ])
      refine wpAnyL_ready (rs := [6]) (by kernel_rfl) (by simp) ?_
      refine AllReadyL.cons rfl (fun K hK => ?_) AllReadyL.nil
      refine step_stG rfl 35 (.tmp 12) (.tmp 69) rfl _ 0 #[.int .i64 G.now, .slice k.wp k.wn k.wc, .slice k.kp k.kn k.kc, .slice k.dp k.dn k.dc, .int .i64 s.code, .int .i64 s.token, .int .i64 s.next, .bool s.yes, .int .i64 c] rfl rfl (HQ.out.there 0 9 (by simp)) sizeGO (oneGO G.now k s c) ?_
      obtain ⟨hb8, ha8⟩ := ans_put (s := s) (c := c) HQ.out HOw.out hq HB4.out
      refine hK.out _ _ ⟨fun _ => trivial, HK9.out _ hb8⟩ (fun hHL => ?_)
      clear hK K hHL
      refine wpAnyL_done (by kernel_rfl) ?_ _
      have HA8 := Lib.hid ha8
      have HB8 := Lib.hid hb8
      clear ha8 hb8 HQ HOw
      go_wp2_with fail
      go_meet
      exact ⟨_, k, rfl, HA8.out, HB8.out⟩
    ·go_simp
     have HQ := Lib.hid (show Row (u2.alloc (.cells #[.int .i64 0, .slice none 0 0, .slice none 0 0, .slice none 0 0, .int .i64 0, .int .i64 0, .int .i64 0, .bool false, .int .i64 0] 35)) u2.heap.size 35 [.int .i64 0, .slice none 0 0, .slice none 0 0, .slice none 0 0, .int .i64 0, .int .i64 0, .int .i64 0, .bool false, .int .i64 0] from heap_alloc_new u2 _)
     have hq : M4.heap.size ≤ u2.heap.size := HB2.out.size
     have HB3 := Lib.hid (HB2.out.alloc HB2.out.size (.cells #[.int .i64 0, .slice none 0 0, .slice none 0 0, .slice none 0 0, .int .i64 0, .int .i64 0, .int .i64 0, .bool false, .int .i64 0] 35))
     have HN := Lib.hid (HN.out.later ((Below.refl u2.heap.size u2).alloc (Nat.le_refl _) (.cells #[.int .i64 0, .slice none 0 0, .slice none 0 0, .slice none 0 0, .int .i64 0, .int .i64 0, .int .i64 0, .bool false, .int .i64 0] 35)))
     refine hK.out _ _ ⟨fun _ => trivial, HK9.out _ HB3.out⟩ (fun hHL => ?_)
     clear hK K
     (try simp only [Act.put, List.setIfInBounds_toArray, List.set_cons_zero, List.set_cons_succ])
     refine wpAnyL_ready (rs := [4]) (by kernel_rfl) (by simp) ?_
     refine AllReadyL.cons rfl (fun K hK => ?_) AllReadyL.nil
     ·refine step_callE rfl 13 #[grV g.now h9, rqV r] (by kernel_rfl) (fun x => goV G.now x s c) (fun x w' => GrOwn (u2.alloc (.cells #[.int .i64 0, .slice none 0 0, .slice none 0 0, .slice none 0 0, .int .i64 0, .int .i64 0, .int .i64 0, .bool false, .int .i64 0] 35)).heap.size G x w' ∧ Below (u2.alloc (.cells #[.int .i64 0, .slice none 0 0, .slice none 0 0, .slice none 0 0, .int .i64 0, .int .i64 0, .int .i64 0, .bool false, .int .i64 0] 35)).heap.size (u2.alloc (.cells #[.int .i64 0, .slice none 0 0, .slice none 0 0, .slice none 0 0, .int .i64 0, .int .i64 0, .int .i64 0, .bool false, .int .i64 0] 35)) w') (HDi.out _ h9 HN.out.isIn) ?_
      intro k u4 hn
      have HC := Lib.hid hn.2
      have HOw := Lib.hid (own3_down hn.1 HB3.out.size)
      have HB4 := Lib.hid (HB3.out.trans (hn.2.mono HB3.out.size))
      clear hn HN
      have HQ := Lib.hid (HQ.out.below HC.out HQ.out.lt)
      refine hK.out _ _ ⟨fun _ => trivial, HK9.out _ HB4.out⟩ (fun hHL => ?_)
      clear hK K
      (try simp only [Act.put, List.setIfInBounds_toArray, List.set_cons_zero, List.set_cons_succ])
      refine wpAnyL_ready (rs := [6]) (by kernel_rfl) (by simp) ?_
      refine AllReadyL.cons rfl (fun K hK => ?_) AllReadyL.nil
      refine step_stG rfl 35 (.tmp 12) (.tmp 69) rfl _ 0 #[.int .i64 G.now, .slice k.wp k.wn k.wc, .slice k.kp k.kn k.kc, .slice k.dp k.dn k.dc, .int .i64 s.code, .int .i64 s.token, .int .i64 s.next, .bool s.yes, .int .i64 c] rfl rfl (HQ.out.there 0 9 (by simp)) sizeGO (oneGO G.now k s c) ?_
      obtain ⟨hb8, ha8⟩ := ans_put (s := s) (c := c) HQ.out HOw.out hq HB4.out
      refine hK.out _ _ ⟨fun _ => trivial, HK9.out _ hb8⟩ (fun hHL => ?_)
      clear hK K hHL
      refine wpAnyL_done (by kernel_rfl) ?_ _
      have HA8 := Lib.hid ha8
      have HB8 := Lib.hid hb8
      clear ha8 hb8 HQ HOw
      go_wp2_with fail
      go_meet
      exact ⟨_, k, rfl, HA8.out, HB8.out⟩
   ·go_simp
    have HQ := Lib.hid (show Row (u1.alloc (.cells #[.int .i64 0, .slice none 0 0, .slice none 0 0, .slice none 0 0, .int .i64 0, .int .i64 0, .int .i64 0, .bool false, .int .i64 0] 35)) u1.heap.size 35 [.int .i64 0, .slice none 0 0, .slice none 0 0, .slice none 0 0, .int .i64 0, .int .i64 0, .int .i64 0, .bool false, .int .i64 0] from heap_alloc_new u1 _)
    have hq : M4.heap.size ≤ u1.heap.size := HB1.out.size
    have HB2 := Lib.hid (HB1.out.alloc HB1.out.size (.cells #[.int .i64 0, .slice none 0 0, .slice none 0 0, .slice none 0 0, .int .i64 0, .int .i64 0, .int .i64 0, .bool false, .int .i64 0] 35))
    have HN := Lib.hid (HN.out.later ((Below.refl u1.heap.size u1).alloc (Nat.le_refl _) (.cells #[.int .i64 0, .slice none 0 0, .slice none 0 0, .slice none 0 0, .int .i64 0, .int .i64 0, .int .i64 0, .bool false, .int .i64 0] 35)))
    refine hK.out _ _ ⟨fun _ => trivial, HK9.out _ HB2.out⟩ (fun hHL => ?_)
    clear hK K
    (try simp only [Act.put, List.setIfInBounds_toArray, List.set_cons_zero, List.set_cons_succ])
    refine wpAnyL_ready (rs := [3]) (by kernel_rfl) (by simp) ?_
    refine AllReadyL.cons rfl (fun K hK => ?_) AllReadyL.nil
    ·refine step_callTo rfl 56 #[rqV r] (by kernel_rfl) (rqV r) (fun w' => Below (u1.alloc (.cells #[.int .i64 0, .slice none 0 0, .slice none 0 0, .slice none 0 0, .int .i64 0, .int .i64 0, .int .i64 0, .bool false, .int .i64 0] 35)).heap.size (u1.alloc (.cells #[.int .i64 0, .slice none 0 0, .slice none 0 0, .slice none 0 0, .int .i64 0, .int .i64 0, .int .i64 0, .bool false, .int .i64 0] 35)) w') (toReqG_any r _) ?_
     intro u3 hn
     have HC := Lib.hid hn
     have HN := Lib.hid (HN.out.later hn)
     have HB3 := Lib.hid (HB2.out.trans (hn.mono HB2.out.size))
     clear hn
     have HQ := Lib.hid (HQ.out.below HC.out HQ.out.lt)
     refine hK.out _ _ ⟨fun _ => trivial, HK9.out _ HB3.out⟩ (fun hHL => ?_)
     clear hK K
     (try simp only [Act.put, List.setIfInBounds_toArray, List.set_cons_zero, List.set_cons_succ])
     refine wpAnyL_ready (rs := [4]) (by kernel_rfl) (by simp) ?_
     refine AllReadyL.cons rfl (fun K hK => ?_) AllReadyL.nil
     ·refine step_callE rfl 13 #[grV g.now h9, rqV r] (by kernel_rfl) (fun x => goV G.now x s c) (fun x w' => GrOwn u3.heap.size G x w' ∧ Below u3.heap.size u3 w') (HDi.out _ h9 HN.out.isIn) ?_
      intro k u4 hn
      have HC := Lib.hid hn.2
      have HOw := Lib.hid (own3_down hn.1 HB3.out.size)
      have HB4 := Lib.hid (HB3.out.trans (hn.2.mono HB3.out.size))
      clear hn HN
      have HQ := Lib.hid (HQ.out.below HC.out HQ.out.lt)
      refine hK.out _ _ ⟨fun _ => trivial, HK9.out _ HB4.out⟩ (fun hHL => ?_)
      clear hK K
      (try simp only [Act.put, List.setIfInBounds_toArray, List.set_cons_zero, List.set_cons_succ])
      refine wpAnyL_ready (rs := [6]) (by kernel_rfl) (by simp) ?_
      refine AllReadyL.cons rfl (fun K hK => ?_) AllReadyL.nil
      refine step_stG rfl 35 (.tmp 12) (.tmp 69) rfl _ 0 #[.int .i64 G.now, .slice k.wp k.wn k.wc, .slice k.kp k.kn k.kc, .slice k.dp k.dn k.dc, .int .i64 s.code, .int .i64 s.token, .int .i64 s.next, .bool s.yes, .int .i64 c] rfl rfl (HQ.out.there 0 9 (by simp)) sizeGO (oneGO G.now k s c) ?_
      obtain ⟨hb8, ha8⟩ := ans_put (s := s) (c := c) HQ.out HOw.out hq HB4.out
      refine hK.out _ _ ⟨fun _ => trivial, HK9.out _ hb8⟩ (fun hHL => ?_)
      clear hK K hHL
      refine wpAnyL_done (by kernel_rfl) ?_ _
      have HA8 := Lib.hid ha8
      have HB8 := Lib.hid hb8
      clear ha8 hb8 HQ HOw
      go_wp2_with fail
      go_meet
      exact ⟨_, k, rfl, HA8.out, HB8.out⟩
  ·go_simp
   have HQ := Lib.hid (show Row (M4.drew.alloc (.cells #[.int .i64 0, .slice none 0 0, .slice none 0 0, .slice none 0 0, .int .i64 0, .int .i64 0, .int .i64 0, .bool false, .int .i64 0] 35)) M4.heap.size 35 [.int .i64 0, .slice none 0 0, .slice none 0 0, .slice none 0 0, .int .i64 0, .int .i64 0, .int .i64 0, .bool false, .int .i64 0] from heap_alloc_new M4.drew _)
   have hq : M4.heap.size ≤ M4.heap.size := HB0.out.size
   have HB1 := Lib.hid (HB0.out.alloc HB0.out.size (.cells #[.int .i64 0, .slice none 0 0, .slice none 0 0, .slice none 0 0, .int .i64 0, .int .i64 0, .int .i64 0, .bool false, .int .i64 0] 35))
   refine hK.out _ _ ⟨fun _ => trivial, HK9.out _ HB1.out⟩ (fun hHL => ?_)
   clear hK K
   (try simp only [Act.put, List.setIfInBounds_toArray, List.set_cons_zero, List.set_cons_succ])
   refine wpAnyL_ready (rs := [1]) (by kernel_rfl) (by simp) ?_
   refine AllReadyL.cons rfl (fun K hK => ?_) AllReadyL.nil
   ·refine step_callE rfl 55 #[grV g.now h] (by kernel_rfl) (fun x => grV g.now x) (fun x w' => GrNew (M4.drew.alloc (.cells #[.int .i64 0, .slice none 0 0, .slice none 0 0, .slice none 0 0, .int .i64 0, .int .i64 0, .int .i64 0, .bool false, .int .i64 0] 35)) w' x g ∧ Below (M4.drew.alloc (.cells #[.int .i64 0, .slice none 0 0, .slice none 0 0, .slice none 0 0, .int .i64 0, .int .i64 0, .int .i64 0, .bool false, .int .i64 0] 35)).heap.size (M4.drew.alloc (.cells #[.int .i64 0, .slice none 0 0, .slice none 0 0, .slice none 0 0, .int .i64 0, .int .i64 0, .int .i64 0, .bool false, .int .i64 0] 35)) w') (toGrant_any h g _ (HIn.out _ HB1.out) HSm.out) ?_
    intro h9 u2 hn
    have HC := Lib.hid hn.2
    have HN := Lib.hid hn.1
    have HB2 := Lib.hid (HB1.out.trans (hn.2.mono HB1.out.size))
    clear hn
    have HQ := Lib.hid (HQ.out.below HC.out HQ.out.lt)
    refine hK.out _ _ ⟨fun _ => trivial, HK9.out _ HB2.out⟩ (fun hHL => ?_)
    clear hK K
    (try simp only [Act.put, List.setIfInBounds_toArray, List.set_cons_zero, List.set_cons_succ])
    refine wpAnyL_ready (rs := [3]) (by kernel_rfl) (by simp) ?_
    refine AllReadyL.cons rfl (fun K hK => ?_) AllReadyL.nil
    ·refine step_callTo rfl 56 #[rqV r] (by kernel_rfl) (rqV r) (fun w' => Below u2.heap.size u2 w') (toReqG_any r _) ?_
     intro u3 hn
     have HC := Lib.hid hn
     have HN := Lib.hid (HN.out.later hn)
     have HB3 := Lib.hid (HB2.out.trans (hn.mono HB2.out.size))
     clear hn
     have HQ := Lib.hid (HQ.out.below HC.out HQ.out.lt)
     refine hK.out _ _ ⟨fun _ => trivial, HK9.out _ HB3.out⟩ (fun hHL => ?_)
     clear hK K
     (try simp only [Act.put, List.setIfInBounds_toArray, List.set_cons_zero, List.set_cons_succ])
     refine wpAnyL_ready (rs := [4]) (by kernel_rfl) (by simp) ?_
     refine AllReadyL.cons rfl (fun K hK => ?_) AllReadyL.nil
     ·refine step_callE rfl 13 #[grV g.now h9, rqV r] (by kernel_rfl) (fun x => goV G.now x s c) (fun x w' => GrOwn u3.heap.size G x w' ∧ Below u3.heap.size u3 w') (HDi.out _ h9 HN.out.isIn) ?_
      intro k u4 hn
      have HC := Lib.hid hn.2
      have HOw := Lib.hid (own3_down hn.1 HB3.out.size)
      have HB4 := Lib.hid (HB3.out.trans (hn.2.mono HB3.out.size))
      clear hn HN
      have HQ := Lib.hid (HQ.out.below HC.out HQ.out.lt)
      refine hK.out _ _ ⟨fun _ => trivial, HK9.out _ HB4.out⟩ (fun hHL => ?_)
      clear hK K
      (try simp only [Act.put, List.setIfInBounds_toArray, List.set_cons_zero, List.set_cons_succ])
      refine wpAnyL_ready (rs := [6]) (by kernel_rfl) (by simp) ?_
      refine AllReadyL.cons rfl (fun K hK => ?_) AllReadyL.nil
      refine step_stG rfl 35 (.tmp 12) (.tmp 69) rfl _ 0 #[.int .i64 G.now, .slice k.wp k.wn k.wc, .slice k.kp k.kn k.kc, .slice k.dp k.dn k.dc, .int .i64 s.code, .int .i64 s.token, .int .i64 s.next, .bool s.yes, .int .i64 c] rfl rfl (HQ.out.there 0 9 (by simp)) sizeGO (oneGO G.now k s c) ?_
      obtain ⟨hb8, ha8⟩ := ans_put (s := s) (c := c) HQ.out HOw.out hq HB4.out
      refine hK.out _ _ ⟨fun _ => trivial, HK9.out _ hb8⟩ (fun hHL => ?_)
      clear hK K hHL
      refine wpAnyL_done (by kernel_rfl) ?_ _
      have HA8 := Lib.hid ha8
      have HB8 := Lib.hid hb8
      clear ha8 hb8 HQ HOw
      go_wp2_with fail
      go_meet
      exact ⟨_, k, rfl, HA8.out, HB8.out⟩
 case rest =>
 obtain ⟨q12, k12, rfl, ha12, hb⟩ := hcut
 obtain ⟨Z, hwx⟩ : ∃ wx : World, wx = wc := ⟨_, rfl⟩
 rw [← hwx] at ha12 hb ⊢
 clear hwx HK9 HIn
 have HBoQ := Lib.hid (HBoP.out.later hb HBoP.out.size)
 have HA6Q := Lib.hid (HA6P.out.later hb)
 have HA12 := Lib.hid ha12
 have HR8Q := Lib.hid (HR8P.out.below hb HR8P.out.lt)
 have HMkQ := Lib.hid (HMkP.out.below hb)
 clear ha12 hb HBoP HA6P HR8P HMkP
 have HE12 := Lib.hid (show goV G.now k12 s c = .agg #[.int .i64 G.now, .slice k12.wp k12.wn k12.wc, .slice k12.kp k12.kn k12.kc, .slice k12.dp k12.dn k12.dc, .int .i64 s.code, .int .i64 s.token, .int .i64 s.next, .bool s.yes, .int .i64 c] from rfl)
 have c0 : Z.cell? ⟨q12, 0, none⟩ = some (.int .i64 G.now) := HA12.out.1.cell 0
 have c1 : Z.cell? ⟨q12, 1, none⟩ = some (.slice k12.wp k12.wn k12.wc) := HA12.out.1.cell 1
 have c2 : Z.cell? ⟨q12, 2, none⟩ = some (.slice k12.kp k12.kn k12.kc) := HA12.out.1.cell 2
 have c3 : Z.cell? ⟨q12, 3, none⟩ = some (.slice k12.dp k12.dn k12.dc) := HA12.out.1.cell 3
 have c4 : Z.cell? ⟨q12, 4, none⟩ = some (.int .i64 s.code) := HA12.out.1.cell 4
 have c5 : Z.cell? ⟨q12, 5, none⟩ = some (.int .i64 s.token) := HA12.out.1.cell 5
 have c6 : Z.cell? ⟨q12, 6, none⟩ = some (.int .i64 s.next) := HA12.out.1.cell 6
 have c7 : Z.cell? ⟨q12, 7, none⟩ = some (.bool s.yes) := HA12.out.1.cell 7
 have c8 : Z.cell? ⟨q12, 8, none⟩ = some (.int .i64 c) := HA12.out.1.cell 8
 have d0 : Z.cell? ⟨q6, 0, none⟩ = some (.int .i64 G.now) := HA6Q.out.1.cell 0
 have d1 : Z.cell? ⟨q6, 1, none⟩ = some (.slice k6.wp k6.wn k6.wc) := HA6Q.out.1.cell 1
 have d2 : Z.cell? ⟨q6, 2, none⟩ = some (.slice k6.kp k6.kn k6.kc) := HA6Q.out.1.cell 2
 have d3 : Z.cell? ⟨q6, 3, none⟩ = some (.slice k6.dp k6.dn k6.dc) := HA6Q.out.1.cell 3
 have d4 : Z.cell? ⟨q6, 4, none⟩ = some (.int .i64 s.code) := HA6Q.out.1.cell 4
 have d5 : Z.cell? ⟨q6, 5, none⟩ = some (.int .i64 s.token) := HA6Q.out.1.cell 5
 have d6 : Z.cell? ⟨q6, 6, none⟩ = some (.int .i64 s.next) := HA6Q.out.1.cell 6
 have d7 : Z.cell? ⟨q6, 7, none⟩ = some (.bool s.yes) := HA6Q.out.1.cell 7
 have d8 : Z.cell? ⟨q6, 8, none⟩ = some (.int .i64 c) := HA6Q.out.1.cell 8
 go_wp2_with fail
 rw [← HE12.out, ← HE6.out]
 refine (eqGO_same k12 k6 G s c _ (own_isIn HA12.out.2.1) (own_isIn HA6Q.out.2.1) HSG.out).mono ?_
 rintro e Z2 ⟨rfl, hb⟩
 have HBoR := Lib.hid (HBoQ.out.later hb HBoQ.out.size)
 have HR8R := Lib.hid (HR8Q.out.below hb HR8Q.out.lt)
 have HMkR := Lib.hid (HMkQ.out.below hb)
 clear hb HBoQ HA6Q HA12 HR8Q HMkQ c0 c1 c2 c3 c4 c5 c6 c7 c8 d0 d1 d2 d3 d4 d5 d6 d7 d8
 have c0 : Z2.cell? ⟨q8, 0, none⟩ = some (.int .i64 G.now) := HR8R.out.cell 0
 have c1 : Z2.cell? ⟨q8, 1, none⟩ = some (.slice k8.wp k8.wn k8.wc) := HR8R.out.cell 1
 have c2 : Z2.cell? ⟨q8, 2, none⟩ = some (.slice k8.kp k8.kn k8.kc) := HR8R.out.cell 2
 have c3 : Z2.cell? ⟨q8, 3, none⟩ = some (.slice k8.dp k8.dn k8.dc) := HR8R.out.cell 3
 have c4 : Z2.cell? ⟨q8, 4, none⟩ = some (.int .i64 s.code) := HR8R.out.cell 4
 have c5 : Z2.cell? ⟨q8, 5, none⟩ = some (.int .i64 s.token) := HR8R.out.cell 5
 have c6 : Z2.cell? ⟨q8, 6, none⟩ = some (.int .i64 s.next) := HR8R.out.cell 6
 have c7 : Z2.cell? ⟨q8, 7, none⟩ = some (.bool s.yes) := HR8R.out.cell 7
 have c8 : Z2.cell? ⟨q8, 8, none⟩ = some (.int .i64 c) := HR8R.out.cell 8
 go_wp2_with fail
 rw [← HE8.out]
 refine (heldGO_any k8 G.now s c 1 _ (by omega) hend8 HMkR.out).mono ?_
 rintro e Z3 ⟨rfl, hb⟩
 have HBoS := Lib.hid (HBoR.out.later hb HBoR.out.size)
 clear hb HBoR HR8R HMkR c0 c1 c2 c3 c4 c5 c6 c7 c8
 go_wp2_with fail
 go_ret
 exact ⟨rfl, HBoS.out.2.2⟩
end Go.Proofs.YtchfgdiipjbgoaaGreat
