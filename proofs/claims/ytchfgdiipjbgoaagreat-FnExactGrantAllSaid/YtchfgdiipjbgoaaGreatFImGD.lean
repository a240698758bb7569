/- GrantDo: the program. -/
import Derived.Test.YtchfgdiipjbgoaaGreatFGoD
import Derived.Test.YtchfgdiipjbgoaaGreatFDo6
namespace Go.Proofs.YtchfgdiipjbgoaaGreat
open Go Go.RowKit Go.Lib
set_option linter.unusedVariables false
set_option maxRecDepth 100000

section
variable {P : Program} {ops : Array Oper} {Q : Exit → Act → World → Prop} {o : Oper} {a : Act}
/-- A call that makes a grant, as one step of a region that draws its order. -/
theorem step_madeG {w : World} {KK : Act → World → Prop} {F : Prop} (hgd : o.guard = none) (f : FuncId) (args : Array Value) (hrun : (execOp a.eval o).run P w = .ok (.enter f args) w) (g : Gr) (w0 : World)
  (hc : Calls P f args w (GrMade g w0)) (h : ∀ k w', GrOwn w0.heap.size g k w' → Below w0.heap.size w0 w' → KK (a.put o.dst (grV g.now k)) w') : if Region.wanted o (yielded ops a.tmps) = true then Oper.wp P o a w KK Q else F := by
 have hw : Region.wanted o (yielded ops a.tmps) = true := by simp [Region.wanted, hgd]
 rw [if_pos hw]
 unfold Oper.wp
 rw [hrun, Oper.upon_enter]
 refine hc.mono fun e w'' hh => ?_
 obtain ⟨k, rfl, h1, h2⟩ := hh
 exact h k _ h1 h2
end
set_option maxHeartbeats 4000000 in
theorem gdo_impl (g : Gr) (h : GH) (r : RQ) (w : World) (hin : GrIn w h g) (hwf : GrWf g) (hs : GrSmall g) (hp : r.proof.size ≤ maxLen) : Calls Tryz.prog 13 #[grV g.now h, rqV r] w (GDMade (gdD g r).1 (gdD g r).2.1 (gdD g r).2.2 w) := by
 obtain ⟨W, hW⟩ : ∃ W, W = ((w.alloc (.cells #[.int .i64 g.now, .slice h.wp h.wn h.wc, .slice h.kp h.kn h.kc, .slice h.dp h.dn h.dc] 27)).alloc (.cells #[.int .i64 r.no, .int .i64 r.kind, .int .i64 r.client, .int .i64 r.code, .int .i64 r.token, .string r.proof, .int .i64 r.upTo] 29)).alloc (.cells #[.int .i64 0, .slice none 0 0, .slice none 0 0, .slice none 0 0, .int .i64 0, .int .i64 0, .int .i64 0, .bool false, .int .i64 0] 35) := ⟨_, rfl⟩
 have hb0 : Below w.heap.size w W := by rw [hW]; go_grown
 have r0 : Row W w.heap.size 27 (grL g.now h) := by
  rw [hW]
  exact Row.below (heap_alloc_new w _) (((Below.refl _ _).alloc (Nat.le_refl _) _).alloc (by simp) _) (by simp)
 have r1 : Row W (w.heap.size + 1) 29 (rqL r) := by
  rw [hW]
  have h := heap_alloc_new (w.alloc (.cells #[.int .i64 g.now, .slice h.wp h.wn h.wc, .slice h.kp h.kn h.kc, .slice h.dp h.dn h.dc] 27)) (.cells #[.int .i64 r.no, .int .i64 r.kind, .int .i64 r.client, .int .i64 r.code, .int .i64 r.token, .string r.proof, .int .i64 r.upTo] 29)
  rw [World.size_alloc] at h
  exact Row.below h ((Below.refl _ _).alloc (Nat.le_refl _) _) (by simp)
 have r2 : Row W (w.heap.size + 1 + 1) 35 [.int .i64 0, .slice none 0 0, .slice none 0 0, .slice none 0 0, .int .i64 0, .int .i64 0, .int .i64 0, .bool false, .int .i64 0] := by
  rw [hW]
  have h := heap_alloc_new ((w.alloc (.cells #[.int .i64 g.now, .slice h.wp h.wn h.wc, .slice h.kp h.kn h.kc, .slice h.dp h.dn h.dc] 27)).alloc (.cells #[.int .i64 r.no, .int .i64 r.kind, .int .i64 r.client, .int .i64 r.code, .int .i64 r.token, .string r.proof, .int .i64 r.upTo] 29)) (.cells #[.int .i64 0, .slice none 0 0, .slice none 0 0, .slice none 0 0, .int .i64 0, .int .i64 0, .int .i64 0, .bool false, .int .i64 0] 35)
  rw [World.size_alloc, World.size_alloc] at h
  exact h
 obtain ⟨p, hpp⟩ : ∃ p, p = w.heap.size + 1 + 1 := ⟨_, rfl⟩
 rw [← hpp] at r2
 have HP := Lib.hid hpp
 have hp2 : w.heap.size + 1 < p := by omega
 have HW := Lib.hid hW
 have hz := hb0.size
 have HB := Lib.hid hb0
 have R0 := Lib.hid r0
 have R1 := Lib.hid r1
 have R2 := Lib.hid r2
 have hl2 := r2.lt
 have HGi := Lib.hid (hin.later hb0)
 have HSm := Lib.hid hs
 have HV := Lib.hid (show grV g.now h = .agg #[.int .i64 g.now, .slice h.wp h.wn h.wc, .slice h.kp h.kn h.kc, .slice h.dp h.dn h.dc] from rfl)
 have HQ := Lib.hid (show rqV r = .agg #[.int .i64 r.no, .int .i64 r.kind, .int .i64 r.client, .int .i64 r.code, .int .i64 r.token, .string r.proof, .int .i64 r.upTo] from rfl)
 have HWf := Lib.hid hwf
 clear hwf
 clear hpp hW hb0 r0 r1 r2 hin hs
 obtain ⟨gb, hgb⟩ : ∃ gb, grantB g = gb := ⟨_, rfl⟩
 obtain ⟨rb, hrb⟩ : ∃ rb, rightB r = rb := ⟨_, rfl⟩
 have HGb := Lib.hid hgb
 have HRb := Lib.hid hrb
 rw [HV.out, HQ.out]
 go_enter Tryz.func13, Tryz.ntmps13
 go_wp2_with fail
 rw [← HW.out, ← HV.out, ← HP.out]
 refine (grant_imp g h _ HGi.out HSm.out HWf.out).mono ?_
 rw [HGb.out]
 rintro e w1 ⟨rfl, hb1⟩
 have S0 := Lib.hid (R0.out.below hb1 R0.out.lt)
 have S1 := Lib.hid (R1.out.below hb1 R1.out.lt)
 have S2 := Lib.hid (R2.out.below hb1 R2.out.lt)
 have HB1 := Lib.hid (HB.out.trans (hb1.mono hz))
 have HG1 := Lib.hid (HGi.out.later hb1)
 have hz1 := HB1.out.size
 have b0 : w1.cell? ⟨w.heap.size + 1, 0, none⟩ = some (.int .i64 r.no) := S1.out.cell 0
 have b1 : w1.cell? ⟨w.heap.size + 1, 1, none⟩ = some (.int .i64 r.kind) := S1.out.cell 1
 have b2 : w1.cell? ⟨w.heap.size + 1, 2, none⟩ = some (.int .i64 r.client) := S1.out.cell 2
 have b3 : w1.cell? ⟨w.heap.size + 1, 3, none⟩ = some (.int .i64 r.code) := S1.out.cell 3
 have b4 : w1.cell? ⟨w.heap.size + 1, 4, none⟩ = some (.int .i64 r.token) := S1.out.cell 4
 have b5 : w1.cell? ⟨w.heap.size + 1, 5, none⟩ = some (.string r.proof) := S1.out.cell 5
 have b6 : w1.cell? ⟨w.heap.size + 1, 6, none⟩ = some (.int .i64 r.upTo) := S1.out.cell 6
 clear hb1
 cases gb with
 | false =>
  have HD := Lib.hid (show gdD g r = (zG, codeR 0, 1) by simp [gdD, hgb])
  clear hgb hrb
  go_wp2_with (refine Stop.out (p := wpList _ _ _ [{ dst := none, op := .store 35 (.tmp 4) (.tmp 15), type := _, pos := _, after := _, guard := _ }] _ _) ?_)
  constructor
  refine wpList_store_to rfl 35 (.tmp 4) (.tmp 15) rfl p 0 #[.int .i64 0, .slice none 0 0, .slice none 0 0, .slice none 0 0, .int .i64 0, .int .i64 0, .int .i64 0, .bool false, .int .i64 1] rfl rfl (S2.out.there 0 9 (by simp)) sizeGO (oneGO 0 zH (codeR 0) 1) ?_
  intro Z hZ
  have hk7 : Kept w1.heap.size p p p w1 Z := by rw [hZ]; exact Kept.setCells (.inl rfl) _ 0 (Kept.refl _ _ _ _ _)
  have Z1 : Row Z p 35 (goL 0 zH (codeR 0) 1) := by rw [hZ]; exact S2.out.setCells _ 0
  have HBz := HB1.out.trans (hk7.below (B := w.heap.size) hz1 (by omega) (by omega) (by omega))
  clear hZ hk7
  go_wp2_with fail
  refine bodyPost_ret (ret_go rfl rfl Z1) rfl ?_
  rw [HD.out]
  exact ⟨zH, rfl, own_zero _ _, HBz⟩
 | true =>
  go_wp2_with fail
  rw [← HQ.out]
  refine (right_impl r _ hp).mono ?_
  rw [HRb.out]
  rintro e w2 ⟨rfl, hb2⟩
  have T0 := Lib.hid (S0.out.below hb2 S0.out.lt)
  have T1 := Lib.hid (S1.out.below hb2 S1.out.lt)
  have T2 := Lib.hid (S2.out.below hb2 S2.out.lt)
  have HB2 := Lib.hid (HB1.out.trans (hb2.mono hz1))
  have HG2 := Lib.hid (HG1.out.later hb2)
  have hz2 := HB2.out.size
  clear hb2 b0 b1 b2 b3 b4 b5 b6
  cases rb with
  | false =>
   have HD := Lib.hid (show gdD g r = (zG, codeR 0, 1) by simp [gdD, hrb])
   clear hgb hrb
   go_wp2_with (refine Stop.out (p := wpList _ _ _ [{ dst := none, op := .store 35 (.tmp 4) (.tmp 15), type := _, pos := _, after := _, guard := _ }] _ _) ?_)
   constructor
   refine wpList_store_to rfl 35 (.tmp 4) (.tmp 15) rfl p 0 #[.int .i64 0, .slice none 0 0, .slice none 0 0, .slice none 0 0, .int .i64 0, .int .i64 0, .int .i64 0, .bool false, .int .i64 1] rfl rfl (T2.out.there 0 9 (by simp)) sizeGO (oneGO 0 zH (codeR 0) 1) ?_
   intro Z hZ
   have hk7 : Kept w2.heap.size p p p w2 Z := by rw [hZ]; exact Kept.setCells (.inl rfl) _ 0 (Kept.refl _ _ _ _ _)
   have Z1 : Row Z p 35 (goL 0 zH (codeR 0) 1) := by rw [hZ]; exact T2.out.setCells _ 0
   have HBz := HB2.out.trans (hk7.below (B := w.heap.size) hz2 (by omega) (by omega) (by omega))
   clear hZ hk7
   go_wp2_with fail
   refine bodyPost_ret (ret_go rfl rfl Z1) rfl ?_
   rw [HD.out]
   exact ⟨zH, rfl, own_zero _ _, HBz⟩
  | true =>
   have HD := Lib.hid (show gdD g r = ((doD g r).1, (doD g r).2, 0) by simp [gdD, hgb, hrb])
   clear hgb hrb
   have a0 : w2.cell? ⟨w.heap.size, 0, none⟩ = some (.int .i64 g.now) := T0.out.cell 0
   have a1 : w2.cell? ⟨w.heap.size, 1, none⟩ = some (.slice h.wp h.wn h.wc) := T0.out.cell 1
   have a2 : w2.cell? ⟨w.heap.size, 2, none⟩ = some (.slice h.kp h.kn h.kc) := T0.out.cell 2
   have a3 : w2.cell? ⟨w.heap.size, 3, none⟩ = some (.slice h.dp h.dn h.dc) := T0.out.cell 3
   go_wp2_with fail
   rw [← HV.out]
   refine (ledgerOf_any g h _ HG2.out HGb.out).mono ?_
   rintro e w3 ⟨B, lb, mw, mk, rfl, hBq, hled, hb3⟩
   have U1 := Lib.hid (T1.out.below hb3 T1.out.lt)
   have U2 := Lib.hid (T2.out.below hb3 T2.out.lt)
   have HB3 := Lib.hid (HB2.out.trans (hb3.mono hz2))
   have hz3 := hb3.size
   have HLd := Lib.hid hled
   have hpl : p < w2.heap.size := T2.out.lt
   clear hb3 hled a0 a1 a2 a3
   have b0 : w3.cell? ⟨w.heap.size + 1, 0, none⟩ = some (.int .i64 r.no) := U1.out.cell 0
   have b1 : w3.cell? ⟨w.heap.size + 1, 1, none⟩ = some (.int .i64 r.kind) := U1.out.cell 1
   have b2 : w3.cell? ⟨w.heap.size + 1, 2, none⟩ = some (.int .i64 r.client) := U1.out.cell 2
   have b3 : w3.cell? ⟨w.heap.size + 1, 3, none⟩ = some (.int .i64 r.code) := U1.out.cell 3
   have b4 : w3.cell? ⟨w.heap.size + 1, 4, none⟩ = some (.int .i64 r.token) := U1.out.cell 4
   have b5 : w3.cell? ⟨w.heap.size + 1, 5, none⟩ = some (.string r.proof) := U1.out.cell 5
   have b6 : w3.cell? ⟨w.heap.size + 1, 6, none⟩ = some (.int .i64 r.upTo) := U1.out.cell 6
   go_wp2_with fail
   rw [← HQ.out]
   refine (serve_any lb mw mk B g r _ HLd.out HGb.out HRb.out).mono ?_
   rintro e w4 ⟨rfl, hl4, hk4⟩
   obtain ⟨s, hs⟩ : ∃ s, s = (doD g r).2 := ⟨_, rfl⟩
   obtain ⟨g', hg'⟩ : ∃ g', g' = (doD g r).1 := ⟨_, rfl⟩
   have HGr : Hid (grantB g' = true) := Lib.hid (by rw [hg']; exact done_right HGb.out HRb.out)
   rw [← hg'] at hl4
   have HD2 : Hid (gdD g r = (g', s, 0)) := Lib.hid (by rw [HD.out, hs, hg'])
   rw [← hs]
   have hpc := HLd.out.places
   have hb4 : Below w2.heap.size w3 w4 := hk4.below hz3 (by omega) (by omega) (by omega)
   have X2 := Lib.hid (U2.out.below hb4 hpl)
   have HB4 := Lib.hid (HB3.out.trans (hb4.mono hz2))
   have hz4 := hb4.size
   rw [show rsV s = .agg #[.int .i64 s.code, .int .i64 s.token, .int .i64 s.next, .bool s.yes] from rfl]
   have hby := (Below.refl w4.heap.size w4).alloc (Nat.le_refl _) (.cells #[.int .i64 s.code, .int .i64 s.token, .int .i64 s.next, .bool s.yes] 33)
   have hry : Row (w4.alloc (.cells #[.int .i64 s.code, .int .i64 s.token, .int .i64 s.next, .bool s.yes] 33)) w4.heap.size 33 (rsL s) := heap_alloc_new w4 _
   obtain ⟨y, hy⟩ : ∃ y, y = w4.heap.size := ⟨_, rfl⟩
   obtain ⟨w6, hw6⟩ : ∃ w6, w6 = w4.alloc (.cells #[.int .i64 s.code, .int .i64 s.token, .int .i64 s.next, .bool s.yes] 33) := ⟨_, rfl⟩
   rw [← hw6] at hby hry
   rw [← hy] at hry
   have HL6 := Lib.hid (hl4.later hby)
   have Y2 := Lib.hid (X2.out.below hby X2.out.lt)
   have HY6 := Lib.hid hry
   have HB6 := Lib.hid (HB4.out.trans (hby.mono HB4.out.size))
   have HYe := Lib.hid hy
   have HW6 := Lib.hid hw6
   have hz6 : w2.heap.size ≤ w6.heap.size := by have := hby.size; omega
   have HK9 : Hid (∀ w', Below w6.heap.size w6 w' → w'.cell? ⟨y, 0, none⟩ = some (.int .i64 s.code) ∧ w'.cell? ⟨y, 1, none⟩ = some (.int .i64 s.token) ∧ w'.cell? ⟨y, 2, none⟩ = some (.int .i64 s.next) ∧ w'.cell? ⟨y, 3, none⟩ = some (.bool s.yes)) := Lib.hid (fun w' hb => by
    have h := hry.below hb hry.lt
    exact ⟨h.cell 0, h.cell 1, h.cell 2, h.cell 3⟩)
   have hyp : y ≠ p := by omega
   clear hs hg' hl4 hk4 hb4 hby hry hw6 b0 b1 b2 b3 b4 b5 b6 hpc
   go_wp2_with fail
   rw [← HW6.out, ← HYe.out]
   clear hy
   have HBd := Lib.hid ((Below.refl w6.heap.size w6).drew)
   refine region_L 4 (fun _ => True) (fun w' => w'.cell? ⟨y, 0, none⟩ = some (.int .i64 s.code) ∧ w'.cell? ⟨y, 1, none⟩ = some (.int .i64 s.token) ∧ w'.cell? ⟨y, 2, none⟩ = some (.int .i64 s.next) ∧ w'.cell? ⟨y, 3, none⟩ = some (.bool s.yes)) (by kernel_rfl) ⟨fun _ => trivial, HK9.out _ HBd.out⟩ (fun hHL => ?_)
   refine wpAnyL_take (i := 0) (v := ?_) (by rfl) rfl (by kernel_rfl) (by kernel_rfl) (by kernel_rfl) (fun _ _ _ h => h) (Or.inl ⟨by rfl, ?_⟩) hHL ?_
   rotate_left
   ·intro w hSw; (try dsimp only at hSw); (first | (go_simp; done) | (go_simp; with_reducible rfl))
   clear hHL
   intro hHL
   (try simp only [Act.put, List.setIfInBounds_toArray, List.set_cons_zero, List.set_cons_succ])
   refine wpAnyL_take (i := 2) (v := ?_) (by rfl) rfl (by kernel_rfl) (by kernel_rfl) (by kernel_rfl) (fun _ _ _ h => h) (Or.inl ⟨by rfl, ?_⟩) hHL ?_
   rotate_left
   ·intro w hSw; (try dsimp only at hSw); (first | (go_simp; done) | (go_simp; with_reducible rfl))
   clear hHL
   intro hHL
   (try simp only [Act.put, List.setIfInBounds_toArray, List.set_cons_zero, List.set_cons_succ])
   refine wpAnyL_ready (rs := [1]) (by kernel_rfl) (by simp) ?_
   refine AllReadyL.cons rfl (fun K hK => ?_) AllReadyL.nil
   refine step_madeG rfl 83 #[.pointer (some ⟨lb, 0, none⟩)] (by kernel_rfl) g' _ (grant_made lb mw mk B g' _ (HL6.out.later HBd.out) HGr.out) ?_
   intro k w7 hown hb7
   have HB7 := Lib.hid (HBd.out.trans hb7)
   have HO7 := Lib.hid hown
   have hz7 := HB7.out.size
   refine hK.out _ _ ⟨fun _ => trivial, HK9.out _ HB7.out⟩ (fun hHL => ?_)
   clear hK K hb7 hown
   (try simp only [Act.put, List.setIfInBounds_toArray, List.set_cons_zero, List.set_cons_succ])
   rw [show grV g'.now k = .agg #[.int .i64 g'.now, .slice k.wp k.wn k.wc, .slice k.kp k.kn k.kc, .slice k.dp k.dn k.dc] from rfl]
   refine wpAnyL_take (i := 3) (v := ?_) (by rfl) rfl (by kernel_rfl) (by kernel_rfl) (by kernel_rfl) (fun _ _ _ h => h) (Or.inl ⟨by rfl, ?_⟩) hHL ?_
   rotate_left
   ·intro w hSw; (try dsimp only at hSw); (first | (go_simp; done) | (go_simp; with_reducible rfl))
   clear hHL
   intro hHL
   (try simp only [Act.put, List.setIfInBounds_toArray, List.set_cons_zero, List.set_cons_succ])
   refine wpAnyL_ready (rs := [4]) (by kernel_rfl) (by simp) ?_
   refine AllReadyL.cons rfl (fun K hK => ?_) AllReadyL.nil
   have h7 := Y2.out.below HB7.out Y2.out.lt
   have hk8 : Kept w7.heap.size p p p w7 (w7.setCells p 0 #[.int .i64 g'.now, .slice k.wp k.wn k.wc, .slice k.kp k.kn k.kc, .slice k.dp k.dn k.dc, .int .i64 s.code, .int .i64 s.token, .int .i64 s.next, .bool s.yes, .int .i64 0].toList) := Kept.setCells (.inl rfl) _ 0 (Kept.refl _ _ _ _ _)
   refine step_stG rfl 35 (.tmp 4) (.tmp 24) rfl p 0 #[.int .i64 g'.now, .slice k.wp k.wn k.wc, .slice k.kp k.kn k.kc, .slice k.dp k.dn k.dc, .int .i64 s.code, .int .i64 s.token, .int .i64 s.next, .bool s.yes, .int .i64 0] rfl rfl (h7.there 0 9 (by simp)) sizeGO (oneGO g'.now k s 0) ?_
   refine hK.out _ _ ⟨fun _ => trivial, ?_⟩ (fun hHL => ?_)
   ·have h8 := HY6.out.below HB7.out HY6.out.lt
    have h := h8.kept hk8 h8.lt (by omega) (by omega) (by omega)
    exact ⟨h.cell 0, h.cell 1, h.cell 2, h.cell 3⟩
   clear hK K hHL
   refine wpAnyL_done (by kernel_rfl) ?_ _
   have Z1 := Lib.hid (show Row (w7.setCells p 0 #[.int .i64 g'.now, .slice k.wp k.wn k.wc, .slice k.kp k.kn k.kc, .slice k.dp k.dn k.dc, .int .i64 s.code, .int .i64 s.token, .int .i64 s.next, .bool s.yes, .int .i64 0].toList) p 35 (goL g'.now k s 0) from h7.setCells _ 0)
   have HBz := Lib.hid ((HB6.out.trans (HB7.out.mono (by omega))).trans (hk8.below (B := w.heap.size) (by omega) (by omega) (by omega) (by omega)))
   have HOz := Lib.hid (own_move (M := w.heap.size) HO7.out hk8 (by show p < w6.heap.size; omega) (by show w.heap.size ≤ w6.heap.size; omega))
   clear h7 hk8
   generalize (w7.setCells p 0 #[.int .i64 g'.now, .slice k.wp k.wn k.wc, .slice k.kp k.kn k.kc, .slice k.dp k.dn k.dc, .int .i64 s.code, .int .i64 s.token, .int .i64 s.next, .bool s.yes, .int .i64 0].toList) = Z at Z1 HBz HOz ⊢
   go_wp2_with fail
   refine bodyPost_ret (ret_go rfl rfl Z1.out) rfl ?_
   rw [HD2.out]
   exact ⟨k, rfl, HOz.out, HBz.out⟩
end Go.Proofs.YtchfgdiipjbgoaaGreat
