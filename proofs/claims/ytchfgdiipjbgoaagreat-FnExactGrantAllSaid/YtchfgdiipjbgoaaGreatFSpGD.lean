/- GrantDo: the model. -/
import Derived.Test.YtchfgdiipjbgoaaGreatFGoD
namespace Go.Proofs.YtchfgdiipjbgoaaGreat
open Go Go.RowKit Go.Lib
set_option linter.unusedVariables false
set_option maxRecDepth 100000

set_option maxHeartbeats 4000000 in
theorem gdo_spec (g : Gr) (h : GH) (r : RQ) (w : World) (hin : GrIn w h g) (hsr : SrcG w h g) (hs : GrSmall g) (hp : r.proof.size ≤ maxLen) : Calls Tryz.prog 18 #[grV g.now h, rqV r] w (GDMade (gdD g r).1 (gdD g r).2.1 (gdD g r).2.2 w) := by
 obtain ⟨W, hW⟩ : ∃ W, W = ((w.alloc (.cells #[.int .i64 g.now, .slice h.wp h.wn h.wc, .slice h.kp h.kn h.kc, .slice h.dp h.dn h.dc] 27)).alloc (.cells #[.int .i64 r.no, .int .i64 r.kind, .int .i64 r.client, .int .i64 r.code, .int .i64 r.token, .string r.proof, .int .i64 r.upTo] 29)).alloc (.cells #[.int .i64 0, .slice none 0 0, .slice none 0 0, .slice none 0 0, .int .i64 0, .int .i64 0, .int .i64 0, .bool false, .int .i64 0] 35) := ⟨_, rfl⟩
 have hb0 : Below w.heap.size w W := by rw [hW]; go_grown
 have r0 : Row W w.heap.size 27 (grL g.now h) := by
  rw [hW]
  exact Row.below (heap_alloc_new w _) (((Below.refl _ _).alloc (Nat.le_refl _) _).alloc (by simp) _) (by simp)
 have r1 : Row W (w.heap.size + 1) 29 (rqL r) := by
  rw [hW]
  have h := heap_alloc_new (w.alloc (.cells #[.int .i64 g.now, .slice h.wp h.wn h.wc, .slice h.kp h.kn h.kc, .slice h.dp h.dn h.dc] 27)) (.cells #[.int .i64 r.no, .int .i64 r.kind, .int .i64 r.client, .int .i64 r.code, .int .i64 r.token, .string r.proof, .int .i64 r.upTo] 29)
  rw [World.size_alloc] at h
  exact Row.below h ((Below.refl _ _).alloc (Nat.le_refl _) _) (by simp)
 have r2 : Row W (w.heap.size + 1 + 1) 35 [.int .i64 0, .slice none 0 0, .slice none 0 0, .slice none 0 0, .int .i64 0, .int .i64 0, .int .i64 0, .bool false, .int .i64 0] := by
  rw [hW]
  have h := heap_alloc_new ((w.alloc (.cells #[.int .i64 g.now, .slice h.wp h.wn h.wc, .slice h.kp h.kn h.kc, .slice h.dp h.dn h.dc] 27)).alloc (.cells #[.int .i64 r.no, .int .i64 r.kind, .int .i64 r.client, .int .i64 r.code, .int .i64 r.token, .string r.proof, .int .i64 r.upTo] 29)) (.cells #[.int .i64 0, .slice none 0 0, .slice none 0 0, .slice none 0 0, .int .i64 0, .int .i64 0, .int .i64 0, .bool false, .int .i64 0] 35)
  rw [World.size_alloc, World.size_alloc] at h
  exact h
 obtain ⟨p, hpp⟩ : ∃ p, p = w.heap.size + 1 + 1 := ⟨_, rfl⟩
 rw [← hpp] at r2
 have HP := Lib.hid hpp
 have hp2 : w.heap.size + 1 < p := by omega
 have HW := Lib.hid hW
 have hz := hb0.size
 have HB := Lib.hid hb0
 have R0 := Lib.hid r0
 have R1 := Lib.hid r1
 have R2 := Lib.hid r2
 have hl2 := r2.lt
 have HGi := Lib.hid (hin.later hb0)
 have HSm := Lib.hid hs
 have HV := Lib.hid (show grV g.now h = .agg #[.int .i64 g.now, .slice h.wp h.wn h.wc, .slice h.kp h.kn h.kc, .slice h.dp h.dn h.dc] from rfl)
 have HQ := Lib.hid (show rqV r = .agg #[.int .i64 r.no, .int .i64 r.kind, .int .i64 r.client, .int .i64 r.code, .int .i64 r.token, .string r.proof, .int .i64 r.upTo] from rfl)
 have HSr := Lib.hid (hsr.later hb0)
 clear hsr
 clear hpp hW hb0 r0 r1 r2 hin hs
 obtain ⟨gb, hgb⟩ : ∃ gb, grantB g = gb := ⟨_, rfl⟩
 obtain ⟨rb, hrb⟩ : ∃ rb, rightB r = rb := ⟨_, rfl⟩
 have HGb := Lib.hid hgb
 have HRb := Lib.hid hrb
 rw [HV.out, HQ.out]
 go_enter Tryz.func18, Tryz.ntmps18
 go_wp2_with fail
 rw [← HW.out, ← HV.out, ← HP.out]
 refine (grant_spec g h _ HGi.out HSm.out).mono ?_
 rw [HGb.out]
 rintro e w1 ⟨rfl, hb1⟩
 have S0 := Lib.hid (R0.out.below hb1 R0.out.lt)
 have S1 := Lib.hid (R1.out.below hb1 R1.out.lt)
 have S2 := Lib.hid (R2.out.below hb1 R2.out.lt)
 have HB1 := Lib.hid (HB.out.trans (hb1.mono hz))
 have HG1 := Lib.hid (HSr.out.later hb1)
 have hz1 := HB1.out.size
 have b0 : w1.cell? ⟨w.heap.size + 1, 0, none⟩ = some (.int .i64 r.no) := S1.out.cell 0
 have b1 : w1.cell? ⟨w.heap.size + 1, 1, none⟩ = some (.int .i64 r.kind) := S1.out.cell 1
 have b2 : w1.cell? ⟨w.heap.size + 1, 2, none⟩ = some (.int .i64 r.client) := S1.out.cell 2
 have b3 : w1.cell? ⟨w.heap.size + 1, 3, none⟩ = some (.int .i64 r.code) := S1.out.cell 3
 have b4 : w1.cell? ⟨w.heap.size + 1, 4, none⟩ = some (.int .i64 r.token) := S1.out.cell 4
 have b5 : w1.cell? ⟨w.heap.size + 1, 5, none⟩ = some (.string r.proof) := S1.out.cell 5
 have b6 : w1.cell? ⟨w.heap.size + 1, 6, none⟩ = some (.int .i64 r.upTo) := S1.out.cell 6
 clear hb1
 cases gb with
 | false =>
  have HD := Lib.hid (show gdD g r = (zG, codeR 0, 1) by simp [gdD, hgb])
  clear hgb hrb
  go_wp2_with (refine Stop.out (p := wpList _ _ _ [{ dst := none, op := .store 35 (.tmp 4) (.tmp 15), type := _, pos := _, after := _, guard := _ }] _ _) ?_)
  constructor
  refine wpList_store_to rfl 35 (.tmp 4) (.tmp 15) rfl p 0 #[.int .i64 0, .slice none 0 0, .slice none 0 0, .slice none 0 0, .int .i64 0, .int .i64 0, .int .i64 0, .bool false, .int .i64 1] rfl rfl (S2.out.there 0 9 (by simp)) sizeGO (oneGO 0 zH (codeR 0) 1) ?_
  intro Z hZ
  have hk7 : Kept w1.heap.size p p p w1 Z := by rw [hZ]; exact Kept.setCells (.inl rfl) _ 0 (Kept.refl _ _ _ _ _)
  have Z1 : Row Z p 35 (goL 0 zH (codeR 0) 1) := by rw [hZ]; exact S2.out.setCells _ 0
  have HBz := HB1.out.trans (hk7.below (B := w.heap.size) hz1 (by omega) (by omega) (by omega))
  clear hZ hk7
  go_wp2_with fail
  refine bodyPost_ret (ret_go rfl rfl Z1) rfl ?_
  rw [HD.out]
  exact ⟨zH, rfl, own_zero _ _, HBz⟩
 | true =>
  go_wp2_with fail
  rw [← HQ.out]
  refine (right_spec r _ hp).mono ?_
  rw [HRb.out]
  rintro e w2 ⟨rfl, hb2⟩
  have T0 := Lib.hid (S0.out.below hb2 S0.out.lt)
  have T1 := Lib.hid (S1.out.below hb2 S1.out.lt)
  have T2 := Lib.hid (S2.out.below hb2 S2.out.lt)
  have HB2 := Lib.hid (HB1.out.trans (hb2.mono hz1))
  have HG2 := Lib.hid (HG1.out.later hb2)
  have hz2 := HB2.out.size
  clear hb2 b0 b1 b2 b3 b4 b5 b6
  cases rb with
  | false =>
   have HD := Lib.hid (show gdD g r = (zG, codeR 0, 1) by simp [gdD, hrb])
   clear hgb hrb
   go_wp2_with (refine Stop.out (p := wpList _ _ _ [{ dst := none, op := .store 35 (.tmp 4) (.tmp 15), type := _, pos := _, after := _, guard := _ }] _ _) ?_)
   constructor
   refine wpList_store_to rfl 35 (.tmp 4) (.tmp 15) rfl p 0 #[.int .i64 0, .slice none 0 0, .slice none 0 0, .slice none 0 0, .int .i64 0, .int .i64 0, .int .i64 0, .bool false, .int .i64 1] rfl rfl (T2.out.there 0 9 (by simp)) sizeGO (oneGO 0 zH (codeR 0) 1) ?_
   intro Z hZ
   have hk7 : Kept w2.heap.size p p p w2 Z := by rw [hZ]; exact Kept.setCells (.inl rfl) _ 0 (Kept.refl _ _ _ _ _)
   have Z1 : Row Z p 35 (goL 0 zH (codeR 0) 1) := by rw [hZ]; exact T2.out.setCells _ 0
   have HBz := HB2.out.trans (hk7.below (B := w.heap.size) hz2 (by omega) (by omega) (by omega))
   clear hZ hk7
   go_wp2_with fail
   refine bodyPost_ret (ret_go rfl rfl Z1) rfl ?_
   rw [HD.out]
   exact ⟨zH, rfl, own_zero _ _, HBz⟩
  | true =>
   have HD := Lib.hid (show gdD g r = ((doD g r).1, (doD g r).2, 0) by simp [gdD, hgb, hrb])
   clear hgb hrb
   have a0 : w2.cell? ⟨w.heap.size, 0, none⟩ = some (.int .i64 g.now) := T0.out.cell 0
   have a1 : w2.cell? ⟨w.heap.size, 1, none⟩ = some (.slice h.wp h.wn h.wc) := T0.out.cell 1
   have a2 : w2.cell? ⟨w.heap.size, 2, none⟩ = some (.slice h.kp h.kn h.kc) := T0.out.cell 2
   have a3 : w2.cell? ⟨w.heap.size, 3, none⟩ = some (.slice h.dp h.dn h.dc) := T0.out.cell 3
   go_wp2_with fail
   rw [← HV.out]
   refine (copy_spec g h _ HG2.out (by have := HSm.out; unfold GrSmall at this; omega)).mono ?_
   rintro e w3 ⟨k, rfl, hown, hb3⟩
   have U1 := Lib.hid (T1.out.below hb3 T1.out.lt)
   have U2 := Lib.hid (T2.out.below hb3 T2.out.lt)
   have HB3 := Lib.hid (HB2.out.trans (hb3.mono hz2))
   have hz3 := hb3.size
   have hbx := (Below.refl w3.heap.size w3).alloc (Nat.le_refl _) (.cells #[.int .i64 g.now, .slice k.wp k.wn k.wc, .slice k.kp k.kn k.kc, .slice k.dp k.dn k.dc] 27)
   have hrx : Row (w3.alloc (.cells #[.int .i64 g.now, .slice k.wp k.wn k.wc, .slice k.kp k.kn k.kc, .slice k.dp k.dn k.dc] 27)) w3.heap.size 27 (grL g.now k) := heap_alloc_new w3 _
   obtain ⟨q, hq⟩ : ∃ q, q = w3.heap.size := ⟨_, rfl⟩
   obtain ⟨w4, hw4⟩ : ∃ w4, w4 = w3.alloc (.cells #[.int .i64 g.now, .slice k.wp k.wn k.wc, .slice k.kp k.kn k.kc, .slice k.dp k.dn k.dc] 27) := ⟨_, rfl⟩
   rw [← hw4] at hbx hrx
   rw [← hq] at hrx
   have hat : GrAt tailG w2.heap.size w4 q k g := ⟨hrx, own_late hown.1 hbx, own_late hown.2.1 hbx, own_late hown.2.2 hbx, by omega⟩
   have HAt := Lib.hid hat
   have V1 := Lib.hid (U1.out.below hbx U1.out.lt)
   have V2 := Lib.hid (U2.out.below hbx U2.out.lt)
   have HB4 := Lib.hid (HB3.out.trans (hbx.mono HB3.out.size))
   have hz4 : w2.heap.size ≤ w4.heap.size := by have := hbx.size; omega
   have HQe := Lib.hid hq
   have HW4 := Lib.hid hw4
   have hpl : p < w2.heap.size := T2.out.lt
   rw [show grV g.now k = .agg #[.int .i64 g.now, .slice k.wp k.wn k.wc, .slice k.kp k.kn k.kc, .slice k.dp k.dn k.dc] from rfl]
   clear hb3 hbx hrx hq hat hown a0 a1 a2 a3
   have b0 : w4.cell? ⟨w.heap.size + 1, 0, none⟩ = some (.int .i64 r.no) := V1.out.cell 0
   have b1 : w4.cell? ⟨w.heap.size + 1, 1, none⟩ = some (.int .i64 r.kind) := V1.out.cell 1
   have b2 : w4.cell? ⟨w.heap.size + 1, 2, none⟩ = some (.int .i64 r.client) := V1.out.cell 2
   have b3 : w4.cell? ⟨w.heap.size + 1, 3, none⟩ = some (.int .i64 r.code) := V1.out.cell 3
   have b4 : w4.cell? ⟨w.heap.size + 1, 4, none⟩ = some (.int .i64 r.token) := V1.out.cell 4
   have b5 : w4.cell? ⟨w.heap.size + 1, 5, none⟩ = some (.string r.proof) := V1.out.cell 5
   have b6 : w4.cell? ⟨w.heap.size + 1, 6, none⟩ = some (.int .i64 r.upTo) := V1.out.cell 6
   rw [HW4.out] at b0 b1 b2 b3 b4 b5 b6
   go_wp2_with fail
   rw [← HQ.out, ← HW4.out, ← HQe.out]
   refine (do_spec r HAt.out HGb.out HRb.out).mono ?_
   rintro e w5 ⟨k', rfl, hat', hk5⟩
   obtain ⟨s, hs⟩ : ∃ s, s = (doD g r).2 := ⟨_, rfl⟩
   obtain ⟨g', hg'⟩ : ∃ g', g' = (doD g r).1 := ⟨_, rfl⟩
   rw [← hg'] at hat'
   have HD2 : Hid (gdD g r = (g', s, 0)) := Lib.hid (by rw [HD.out, hs, hg'])
   rw [← hs]
   have hX := blk_ge HAt.out.words HAt.out.place
   have hY := blk_ge HAt.out.keys HAt.out.place
   have hb5 : Below w2.heap.size w4 w5 := hk5.below hz4 HAt.out.place hX hY
   have X2 := Lib.hid (V2.out.below hb5 hpl)
   have HB5 := Lib.hid (HB4.out.trans (hb5.mono hz2))
   have hz5 := hb5.size
   have HAt5 := Lib.hid hat'
   rw [show rsV s = .agg #[.int .i64 s.code, .int .i64 s.token, .int .i64 s.next, .bool s.yes] from rfl]
   have hby := (Below.refl w5.heap.size w5).alloc (Nat.le_refl _) (.cells #[.int .i64 s.code, .int .i64 s.token, .int .i64 s.next, .bool s.yes] 33)
   have hry : Row (w5.alloc (.cells #[.int .i64 s.code, .int .i64 s.token, .int .i64 s.next, .bool s.yes] 33)) w5.heap.size 33 (rsL s) := heap_alloc_new w5 _
   obtain ⟨y, hy⟩ : ∃ y, y = w5.heap.size := ⟨_, rfl⟩
   obtain ⟨w6, hw6⟩ : ∃ w6, w6 = w5.alloc (.cells #[.int .i64 s.code, .int .i64 s.token, .int .i64 s.next, .bool s.yes] 33) := ⟨_, rfl⟩
   rw [← hw6] at hby hry
   rw [← hy] at hry
   have HAt6 := Lib.hid (HAt5.out.later hby)
   have Y2 := Lib.hid (X2.out.below hby X2.out.lt)
   have HB6 := Lib.hid (HB5.out.trans (hby.mono HB5.out.size))
   have HYe := Lib.hid hy
   have HW6 := Lib.hid hw6
   have hz6 := hby.size
   clear hs hg' hat' hk5 hX hY hb5 hby hw4 b0 b1 b2 b3 b4 b5 b6 hy
   have e0 : w6.cell? ⟨q, 0, none⟩ = some (.int .i64 g'.now) := HAt6.out.row.cell 0
   have e1 : w6.cell? ⟨q, 1, none⟩ = some (.slice k'.wp k'.wn k'.wc) := HAt6.out.row.cell 1
   have e2 : w6.cell? ⟨q, 2, none⟩ = some (.slice k'.kp k'.kn k'.kc) := HAt6.out.row.cell 2
   have e3 : w6.cell? ⟨q, 3, none⟩ = some (.slice k'.dp k'.dn k'.dc) := HAt6.out.row.cell 3
   have y0 : w6.cell? ⟨y, 0, none⟩ = some (.int .i64 s.code) := hry.cell 0
   have y1 : w6.cell? ⟨y, 1, none⟩ = some (.int .i64 s.token) := hry.cell 1
   have y2 : w6.cell? ⟨y, 2, none⟩ = some (.int .i64 s.next) := hry.cell 2
   have y3 : w6.cell? ⟨y, 3, none⟩ = some (.bool s.yes) := hry.cell 3
   rw [HW6.out, HYe.out] at y0 y1 y2 y3
   rw [HW6.out] at e0 e1 e2 e3
   clear hry hw6
   go_wp2_with (refine Stop.out (p := wpList _ _ _ [{ dst := none, op := .store 35 (.tmp 4) (.tmp 22), type := _, pos := _, after := _, guard := _ }] _ _) ?_)
   constructor
   rw [← HW6.out]
   refine wpList_store_to rfl 35 (.tmp 4) (.tmp 22) rfl p 0 #[.int .i64 g'.now, .slice k'.wp k'.wn k'.wc, .slice k'.kp k'.kn k'.kc, .slice k'.dp k'.dn k'.dc, .int .i64 s.code, .int .i64 s.token, .int .i64 s.next, .bool s.yes, .int .i64 0] rfl rfl (Y2.out.there 0 9 (by simp)) sizeGO (oneGO g'.now k' s 0) ?_
   intro Z hZ
   have hk7 : Kept w6.heap.size p p p w6 Z := by rw [hZ]; exact Kept.setCells (.inl rfl) _ 0 (Kept.refl _ _ _ _ _)
   have Z1 : Row Z p 35 (goL g'.now k' s 0) := by rw [hZ]; exact Y2.out.setCells _ 0
   have HBz := HB6.out.trans (hk7.below (B := w.heap.size) (by omega) (by omega) (by omega) (by omega))
   have HOz := own_move (M := w.heap.size) ⟨HAt6.out.words, HAt6.out.keys, HAt6.out.dead⟩ hk7 hpl hz2
   clear hZ hk7 y0 y1 y2 y3 e0 e1 e2 e3
   go_wp2_with fail
   refine bodyPost_ret (ret_go rfl rfl Z1) rfl ?_
   rw [HD2.out]
   exact ⟨k', rfl, HOz, HBz⟩
end Go.Proofs.YtchfgdiipjbgoaaGreat
