/- GrantAll: the program. -/
import Derived.Test.YtchfgdiipjbgoaaGreatFGdT
import Derived.Test.YtchfgdiipjbgoaaGreatFImGD
namespace Go.Proofs.YtchfgdiipjbgoaaGreat
open Go Go.RowKit Go.Lib
set_option linter.unusedVariables false
set_option maxRecDepth 100000

/-- Where the walk stands: k requests are done. -/
def GaIRel (g : Gr) (l : List RQ) (n N B lb mw mk y : Nat) (W : World) (i : Value) (wr : World) : Prop := ∃ k : Nat, k ≤ n ∧ i = .int .i64 k ∧ LedAt wr B lb mw mk (allD g (l.take k)).1 ∧ Row wr y 33 (rsL (allD g (l.take k)).2) ∧ Below N W wr
set_option maxHeartbeats 8000000 in
theorem ga_impl (g : Gr) (h : GH) (q : Option Addr) (cap : Nat) (l : List RQ) (w : World) (hin : GrIn w h g) (hwf : GrWf g) (hs : GrSmall g) (hl : LIn rqCf w q l) (hll : l.length ≤ 1048576) (hp : ∀ r ∈ l, r.proof.size ≤ maxLen) : Calls Tryz.prog 15 #[grV g.now h, .slice q l.length cap] w (GDMade (gaD g l).1 (gaD g l).2.1 (gaD g l).2.2 w) := by
 obtain ⟨W, hW⟩ : ∃ W, W = (w.alloc (.cells #[.int .i64 g.now, .slice h.wp h.wn h.wc, .slice h.kp h.kn h.kc, .slice h.dp h.dn h.dc] 27)).alloc (.cells #[.int .i64 0, .slice none 0 0, .slice none 0 0, .slice none 0 0, .int .i64 0, .int .i64 0, .int .i64 0, .bool false, .int .i64 0] 35) := ⟨_, rfl⟩
 have hb0 : Below w.heap.size w W := by rw [hW]; go_grown
 have r0 : Row W w.heap.size 27 (grL g.now h) := by
  rw [hW]
  exact Row.below (heap_alloc_new w _) ((Below.refl _ _).alloc (Nat.le_refl _) _) (by simp)
 have r2 : Row W (w.heap.size + 1) 35 [.int .i64 0, .slice none 0 0, .slice none 0 0, .slice none 0 0, .int .i64 0, .int .i64 0, .int .i64 0, .bool false, .int .i64 0] := by
  rw [hW]
  have h := heap_alloc_new (w.alloc (.cells #[.int .i64 g.now, .slice h.wp h.wn h.wc, .slice h.kp h.kn h.kc, .slice h.dp h.dn h.dc] 27)) (.cells #[.int .i64 0, .slice none 0 0, .slice none 0 0, .slice none 0 0, .int .i64 0, .int .i64 0, .int .i64 0, .bool false, .int .i64 0] 35)
  rw [World.size_alloc] at h
  exact h
 obtain ⟨p, hpp⟩ : ∃ p, p = w.heap.size + 1 := ⟨_, rfl⟩
 rw [← hpp] at r2
 have HP := Lib.hid hpp
 have hp2 : w.heap.size < p := by omega
 have HW := Lib.hid hW
 have hz := hb0.size
 have HB := Lib.hid hb0
 have R0 := Lib.hid r0
 have R2 := Lib.hid r2
 have hl2 := r2.lt
 have HGi := Lib.hid (hin.later hb0)
 have HLi := Lib.hid (hl.later hb0)
 have HSm := Lib.hid hs
 have HPr := Lib.hid hp
 have HV := Lib.hid (show grV g.now h = .agg #[.int .i64 g.now, .slice h.wp h.wn h.wc, .slice h.kp h.kn h.kc, .slice h.dp h.dn h.dc] from rfl)
 obtain ⟨n, hn⟩ : ∃ n, n = l.length := ⟨_, rfl⟩
 rw [← hn] at hll
 rw [show (Value.slice q l.length cap) = .slice q n cap by rw [hn]]
 have HN := Lib.hid hn
 have HWf := Lib.hid hwf
 clear hwf
 clear hpp hW hb0 r0 r2 hin hs hl hp hn
 rw [HV.out]
 by_cases hbig : 400 < n
 ·have HD := Lib.hid (show gaD g l = (zG, codeR 0, 2) by unfold gaD; rw [if_pos (by have := HN.out; omega)])
  go_enter Tryz.func15, Tryz.ntmps15
  go_wp2_with (refine Stop.out (p := wpList _ _ _ [{ dst := none, op := .store 35 (.tmp 4) (.tmp 12), type := _, pos := _, after := _, guard := _ }] _ _) ?_)
  constructor
  rw [← HW.out, ← HP.out]
  refine wpList_store_to rfl 35 (.tmp 4) (.tmp 12) rfl p 0 #[.int .i64 0, .slice none 0 0, .slice none 0 0, .slice none 0 0, .int .i64 0, .int .i64 0, .int .i64 0, .bool false, .int .i64 2] rfl rfl (R2.out.there 0 9 (by simp)) sizeGO (oneGO 0 zH (codeR 0) 2) ?_
  intro Z hZ
  have hk7 : Kept W.heap.size p p p W Z := by rw [hZ]; exact Kept.setCells (.inl rfl) _ 0 (Kept.refl _ _ _ _ _)
  have Z1 : Row Z p 35 (goL 0 zH (codeR 0) 2) := by rw [hZ]; exact R2.out.setCells _ 0
  have HBz := HB.out.trans (hk7.below (B := w.heap.size) hz (by omega) (by omega) (by omega))
  clear hZ hk7
  go_wp2_with fail
  refine bodyPost_ret (ret_go rfl rfl Z1) rfl ?_
  rw [HD.out]
  exact ⟨zH, rfl, own_zero _ _, HBz⟩
 obtain ⟨gb, hgb⟩ : ∃ gb, grantB g = gb := ⟨_, rfl⟩
 have HGb := Lib.hid hgb
 go_enter Tryz.func15, Tryz.ntmps15
 go_wp2_with fail
 rw [← HW.out, ← HV.out, ← HP.out]
 refine (grant_imp g h _ HGi.out HSm.out HWf.out).mono ?_
 rw [HGb.out]
 rintro e w1 ⟨rfl, hb1⟩
 have S0 := Lib.hid (R0.out.below hb1 R0.out.lt)
 have S2 := Lib.hid (R2.out.below hb1 R2.out.lt)
 have HB1 := Lib.hid (HB.out.trans (hb1.mono hz))
 have HG1 := Lib.hid (HGi.out.later hb1)
 have HL1 := Lib.hid (HLi.out.later hb1)
 have hz1 := HB1.out.size

 clear hb1
 cases gb with
 | false =>
  have HD := Lib.hid (show gaD g l = (zG, codeR 0, 1) by unfold gaD; rw [if_neg (by have := HN.out; omega), hgb]; rfl)
  clear hgb
  go_wp2_with (refine Stop.out (p := wpList _ _ _ [{ dst := none, op := .store 35 (.tmp 4) (.tmp 16), type := _, pos := _, after := _, guard := _ }] _ _) ?_)
  constructor
  refine wpList_store_to rfl 35 (.tmp 4) (.tmp 16) rfl p 0 #[.int .i64 0, .slice none 0 0, .slice none 0 0, .slice none 0 0, .int .i64 0, .int .i64 0, .int .i64 0, .bool false, .int .i64 1] rfl rfl (S2.out.there 0 9 (by simp)) sizeGO (oneGO 0 zH (codeR 0) 1) ?_
  intro Z hZ
  have hk7 : Kept w1.heap.size p p p w1 Z := by rw [hZ]; exact Kept.setCells (.inl rfl) _ 0 (Kept.refl _ _ _ _ _)
  have Z1 : Row Z p 35 (goL 0 zH (codeR 0) 1) := by rw [hZ]; exact S2.out.setCells _ 0
  have HBz := HB1.out.trans (hk7.below (B := w.heap.size) hz1 (by omega) (by omega) (by omega))
  clear hZ hk7
  go_wp2_with fail
  refine bodyPost_ret (ret_go rfl rfl Z1) rfl ?_
  rw [HD.out]
  exact ⟨zH, rfl, own_zero _ _, HBz⟩
 | true =>
  have HD := Lib.hid (show gaD g l = ((allD g l).1, (allD g l).2, 0) by unfold gaD; rw [if_neg (by have := HN.out; omega), hgb]; rfl)
  clear hgb
  have a0 : w1.cell? ⟨w.heap.size, 0, none⟩ = some (.int .i64 g.now) := S0.out.cell 0
  have a1 : w1.cell? ⟨w.heap.size, 1, none⟩ = some (.slice h.wp h.wn h.wc) := S0.out.cell 1
  have a2 : w1.cell? ⟨w.heap.size, 2, none⟩ = some (.slice h.kp h.kn h.kc) := S0.out.cell 2
  have a3 : w1.cell? ⟨w.heap.size, 3, none⟩ = some (.slice h.dp h.dn h.dc) := S0.out.cell 3
  go_wp2_with fail
  rw [← HV.out]
  refine (ledgerOf_any g h _ HG1.out HGb.out).mono ?_
  rintro e w3 ⟨B, lb, mw, mk, rfl, hBq, hled, hb3⟩
  have U2 := Lib.hid (S2.out.below hb3 S2.out.lt)
  have HB3 := Lib.hid (HB1.out.trans (hb3.mono hz1))
  have hz3 := hb3.size
  have hbx := (Below.refl w3.heap.size w3).alloc (Nat.le_refl _) (.cells #[.int .i64 0, .int .i64 0, .int .i64 0, .bool false] 33)
  have hrx : Row (w3.alloc (.cells #[.int .i64 0, .int .i64 0, .int .i64 0, .bool false] 33)) w3.heap.size 33 (rsL (codeR 0)) := heap_alloc_new w3 _
  obtain ⟨y, hy⟩ : ∃ y, y = w3.heap.size := ⟨_, rfl⟩
  obtain ⟨w4, hw4⟩ : ∃ w4, w4 = w3.alloc (.cells #[.int .i64 0, .int .i64 0, .int .i64 0, .bool false] 33) := ⟨_, rfl⟩
  rw [← hw4] at hbx hrx
  rw [← hy] at hrx
  have HLd := Lib.hid (hled.later hbx)
  have HRx := Lib.hid hrx
  have V2 := Lib.hid (U2.out.below hbx U2.out.lt)
  have HB4 := Lib.hid (HB3.out.trans (hbx.mono HB3.out.size))
  have hz4 : w1.heap.size ≤ w4.heap.size := by have := hbx.size; omega
  have HYe := Lib.hid hy
  have HW4 := Lib.hid hw4
  have hpl : p < w1.heap.size := S2.out.lt
  have hyl : w1.heap.size ≤ y := by omega
  have HSz := Lib.hid hled.size
  have HPl := Lib.hid hled.places
  have HIr : Hid (∀ w', Below w1.heap.size w1 w' → LIn rqCf w' q l) := Lib.hid (fun w' hb => HL1.out.later hb)
  have HB14 : Hid (Below w1.heap.size w1 w4) := Lib.hid (hb3.trans (hbx.mono hb3.size))
  have hyne : y ≠ lb ∧ y ≠ mw ∧ y ≠ mk := by have := HSz.out; omega
  have hyl2 : y < w4.heap.size := hrx.lt
  clear hb3 hbx hrx hy hled a0 a1 a2 a3 hw4 U2 HB3
  go_wp2_with fail
  rw [← HW4.out, ← HYe.out]
  go_loopw [21] (GaIRel g l n w1.heap.size B lb mw mk y w4) (fun i _ => n - (RowKit.intOf i).toNat)
  case atStart => exact ⟨0, by omega, rfl, HLd.out, HRx.out, Below.refl _ _⟩
  case round =>
   obtain ⟨j, hj, rfl, hled, hrow, hbel⟩ := hrel
   obtain ⟨g', hg'⟩ : ∃ g', g' = (allD g (l.take j)).1 := ⟨_, rfl⟩
   obtain ⟨s, hs⟩ : ∃ s, s = (allD g (l.take j)).2 := ⟨_, rfl⟩
   have HGr : Hid (grantB g' = true) := Lib.hid (by rw [hg']; exact allD_right HGb.out _)
   rw [← hg'] at hled
   rw [← hs] at hrow
   have HDj := Lib.hid (show allD g (l.take j) = (g', s) by rw [hg', hs])
   clear hg' hs
   have HLj := Lib.hid hled
   have HRj := Lib.hid hrow
   have HBj := Lib.hid hbel
   have hzj := hbel.size
   have Y2 := Lib.hid (V2.out.below hbel (by omega))
   have HIj := Lib.hid (HIr.out _ (HB14.out.trans hbel))
   clear hled hrow hbel
   by_cases hlt : j < n
   ·obtain ⟨r, hr⟩ : ∃ r, l[j]? = some r := ⟨_, List.getElem?_eq_getElem (by rw [← HN.out]; exact hlt)⟩
    obtain ⟨b, o, rfl, hcl⟩ := HIj.out.some hr
    obtain ⟨c0, c1, c2, c3, c4, c5, c6⟩ := rq_cells hcl hr
    have hbl : b < wr.heap.size := World.block_lt_of_cell? wr _ c0
    have HNx := Lib.hid (allD_snoc (g := g) hr)
    have HRp := Lib.hid (HPr.out r (List.mem_of_getElem? hr))
    have HQ := Lib.hid (show rqV r = .agg #[.int .i64 r.no, .int .i64 r.kind, .int .i64 r.client, .int .i64 r.code, .int .i64 r.token, .string r.proof, .int .i64 r.upTo] from rfl)
    have hbq := (Below.refl wr.heap.size wr).alloc (Nat.le_refl _) (.cells #[.int .i64 r.no, .int .i64 r.kind, .int .i64 r.client, .int .i64 r.code, .int .i64 r.token, .string r.proof, .int .i64 r.upTo] 29)
    have hrq : Row (wr.alloc (.cells #[.int .i64 r.no, .int .i64 r.kind, .int .i64 r.client, .int .i64 r.code, .int .i64 r.token, .string r.proof, .int .i64 r.upTo] 29)) wr.heap.size 29 (rqL r) := heap_alloc_new wr _
    obtain ⟨V, hV⟩ : ∃ V, V = wr.alloc (.cells #[.int .i64 r.no, .int .i64 r.kind, .int .i64 r.client, .int .i64 r.code, .int .i64 r.token, .string r.proof, .int .i64 r.upTo] 29) := ⟨_, rfl⟩
    obtain ⟨t, ht⟩ : ∃ t, t = wr.heap.size := ⟨_, rfl⟩
    rw [← hV] at hbq hrq
    rw [← ht] at hrq
    have HVe := Lib.hid hV
    have HTe := Lib.hid ht
    have HLV := Lib.hid (HLj.out.later hbq)
    have HRV := Lib.hid (HRj.out.below hbq HRj.out.lt)
    have HQV := Lib.hid hrq
    have HBV := Lib.hid (HBj.out.trans (hbq.mono (by omega)))
    have hzV := hbq.size
    clear hcl hr hbq hrq hV ht
    obtain ⟨rb, hrb⟩ : ∃ rb, rightB r = rb := ⟨_, rfl⟩
    have HRb := Lib.hid hrb
    go_wp2_with fail
    rw [← HQ.out, ← HVe.out]
    refine (right_impl r _ HRp.out).mono ?_
    rw [HRb.out]
    rintro e u1 ⟨rfl, hb5⟩
    have HL5 := Lib.hid (HLV.out.later hb5)
    have HR5 := Lib.hid (HRV.out.below hb5 HRV.out.lt)
    have HQ5 := Lib.hid (HQV.out.below hb5 HQV.out.lt)
    have HB5 := Lib.hid (HBV.out.trans (hb5.mono (by omega)))
    have hz5 := hb5.size
    rw [← HTe.out]
    cases rb with
    | false =>
     have HD1 : Hid (allD g (l.take (j + 1)) = (g', codeR 1)) := Lib.hid (by rw [HNx.out, HDj.out]; unfold oneD; rw [hrb]; rfl)
     have HTh := Lib.hid (there_resp HR5.out rfl)
     clear hb5 c0 c1 c2 c3 c4 c5 c6 hrb
     go_wp2_with (refine Stop.out (p := wpList _ _ _ [{ dst := none, op := .store 33 (.tmp 6) (.tmp 30), type := _, pos := _, after := _, guard := _ }] _ _) ?_)
     constructor
     refine wpList_store_to rfl 33 (.tmp 6) (.tmp 30) rfl y 0 #[.int .i64 1, .int .i64 0, .int .i64 0, .bool false] rfl rfl HTh.out sizeResp (oneResp (codeR 1)) ?_
     intro Z hZ
     have hk : Kept u1.heap.size y y y u1 Z := by rw [hZ]; exact Kept.setCells (.inl rfl) _ 0 (Kept.refl _ _ _ _ _)
     have HRz := Lib.hid (show Row Z y 33 (rsL (codeR 1)) by rw [hZ]; exact put_resp (s := codeR 1) HR5.out rfl)
     have HLz := Lib.hid (show LedAt Z B lb mw mk g' by rw [hZ]; exact LedAt.setCells_res _ _ 0 HL5.out (by omega))
     have HBz := Lib.hid (HB5.out.trans (hk.below (B := w1.heap.size) (by omega) (by omega) (by omega) (by omega)))
     clear hZ hk
     go_wp2_with fail
     go_roundw
     case rel => exact ⟨j + 1, by omega, by go_num, by rw [HD1.out]; exact HLz.out, by rw [HD1.out]; exact HRz.out, HBz.out⟩
     case measure => simp [RowKit.intOf]; omega
    | true =>
     have HD1 : Hid (allD g (l.take (j + 1)) = doD g' r) := Lib.hid (by rw [HNx.out, HDj.out]; unfold oneD; rw [hrb]; rfl)
     clear hb5 c0 c1 c2 c3 c4 c5 c6 hrb
     have d0 : u1.cell? ⟨t, 0, none⟩ = some (.int .i64 r.no) := HQ5.out.cell 0
     have d1 : u1.cell? ⟨t, 1, none⟩ = some (.int .i64 r.kind) := HQ5.out.cell 1
     have d2 : u1.cell? ⟨t, 2, none⟩ = some (.int .i64 r.client) := HQ5.out.cell 2
     have d3 : u1.cell? ⟨t, 3, none⟩ = some (.int .i64 r.code) := HQ5.out.cell 3
     have d4 : u1.cell? ⟨t, 4, none⟩ = some (.int .i64 r.token) := HQ5.out.cell 4
     have d5 : u1.cell? ⟨t, 5, none⟩ = some (.string r.proof) := HQ5.out.cell 5
     have d6 : u1.cell? ⟨t, 6, none⟩ = some (.int .i64 r.upTo) := HQ5.out.cell 6

     go_wp2_with fail
     rw [← HQ.out]
     refine (serve_any lb mw mk B g' r _ HL5.out HGr.out HRb.out).mono ?_
     rintro e u2 ⟨rfl, hl6, hk6⟩
     obtain ⟨s2, hs2⟩ : ∃ s2, s2 = (doD g' r).2 := ⟨_, rfl⟩
     obtain ⟨g2, hg2⟩ : ∃ g2, g2 = (doD g' r).1 := ⟨_, rfl⟩
     rw [← hg2] at hl6
     have HD2 : Hid (allD g (l.take (j + 1)) = (g2, s2)) := Lib.hid (by rw [HD1.out, hs2, hg2])
     rw [← hs2]
     have hpc := HPl.out
     have hb6 : Below w1.heap.size u1 u2 := hk6.below (by omega) (by omega) (by omega) (by omega)
     have HL6 := Lib.hid hl6
     have HR6 := Lib.hid (HR5.out.kept hk6 HR5.out.lt (by omega) (by omega) (by omega))
     have HB6 := Lib.hid (HB5.out.trans hb6)
     have hz6 := hb6.size
     have HTh := Lib.hid (there_resp HR6.out rfl)
     rw [show rsV s2 = .agg #[.int .i64 s2.code, .int .i64 s2.token, .int .i64 s2.next, .bool s2.yes] from rfl]
     clear hs2 hg2 hl6 hk6 hb6 d0 d1 d2 d3 d4 d5 d6 hpc
     go_wp2_with (refine Stop.out (p := wpList _ _ _ [{ dst := none, op := .store 33 (.tmp 6) (.tmp 29), type := _, pos := _, after := _, guard := _ }] _ _) ?_)
     constructor
     refine wpList_store_to rfl 33 (.tmp 6) (.tmp 29) rfl y 0 #[.int .i64 s2.code, .int .i64 s2.token, .int .i64 s2.next, .bool s2.yes] rfl rfl HTh.out sizeResp (oneResp s2) ?_
     intro Z hZ
     have hk : Kept u2.heap.size y y y u2 Z := by rw [hZ]; exact Kept.setCells (.inl rfl) _ 0 (Kept.refl _ _ _ _ _)
     have HRz := Lib.hid (show Row Z y 33 (rsL s2) by rw [hZ]; exact put_resp (s := s2) HR6.out rfl)
     have HLz := Lib.hid (show LedAt Z B lb mw mk g2 by rw [hZ]; exact LedAt.setCells_res _ _ 0 HL6.out (by omega))
     have HBz := Lib.hid (HB6.out.trans (hk.below (B := w1.heap.size) (by omega) (by omega) (by omega) (by omega)))
     clear hZ hk
     go_wp2_with fail
     go_roundw
     case rel => exact ⟨j + 1, by omega, by go_num, by rw [HD2.out]; exact HLz.out, by rw [HD2.out]; exact HRz.out, HBz.out⟩
     case measure => simp [RowKit.intOf]; omega
   ·have HDe : Hid (allD g l = (g', s)) := Lib.hid (by
     rw [← HDj.out, List.take_of_length_le (by rw [← HN.out]; omega)])
    have HK9 : Hid (∀ w', Below wr.heap.size wr w' → w'.cell? ⟨y, 0, none⟩ = some (.int .i64 s.code) ∧ w'.cell? ⟨y, 1, none⟩ = some (.int .i64 s.token) ∧ w'.cell? ⟨y, 2, none⟩ = some (.int .i64 s.next) ∧ w'.cell? ⟨y, 3, none⟩ = some (.bool s.yes)) := Lib.hid (fun w' hb => by
     have h := HRj.out.below hb HRj.out.lt
     exact ⟨h.cell 0, h.cell 1, h.cell 2, h.cell 3⟩)
    have hyp : y ≠ p := by omega
    go_wp2_with fail
    have HBd := Lib.hid ((Below.refl wr.heap.size wr).drew)
    refine region_L 4 (fun _ => True) (fun w' => w'.cell? ⟨y, 0, none⟩ = some (.int .i64 s.code) ∧ w'.cell? ⟨y, 1, none⟩ = some (.int .i64 s.token) ∧ w'.cell? ⟨y, 2, none⟩ = some (.int .i64 s.next) ∧ w'.cell? ⟨y, 3, none⟩ = some (.bool s.yes)) (by kernel_rfl) ⟨fun _ => trivial, HK9.out _ HBd.out⟩ (fun hHL => ?_)
    refine wpAnyL_take (i := 0) (v := ?_) (by rfl) rfl (by kernel_rfl) (by kernel_rfl) (by kernel_rfl) (fun _ _ _ h => h) (Or.inl ⟨by rfl, ?_⟩) hHL ?_
    rotate_left
    ·intro w hSw; (try dsimp only at hSw); (first | (go_simp; done) | (go_simp; with_reducible rfl))
    clear hHL
    intro hHL
    (try simp only [Act.put, List.setIfInBounds_toArray, List.set_cons_zero, List.set_cons_succ])
    refine wpAnyL_take (i := 2) (v := ?_) (by rfl) rfl (by kernel_rfl) (by kernel_rfl) (by kernel_rfl) (fun _ _ _ h => h) (Or.inl ⟨by rfl, ?_⟩) hHL ?_
    rotate_left
    ·intro w hSw; (try dsimp only at hSw); (first | (go_simp; done) | (go_simp; with_reducible rfl))
    clear hHL
    intro hHL
    (try simp only [Act.put, List.setIfInBounds_toArray, List.set_cons_zero, List.set_cons_succ])
    refine wpAnyL_ready (rs := [1]) (by kernel_rfl) (by simp) ?_
    refine AllReadyL.cons rfl (fun K hK => ?_) AllReadyL.nil
    refine step_madeG rfl 83 #[.pointer (some ⟨lb, 0, none⟩)] (by kernel_rfl) g' _ (grant_made lb mw mk B g' _ (HLj.out.later HBd.out) HGr.out) ?_
    intro k w7 hown hb7
    have HB7 := Lib.hid (HBd.out.trans hb7)
    have HO7 := Lib.hid hown
    have hz7 := HB7.out.size
    refine hK.out _ _ ⟨fun _ => trivial, HK9.out _ HB7.out⟩ (fun hHL => ?_)
    clear hK K hb7 hown
    (try simp only [Act.put, List.setIfInBounds_toArray, List.set_cons_zero, List.set_cons_succ])
    rw [show grV g'.now k = .agg #[.int .i64 g'.now, .slice k.wp k.wn k.wc, .slice k.kp k.kn k.kc, .slice k.dp k.dn k.dc] from rfl]
    refine wpAnyL_take (i := 3) (v := ?_) (by rfl) rfl (by kernel_rfl) (by kernel_rfl) (by kernel_rfl) (fun _ _ _ h => h) (Or.inl ⟨by rfl, ?_⟩) hHL ?_
    rotate_left
    ·intro w hSw; (try dsimp only at hSw); (first | (go_simp; done) | (go_simp; with_reducible rfl))
    clear hHL
    intro hHL
    (try simp only [Act.put, List.setIfInBounds_toArray, List.set_cons_zero, List.set_cons_succ])
    refine wpAnyL_ready (rs := [4]) (by kernel_rfl) (by simp) ?_
    refine AllReadyL.cons rfl (fun K hK => ?_) AllReadyL.nil
    have h7 := Y2.out.below HB7.out Y2.out.lt
    have hk8 : Kept w7.heap.size p p p w7 (w7.setCells p 0 #[.int .i64 g'.now, .slice k.wp k.wn k.wc, .slice k.kp k.kn k.kc, .slice k.dp k.dn k.dc, .int .i64 s.code, .int .i64 s.token, .int .i64 s.next, .bool s.yes, .int .i64 0].toList) := Kept.setCells (.inl rfl) _ 0 (Kept.refl _ _ _ _ _)
    refine step_stG rfl 35 (.tmp 4) (.tmp 35) rfl p 0 #[.int .i64 g'.now, .slice k.wp k.wn k.wc, .slice k.kp k.kn k.kc, .slice k.dp k.dn k.dc, .int .i64 s.code, .int .i64 s.token, .int .i64 s.next, .bool s.yes, .int .i64 0] rfl rfl (h7.there 0 9 (by simp)) sizeGO (oneGO g'.now k s 0) ?_
    refine hK.out _ _ ⟨fun _ => trivial, ?_⟩ (fun hHL => ?_)
    ·have h8 := HRj.out.below HB7.out HRj.out.lt
     have h := h8.kept hk8 h8.lt (by omega) (by omega) (by omega)
     exact ⟨h.cell 0, h.cell 1, h.cell 2, h.cell 3⟩
    clear hK K hHL
    refine wpAnyL_done (by kernel_rfl) ?_ _
    have Z1 := Lib.hid (show Row (w7.setCells p 0 #[.int .i64 g'.now, .slice k.wp k.wn k.wc, .slice k.kp k.kn k.kc, .slice k.dp k.dn k.dc, .int .i64 s.code, .int .i64 s.token, .int .i64 s.next, .bool s.yes, .int .i64 0].toList) p 35 (goL g'.now k s 0) from h7.setCells _ 0)
    have HBz := Lib.hid (((HB4.out.trans (HBj.out.mono hz1)).trans (HB7.out.mono (by omega))).trans (hk8.below (B := w.heap.size) (by omega) (by omega) (by omega) (by omega)))
    have HOz := Lib.hid (own_move (M := w.heap.size) HO7.out hk8 (by show p < wr.heap.size; omega) (by show w.heap.size ≤ wr.heap.size; omega))
    clear h7 hk8
    generalize (w7.setCells p 0 #[.int .i64 g'.now, .slice k.wp k.wn k.wc, .slice k.kp k.kn k.kc, .slice k.dp k.dn k.dc, .int .i64 s.code, .int .i64 s.token, .int .i64 s.next, .bool s.yes, .int .i64 0].toList) = Z at Z1 HBz HOz ⊢
    go_wp2_with fail
    refine bodyPost_ret (ret_go rfl rfl Z1.out) rfl ?_
    rw [HD.out, HDe.out]
    exact ⟨k, rfl, HOz.out, HBz.out⟩
end Go.Proofs.YtchfgdiipjbgoaaGreat
