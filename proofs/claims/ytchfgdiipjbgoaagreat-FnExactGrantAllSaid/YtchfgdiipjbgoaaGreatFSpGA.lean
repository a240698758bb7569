/- GrantAll: the model. -/
import Derived.Test.YtchfgdiipjbgoaaGreatFGdT
namespace Go.Proofs.YtchfgdiipjbgoaaGreat
open Go Go.RowKit Go.Lib
set_option linter.unusedVariables false
set_option maxRecDepth 100000

/-- Where the walk stands: k requests are done. -/
def GaRel (g : Gr) (l : List RQ) (n N y : Nat) (W : World) (i : Value) (wr : World) : Prop := ∃ (k : Nat) (k' : GH), k ≤ n ∧ i = .int .i64 k ∧ GrAt (tailO (allD g (l.take k)).2 0) N wr y k' (allD g (l.take k)).1 ∧ Below N W wr
/-- What is told is put behind the grant. -/
theorem put_tail {N y : Nat} {s s' : RS} {c : Int} {u Z : World} {k : GH} {g : Gr} (ha : GrAt (tailO s c) N u y k g) (hZ : Z = u.setCells y 4 #[.int .i64 s'.code, .int .i64 s'.token, .int .i64 s'.next, .bool s'.yes].toList) : GrAt (tailO s' c) N Z y k g ∧ Below N u Z := by
 subst hZ
 have hk : Kept u.heap.size y y y u (u.setCells y 4 #[.int .i64 s'.code, .int .i64 s'.token, .int .i64 s'.next, .bool s'.yes].toList) := Kept.setCells (.inl rfl) _ 4 (Kept.refl _ _ _ _ _)
 have hl := ha.row.lt
 have hp := ha.place
 refine ⟨⟨?_, own_kept ha.words hk ⟨fun j hj => (ha.words.lt j hj).2, row_own_ne ha.row ha.words (tailO s c).hW⟩, own_kept ha.keys hk ⟨fun j hj => (ha.keys.lt j hj).2, row_own_ne ha.row ha.keys (tailO s c).hK⟩, own_kept ha.dead hk ⟨fun j hj => (ha.dead.lt j hj).2, row_own_ne ha.row ha.dead (tailO s c).hI⟩, ha.place⟩, hk.below (by omega) hp hp hp⟩
 have h : Row u y 35 [.int .i64 g.now, .slice k.wp k.wn k.wc, .slice k.kp k.kn k.kc, .slice k.dp k.dn k.dc, .int .i64 s.code, .int .i64 s.token, .int .i64 s.next, .bool s.yes, .int .i64 c] := ha.row
 have h2 := h.setCells [.int .i64 s'.code, .int .i64 s'.token, .int .i64 s'.next, .bool s'.yes] 4
 exact (show Row _ y 35 [.int .i64 g.now, .slice k.wp k.wn k.wc, .slice k.kp k.kn k.kc, .slice k.dp k.dn k.dc, .int .i64 s'.code, .int .i64 s'.token, .int .i64 s'.next, .bool s'.yes, .int .i64 c] from h2)
set_option maxHeartbeats 8000000 in
theorem ga_spec (g : Gr) (h : GH) (q : Option Addr) (cap : Nat) (l : List RQ) (w : World) (hin : GrIn w h g) (hsr : SrcG w h g) (hs : GrSmall g) (hl : LIn rqCf w q l) (hll : l.length ≤ 1048576) (hp : ∀ r ∈ l, r.proof.size ≤ maxLen) : Calls Tryz.prog 19 #[grV g.now h, .slice q l.length cap] w (GDMade (gaD g l).1 (gaD g l).2.1 (gaD g l).2.2 w) := by
 obtain ⟨W, hW⟩ : ∃ W, W = (w.alloc (.cells #[.int .i64 g.now, .slice h.wp h.wn h.wc, .slice h.kp h.kn h.kc, .slice h.dp h.dn h.dc] 27)).alloc (.cells #[.int .i64 0, .slice none 0 0, .slice none 0 0, .slice none 0 0, .int .i64 0, .int .i64 0, .int .i64 0, .bool false, .int .i64 0] 35) := ⟨_, rfl⟩
 have hb0 : Below w.heap.size w W := by rw [hW]; go_grown
 have r0 : Row W w.heap.size 27 (grL g.now h) := by
  rw [hW]
  exact Row.below (heap_alloc_new w _) ((Below.refl _ _).alloc (Nat.le_refl _) _) (by simp)
 have r2 : Row W (w.heap.size + 1) 35 [.int .i64 0, .slice none 0 0, .slice none 0 0, .slice none 0 0, .int .i64 0, .int .i64 0, .int .i64 0, .bool false, .int .i64 0] := by
  rw [hW]
  have h := heap_alloc_new (w.alloc (.cells #[.int .i64 g.now, .slice h.wp h.wn h.wc, .slice h.kp h.kn h.kc, .slice h.dp h.dn h.dc] 27)) (.cells #[.int .i64 0, .slice none 0 0, .slice none 0 0, .slice none 0 0, .int .i64 0, .int .i64 0, .int .i64 0, .bool false, .int .i64 0] 35)
  rw [World.size_alloc] at h
  exact h
 obtain ⟨p, hpp⟩ : ∃ p, p = w.heap.size + 1 := ⟨_, rfl⟩
 rw [← hpp] at r2
 have HP := Lib.hid hpp
 have hp2 : w.heap.size < p := by omega
 have HW := Lib.hid hW
 have hz := hb0.size
 have HB := Lib.hid hb0
 have R0 := Lib.hid r0
 have R2 := Lib.hid r2
 have hl2 := r2.lt
 have HGi := Lib.hid (hin.later hb0)
 have HLi := Lib.hid (hl.later hb0)
 have HSm := Lib.hid hs
 have HPr := Lib.hid hp
 have HV := Lib.hid (show grV g.now h = .agg #[.int .i64 g.now, .slice h.wp h.wn h.wc, .slice h.kp h.kn h.kc, .slice h.dp h.dn h.dc] from rfl)
 obtain ⟨n, hn⟩ : ∃ n, n = l.length := ⟨_, rfl⟩
 rw [← hn] at hll
 rw [show (Value.slice q l.length cap) = .slice q n cap by rw [hn]]
 have HN := Lib.hid hn
 have HSr := Lib.hid (hsr.later hb0)
 clear hsr
 clear hpp hW hb0 r0 r2 hin hs hl hp hn
 rw [HV.out]
 by_cases hbig : 400 < n
 ·have HD := Lib.hid (show gaD g l = (zG, codeR 0, 2) by unfold gaD; rw [if_pos (by have := HN.out; omega)])
  go_enter Tryz.func19, Tryz.ntmps19
  go_wp2_with (refine Stop.out (p := wpList _ _ _ [{ dst := none, op := .store 35 (.tmp 4) (.tmp 10), type := _, pos := _, after := _, guard := _ }] _ _) ?_)
  constructor
  rw [← HW.out, ← HP.out]
  refine wpList_store_to rfl 35 (.tmp 4) (.tmp 10) rfl p 0 #[.int .i64 0, .slice none 0 0, .slice none 0 0, .slice none 0 0, .int .i64 0, .int .i64 0, .int .i64 0, .bool false, .int .i64 2] rfl rfl (R2.out.there 0 9 (by simp)) sizeGO (oneGO 0 zH (codeR 0) 2) ?_
  intro Z hZ
  have hk7 : Kept W.heap.size p p p W Z := by rw [hZ]; exact Kept.setCells (.inl rfl) _ 0 (Kept.refl _ _ _ _ _)
  have Z1 : Row Z p 35 (goL 0 zH (codeR 0) 2) := by rw [hZ]; exact R2.out.setCells _ 0
  have HBz := HB.out.trans (hk7.below (B := w.heap.size) hz (by omega) (by omega) (by omega))
  clear hZ hk7
  go_wp2_with fail
  refine bodyPost_ret (ret_go rfl rfl Z1) rfl ?_
  rw [HD.out]
  exact ⟨zH, rfl, own_zero _ _, HBz⟩
 obtain ⟨gb, hgb⟩ : ∃ gb, grantB g = gb := ⟨_, rfl⟩
 have HGb := Lib.hid hgb
 go_enter Tryz.func19, Tryz.ntmps19
 go_wp2_with fail
 rw [← HW.out, ← HV.out, ← HP.out]
 refine (grant_spec g h _ HGi.out HSm.out).mono ?_
 rw [HGb.out]
 rintro e w1 ⟨rfl, hb1⟩
 have S0 := Lib.hid (R0.out.below hb1 R0.out.lt)
 have S2 := Lib.hid (R2.out.below hb1 R2.out.lt)
 have HB1 := Lib.hid (HB.out.trans (hb1.mono hz))
 have HG1 := Lib.hid (HGi.out.later hb1)
 have HL1 := Lib.hid (HLi.out.later hb1)
 have hz1 := HB1.out.size
 have HS1 := Lib.hid (HSr.out.later hb1)
 clear hb1
 cases gb with
 | false =>
  have HD := Lib.hid (show gaD g l = (zG, codeR 0, 1) by unfold gaD; rw [if_neg (by have := HN.out; omega), hgb]; rfl)
  clear hgb
  go_wp2_with (refine Stop.out (p := wpList _ _ _ [{ dst := none, op := .store 35 (.tmp 4) (.tmp 14), type := _, pos := _, after := _, guard := _ }] _ _) ?_)
  constructor
  refine wpList_store_to rfl 35 (.tmp 4) (.tmp 14) rfl p 0 #[.int .i64 0, .slice none 0 0, .slice none 0 0, .slice none 0 0, .int .i64 0, .int .i64 0, .int .i64 0, .bool false, .int .i64 1] rfl rfl (S2.out.there 0 9 (by simp)) sizeGO (oneGO 0 zH (codeR 0) 1) ?_
  intro Z hZ
  have hk7 : Kept w1.heap.size p p p w1 Z := by rw [hZ]; exact Kept.setCells (.inl rfl) _ 0 (Kept.refl _ _ _ _ _)
  have Z1 : Row Z p 35 (goL 0 zH (codeR 0) 1) := by rw [hZ]; exact S2.out.setCells _ 0
  have HBz := HB1.out.trans (hk7.below (B := w.heap.size) hz1 (by omega) (by omega) (by omega))
  clear hZ hk7
  go_wp2_with fail
  refine bodyPost_ret (ret_go rfl rfl Z1) rfl ?_
  rw [HD.out]
  exact ⟨zH, rfl, own_zero _ _, HBz⟩
 | true =>
  have HD := Lib.hid (show gaD g l = ((allD g l).1, (allD g l).2, 0) by unfold gaD; rw [if_neg (by have := HN.out; omega), hgb]; rfl)
  clear hgb
  have a0 : w1.cell? ⟨w.heap.size, 0, none⟩ = some (.int .i64 g.now) := S0.out.cell 0
  have a1 : w1.cell? ⟨w.heap.size, 1, none⟩ = some (.slice h.wp h.wn h.wc) := S0.out.cell 1
  have a2 : w1.cell? ⟨w.heap.size, 2, none⟩ = some (.slice h.kp h.kn h.kc) := S0.out.cell 2
  have a3 : w1.cell? ⟨w.heap.size, 3, none⟩ = some (.slice h.dp h.dn h.dc) := S0.out.cell 3
  go_wp2_with fail
  rw [← HV.out]
  refine (copy_spec g h _ HS1.out (by have := HSm.out; unfold GrSmall at this; omega)).mono ?_
  rintro e w3 ⟨k, rfl, hown, hb3⟩
  have U2 := Lib.hid (S2.out.below hb3 S2.out.lt)
  have HB3 := Lib.hid (HB1.out.trans (hb3.mono hz1))
  have HL3 := Lib.hid (HL1.out.later hb3)
  have hz3 := hb3.size
  rw [show grV g.now k = .agg #[.int .i64 g.now, .slice k.wp k.wn k.wc, .slice k.kp k.kn k.kc, .slice k.dp k.dn k.dc] from rfl]
  have hbx := (Below.refl w3.heap.size w3).alloc (Nat.le_refl _) (.cells #[.int .i64 g.now, .slice k.wp k.wn k.wc, .slice k.kp k.kn k.kc, .slice k.dp k.dn k.dc, .int .i64 0, .int .i64 0, .int .i64 0, .bool false, .int .i64 0] 35)
  have hrx : Row (w3.alloc (.cells #[.int .i64 g.now, .slice k.wp k.wn k.wc, .slice k.kp k.kn k.kc, .slice k.dp k.dn k.dc, .int .i64 0, .int .i64 0, .int .i64 0, .bool false, .int .i64 0] 35)) w3.heap.size 35 (grL g.now k ++ (tailO (codeR 0) 0).rest) := heap_alloc_new w3 _
  obtain ⟨y, hy⟩ : ∃ y, y = w3.heap.size := ⟨_, rfl⟩
  obtain ⟨w4, hw4⟩ : ∃ w4, w4 = w3.alloc (.cells #[.int .i64 g.now, .slice k.wp k.wn k.wc, .slice k.kp k.kn k.kc, .slice k.dp k.dn k.dc, .int .i64 0, .int .i64 0, .int .i64 0, .bool false, .int .i64 0] 35) := ⟨_, rfl⟩
  rw [← hw4] at hbx hrx
  rw [← hy] at hrx
  have hat : GrAt (tailO (codeR 0) 0) w1.heap.size w4 y k g := ⟨hrx, own_late hown.1 hbx, own_late hown.2.1 hbx, own_late hown.2.2 hbx, by omega⟩
  have HAt := Lib.hid hat
  have V2 := Lib.hid (U2.out.below hbx U2.out.lt)
  have HB4 := Lib.hid (HB3.out.trans (hbx.mono HB3.out.size))
  have HL4 := Lib.hid (HL3.out.later hbx)
  have hz4 : w1.heap.size ≤ w4.heap.size := by have := hbx.size; omega
  have HYe := Lib.hid hy
  have HW4 := Lib.hid hw4
  have hpl : p < w1.heap.size := S2.out.lt
  have HIr : Hid (∀ w', Below w1.heap.size w1 w' → LIn rqCf w' q l) := Lib.hid (fun w' hb => HL1.out.later hb)
  have HB14 : Hid (Below w1.heap.size w1 w4) := Lib.hid (hb3.trans (hbx.mono hb3.size))
  clear hb3 hbx hrx hy hat hown a0 a1 a2 a3 hw4 U2 HB3 HL3
  go_wp2_with fail
  rw [← HW4.out, ← HYe.out]
  go_loopw [6] (GaRel g l n w1.heap.size y w4) (fun i _ => n - (RowKit.intOf i).toNat)
  case atStart => exact ⟨0, k, by omega, rfl, HAt.out, Below.refl _ _⟩
  case round =>
   obtain ⟨j, k', hj, rfl, hat, hbel⟩ := hrel
   obtain ⟨g', hg'⟩ : ∃ g', g' = (allD g (l.take j)).1 := ⟨_, rfl⟩
   obtain ⟨s, hs⟩ : ∃ s, s = (allD g (l.take j)).2 := ⟨_, rfl⟩
   have HGr : Hid (grantB g' = true) := Lib.hid (by rw [hg']; exact allD_right HGb.out _)
   rw [← hg', ← hs] at hat
   have HDj := Lib.hid (show allD g (l.take j) = (g', s) by rw [hg', hs])
   clear hg' hs
   have HAj := Lib.hid hat
   have HBj := Lib.hid hbel
   have hzj := hbel.size
   have Y2 := Lib.hid (V2.out.below hbel (by omega))
   have HLj := Lib.hid (HIr.out _ (HB14.out.trans hbel))
   clear hat hbel
   by_cases hlt : j < n
   ·obtain ⟨r, hr⟩ : ∃ r, l[j]? = some r := ⟨_, List.getElem?_eq_getElem (by rw [← HN.out]; exact hlt)⟩
    obtain ⟨b, o, rfl, hcl⟩ := HLj.out.some hr
    obtain ⟨c0, c1, c2, c3, c4, c5, c6⟩ := rq_cells hcl hr
    have hbl : b < wr.heap.size := World.block_lt_of_cell? wr _ c0
    have HNx := Lib.hid (allD_snoc (g := g) hr)
    have HRp := Lib.hid (HPr.out r (List.mem_of_getElem? hr))
    have HQ := Lib.hid (show rqV r = .agg #[.int .i64 r.no, .int .i64 r.kind, .int .i64 r.client, .int .i64 r.code, .int .i64 r.token, .string r.proof, .int .i64 r.upTo] from rfl)
    have HC := Lib.hid hcl
    have HRr := Lib.hid hr
    clear hcl hr
    obtain ⟨rb, hrb⟩ : ∃ rb, rightB r = rb := ⟨_, rfl⟩
    have HRb := Lib.hid hrb
    go_wp2_with fail
    rw [← HQ.out]
    refine (right_spec r _ HRp.out).mono ?_
    rw [HRb.out]
    rintro e u1 ⟨rfl, hb5⟩
    have HA5 := Lib.hid (HAj.out.later hb5)
    have Y5 := Lib.hid (Y2.out.below hb5 Y2.out.lt)
    have HB5 := Lib.hid (HBj.out.trans (hb5.mono (by omega)))
    have hz5 := hb5.size
    cases rb with
    | false =>
     have HD1 : Hid (allD g (l.take (j + 1)) = (g', codeR 1)) := Lib.hid (by rw [HNx.out, HDj.out]; unfold oneD; rw [hrb]; rfl)
     have hth := HA5.out.row.there 4 4 (by show 4 + 4 ≤ 9; omega)
     have HTh := Lib.hid hth
     clear hb5 c0 c1 c2 c3 c4 c5 c6 hrb hth
     go_wp2_with (refine Stop.out (p := wpList _ _ _ [{ dst := none, op := .store 33 (.tmp 37) (.tmp 36), type := _, pos := _, after := _, guard := _ }] _ _) ?_)
     constructor
     refine wpList_store_to rfl 33 (.tmp 37) (.tmp 36) rfl y 4 #[.int .i64 1, .int .i64 0, .int .i64 0, .bool false] rfl rfl HTh.out sizeResp (oneResp (codeR 1)) ?_
     intro Z hZ
     have hput := put_tail (s' := codeR 1) HA5.out hZ
     have HAz := Lib.hid hput.1
     have HBz := Lib.hid (HB5.out.trans hput.2)
     clear hZ hput
     go_wp2_with fail
     go_roundw
     case rel => exact ⟨j + 1, k', by omega, by go_num, by rw [HD1.out]; exact HAz.out, HBz.out⟩
     case measure => simp [RowKit.intOf]; omega
    | true =>
     have HD1 : Hid (allD g (l.take (j + 1)) = doD g' r) := Lib.hid (by rw [HNx.out, HDj.out]; unfold oneD; rw [hrb]; rfl)
     obtain ⟨d0, d1, d2, d3, d4, d5, d6⟩ := rq_cells (HC.out.later hb5) HRr.out
     clear hb5 c0 c1 c2 c3 c4 c5 c6 hrb
     go_wp2_with fail
     rw [← HQ.out]
     refine (do_spec r HA5.out HGr.out HRb.out).mono ?_
     rintro e u2 ⟨k2, rfl, hat2, hk2⟩
     obtain ⟨s2, hs2⟩ : ∃ s2, s2 = (doD g' r).2 := ⟨_, rfl⟩
     obtain ⟨g2, hg2⟩ : ∃ g2, g2 = (doD g' r).1 := ⟨_, rfl⟩
     rw [← hg2] at hat2
     have HD2 : Hid (allD g (l.take (j + 1)) = (g2, s2)) := Lib.hid (by rw [HD1.out, hs2, hg2])
     rw [← hs2]
     have hX := blk_ge HA5.out.words HA5.out.place
     have hY := blk_ge HA5.out.keys HA5.out.place
     have hb6 : Below w1.heap.size u1 u2 := hk2.below (by omega) HA5.out.place hX hY
     have HA6 := Lib.hid hat2
     have HB6 := Lib.hid (HB5.out.trans hb6)
     have hth := hat2.row.there 4 4 (by show 4 + 4 ≤ 9; omega)
     have HTh := Lib.hid hth
     rw [show rsV s2 = .agg #[.int .i64 s2.code, .int .i64 s2.token, .int .i64 s2.next, .bool s2.yes] from rfl]
     clear hs2 hg2 hat2 hk2 hX hY hb6 hth d0 d1 d2 d3 d4 d5 d6
     go_wp2_with (refine Stop.out (p := wpList _ _ _ [{ dst := none, op := .store 33 (.tmp 35) (.tmp 34), type := _, pos := _, after := _, guard := _ }] _ _) ?_)
     constructor
     refine wpList_store_to rfl 33 (.tmp 35) (.tmp 34) rfl y 4 #[.int .i64 s2.code, .int .i64 s2.token, .int .i64 s2.next, .bool s2.yes] rfl rfl HTh.out sizeResp (oneResp s2) ?_
     intro Z hZ
     have hput := put_tail (s' := s2) HA6.out hZ
     have HAz := Lib.hid hput.1
     have HBz := Lib.hid (HB6.out.trans hput.2)
     clear hZ hput
     go_wp2_with fail
     go_roundw
     case rel => exact ⟨j + 1, k2, by omega, by go_num, by rw [HD2.out]; exact HAz.out, HBz.out⟩
     case measure => simp [RowKit.intOf]; omega
   ·have HDe : Hid (allD g l = (g', s)) := Lib.hid (by
     rw [← HDj.out, List.take_of_length_le (by rw [← HN.out]; omega)])
    have y0 : wr.cell? ⟨y, 0, none⟩ = some (.int .i64 g'.now) := HAj.out.row.cell 0
    have y1 : wr.cell? ⟨y, 1, none⟩ = some (.slice k'.wp k'.wn k'.wc) := HAj.out.row.cell 1
    have y2 : wr.cell? ⟨y, 2, none⟩ = some (.slice k'.kp k'.kn k'.kc) := HAj.out.row.cell 2
    have y3 : wr.cell? ⟨y, 3, none⟩ = some (.slice k'.dp k'.dn k'.dc) := HAj.out.row.cell 3
    have y4 : wr.cell? ⟨y, 4, none⟩ = some (.int .i64 s.code) := HAj.out.row.cell 4
    have y5 : wr.cell? ⟨y, 5, none⟩ = some (.int .i64 s.token) := HAj.out.row.cell 5
    have y6 : wr.cell? ⟨y, 6, none⟩ = some (.int .i64 s.next) := HAj.out.row.cell 6
    have y7 : wr.cell? ⟨y, 7, none⟩ = some (.bool s.yes) := HAj.out.row.cell 7
    have y8 : wr.cell? ⟨y, 8, none⟩ = some (.int .i64 0) := HAj.out.row.cell 8

    go_wp2_with (refine Stop.out (p := wpList _ _ _ [{ dst := none, op := .store 35 (.tmp 4) (.tmp 38), type := _, pos := _, after := _, guard := _ }] _ _) ?_)
    constructor
    refine wpList_store_to rfl 35 (.tmp 4) (.tmp 38) rfl p 0 #[.int .i64 g'.now, .slice k'.wp k'.wn k'.wc, .slice k'.kp k'.kn k'.kc, .slice k'.dp k'.dn k'.dc, .int .i64 s.code, .int .i64 s.token, .int .i64 s.next, .bool s.yes, .int .i64 0] rfl rfl (Y2.out.there 0 9 (by simp)) sizeGO (oneGO g'.now k' s 0) ?_
    intro Z hZ
    have hk7 : Kept wr.heap.size p p p wr Z := by rw [hZ]; exact Kept.setCells (.inl rfl) _ 0 (Kept.refl _ _ _ _ _)
    have Z1 : Row Z p 35 (goL g'.now k' s 0) := by rw [hZ]; exact Y2.out.setCells _ 0
    have HBz := (HB4.out.trans (HBj.out.mono hz1)).trans (hk7.below (B := w.heap.size) (by omega) (by omega) (by omega) (by omega))
    have HOz := own_move (M := w.heap.size) ⟨HAj.out.words, HAj.out.keys, HAj.out.dead⟩ hk7 hpl hz1
    clear hZ hk7 y0 y1 y2 y3 y4 y5 y6 y7 y8
    go_wp2_with fail
    refine bodyPost_ret (ret_go rfl rfl Z1) rfl ?_
    rw [HD.out, HDe.out]
    exact ⟨k', rfl, HOz, HBz⟩
end Go.Proofs.YtchfgdiipjbgoaaGreat
