/- Ended: both sides. -/
import Derived.Test.YtjccnjfdeedneaaGreatSWoR
namespace Go.Proofs.YtjccnjfdeedneaaGreat
open Go Go.RowKit Go.Lib
set_option linter.unusedVariables false
set_option maxRecDepth 100000

def doneB (l : List TH) : Bool := l.all fun t => t.done
def endB (x : Wr) : Bool := worldB x && doneB x.ths
theorem doneB_false {l : List TH} {k : Nat} {t : TH} (hx : l[k]? = some t) (h : t.done = false) : doneB l = false := by
 unfold doneB
 rw [List.all_eq_false]
 exact ⟨t, List.mem_of_getElem? hx, by rw [h]; simp⟩
theorem doneB_true {l : List TH} (h : ∀ (j : Nat) (y : TH), l[j]? = some y → y.done = true) : doneB l = true := by
 unfold doneB
 rw [List.all_eq_true]
 intro y hy
 obtain ⟨j, hj⟩ := List.getElem?_of_mem hy
 exact h j y hj
theorem end1_any (t : TH) (b : Bool) (hb : t.done = b) (w : World) : Calls Tryz.prog 99 #[thV t] w (Ret (.bool (!b)) w) := by
 obtain ⟨⟨a0, a1, a2, a3, a4, a5, a6⟩, pc, ver, till, ⟨r0, r1, r2, r3⟩, dn⟩ := t
 dsimp only at hb
 subst hb
 unfold thV
 cases dn with
 | true =>
  go_enter Tryz.func99, Tryz.ntmps99
  go_wp2_with fail
  go_ret
  exact ⟨rfl, by go_grown⟩
 | false =>
  go_enter Tryz.func99, Tryz.ntmps99
  go_wp2_with fail
  go_ret
  exact ⟨rfl, by go_grown⟩
def DnRel (l : List TH) (w : World) (i : Value) (wr : World) : Prop := ∃ k : Nat, k ≤ l.length ∧ i = .int .i64 k ∧ (∀ (j : Nat) (y : TH), j < k → l[j]? = some y → y.done = true) ∧ Below w.heap.size w wr
set_option maxHeartbeats 2000000 in
theorem indexEnd_any (p : Option Addr) (cap : Nat) (l : List TH) (w : World) (hl : LIn thL w p l) (hc : l.length ≤ 1048576) :
  Calls Tryz.prog 144 #[.slice p l.length cap, .func (.func 99) #[] #[]] w fun e w' => ∃ r : Int, e = .returned (.int .i64 r) ∧ decide (0 ≤ r) = (!doneB l) ∧ Below w.heap.size w w' := by
 have HL := Lib.hid hl
 obtain ⟨n, hn⟩ : ∃ n, n = l.length := ⟨_, rfl⟩
 rw [← hn] at hc ⊢
 have HN := Lib.hid hn
 clear hl hn
 go_enter Tryz.func144, Tryz.ntmps144
 go_wp2_with fail
 go_loopw [8] (DnRel l w) (fun i _ => n - (RowKit.intOf i).toNat)
 case atStart => exact ⟨0, by omega, rfl, fun j y h => by omega, Below.refl _ _⟩
 case round =>
  obtain ⟨k, hk, rfl, hr, hbel⟩ := hrel
  rw [← HN.out] at hk
  have HR := Lib.hid hr
  have HB := Lib.hid hbel
  have hz := hbel.size
  clear hr hbel
  by_cases hlt : k < n
  ·obtain ⟨t, hx⟩ : ∃ t, l[k]? = some t := ⟨_, List.getElem?_eq_getElem (by rw [← HN.out]; exact hlt)⟩
   obtain ⟨b, o, rfl, hat⟩ := (HL.out.later HB.out).some hx
   obtain ⟨c0, c1, c2, c3, c4, c5, c6, c7, c8, c9, c10, c11, c12, c13, c14⟩ := th_cells hat hx
   have HX := Lib.hid hx
   have HV := Lib.hid (show thV t = .agg #[.int .i64 t.req.no, .int .i64 t.req.kind, .int .i64 t.req.client, .int .i64 t.req.code, .int .i64 t.req.token, .string t.req.proof, .int .i64 t.req.upTo, .int .i64 t.pc, .int .i64 t.ver, .int .i64 t.till, .int .i64 t.resp.code, .int .i64 t.resp.token, .int .i64 t.resp.next, .bool t.resp.yes, .bool t.done] from rfl)
   clear hx hat
   obtain ⟨d, hd⟩ : ∃ d, t.done = d := ⟨_, rfl⟩
   have HD := Lib.hid hd
   clear hd
   cases d with
   | false =>
    go_wp2_with fail
    rw [← HV.out]
    refine (end1_any t false HD.out _).mono ?_
    rintro e w2 ⟨rfl, hb2⟩
    have HB2 := Lib.hid (HB.out.trans (hb2.mono hz))
    clear hb2
    go_wp2_with fail
    go_ret
    exact ⟨(k : Int), rfl, by rw [doneB_false HX.out HD.out]; simp, HB2.out⟩
   | true =>
    go_wp2_with fail
    rw [← HV.out]
    refine (end1_any t true HD.out _).mono ?_
    rintro e w2 ⟨rfl, hb2⟩
    have HB2 := Lib.hid (HB.out.trans (hb2.mono hz))
    clear hb2
    go_wp2_with fail
    go_roundw
    case rel =>
     refine ⟨k + 1, by rw [← HN.out]; omega, by go_num, fun j y hj hy => ?_, HB2.out⟩
     by_cases e : j = k
     ·subst e
      rw [HX.out] at hy
      obtain rfl := Option.some.inj hy
      exact HD.out
     ·exact HR.out j y (by omega) hy
    case measure => simp [RowKit.intOf]; omega
  ·have HF : Hid (doneB l = true) := Lib.hid (doneB_true fun j y hy => HR.out j y (by have := (List.getElem?_eq_some_iff.1 hy).1; rw [← HN.out] at this; omega) hy)
   go_wp2_with fail
   go_ret
   exact ⟨-1, rfl, by rw [HF.out]; rfl, HB.out⟩
theorem contEnd_any (p : Option Addr) (cap : Nat) (l : List TH) (w : World) (hl : LIn thL w p l) (hc : l.length ≤ 1048576) :
  Calls Tryz.prog 98 #[.slice p l.length cap, .func (.func 99) #[] #[]] w (Ret (.bool (!doneB l)) w) := by
 have HI := Lib.hid (indexEnd_any p cap l w hl hc)
 obtain ⟨n, hn⟩ : ∃ n, n = l.length := ⟨_, rfl⟩
 rw [← hn] at HI ⊢
 clear hl hc hn
 go_enter Tryz.func98, Tryz.ntmps98
 go_wp2_with fail
 refine HI.out.mono ?_
 rintro e w2 ⟨r, rfl, hr, hb2⟩
 have HR := Lib.hid hr
 have HB2 := Lib.hid hb2
 clear hr hb2
 go_wp2_with fail
 go_ret
 exact ⟨by rw [← HR.out]; rfl, HB2.out⟩
set_option maxHeartbeats 4000000 in
theorem end_imp (x : Wr) (h : WH) (w : World) (hin : WoIn w h x) (hs : WoSmall x) (hpr : ∀ t ∈ x.ths, t.req.proof.size ≤ maxLen) (hf1 : GrWf x.first) (hf2 : GrWf x.store.gr) (hcap : WoCap h) : Calls Tryz.prog 40 #[woV x h] w (Ret (.bool (endB x)) w) := by
 obtain ⟨W, hW⟩ : ∃ W, W = w.alloc (.cells #[.int .i64 x.first.now, .slice h.fh.wp h.fh.wn h.fh.wc, .slice h.fh.kp h.fh.kn h.fh.kc, .slice h.fh.dp h.fh.dn h.fh.dc, .int .i64 x.store.gr.now, .slice h.sh.gh.wp h.sh.gh.wn h.sh.gh.wc, .slice h.sh.gh.kp h.sh.gh.kn h.sh.gh.kc, .slice h.sh.gh.dp h.sh.gh.dn h.sh.gh.dc, .int .i64 x.store.ver, .int .i64 x.store.lock, .slice h.sh.cp h.sh.cn h.sh.cc, .slice h.tp h.tn h.tc, .slice h.lp h.ln h.lc] 64) := ⟨_, rfl⟩
 have hb0 : Below w.heap.size w W := by rw [hW]; exact (Below.refl _ _).alloc (Nat.le_refl _) _
 have r0 : Row W w.heap.size 64 (woL x h) := by rw [hW]; exact heap_alloc_new w _
 have HW := Lib.hid hW
 have HIN := Lib.hid (hin.later hb0)
 have HB := Lib.hid hb0
 have HR := Lib.hid r0
 have HV := Lib.hid (show woV x h = .agg #[.int .i64 x.first.now, .slice h.fh.wp h.fh.wn h.fh.wc, .slice h.fh.kp h.fh.kn h.fh.kc, .slice h.fh.dp h.fh.dn h.fh.dc, .int .i64 x.store.gr.now, .slice h.sh.gh.wp h.sh.gh.wn h.sh.gh.wc, .slice h.sh.gh.kp h.sh.gh.kn h.sh.gh.kc, .slice h.sh.gh.dp h.sh.gh.dn h.sh.gh.dc, .int .i64 x.store.ver, .int .i64 x.store.lock, .slice h.sh.cp h.sh.cn h.sh.cc, .slice h.tp h.tn h.tc, .slice h.lp h.ln h.lc] from rfl)
 have HP := Lib.hid (world_imp x h W HIN.out hs hpr hf1 hf2 hcap)
 have HTn := Lib.hid hin.2.2.1.1
 have HTs := Lib.hid hs.2.2.1
 clear hW hb0 r0 hin hs hpr hf1 hf2 hcap
 rw [HV.out]
 go_enter Tryz.func40, Tryz.ntmps40
 go_wp2_with fail
 rw [← HW.out, ← HV.out]
 refine HP.out.mono ?_
 rintro e w2 ⟨rfl, hb2⟩
 have HB2 := Lib.hid (HB.out.trans (hb2.mono HB.out.size))
 have HIN2 := Lib.hid (HIN.out.later hb2)
 have c11 : w2.cell? ⟨w.heap.size, 11, none⟩ = some (.slice h.tp h.tn h.tc) := (HR.out.below hb2 HR.out.lt).cell 11
 rw [HTn.out] at c11
 clear hb2
 cases hw : worldB x with
 | false =>
  have HF : Hid (endB x = false) := Lib.hid (by unfold endB; rw [hw]; rfl)
  clear hw
  go_wp2_with fail
  go_ret
  exact ⟨by rw [HF.out]; rfl, HB2.out⟩
 | true =>
  have HF : Hid (endB x = doneB x.ths) := Lib.hid (by unfold endB; rw [hw]; rfl)
  clear hw
  go_wp2_with fail
  refine (contEnd_any h.tp h.tc x.ths _ HIN2.out.2.2.1.2 HTs.out).mono ?_
  rintro e w3 ⟨rfl, hb3⟩
  have HB3 := Lib.hid (HB2.out.trans (hb3.mono HB2.out.size))
  clear hb3
  go_wp2_with fail
  go_ret
  exact ⟨by rw [HF.out]; simp, HB3.out⟩
set_option maxHeartbeats 4000000 in
theorem end_spec (x : Wr) (h : WH) (w : World) (hin : WoIn w h x) (hs : WoSmall x) (hpr : ∀ t ∈ x.ths, t.req.proof.size ≤ maxLen) : Calls Tryz.prog 39 #[woV x h] w (Ret (.bool (endB x)) w) := by
 obtain ⟨W, hW⟩ : ∃ W, W = w.alloc (.cells #[.int .i64 x.first.now, .slice h.fh.wp h.fh.wn h.fh.wc, .slice h.fh.kp h.fh.kn h.fh.kc, .slice h.fh.dp h.fh.dn h.fh.dc, .int .i64 x.store.gr.now, .slice h.sh.gh.wp h.sh.gh.wn h.sh.gh.wc, .slice h.sh.gh.kp h.sh.gh.kn h.sh.gh.kc, .slice h.sh.gh.dp h.sh.gh.dn h.sh.gh.dc, .int .i64 x.store.ver, .int .i64 x.store.lock, .slice h.sh.cp h.sh.cn h.sh.cc, .slice h.tp h.tn h.tc, .slice h.lp h.ln h.lc] 64) := ⟨_, rfl⟩
 have hb0 : Below w.heap.size w W := by rw [hW]; exact (Below.refl _ _).alloc (Nat.le_refl _) _
 have r0 : Row W w.heap.size 64 (woL x h) := by rw [hW]; exact heap_alloc_new w _
 have HW := Lib.hid hW
 have HIN := Lib.hid (hin.later hb0)
 have HB := Lib.hid hb0
 have HR := Lib.hid r0
 have HV := Lib.hid (show woV x h = .agg #[.int .i64 x.first.now, .slice h.fh.wp h.fh.wn h.fh.wc, .slice h.fh.kp h.fh.kn h.fh.kc, .slice h.fh.dp h.fh.dn h.fh.dc, .int .i64 x.store.gr.now, .slice h.sh.gh.wp h.sh.gh.wn h.sh.gh.wc, .slice h.sh.gh.kp h.sh.gh.kn h.sh.gh.kc, .slice h.sh.gh.dp h.sh.gh.dn h.sh.gh.dc, .int .i64 x.store.ver, .int .i64 x.store.lock, .slice h.sh.cp h.sh.cn h.sh.cc, .slice h.tp h.tn h.tc, .slice h.lp h.ln h.lc] from rfl)
 have HTn := Lib.hid hin.2.2.1.1
 have HS := Lib.hid hs
 have HPr := Lib.hid hpr
 have hnm : h.tn ≤ 1048576 := by rw [hin.2.2.1.1]; exact hs.2.2.1
 clear hW hb0 r0 hin hs hpr
 rw [HV.out]
 go_enter Tryz.func39, Tryz.ntmps39
 go_wp2_with fail
 rw [← HW.out]
 go_loopw [3] (DnRel x.ths W) (fun i _ => h.tn - (RowKit.intOf i).toNat)
 case atStart => exact ⟨0, by omega, rfl, fun j y h => by omega, Below.refl _ _⟩
 case round =>
  obtain ⟨k, hk, rfl, hr, hbel⟩ := hrel
  rw [← HTn.out] at hk
  have HD := Lib.hid hr
  have HBl := Lib.hid (HB.out.trans (hbel.mono HB.out.size))
  have HBw := Lib.hid hbel
  have HINr := Lib.hid (HIN.out.later hbel)
  have HRr := Lib.hid (HR.out.below hbel HR.out.lt)
  have c0 : wr.cell? ⟨w.heap.size, 0, none⟩ = some (.int .i64 x.first.now) := HRr.out.cell 0
  have c1 : wr.cell? ⟨w.heap.size, 1, none⟩ = some (.slice h.fh.wp h.fh.wn h.fh.wc) := HRr.out.cell 1
  have c2 : wr.cell? ⟨w.heap.size, 2, none⟩ = some (.slice h.fh.kp h.fh.kn h.fh.kc) := HRr.out.cell 2
  have c3 : wr.cell? ⟨w.heap.size, 3, none⟩ = some (.slice h.fh.dp h.fh.dn h.fh.dc) := HRr.out.cell 3
  have c4 : wr.cell? ⟨w.heap.size, 4, none⟩ = some (.int .i64 x.store.gr.now) := HRr.out.cell 4
  have c5 : wr.cell? ⟨w.heap.size, 5, none⟩ = some (.slice h.sh.gh.wp h.sh.gh.wn h.sh.gh.wc) := HRr.out.cell 5
  have c6 : wr.cell? ⟨w.heap.size, 6, none⟩ = some (.slice h.sh.gh.kp h.sh.gh.kn h.sh.gh.kc) := HRr.out.cell 6
  have c7 : wr.cell? ⟨w.heap.size, 7, none⟩ = some (.slice h.sh.gh.dp h.sh.gh.dn h.sh.gh.dc) := HRr.out.cell 7
  have c8 : wr.cell? ⟨w.heap.size, 8, none⟩ = some (.int .i64 x.store.ver) := HRr.out.cell 8
  have c9 : wr.cell? ⟨w.heap.size, 9, none⟩ = some (.int .i64 x.store.lock) := HRr.out.cell 9
  have c10 : wr.cell? ⟨w.heap.size, 10, none⟩ = some (.slice h.sh.cp h.sh.cn h.sh.cc) := HRr.out.cell 10
  have c11 : wr.cell? ⟨w.heap.size, 11, none⟩ = some (.slice h.tp h.tn h.tc) := HRr.out.cell 11
  have c12 : wr.cell? ⟨w.heap.size, 12, none⟩ = some (.slice h.lp h.ln h.lc) := HRr.out.cell 12
  clear hr hbel
  by_cases hlt : k < h.tn
  ·obtain ⟨t, hx⟩ : ∃ t, x.ths[k]? = some t := ⟨_, List.getElem?_eq_getElem (by rw [← HTn.out]; exact hlt)⟩
   obtain ⟨b, o, hp, hat⟩ := HINr.out.2.2.1.2.some hx
   obtain ⟨d0, d1, d2, d3, d4, d5, d6, d7, d8, d9, d10, d11, d12, d13, d14⟩ := th_cells hat hx
   rw [hp] at c11
   have HX := Lib.hid hx
   clear hx hat hp
   obtain ⟨d, hd⟩ : ∃ d, t.done = d := ⟨_, rfl⟩
   have HDn := Lib.hid hd
   rw [hd] at d14
   clear hd
   cases d with
   | false =>
    have HF : Hid (endB x = false) := Lib.hid (by unfold endB; rw [doneB_false HX.out HDn.out]; simp)
    go_wp2_with fail
    go_ret
    exact ⟨by rw [HF.out]; rfl, HBl.out⟩
   | true =>
    go_wp2_with fail
    go_roundw
    case rel =>
     refine ⟨k + 1, by rw [← HTn.out]; omega, by go_num, fun j y hj hy => ?_, HBw.out⟩
     by_cases e : j = k
     ·subst e
      rw [HX.out] at hy
      obtain rfl := Option.some.inj hy
      exact HDn.out
     ·exact HD.out j y (by omega) hy
    case measure => simp [RowKit.intOf]; omega
  ·have HF : Hid (endB x = worldB x) := Lib.hid (by
    unfold endB
    rw [doneB_true fun j y hy => HD.out j y (by have := (List.getElem?_eq_some_iff.1 hy).1; rw [← HTn.out] at this; omega) hy]
    simp)
   go_wp2_with fail
   rw [← HV.out]
   refine (world_spec x h _ HINr.out HS.out HPr.out).mono ?_
   rintro e w3 ⟨rfl, hb3⟩
   have HB3 := Lib.hid (HBl.out.trans (hb3.mono HBl.out.size))
   clear hb3
   go_wp2_with fail
   go_ret
   exact ⟨by rw [HF.out]; rfl, HB3.out⟩
end Go.Proofs.YtjccnjfdeedneaaGreat
