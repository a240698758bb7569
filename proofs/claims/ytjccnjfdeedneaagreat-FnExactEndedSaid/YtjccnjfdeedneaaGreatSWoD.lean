/- A world as data, in cells; measured, copied, compared by the laws' helpers. -/
import Derived.Test.YtjccnjfdeedneaaGreatSEvS
import Derived.Test.YtjccnjfdeedneaaGreatSThS
import Derived.Test.YtjccnjfdeedneaaGreatSStS2
namespace Go.Proofs.YtjccnjfdeedneaaGreat
open Go Go.RowKit Go.Lib
set_option linter.unusedVariables false
set_option maxRecDepth 100000

structure Wr where
 first : Gr
 store : St
 ths : List TH
 log : List Ev
structure WH where
 fh : GH
 sh : SH
 tp : Option Addr
 tn : Nat
 tc : Nat
 lp : Option Addr
 ln : Nat
 lc : Nat
def woL (x : Wr) (h : WH) : List Value := [.int .i64 x.first.now, .slice h.fh.wp h.fh.wn h.fh.wc, .slice h.fh.kp h.fh.kn h.fh.kc, .slice h.fh.dp h.fh.dn h.fh.dc, .int .i64 x.store.gr.now, .slice h.sh.gh.wp h.sh.gh.wn h.sh.gh.wc, .slice h.sh.gh.kp h.sh.gh.kn h.sh.gh.kc, .slice h.sh.gh.dp h.sh.gh.dn h.sh.gh.dc, .int .i64 x.store.ver, .int .i64 x.store.lock, .slice h.sh.cp h.sh.cn h.sh.cc, .slice h.tp h.tn h.tc, .slice h.lp h.ln h.lc]
def woV (x : Wr) (h : WH) : Value := .agg #[.int .i64 x.first.now, .slice h.fh.wp h.fh.wn h.fh.wc, .slice h.fh.kp h.fh.kn h.fh.kc, .slice h.fh.dp h.fh.dn h.fh.dc, .int .i64 x.store.gr.now, .slice h.sh.gh.wp h.sh.gh.wn h.sh.gh.wc, .slice h.sh.gh.kp h.sh.gh.kn h.sh.gh.kc, .slice h.sh.gh.dp h.sh.gh.dn h.sh.gh.dc, .int .i64 x.store.ver, .int .i64 x.store.lock, .slice h.sh.cp h.sh.cn h.sh.cc, .slice h.tp h.tn h.tc, .slice h.lp h.ln h.lc]
def WoIn (w : World) (h : WH) (x : Wr) : Prop := GrIn w h.fh x.first ∧ StIn w h.sh x.store ∧ (h.tn = x.ths.length ∧ LIn thL w h.tp x.ths) ∧ (h.ln = x.log.length ∧ LIn evCf w h.lp x.log)
theorem WoIn.later {w w1 : World} {h : WH} {x : Wr} (k : WoIn w h x) (hb : Below w.heap.size w w1) : WoIn w1 h x := ⟨k.1.later hb, k.2.1.later hb, ⟨k.2.2.1.1, k.2.2.1.2.later hb⟩, ⟨k.2.2.2.1, k.2.2.2.2.later hb⟩⟩
def WoSmall (x : Wr) : Prop := GrSmall x.first ∧ StSmall x.store ∧ x.ths.length ≤ 1048576 ∧ x.log.length ≤ 1048576
def WoArg (w : World) (h : WH) (x : Wr) : Prop := GrArg w h.fh x.first ∧ StArg w h.sh x.store ∧ (h.tn = x.ths.length ∧ LIn thL w h.tp x.ths ∧ (∀ t ∈ x.ths, t.req.proof.size ≤ maxLen) ∧ x.ths.length ≤ maxLen) ∧ (h.ln = x.log.length ∧ LIn evCf w h.lp x.log ∧ x.log.length ≤ maxLen)
theorem WoArg.isIn {w : World} {h : WH} {x : Wr} (k : WoArg w h x) : WoIn w h x := ⟨k.1.1, k.2.1.isIn, ⟨k.2.2.1.1, k.2.2.1.2.1⟩, ⟨k.2.2.2.1, k.2.2.2.2.1⟩⟩
theorem wG (x : Wr) (h : WH) : grV x.first.now h.fh = .agg #[.int .i64 x.first.now, .slice h.fh.wp h.fh.wn h.fh.wc, .slice h.fh.kp h.fh.kn h.fh.kc, .slice h.fh.dp h.fh.dn h.fh.dc] := rfl
theorem wS (x : Wr) (h : WH) : stV x.store h.sh = .agg #[.int .i64 x.store.gr.now, .slice h.sh.gh.wp h.sh.gh.wn h.sh.gh.wc, .slice h.sh.gh.kp h.sh.gh.kn h.sh.gh.kc, .slice h.sh.gh.dp h.sh.gh.dn h.sh.gh.dc, .int .i64 x.store.ver, .int .i64 x.store.lock, .slice h.sh.cp h.sh.cn h.sh.cc] := rfl
set_option maxHeartbeats 400000 in
theorem szGrantW_any (h : GH) (g : Gr) (left : Int) (w : World) (l0 : 0 ≤ left) (l1 : left ≤ 1048576) (hin : GrArg w h g) : Calls Tryz.prog 9 #[grV g.now h, .int .i64 left] w (SzG g w) := by
 obtain ⟨wp, wn, wc, kp, kn, kc, dp, dn, dc⟩ := h
 obtain ⟨now, ws, ks, ds⟩ := g
 obtain ⟨⟨⟨hn1, hn2, hn3⟩, hl1, hl2, hl3⟩, hs, hm1, hm2, hm3⟩ := hin
 simp only at hn1 hn2 hn3 hl1 hl2 hl3 hs hm1 hm2 hm3 ⊢
 subst hn1 hn2 hn3
 unfold grV
 simp only
 have hb0 := (Below.refl w.heap.size w).alloc (Nat.le_refl _) (.cells #[.int .i64 now, .slice wp ws.length wc, .slice kp ks.length kc, .slice dp ds.length dc] 26)
 have hrow : Row (w.alloc (.cells #[.int .i64 now, .slice wp ws.length wc, .slice kp ks.length kc, .slice dp ds.length dc] 26)) w.heap.size 26 [.int .i64 now, .slice wp ws.length wc, .slice kp ks.length kc, .slice dp ds.length dc] := heap_alloc_new w _
 have HL1 := Lib.hid (hl1.later hb0)
 have HR := Lib.hid hrow
 have HB := Lib.hid hb0
 have hz := hb0.size
 have hgl := hrow.lt
 have HS := Lib.hid hs
 clear hl1 hl2 hl3 hrow hb0 hs
 go_enter Tryz.func9, Tryz.ntmps9
 go_wp2_with fail
 refine (szWordS_any wp wc ws left _ HL1.out HS.out hm1 l0 l1).mono ?_
 rintro e w1 ⟨r1, rfl, ra, rb, rc, hb1⟩
 have HR1 := Lib.hid (HR.out.below hb1 hgl)
 have HB1 := Lib.hid (HB.out.trans (hb1.mono hz))
 have hz1 := HB1.out.size
 have hgl1 := HR1.out.lt
 have q2 : w1.cell? ⟨w.heap.size, 2, none⟩ = some (.slice kp ks.length kc) := HR1.out.cell 2
 have q3 : w1.cell? ⟨w.heap.size, 3, none⟩ = some (.slice dp ds.length dc) := HR1.out.cell 3
 clear hb1
 by_cases g1 : r1 < 0
 ·clear rc
  go_wp2_with fail
  go_ret
  exact ⟨-1, rfl, fun h => by omega, by omega, HB1.out⟩
 have c1 := rc (by omega)
 clear rc
 go_wp2_with fail
 refine (szKeyS_any kp ks.length kc r1 _ (by omega) rb hm2).mono ?_
 rintro e w2 ⟨r2, rfl, sa, sb, sc, hb2⟩
 have HB2 := Lib.hid (HB1.out.trans (hb2.mono hz1))
 have p3 : w2.cell? ⟨w.heap.size, 3, none⟩ = some (.slice dp ds.length dc) := (HR1.out.below hb2 hgl1).cell 3
 have hz2 := HB2.out.size
 clear hb2 q2 q3
 by_cases g2 : r2 < 0
 ·clear sc
  go_wp2_with fail
  go_ret
  exact ⟨-1, rfl, fun h => by omega, by omega, HB2.out⟩
 have c2 := sc (by omega)
 clear sc
 go_wp2_with fail
 refine (szInt64S_any dp ds.length dc r2 _ (by omega) sb hm3).mono ?_
 rintro e w3 ⟨r3, rfl, ta, tb, tc, hb3⟩
 have HB3 := Lib.hid (HB2.out.trans (hb3.mono hz2))
 clear hb3
 by_cases g3 : r3 < 0
 ·clear tc
  go_wp2_with fail
  go_ret
  exact ⟨-1, rfl, fun h => by omega, by omega, HB3.out⟩
 have c3 := tc (by omega)
 clear tc
 have HC := Lib.hid (grSmall_of (g := ⟨now, ws, ks, ds⟩) c1 c2 c3 HS.out)
 go_wp2_with fail
 go_ret
 exact ⟨r3, rfl, fun _ => HC.out, by omega, HB3.out⟩

set_option maxHeartbeats 1000000 in
theorem szStoreW_any (h : SH) (s : St) (left : Int) (w : World) (l0 : 0 ≤ left) (l1 : left ≤ 1048576) (hin : StArg w h s) : Calls Tryz.prog 18 #[stV s h, .int .i64 left] w (SzS s w) := by
 obtain ⟨hg, hcn, hcl, hcm⟩ := hin
 unfold stV
 have hb0 := (Below.refl w.heap.size w).alloc (Nat.le_refl _) (.cells #[.int .i64 s.gr.now, .slice h.gh.wp h.gh.wn h.gh.wc, .slice h.gh.kp h.gh.kn h.gh.kc, .slice h.gh.dp h.gh.dn h.gh.dc, .int .i64 s.ver, .int .i64 s.lock, .slice h.cp h.cn h.cc] 44)
 have hrow : Row (w.alloc (.cells #[.int .i64 s.gr.now, .slice h.gh.wp h.gh.wn h.gh.wc, .slice h.gh.kp h.gh.kn h.gh.kc, .slice h.gh.dp h.gh.dn h.gh.dc, .int .i64 s.ver, .int .i64 s.lock, .slice h.cp h.cn h.cc] 44)) w.heap.size 44 [.int .i64 s.gr.now, .slice h.gh.wp h.gh.wn h.gh.wc, .slice h.gh.kp h.gh.kn h.gh.kc, .slice h.gh.dp h.gh.dn h.gh.dc, .int .i64 s.ver, .int .i64 s.lock, .slice h.cp h.cn h.cc] := heap_alloc_new w _
 have HG : Hid (GrArg (w.alloc (.cells #[.int .i64 s.gr.now, .slice h.gh.wp h.gh.wn h.gh.wc, .slice h.gh.kp h.gh.kn h.gh.kc, .slice h.gh.dp h.gh.dn h.gh.dc, .int .i64 s.ver, .int .i64 s.lock, .slice h.cp h.cn h.cc] 44)) h.gh s.gr) := Lib.hid ⟨hg.1.later hb0, hg.2⟩
 have HR := Lib.hid hrow
 have HB := Lib.hid hb0
 have hz := hb0.size
 have hgl := hrow.lt
 have HC := Lib.hid hcn
 have HE := Lib.hid (szG s h)
 have hcn' : h.cn ≤ maxLen := by omega
 clear hg hcn hcl hrow hb0 hcm
 go_enter Tryz.func18, Tryz.ntmps18
 go_wp2_with fail
 rw [← HE.out]
 refine (szGrantW_any h.gh s.gr left _ l0 l1 HG.out).mono ?_
 rintro e w1 ⟨r1, rfl, ra, rb, hb1⟩
 have HB1 := Lib.hid (HB.out.trans (hb1.mono hz))
 have hz1 := HB1.out.size
 have q6 : w1.cell? ⟨w.heap.size, 6, none⟩ = some (.slice h.cp h.cn h.cc) := (HR.out.below hb1 hgl).cell 6
 clear hb1
 by_cases g1 : r1 < 0
 ·clear ra
  by_cases g2 : r1 = -1
  ·subst g2
   go_wp2_with fail
   go_ret
   exact ⟨-1, rfl, fun h => by omega, by omega, HB1.out⟩
  ·go_wp2_with fail
   go_ret
   exact ⟨-1, rfl, fun h => by omega, by omega, HB1.out⟩
 have HS := Lib.hid (ra (by omega))
 clear ra
 go_wp2_with fail
 refine (szEntryS_any h.cp h.cn h.cc r1 _ (by omega) rb hcn').mono ?_
 rintro e w2 ⟨r2, rfl, sa, sb, sc, hb2⟩
 have HB2 := Lib.hid (HB1.out.trans (hb2.mono hz1))
 clear hb2
 by_cases g2 : r2 < 0
 ·clear sc
  go_wp2_with fail
  go_ret
  exact ⟨-1, rfl, fun h => by omega, by omega, HB2.out⟩
 have c2 := sc (by omega)
 clear sc
 have HSm : Hid (StSmall s) := Lib.hid ⟨HS.out, by rw [← HC.out]; exact c2⟩
 go_wp2_with fail
 go_ret
 exact ⟨r2, rfl, fun _ => HSm.out, by omega, HB2.out⟩

def SzW (x : Wr) (w : World) (e : Ending) (w' : World) : Prop := ∃ r : Int, e = .returned (.int .i64 r) ∧ (0 ≤ r → WoSmall x) ∧ r ≤ 1048576 ∧ Below w.heap.size w w'
set_option maxHeartbeats 2000000 in
theorem szWorld_any (h : WH) (x : Wr) (w : World) (hin : WoArg w h x) : Calls Tryz.prog 25 #[woV x h, .int .i64 1048576] w (SzW x w) := by
 obtain ⟨hg, hst, ⟨htn, htl, htp, htm⟩, ⟨hln, hll, hlm⟩⟩ := hin
 obtain ⟨W, hW⟩ : ∃ W, W = w.alloc (.cells #[.int .i64 x.first.now, .slice h.fh.wp h.fh.wn h.fh.wc, .slice h.fh.kp h.fh.kn h.fh.kc, .slice h.fh.dp h.fh.dn h.fh.dc, .int .i64 x.store.gr.now, .slice h.sh.gh.wp h.sh.gh.wn h.sh.gh.wc, .slice h.sh.gh.kp h.sh.gh.kn h.sh.gh.kc, .slice h.sh.gh.dp h.sh.gh.dn h.sh.gh.dc, .int .i64 x.store.ver, .int .i64 x.store.lock, .slice h.sh.cp h.sh.cn h.sh.cc, .slice h.tp h.tn h.tc, .slice h.lp h.ln h.lc] 58) := ⟨_, rfl⟩
 have hb0 : Below w.heap.size w W := by rw [hW]; exact (Below.refl _ _).alloc (Nat.le_refl _) _
 have hrow : Row W w.heap.size 58 (woL x h) := by rw [hW]; exact heap_alloc_new w _
 have HG : Hid (GrArg W h.fh x.first) := Lib.hid ⟨hg.1.later hb0, hg.2⟩
 have HSt : Hid (StArg W h.sh x.store) := Lib.hid ⟨⟨hst.1.1.later hb0, hst.1.2⟩, hst.2.1, hst.2.2.1.later hb0, hst.2.2.2⟩
 have HTl := Lib.hid (htl.later hb0)
 have HTp := Lib.hid htp
 have HTm := Lib.hid htm
 have HTn := Lib.hid htn
 have HLn := Lib.hid hln
 have hlm' : h.ln ≤ maxLen := by omega
 have HR := Lib.hid hrow
 have HB := Lib.hid hb0
 have HW := Lib.hid hW
 have HE := Lib.hid (wG x h)
 have HE2 := Lib.hid (wS x h)
 clear hg hst htl htp htm htn hll hlm hln hrow hb0 hW
 unfold woV
 go_enter Tryz.func25, Tryz.ntmps25
 go_wp2_with fail
 rw [← HW.out, ← HE.out]
 refine (szGrantW_any h.fh x.first 1048576 _ (by omega) (by omega) HG.out).mono ?_
 rintro e w1 ⟨r1, rfl, ra, rb, hb1⟩
 have HB1 := Lib.hid (HB.out.trans (hb1.mono HB.out.size))
 have HR1 := Lib.hid (HR.out.below hb1 HR.out.lt)
 have HS1 : Hid (StArg w1 h.sh x.store) := Lib.hid ⟨⟨HSt.out.1.1.later hb1, HSt.out.1.2⟩, HSt.out.2.1, HSt.out.2.2.1.later hb1, HSt.out.2.2.2⟩
 have HT1 := Lib.hid (HTl.out.later hb1)
 have c0 : w1.cell? ⟨w.heap.size, 0, none⟩ = some (.int .i64 x.first.now) := HR1.out.cell 0
 have c1 : w1.cell? ⟨w.heap.size, 1, none⟩ = some (.slice h.fh.wp h.fh.wn h.fh.wc) := HR1.out.cell 1
 have c2 : w1.cell? ⟨w.heap.size, 2, none⟩ = some (.slice h.fh.kp h.fh.kn h.fh.kc) := HR1.out.cell 2
 have c3 : w1.cell? ⟨w.heap.size, 3, none⟩ = some (.slice h.fh.dp h.fh.dn h.fh.dc) := HR1.out.cell 3
 have c4 : w1.cell? ⟨w.heap.size, 4, none⟩ = some (.int .i64 x.store.gr.now) := HR1.out.cell 4
 have c5 : w1.cell? ⟨w.heap.size, 5, none⟩ = some (.slice h.sh.gh.wp h.sh.gh.wn h.sh.gh.wc) := HR1.out.cell 5
 have c6 : w1.cell? ⟨w.heap.size, 6, none⟩ = some (.slice h.sh.gh.kp h.sh.gh.kn h.sh.gh.kc) := HR1.out.cell 6
 have c7 : w1.cell? ⟨w.heap.size, 7, none⟩ = some (.slice h.sh.gh.dp h.sh.gh.dn h.sh.gh.dc) := HR1.out.cell 7
 have c8 : w1.cell? ⟨w.heap.size, 8, none⟩ = some (.int .i64 x.store.ver) := HR1.out.cell 8
 have c9 : w1.cell? ⟨w.heap.size, 9, none⟩ = some (.int .i64 x.store.lock) := HR1.out.cell 9
 have c10 : w1.cell? ⟨w.heap.size, 10, none⟩ = some (.slice h.sh.cp h.sh.cn h.sh.cc) := HR1.out.cell 10
 have c11 : w1.cell? ⟨w.heap.size, 11, none⟩ = some (.slice h.tp h.tn h.tc) := HR1.out.cell 11
 have c12 : w1.cell? ⟨w.heap.size, 12, none⟩ = some (.slice h.lp h.ln h.lc) := HR1.out.cell 12
 clear hb1
 by_cases g1 : r1 < 0
 ·clear ra
  go_wp2_with fail
  go_ret
  exact ⟨-1, rfl, fun h => by omega, by omega, HB1.out⟩
 have C1 := Lib.hid (ra (by omega))
 clear ra
 go_wp2_with fail
 rw [← HE2.out]
 refine (szStoreW_any h.sh x.store r1 _ (by omega) rb HS1.out).mono ?_
 rintro e w2 ⟨r2, rfl, sa, sb, hb2⟩
 have HB2 := Lib.hid (HB1.out.trans (hb2.mono HB1.out.size))
 have HR2 := Lib.hid (HR1.out.below hb2 HR1.out.lt)
 have HT2 := Lib.hid (HT1.out.later hb2)
 clear c0 c1 c2 c3 c4 c5 c6 c7 c8 c9 c10 c11 c12
 have c11 : w2.cell? ⟨w.heap.size, 11, none⟩ = some (.slice h.tp h.tn h.tc) := HR2.out.cell 11
 have c12 : w2.cell? ⟨w.heap.size, 12, none⟩ = some (.slice h.lp h.ln h.lc) := HR2.out.cell 12
 clear hb2
 by_cases g2 : r2 < 0
 ·clear sa
  go_wp2_with fail
  go_ret
  exact ⟨-1, rfl, fun h => by omega, by omega, HB2.out⟩
 have C2 := Lib.hid (sa (by omega))
 clear sa
 rw [HTn.out] at c11
 go_wp2_with fail
 refine (szThreadS_any h.tp h.tc x.ths r2 _ HT2.out HTp.out HTm.out (by omega) sb).mono ?_
 rintro e w3 ⟨r3, rfl, ta, tb, tc, hb3⟩
 have HB3 := Lib.hid (HB2.out.trans (hb3.mono HB2.out.size))
 have HR3 := Lib.hid (HR2.out.below hb3 HR2.out.lt)
 clear c11 c12
 have c12 : w3.cell? ⟨w.heap.size, 12, none⟩ = some (.slice h.lp h.ln h.lc) := HR3.out.cell 12
 clear hb3
 by_cases g3 : r3 < 0
 ·clear tc
  go_wp2_with fail
  go_ret
  exact ⟨-1, rfl, fun h => by omega, by omega, HB3.out⟩
 have C3 := Lib.hid (tc (by omega))
 clear tc
 go_wp2_with fail
 refine (szEventS_any h.lp h.ln h.lc r3 _ (by omega) tb hlm').mono ?_
 rintro e w4 ⟨r4, rfl, ua, ub, uc, hb4⟩
 have HB4 := Lib.hid (HB3.out.trans (hb4.mono HB3.out.size))
 clear hb4 c12
 by_cases g4 : r4 < 0
 ·clear uc
  go_wp2_with fail
  go_ret
  exact ⟨-1, rfl, fun h => by omega, by omega, HB4.out⟩
 have c4 := uc (by omega)
 have HSm : Hid (WoSmall x) := Lib.hid ⟨C1.out, C2.out, C3.out, by rw [← HLn.out]; exact c4⟩
 clear uc c4
 go_wp2_with fail
 go_ret
 exact ⟨r4, rfl, fun _ => HSm.out, by omega, HB4.out⟩
/-- A world in new memory. -/
def WoNew (w0 w : World) (h : WH) (x : Wr) : Prop := GrNew w0 w h.fh x.first ∧ StNew w0 w h.sh x.store ∧ (∃ g, h.tp = some ⟨g, 0, none⟩ ∧ h.tn = x.ths.length ∧ h.tc = x.ths.length ∧ w0.heap.size ≤ g ∧ Row w g 147 (x.ths.flatMap thL)) ∧ (∃ g, h.lp = some ⟨g, 0, none⟩ ∧ h.ln = x.log.length ∧ h.lc = x.log.length ∧ w0.heap.size ≤ g ∧ Row w g 199 (x.log.flatMap evCf))
theorem WoNew.isIn {w0 w : World} {h : WH} {x : Wr} (k : WoNew w0 w h x) : WoIn w h x := by
 obtain ⟨h1, h2, ⟨g5, a1, a2, a3, a4, a5⟩, ⟨g6, b1, b2, b3, b4, b5⟩⟩ := k
 exact ⟨h1.isIn, h2.isIn, ⟨a2, by rw [a1]; exact LIn.of a5.lat⟩, ⟨b2, by rw [b1]; exact LIn.of b5.lat⟩⟩
def ToW (x : Wr) (w : World) (e : Ending) (w' : World) : Prop := ∃ h, e = .returned (woV x h) ∧ WoNew w w' h x ∧ Below w.heap.size w w'
theorem StNew.kept {w0 w w1 : World} {N p : Nat} {h : SH} {s : St} (hn : StNew w0 w h s) (hk : Kept N p p p w w1) (hN : w.heap.size ≤ N) (hp : p < w0.heap.size) : StNew w0 w1 h s := by
 obtain ⟨h1, g4, h2, h3, h4, h5, h6, h7⟩ := hn
 have := h7.lt
 exact ⟨h1.kept hk hN hp, g4, h2, h3, h4, h5, h6, h7.kept hk (by omega) (by omega) (by omega) (by omega)⟩
theorem StNew.old {w0 wx w : World} {h : SH} {s : St} (hn : StNew w0 w h s) (hs : wx.heap.size ≤ w0.heap.size) : StNew wx w h s := by
 obtain ⟨h1, g4, h2, h3, h4, h5, h6, h7⟩ := hn
 exact ⟨h1.old hs, g4, h2, h3, h4, by omega, h6, h7⟩
theorem sizeWorld : (Tryz.prog.info? 64).map (·.size) = some 13 := by kernel_rfl
theorem oneWorld (x : Wr) (h : WH) : (#[.int .i64 x.first.now, .slice h.fh.wp h.fh.wn h.fh.wc, .slice h.fh.kp h.fh.kn h.fh.kc, .slice h.fh.dp h.fh.dn h.fh.dc, .int .i64 x.store.gr.now, .slice h.sh.gh.wp h.sh.gh.wn h.sh.gh.wc, .slice h.sh.gh.kp h.sh.gh.kn h.sh.gh.kc, .slice h.sh.gh.dp h.sh.gh.dn h.sh.gh.dc, .int .i64 x.store.ver, .int .i64 x.store.lock, .slice h.sh.cp h.sh.cn h.sh.cc, .slice h.tp h.tn h.tc, .slice h.lp h.ln h.lc] : Array Value).all (·.oneCell') = true := by simp [Value.oneCell']
theorem ret_world {fn : Func} {p : Tmp} (h : fn.results = #[.cell p 64]) {tmps : Array Value} {w : World} {g : Nat} {x : Wr} {k : WH} (hp : tmps.getD p undef = .pointer (some ⟨g, 0, none⟩)) (hr : Row w g 64 (woL x k)) :
  (results fn tmps).run Tryz.prog w = .ok (woV x k) w := by
 have hu := Tryz.underlying64
 exact results_cell_row h tmps w g 64 (woL x k).toArray (0, 0) _ hp hr hu rfl sizeWorld
set_option maxHeartbeats 4000000 in
theorem toWorld_any (h : WH) (x : Wr) (w : World) (hin : WoIn w h x) (hs : WoSmall x) : Calls Tryz.prog 27 #[woV x h] w (ToW x w) := by
 obtain ⟨W, hW⟩ : ∃ W, W = ((w.alloc (.cells #[.int .i64 x.first.now, .slice h.fh.wp h.fh.wn h.fh.wc, .slice h.fh.kp h.fh.kn h.fh.kc, .slice h.fh.dp h.fh.dn h.fh.dc, .int .i64 x.store.gr.now, .slice h.sh.gh.wp h.sh.gh.wn h.sh.gh.wc, .slice h.sh.gh.kp h.sh.gh.kn h.sh.gh.kc, .slice h.sh.gh.dp h.sh.gh.dn h.sh.gh.dc, .int .i64 x.store.ver, .int .i64 x.store.lock, .slice h.sh.cp h.sh.cn h.sh.cc, .slice h.tp h.tn h.tc, .slice h.lp h.ln h.lc] 58)).alloc (.cells #[.int .i64 0, .slice none 0 0, .slice none 0 0, .slice none 0 0, .int .i64 0, .slice none 0 0, .slice none 0 0, .slice none 0 0, .int .i64 0, .int .i64 0, .slice none 0 0, .slice none 0 0, .slice none 0 0] 64)).alloc (.cells #[.int .i64 0, .slice none 0 0, .slice none 0 0, .slice none 0 0, .int .i64 0, .slice none 0 0, .slice none 0 0, .slice none 0 0, .int .i64 0, .int .i64 0, .slice none 0 0, .slice none 0 0, .slice none 0 0] 64) := ⟨_, rfl⟩
 obtain ⟨p, hp⟩ : ∃ p, p = w.heap.size + 1 + 1 := ⟨_, rfl⟩
 have hb0 : Below w.heap.size w W := by rw [hW]; go_grown
 have r0 : Row W w.heap.size 58 (woL x h) := by
  rw [hW]
  exact Row.below (heap_alloc_new w _) (((Below.refl _ _).alloc (Nat.le_refl _) _).alloc (by simp) _) (by simp)
 have r1 : Row W (w.heap.size + 1) 64 [.int .i64 0, .slice none 0 0, .slice none 0 0, .slice none 0 0, .int .i64 0, .slice none 0 0, .slice none 0 0, .slice none 0 0, .int .i64 0, .int .i64 0, .slice none 0 0, .slice none 0 0, .slice none 0 0] := by
  rw [hW]
  have h := heap_alloc_new (w.alloc (.cells #[.int .i64 x.first.now, .slice h.fh.wp h.fh.wn h.fh.wc, .slice h.fh.kp h.fh.kn h.fh.kc, .slice h.fh.dp h.fh.dn h.fh.dc, .int .i64 x.store.gr.now, .slice h.sh.gh.wp h.sh.gh.wn h.sh.gh.wc, .slice h.sh.gh.kp h.sh.gh.kn h.sh.gh.kc, .slice h.sh.gh.dp h.sh.gh.dn h.sh.gh.dc, .int .i64 x.store.ver, .int .i64 x.store.lock, .slice h.sh.cp h.sh.cn h.sh.cc, .slice h.tp h.tn h.tc, .slice h.lp h.ln h.lc] 58)) (.cells #[.int .i64 0, .slice none 0 0, .slice none 0 0, .slice none 0 0, .int .i64 0, .slice none 0 0, .slice none 0 0, .slice none 0 0, .int .i64 0, .int .i64 0, .slice none 0 0, .slice none 0 0, .slice none 0 0] 64)
  rw [World.size_alloc] at h
  exact Row.below h ((Below.refl _ _).alloc (Nat.le_refl _) _) (by simp)
 have r2 : Row W p 64 [.int .i64 0, .slice none 0 0, .slice none 0 0, .slice none 0 0, .int .i64 0, .slice none 0 0, .slice none 0 0, .slice none 0 0, .int .i64 0, .int .i64 0, .slice none 0 0, .slice none 0 0, .slice none 0 0] := by
  rw [hW, hp]
  have h := heap_alloc_new ((w.alloc (.cells #[.int .i64 x.first.now, .slice h.fh.wp h.fh.wn h.fh.wc, .slice h.fh.kp h.fh.kn h.fh.kc, .slice h.fh.dp h.fh.dn h.fh.dc, .int .i64 x.store.gr.now, .slice h.sh.gh.wp h.sh.gh.wn h.sh.gh.wc, .slice h.sh.gh.kp h.sh.gh.kn h.sh.gh.kc, .slice h.sh.gh.dp h.sh.gh.dn h.sh.gh.dc, .int .i64 x.store.ver, .int .i64 x.store.lock, .slice h.sh.cp h.sh.cn h.sh.cc, .slice h.tp h.tn h.tc, .slice h.lp h.ln h.lc] 58)).alloc (.cells #[.int .i64 0, .slice none 0 0, .slice none 0 0, .slice none 0 0, .int .i64 0, .slice none 0 0, .slice none 0 0, .slice none 0 0, .int .i64 0, .int .i64 0, .slice none 0 0, .slice none 0 0, .slice none 0 0] 64)) (.cells #[.int .i64 0, .slice none 0 0, .slice none 0 0, .slice none 0 0, .int .i64 0, .slice none 0 0, .slice none 0 0, .slice none 0 0, .int .i64 0, .int .i64 0, .slice none 0 0, .slice none 0 0, .slice none 0 0] 64)
  rw [World.size_alloc, World.size_alloc] at h
  exact h
 have HP := Lib.hid hp
 have hp2 : w.heap.size + 1 < p := by omega
 have HW := Lib.hid hW
 have hz := hb0.size
 have HB := Lib.hid hb0
 have R0 := Lib.hid r0
 have R1 := Lib.hid r1
 have R2 := Lib.hid r2
 have hl2 := r2.lt
 have HIN := Lib.hid (hin.later hb0)
 have HINZ := Lib.hid hin
 have HS := Lib.hid hs
 have HE := Lib.hid (wG x h)
 have HE2 := Lib.hid (wS x h)
 clear hp hW hb0 r0 r1 r2 hin hs
 unfold woV
 go_enter Tryz.func27, Tryz.ntmps27
 go_wp2_with fail
 rw [← HW.out, ← HE.out, ← HP.out]
 refine (toGrant_any h.fh x.first _ HIN.out.1 HS.out.1).mono ?_
 rintro e w1 ⟨h1, rfl, hn1, hb1⟩
 have S0 := Lib.hid (R0.out.below hb1 R0.out.lt)
 have S1 := Lib.hid (R1.out.below hb1 R1.out.lt)
 have S2 := Lib.hid (R2.out.below hb1 R2.out.lt)
 have HB1 := Lib.hid (HB.out.trans (hb1.mono hz))
 have hz1 := hb1.size
 have HIN1 := Lib.hid (HIN.out.later hb1)
 have HT := Lib.hid (show w1.there p 0 (#[.int .i64 x.first.now, .slice h1.wp h1.wn h1.wc, .slice h1.kp h1.kn h1.kc, .slice h1.dp h1.dn h1.dc] : Array Value).size from S2.out.there 0 4 (by simp))
 have HN1 := Lib.hid hn1
 clear hb1 hn1
 unfold grV
 go_wp2_with (refine Stop.out (p := wpList _ _ _ [{ dst := _, op := .store 31 _ _, type := _, pos := _, after := _, guard := _ }] _ _) ?_)
 constructor
 refine wpList_store_to rfl 31 (.tmp 7) (.tmp 6) rfl p 0 #[.int .i64 x.first.now, .slice h1.wp h1.wn h1.wc, .slice h1.kp h1.kn h1.kc, .slice h1.dp h1.dn h1.dc] rfl rfl HT.out sizeGrant (oneGrant x.first.now h1) ?_
 intro V hV
 have hk1 : Kept (w1.heap.size) p p p w1 V := by rw [hV]; exact Kept.setCells (.inl rfl) _ 0 (Kept.refl _ _ _ _ _)
 have T0 := Lib.hid (S0.out.kept hk1 S0.out.lt (by omega) (by omega) (by omega))
 have T1 := Lib.hid (S1.out.kept hk1 S1.out.lt (by omega) (by omega) (by omega))
 have T2 : Hid (Row V p 64 [.int .i64 x.first.now, .slice h1.wp h1.wn h1.wc, .slice h1.kp h1.kn h1.kc, .slice h1.dp h1.dn h1.dc, .int .i64 0, .slice none 0 0, .slice none 0 0, .slice none 0 0, .int .i64 0, .int .i64 0, .slice none 0 0, .slice none 0 0, .slice none 0 0]) := Lib.hid (by rw [hV]; exact S2.out.setCells _ 0)
 have HN2 := Lib.hid (HN1.out.kept hk1 (Nat.le_refl _) (by omega))
 have hbV := hk1.below (B := w.heap.size) (by omega) (by omega) (by omega) (by omega)
 have HB2 := Lib.hid (HB1.out.trans hbV)
 have hz2 := hk1.size
 have HINV : Hid (WoIn V h x) := Lib.hid (HINZ.out.later HB2.out)
 have c0 : V.cell? ⟨w.heap.size, 0, none⟩ = some (.int .i64 x.first.now) := T0.out.cell 0
 have c1 : V.cell? ⟨w.heap.size, 1, none⟩ = some (.slice h.fh.wp h.fh.wn h.fh.wc) := T0.out.cell 1
 have c2 : V.cell? ⟨w.heap.size, 2, none⟩ = some (.slice h.fh.kp h.fh.kn h.fh.kc) := T0.out.cell 2
 have c3 : V.cell? ⟨w.heap.size, 3, none⟩ = some (.slice h.fh.dp h.fh.dn h.fh.dc) := T0.out.cell 3
 have c4 : V.cell? ⟨w.heap.size, 4, none⟩ = some (.int .i64 x.store.gr.now) := T0.out.cell 4
 have c5 : V.cell? ⟨w.heap.size, 5, none⟩ = some (.slice h.sh.gh.wp h.sh.gh.wn h.sh.gh.wc) := T0.out.cell 5
 have c6 : V.cell? ⟨w.heap.size, 6, none⟩ = some (.slice h.sh.gh.kp h.sh.gh.kn h.sh.gh.kc) := T0.out.cell 6
 have c7 : V.cell? ⟨w.heap.size, 7, none⟩ = some (.slice h.sh.gh.dp h.sh.gh.dn h.sh.gh.dc) := T0.out.cell 7
 have c8 : V.cell? ⟨w.heap.size, 8, none⟩ = some (.int .i64 x.store.ver) := T0.out.cell 8
 have c9 : V.cell? ⟨w.heap.size, 9, none⟩ = some (.int .i64 x.store.lock) := T0.out.cell 9
 have c10 : V.cell? ⟨w.heap.size, 10, none⟩ = some (.slice h.sh.cp h.sh.cn h.sh.cc) := T0.out.cell 10
 have c11 : V.cell? ⟨w.heap.size, 11, none⟩ = some (.slice h.tp h.tn h.tc) := T0.out.cell 11
 have c12 : V.cell? ⟨w.heap.size, 12, none⟩ = some (.slice h.lp h.ln h.lc) := T0.out.cell 12
 clear hk1 hV hbV
 go_wp2_with fail
 rw [← HE2.out]
 refine (toStore_any h.sh x.store _ HINV.out.2.1 HS.out.2.1).mono ?_
 rintro e w3 ⟨h3, rfl, hn3, hb3⟩
 have U0 := Lib.hid (T0.out.below hb3 T0.out.lt)
 have U1 := Lib.hid (T1.out.below hb3 T1.out.lt)
 have U2 := Lib.hid (T2.out.below hb3 T2.out.lt)
 have HB3 := Lib.hid (HB2.out.trans (hb3.mono HB2.out.size))
 have hz3 := hb3.size
 have HN21 := Lib.hid (HN2.out.later hb3)
 have HT3 := Lib.hid (show w3.there p 4 (#[.int .i64 x.store.gr.now, .slice h3.gh.wp h3.gh.wn h3.gh.wc, .slice h3.gh.kp h3.gh.kn h3.gh.kc, .slice h3.gh.dp h3.gh.dn h3.gh.dc, .int .i64 x.store.ver, .int .i64 x.store.lock, .slice h3.cp h3.cn h3.cc] : Array Value).size from U2.out.there 4 7 (by simp))
 have HN3 := Lib.hid hn3
 clear hb3 hn3 c0 c1 c2 c3 c4 c5 c6 c7 c8 c9 c10 c11 c12
 unfold stV
 go_wp2_with (refine Stop.out (p := wpList _ _ _ [{ dst := _, op := .store 34 _ _, type := _, pos := _, after := _, guard := _ }] _ _) ?_)
 constructor
 refine wpList_store_to rfl 34 (.tmp 11) (.tmp 10) rfl p 4 #[.int .i64 x.store.gr.now, .slice h3.gh.wp h3.gh.wn h3.gh.wc, .slice h3.gh.kp h3.gh.kn h3.gh.kc, .slice h3.gh.dp h3.gh.dn h3.gh.dc, .int .i64 x.store.ver, .int .i64 x.store.lock, .slice h3.cp h3.cn h3.cc] rfl rfl HT3.out sizeStore (oneStore x.store h3) ?_
 intro V3 hV3
 have hk3 : Kept (w3.heap.size) p p p w3 V3 := by rw [hV3]; exact Kept.setCells (.inl rfl) _ 4 (Kept.refl _ _ _ _ _)
 have P0 := Lib.hid (U0.out.kept hk3 U0.out.lt (by omega) (by omega) (by omega))
 have P1 := Lib.hid (U1.out.kept hk3 U1.out.lt (by omega) (by omega) (by omega))
 have P2 : Hid (Row V3 p 64 [.int .i64 x.first.now, .slice h1.wp h1.wn h1.wc, .slice h1.kp h1.kn h1.kc, .slice h1.dp h1.dn h1.dc, .int .i64 x.store.gr.now, .slice h3.gh.wp h3.gh.wn h3.gh.wc, .slice h3.gh.kp h3.gh.kn h3.gh.kc, .slice h3.gh.dp h3.gh.dn h3.gh.dc, .int .i64 x.store.ver, .int .i64 x.store.lock, .slice h3.cp h3.cn h3.cc, .slice none 0 0, .slice none 0 0]) := Lib.hid (by rw [hV3]; exact U2.out.setCells _ 4)
 have HN4 := Lib.hid (HN21.out.kept hk3 (Nat.le_refl _) (by omega))
 have HN5 := Lib.hid (HN3.out.kept hk3 (Nat.le_refl _) (by omega))
 have HB4 := Lib.hid (HB3.out.trans (hk3.below (B := w.heap.size) (by omega) (by omega) (by omega) (by omega)))
 have hz4 := hk3.size
 have HINV3 : Hid (WoIn V3 h x) := Lib.hid (HINZ.out.later HB4.out)
 have c11 : V3.cell? ⟨w.heap.size, 11, none⟩ = some (.slice h.tp h.tn h.tc) := P0.out.cell 11
 rw [HINV3.out.2.2.1.1] at c11
 clear hk3 hV3
 go_wp2_with fail
 refine (toThreadS_any h.tp h.tc x.ths _ HINV3.out.2.2.1.2 HS.out.2.2.1).mono ?_
 rintro e w5 ⟨g5, rfl, hg5, hr5, hb5⟩
 have Q0 := Lib.hid (P0.out.below hb5 P0.out.lt)
 have Q1 := Lib.hid (P1.out.below hb5 P1.out.lt)
 have Q2 := Lib.hid (P2.out.below hb5 P2.out.lt)
 have HB5 := Lib.hid (HB4.out.trans (hb5.mono HB4.out.size))
 have hz5 := hb5.size
 have HN41 := Lib.hid (HN4.out.later hb5)
 have HN51 := Lib.hid (HN5.out.later hb5)
 have HR5 := Lib.hid hr5
 have hr5l := hr5.lt
 have hq2 := Q2.out.lt
 have hq1 := Q1.out.lt
 have hq0 := Q0.out.lt
 have z11 : w5.cell? ⟨p, 11, none⟩ = some (.slice none 0 0) := Q2.out.cell 11
 have f11 : w5.frozen? ⟨p, 11, none⟩ = false := Q2.out.free 11
 obtain ⟨w6, hw6⟩ : ∃ w6, w6 = w5.setCell ⟨p, 11, none⟩ (.slice (some ⟨g5, 0, none⟩) x.ths.length x.ths.length) := ⟨_, rfl⟩
 have hk5 : Kept (w5.heap.size) p p p w5 w6 := by rw [hw6]; exact (Kept.refl _ _ _ _ _).setCell (a := ⟨p, 11, none⟩) _ (.inl rfl)
 have A0 := Lib.hid (Q0.out.kept hk5 Q0.out.lt (by omega) (by omega) (by omega))
 have A1 := Lib.hid (Q1.out.kept hk5 Q1.out.lt (by omega) (by omega) (by omega))
 have A2 : Hid (Row w6 p 64 [.int .i64 x.first.now, .slice h1.wp h1.wn h1.wc, .slice h1.kp h1.kn h1.kc, .slice h1.dp h1.dn h1.dc, .int .i64 x.store.gr.now, .slice h3.gh.wp h3.gh.wn h3.gh.wc, .slice h3.gh.kp h3.gh.kn h3.gh.kc, .slice h3.gh.dp h3.gh.dn h3.gh.dc, .int .i64 x.store.ver, .int .i64 x.store.lock, .slice h3.cp h3.cn h3.cc, .slice (some ⟨g5, 0, none⟩) x.ths.length x.ths.length, .slice none 0 0]) := Lib.hid (by rw [hw6]; exact Q2.out.set 11 _)
 have HN6 := Lib.hid (HN41.out.kept hk5 (Nat.le_refl _) (by omega))
 have HN7 := Lib.hid (HN51.out.kept hk5 (Nat.le_refl _) (by omega))
 have HR6 := Lib.hid (HR5.out.kept hk5 hr5l (by omega) (by omega) (by omega))
 have HB6 := Lib.hid (HB5.out.trans (hk5.below (B := w.heap.size) (by omega) (by omega) (by omega) (by omega)))
 have hz6 := hk5.size
 have HIN6 : Hid (WoIn w6 h x) := Lib.hid (HINZ.out.later HB6.out)
 have c12 : w6.cell? ⟨w.heap.size, 12, none⟩ = some (.slice h.lp h.ln h.lc) := A0.out.cell 12
 rw [HIN6.out.2.2.2.1, hw6] at c12
 have HW6 := Lib.hid hw6
 clear hb5 hr5 hk5 hw6 c11
 go_wp2_with fail
 rw [← HW6.out]
 clear z11 f11 c12
 refine (toEventS_any h.lp h.lc x.log _ HIN6.out.2.2.2.2 HS.out.2.2.2).mono ?_
 rintro e w7 ⟨g7, rfl, hg7, hr7, hb7⟩
 have B1 := Lib.hid (A1.out.below hb7 A1.out.lt)
 have B2 := Lib.hid (A2.out.below hb7 A2.out.lt)
 have HB7 := Lib.hid (HB6.out.trans (hb7.mono HB6.out.size))
 have hz7 := hb7.size
 have HN61 := Lib.hid (HN6.out.later hb7)
 have HN71 := Lib.hid (HN7.out.later hb7)
 have HR61 := Lib.hid (HR6.out.below hb7 HR6.out.lt)
 have HR7 := Lib.hid hr7
 have hr7l := hr7.lt
 have hr6l := HR61.out.lt
 have hb2l := B2.out.lt
 have hb1l := B1.out.lt
 have z12 : w7.cell? ⟨p, 12, none⟩ = some (.slice none 0 0) := B2.out.cell 12
 have f12 : w7.frozen? ⟨p, 12, none⟩ = false := B2.out.free 12
 obtain ⟨w8, hw8⟩ : ∃ w8, w8 = w7.setCell ⟨p, 12, none⟩ (.slice (some ⟨g7, 0, none⟩) x.log.length x.log.length) := ⟨_, rfl⟩
 have hk7 : Kept (w7.heap.size) p p p w7 w8 := by rw [hw8]; exact (Kept.refl _ _ _ _ _).setCell (a := ⟨p, 12, none⟩) _ (.inl rfl)
 have D1 := Lib.hid (B1.out.kept hk7 B1.out.lt (by omega) (by omega) (by omega))
 have D2 : Hid (Row w8 p 64 [.int .i64 x.first.now, .slice h1.wp h1.wn h1.wc, .slice h1.kp h1.kn h1.kc, .slice h1.dp h1.dn h1.dc, .int .i64 x.store.gr.now, .slice h3.gh.wp h3.gh.wn h3.gh.wc, .slice h3.gh.kp h3.gh.kn h3.gh.kc, .slice h3.gh.dp h3.gh.dn h3.gh.dc, .int .i64 x.store.ver, .int .i64 x.store.lock, .slice h3.cp h3.cn h3.cc, .slice (some ⟨g5, 0, none⟩) x.ths.length x.ths.length, .slice (some ⟨g7, 0, none⟩) x.log.length x.log.length]) := Lib.hid (by rw [hw8]; exact B2.out.set 12 _)
 have HN8 := Lib.hid (HN61.out.kept hk7 (Nat.le_refl _) (by omega))
 have HN9 := Lib.hid (HN71.out.kept hk7 (Nat.le_refl _) (by omega))
 have HR8 := Lib.hid (HR61.out.kept hk7 hr6l (by omega) (by omega) (by omega))
 have HR9 := Lib.hid (HR7.out.kept hk7 hr7l (by omega) (by omega) (by omega))
 have HB8 := Lib.hid (HB7.out.trans (hk7.below (B := w.heap.size) (by omega) (by omega) (by omega) (by omega)))
 have hz8 := hk7.size
 have y0 : w8.cell? ⟨p, 0, none⟩ = some (.int .i64 x.first.now) := D2.out.cell 0
 have y1 : w8.cell? ⟨p, 1, none⟩ = some (.slice h1.wp h1.wn h1.wc) := D2.out.cell 1
 have y2 : w8.cell? ⟨p, 2, none⟩ = some (.slice h1.kp h1.kn h1.kc) := D2.out.cell 2
 have y3 : w8.cell? ⟨p, 3, none⟩ = some (.slice h1.dp h1.dn h1.dc) := D2.out.cell 3
 have y4 : w8.cell? ⟨p, 4, none⟩ = some (.int .i64 x.store.gr.now) := D2.out.cell 4
 have y5 : w8.cell? ⟨p, 5, none⟩ = some (.slice h3.gh.wp h3.gh.wn h3.gh.wc) := D2.out.cell 5
 have y6 : w8.cell? ⟨p, 6, none⟩ = some (.slice h3.gh.kp h3.gh.kn h3.gh.kc) := D2.out.cell 6
 have y7 : w8.cell? ⟨p, 7, none⟩ = some (.slice h3.gh.dp h3.gh.dn h3.gh.dc) := D2.out.cell 7
 have y8 : w8.cell? ⟨p, 8, none⟩ = some (.int .i64 x.store.ver) := D2.out.cell 8
 have y9 : w8.cell? ⟨p, 9, none⟩ = some (.int .i64 x.store.lock) := D2.out.cell 9
 have y10 : w8.cell? ⟨p, 10, none⟩ = some (.slice h3.cp h3.cn h3.cc) := D2.out.cell 10
 have y11 : w8.cell? ⟨p, 11, none⟩ = some (.slice (some ⟨g5, 0, none⟩) x.ths.length x.ths.length) := D2.out.cell 11
 have y12 : w8.cell? ⟨p, 12, none⟩ = some (.slice (some ⟨g7, 0, none⟩) x.log.length x.log.length) := D2.out.cell 12
 rw [hw8] at y0 y1 y2 y3 y4 y5 y6 y7 y8 y9 y10 y11 y12
 have HT8 := Lib.hid (show w8.there (w.heap.size + 1) 0 (#[.int .i64 x.first.now, .slice h1.wp h1.wn h1.wc, .slice h1.kp h1.kn h1.kc, .slice h1.dp h1.dn h1.dc, .int .i64 x.store.gr.now, .slice h3.gh.wp h3.gh.wn h3.gh.wc, .slice h3.gh.kp h3.gh.kn h3.gh.kc, .slice h3.gh.dp h3.gh.dn h3.gh.dc, .int .i64 x.store.ver, .int .i64 x.store.lock, .slice h3.cp h3.cn h3.cc, .slice (some ⟨g5, 0, none⟩) x.ths.length x.ths.length, .slice (some ⟨g7, 0, none⟩) x.log.length x.log.length] : Array Value).size from D1.out.there 0 13 (by simp))
 have HT9 : Hid ((w7.setCell ⟨p, 12, none⟩ (.slice (some ⟨g7, 0, none⟩) x.log.length x.log.length)).there (w.heap.size + 1) 0 (#[.int .i64 x.first.now, .slice h1.wp h1.wn h1.wc, .slice h1.kp h1.kn h1.kc, .slice h1.dp h1.dn h1.dc, .int .i64 x.store.gr.now, .slice h3.gh.wp h3.gh.wn h3.gh.wc, .slice h3.gh.kp h3.gh.kn h3.gh.kc, .slice h3.gh.dp h3.gh.dn h3.gh.dc, .int .i64 x.store.ver, .int .i64 x.store.lock, .slice h3.cp h3.cn h3.cc, .slice (some ⟨g5, 0, none⟩) x.ths.length x.ths.length, .slice (some ⟨g7, 0, none⟩) x.log.length x.log.length] : Array Value).size) := Lib.hid (by rw [← hw8]; exact HT8.out)
 have HW8 := Lib.hid hw8
 clear hb7 hr7 hk7 hw8
 go_wp2_with (refine Stop.out (p := wpList _ _ _ [{ dst := _, op := .store 64 _ _, type := _, pos := _, after := _, guard := _ }] _ _) ?_)
 constructor
 refine wpList_store_to rfl 64 (.tmp 2) (.tmp 20) rfl (w.heap.size + 1) 0 #[.int .i64 x.first.now, .slice h1.wp h1.wn h1.wc, .slice h1.kp h1.kn h1.kc, .slice h1.dp h1.dn h1.dc, .int .i64 x.store.gr.now, .slice h3.gh.wp h3.gh.wn h3.gh.wc, .slice h3.gh.kp h3.gh.kn h3.gh.kc, .slice h3.gh.dp h3.gh.dn h3.gh.dc, .int .i64 x.store.ver, .int .i64 x.store.lock, .slice h3.cp h3.cn h3.cc, .slice (some ⟨g5, 0, none⟩) x.ths.length x.ths.length, .slice (some ⟨g7, 0, none⟩) x.log.length x.log.length] rfl rfl HT9.out sizeWorld (by simp [Value.oneCell']) ?_
 rw [← HW8.out]
 intro Z hZ
 have hk9 : Kept (w8.heap.size) (w.heap.size + 1) (w.heap.size + 1) (w.heap.size + 1) w8 Z := by rw [hZ]; exact Kept.setCells (.inl rfl) _ 0 (Kept.refl _ _ _ _ _)
 have Z1 : Row Z (w.heap.size + 1) 64 (woL x ⟨h1, h3, some ⟨g5, 0, none⟩, x.ths.length, x.ths.length, some ⟨g7, 0, none⟩, x.log.length, x.log.length⟩) := by rw [hZ]; exact D1.out.setCells _ 0
 have hnz1 := (HN8.out.kept hk9 (Nat.le_refl _) (by omega)).old (wx := w) (by omega)
 have hnz2 := (HN9.out.kept hk9 (Nat.le_refl _) (by omega)).old (wx := w) (by omega)
 have hr8l := HR8.out.lt
 have hr9l := HR9.out.lt
 have hrz5 := HR8.out.kept hk9 hr8l (by omega) (by omega) (by omega)
 have hrz7 := HR9.out.kept hk9 hr9l (by omega) (by omega) (by omega)
 have hbz := HB8.out.trans (hk9.below (B := w.heap.size) (by omega) (by omega) (by omega) (by omega))
 clear y0 y1 y2 y3 y4 y5 y6 y7 y8 y9 y10 y11 y12 z12 f12
 have HZ1 := Lib.hid Z1
 have HZ2 := Lib.hid hnz1
 have HZ3 := Lib.hid hnz2
 have HZ4 := Lib.hid hrz5
 have HZ5 := Lib.hid hrz7
 have HZ6 := Lib.hid hbz
 clear hZ hk9 Z1 hnz1 hnz2 hrz5 hrz7 hbz
 go_wp2_with fail
 refine bodyPost_ret (ret_world rfl rfl HZ1.out) rfl ?_
 exact ⟨_, rfl, ⟨HZ2.out, HZ3.out, ⟨g5, rfl, rfl, rfl, by omega, HZ4.out⟩, ⟨g7, rfl, rfl, rfl, by omega, HZ5.out⟩⟩, HZ6.out⟩
set_option maxHeartbeats 2000000 in
theorem eqWorld_same (h h' : WH) (x : Wr) (w : World) (hi : WoIn w h x) (hi' : WoIn w h' x) (hs : WoSmall x) : Calls Tryz.prog 29 #[woV x h, woV x h'] w (Ret (.bool true) w) := by
 obtain ⟨W, hW⟩ : ∃ W, W = (w.alloc (.cells #[.int .i64 x.first.now, .slice h.fh.wp h.fh.wn h.fh.wc, .slice h.fh.kp h.fh.kn h.fh.kc, .slice h.fh.dp h.fh.dn h.fh.dc, .int .i64 x.store.gr.now, .slice h.sh.gh.wp h.sh.gh.wn h.sh.gh.wc, .slice h.sh.gh.kp h.sh.gh.kn h.sh.gh.kc, .slice h.sh.gh.dp h.sh.gh.dn h.sh.gh.dc, .int .i64 x.store.ver, .int .i64 x.store.lock, .slice h.sh.cp h.sh.cn h.sh.cc, .slice h.tp h.tn h.tc, .slice h.lp h.ln h.lc] 64)).alloc (.cells #[.int .i64 x.first.now, .slice h'.fh.wp h'.fh.wn h'.fh.wc, .slice h'.fh.kp h'.fh.kn h'.fh.kc, .slice h'.fh.dp h'.fh.dn h'.fh.dc, .int .i64 x.store.gr.now, .slice h'.sh.gh.wp h'.sh.gh.wn h'.sh.gh.wc, .slice h'.sh.gh.kp h'.sh.gh.kn h'.sh.gh.kc, .slice h'.sh.gh.dp h'.sh.gh.dn h'.sh.gh.dc, .int .i64 x.store.ver, .int .i64 x.store.lock, .slice h'.sh.cp h'.sh.cn h'.sh.cc, .slice h'.tp h'.tn h'.tc, .slice h'.lp h'.ln h'.lc] 64) := ⟨_, rfl⟩
 have hb0 : Below w.heap.size w W := by rw [hW]; go_grown
 have hr1 : Row W w.heap.size 64 (woL x h) := by
  rw [hW]
  exact Row.below (heap_alloc_new w _) ((Below.refl _ _).alloc (Nat.le_refl _) _) (by simp)
 have hr2 : Row W (w.heap.size + 1) 64 (woL x h') := by
  rw [hW]
  have := heap_alloc_new (w.alloc (.cells #[.int .i64 x.first.now, .slice h.fh.wp h.fh.wn h.fh.wc, .slice h.fh.kp h.fh.kn h.fh.kc, .slice h.fh.dp h.fh.dn h.fh.dc, .int .i64 x.store.gr.now, .slice h.sh.gh.wp h.sh.gh.wn h.sh.gh.wc, .slice h.sh.gh.kp h.sh.gh.kn h.sh.gh.kc, .slice h.sh.gh.dp h.sh.gh.dn h.sh.gh.dc, .int .i64 x.store.ver, .int .i64 x.store.lock, .slice h.sh.cp h.sh.cn h.sh.cc, .slice h.tp h.tn h.tc, .slice h.lp h.ln h.lc] 64)) (.cells #[.int .i64 x.first.now, .slice h'.fh.wp h'.fh.wn h'.fh.wc, .slice h'.fh.kp h'.fh.kn h'.fh.kc, .slice h'.fh.dp h'.fh.dn h'.fh.dc, .int .i64 x.store.gr.now, .slice h'.sh.gh.wp h'.sh.gh.wn h'.sh.gh.wc, .slice h'.sh.gh.kp h'.sh.gh.kn h'.sh.gh.kc, .slice h'.sh.gh.dp h'.sh.gh.dn h'.sh.gh.dc, .int .i64 x.store.ver, .int .i64 x.store.lock, .slice h'.sh.cp h'.sh.cn h'.sh.cc, .slice h'.tp h'.tn h'.tc, .slice h'.lp h'.ln h'.lc] 64)
  rw [World.size_alloc] at this
  exact this
 have HW := Lib.hid hW
 have HR1 := Lib.hid hr1
 have HR2 := Lib.hid hr2
 have HI := Lib.hid (hi.later hb0)
 have HI' := Lib.hid (hi'.later hb0)
 have HB := Lib.hid hb0
 have HS := Lib.hid hs
 have HE := Lib.hid (wG x h)
 have HE' := Lib.hid (wG x h')
 have HF := Lib.hid (wS x h)
 have HF' := Lib.hid (wS x h')
 clear hi hi' hr1 hr2 hb0 hW hs
 unfold woV
 go_enter Tryz.func29, Tryz.ntmps29
 go_wp2_with fail
 rw [← HW.out, ← HE.out, ← HE'.out]
 refine (eqGrant_same h.fh h'.fh x.first _ HI.out.1 HI'.out.1 HS.out.1).mono ?_
 rintro e w1 ⟨rfl, hb1⟩
 have HB1 := Lib.hid (HB.out.trans (hb1.mono HB.out.size))
 have HS1 := Lib.hid (HR1.out.below hb1 HR1.out.lt)
 have HS2 := Lib.hid (HR2.out.below hb1 HR2.out.lt)
 have HI1 := Lib.hid (HI.out.later hb1)
 have HI1' := Lib.hid (HI'.out.later hb1)
 have c0 : w1.cell? ⟨w.heap.size, 0, none⟩ = some (.int .i64 x.first.now) := HS1.out.cell 0
 have c1 : w1.cell? ⟨w.heap.size, 1, none⟩ = some (.slice h.fh.wp h.fh.wn h.fh.wc) := HS1.out.cell 1
 have c2 : w1.cell? ⟨w.heap.size, 2, none⟩ = some (.slice h.fh.kp h.fh.kn h.fh.kc) := HS1.out.cell 2
 have c3 : w1.cell? ⟨w.heap.size, 3, none⟩ = some (.slice h.fh.dp h.fh.dn h.fh.dc) := HS1.out.cell 3
 have c4 : w1.cell? ⟨w.heap.size, 4, none⟩ = some (.int .i64 x.store.gr.now) := HS1.out.cell 4
 have c5 : w1.cell? ⟨w.heap.size, 5, none⟩ = some (.slice h.sh.gh.wp h.sh.gh.wn h.sh.gh.wc) := HS1.out.cell 5
 have c6 : w1.cell? ⟨w.heap.size, 6, none⟩ = some (.slice h.sh.gh.kp h.sh.gh.kn h.sh.gh.kc) := HS1.out.cell 6
 have c7 : w1.cell? ⟨w.heap.size, 7, none⟩ = some (.slice h.sh.gh.dp h.sh.gh.dn h.sh.gh.dc) := HS1.out.cell 7
 have c8 : w1.cell? ⟨w.heap.size, 8, none⟩ = some (.int .i64 x.store.ver) := HS1.out.cell 8
 have c9 : w1.cell? ⟨w.heap.size, 9, none⟩ = some (.int .i64 x.store.lock) := HS1.out.cell 9
 have c10 : w1.cell? ⟨w.heap.size, 10, none⟩ = some (.slice h.sh.cp h.sh.cn h.sh.cc) := HS1.out.cell 10
 have c11 : w1.cell? ⟨w.heap.size, 11, none⟩ = some (.slice h.tp h.tn h.tc) := HS1.out.cell 11
 have c12 : w1.cell? ⟨w.heap.size, 12, none⟩ = some (.slice h.lp h.ln h.lc) := HS1.out.cell 12
 have d0 : w1.cell? ⟨w.heap.size + 1, 0, none⟩ = some (.int .i64 x.first.now) := HS2.out.cell 0
 have d1 : w1.cell? ⟨w.heap.size + 1, 1, none⟩ = some (.slice h'.fh.wp h'.fh.wn h'.fh.wc) := HS2.out.cell 1
 have d2 : w1.cell? ⟨w.heap.size + 1, 2, none⟩ = some (.slice h'.fh.kp h'.fh.kn h'.fh.kc) := HS2.out.cell 2
 have d3 : w1.cell? ⟨w.heap.size + 1, 3, none⟩ = some (.slice h'.fh.dp h'.fh.dn h'.fh.dc) := HS2.out.cell 3
 have d4 : w1.cell? ⟨w.heap.size + 1, 4, none⟩ = some (.int .i64 x.store.gr.now) := HS2.out.cell 4
 have d5 : w1.cell? ⟨w.heap.size + 1, 5, none⟩ = some (.slice h'.sh.gh.wp h'.sh.gh.wn h'.sh.gh.wc) := HS2.out.cell 5
 have d6 : w1.cell? ⟨w.heap.size + 1, 6, none⟩ = some (.slice h'.sh.gh.kp h'.sh.gh.kn h'.sh.gh.kc) := HS2.out.cell 6
 have d7 : w1.cell? ⟨w.heap.size + 1, 7, none⟩ = some (.slice h'.sh.gh.dp h'.sh.gh.dn h'.sh.gh.dc) := HS2.out.cell 7
 have d8 : w1.cell? ⟨w.heap.size + 1, 8, none⟩ = some (.int .i64 x.store.ver) := HS2.out.cell 8
 have d9 : w1.cell? ⟨w.heap.size + 1, 9, none⟩ = some (.int .i64 x.store.lock) := HS2.out.cell 9
 have d10 : w1.cell? ⟨w.heap.size + 1, 10, none⟩ = some (.slice h'.sh.cp h'.sh.cn h'.sh.cc) := HS2.out.cell 10
 have d11 : w1.cell? ⟨w.heap.size + 1, 11, none⟩ = some (.slice h'.tp h'.tn h'.tc) := HS2.out.cell 11
 have d12 : w1.cell? ⟨w.heap.size + 1, 12, none⟩ = some (.slice h'.lp h'.ln h'.lc) := HS2.out.cell 12
 clear hb1
 go_wp2_with fail
 rw [← HF.out, ← HF'.out]
 refine (eqStore_same h.sh h'.sh x.store _ HI1.out.2.1 HI1'.out.2.1 HS.out.2.1).mono ?_
 rintro e w2 ⟨rfl, hb2⟩
 have HB2 := Lib.hid (HB1.out.trans (hb2.mono HB1.out.size))
 have HT1 := Lib.hid (HS1.out.below hb2 HS1.out.lt)
 have HT2 := Lib.hid (HS2.out.below hb2 HS2.out.lt)
 have HI2 := Lib.hid (HI1.out.later hb2)
 have HI2' := Lib.hid (HI1'.out.later hb2)
 clear c0 c1 c2 c3 c4 c5 c6 c7 c8 c9 c10 c11 c12
 clear d0 d1 d2 d3 d4 d5 d6 d7 d8 d9 d10 d11 d12
 have c11 : w2.cell? ⟨w.heap.size, 11, none⟩ = some (.slice h.tp h.tn h.tc) := HT1.out.cell 11
 have d11 : w2.cell? ⟨w.heap.size + 1, 11, none⟩ = some (.slice h'.tp h'.tn h'.tc) := HT2.out.cell 11
 rw [HI2.out.2.2.1.1] at c11
 rw [HI2'.out.2.2.1.1] at d11
 clear hb2
 go_wp2_with fail
 refine (eqThreadS_same h.tp h'.tp h.tc h'.tc x.ths _ HI2.out.2.2.1.2 HI2'.out.2.2.1.2 HS.out.2.2.1).mono ?_
 rintro e w3 ⟨rfl, hb3⟩
 have HB3 := Lib.hid (HB2.out.trans (hb3.mono HB2.out.size))
 have HU1 := Lib.hid (HT1.out.below hb3 HT1.out.lt)
 have HU2 := Lib.hid (HT2.out.below hb3 HT2.out.lt)
 have HI3 := Lib.hid (HI2.out.later hb3)
 have HI3' := Lib.hid (HI2'.out.later hb3)
 clear c11 d11
 have c12 : w3.cell? ⟨w.heap.size, 12, none⟩ = some (.slice h.lp h.ln h.lc) := HU1.out.cell 12
 have d12 : w3.cell? ⟨w.heap.size + 1, 12, none⟩ = some (.slice h'.lp h'.ln h'.lc) := HU2.out.cell 12
 rw [HI3.out.2.2.2.1] at c12
 rw [HI3'.out.2.2.2.1] at d12
 clear hb3
 go_wp2_with fail
 refine (eqEventS_same h.lp h'.lp h.lc h'.lc x.log _ HI3.out.2.2.2.2 HI3'.out.2.2.2.2 HS.out.2.2.2).mono ?_
 rintro e w4 ⟨rfl, hb4⟩
 have HB4 := Lib.hid (HB3.out.trans (hb4.mono HB3.out.size))
 clear hb4 c12 d12
 go_wp2_with fail
 go_ret
 exact ⟨rfl, HB4.out⟩
end Go.Proofs.YtjccnjfdeedneaaGreat
