/- The laws' helpers on whole stores: measured, copied, compared. -/
import Derived.Test.YtjccnjfdeedneaaGreatSGdG
import Derived.Test.YtjccnjfdeedneaaGreatSGdA
import Derived.Test.YtjccnjfdeedneaaGreatSGdB
import Derived.Laws.Rows
namespace Go.Proofs.YtjccnjfdeedneaaGreat
open Go Go.RowKit Go.Lib
set_option linter.unusedVariables false

def StArg (w : World) (h : SH) (s : St) : Prop := GrArg w h.gh s.gr ∧ h.cn = s.cache.length ∧ LIn enCf w h.cp s.cache ∧ s.cache.length ≤ maxLen
def SzS (s : St) (w : World) (e : Ending) (w' : World) : Prop := ∃ r : Int, e = .returned (.int .i64 r) ∧ (0 ≤ r → StSmall s) ∧ r ≤ 1048576 ∧ Below w.heap.size w w'
theorem StArg.isIn {w : World} {h : SH} {s : St} (ha : StArg w h s) : StIn w h s := ⟨ha.1.1, ha.2.1, ha.2.2.1⟩
theorem szG (s : St) (h : SH) : grV s.gr.now h.gh = .agg #[.int .i64 s.gr.now, .slice h.gh.wp h.gh.wn h.gh.wc, .slice h.gh.kp h.gh.kn h.gh.kc, .slice h.gh.dp h.gh.dn h.gh.dc] := rfl
set_option maxRecDepth 100000 in
set_option maxHeartbeats 1000000 in
theorem szStore_any (h : SH) (s : St) (w : World) (hin : StArg w h s) : Calls Tryz.prog 18 #[stV s h, .int .i64 1048576] w (SzS s w) := by
 obtain ⟨hg, hcn, hcl, hcm⟩ := hin
 unfold stV
 have hb0 := (Below.refl w.heap.size w).alloc (Nat.le_refl _) (.cells #[.int .i64 s.gr.now, .slice h.gh.wp h.gh.wn h.gh.wc, .slice h.gh.kp h.gh.kn h.gh.kc, .slice h.gh.dp h.gh.dn h.gh.dc, .int .i64 s.ver, .int .i64 s.lock, .slice h.cp h.cn h.cc] 44)
 have hrow : Row (w.alloc (.cells #[.int .i64 s.gr.now, .slice h.gh.wp h.gh.wn h.gh.wc, .slice h.gh.kp h.gh.kn h.gh.kc, .slice h.gh.dp h.gh.dn h.gh.dc, .int .i64 s.ver, .int .i64 s.lock, .slice h.cp h.cn h.cc] 44)) w.heap.size 44 [.int .i64 s.gr.now, .slice h.gh.wp h.gh.wn h.gh.wc, .slice h.gh.kp h.gh.kn h.gh.kc, .slice h.gh.dp h.gh.dn h.gh.dc, .int .i64 s.ver, .int .i64 s.lock, .slice h.cp h.cn h.cc] := heap_alloc_new w _
 have HG : Hid (GrArg (w.alloc (.cells #[.int .i64 s.gr.now, .slice h.gh.wp h.gh.wn h.gh.wc, .slice h.gh.kp h.gh.kn h.gh.kc, .slice h.gh.dp h.gh.dn h.gh.dc, .int .i64 s.ver, .int .i64 s.lock, .slice h.cp h.cn h.cc] 44)) h.gh s.gr) := Lib.hid ⟨hg.1.later hb0, hg.2⟩
 have HR := Lib.hid hrow
 have HB := Lib.hid hb0
 have hz := hb0.size
 have hgl := hrow.lt
 have HC := Lib.hid hcn
 have HE := Lib.hid (szG s h)
 have hcn' : h.cn ≤ maxLen := by omega
 clear hg hcn hcl hrow hb0 hcm
 go_enter Tryz.func18, Tryz.ntmps18
 go_wp2_with fail
 rw [← HE.out]
 refine (szGrant_any h.gh s.gr _ HG.out).mono ?_
 rintro e w1 ⟨r1, rfl, ra, rb, hb1⟩
 have HB1 := Lib.hid (HB.out.trans (hb1.mono hz))
 have hz1 := HB1.out.size
 have q6 : w1.cell? ⟨w.heap.size, 6, none⟩ = some (.slice h.cp h.cn h.cc) := (HR.out.below hb1 hgl).cell 6
 clear hb1
 by_cases g1 : r1 < 0
 ·clear ra
  by_cases g2 : r1 = -1
  ·subst g2
   go_wp2_with fail
   go_ret
   exact ⟨-1, rfl, fun h => by omega, by omega, HB1.out⟩
  ·go_wp2_with fail
   go_ret
   exact ⟨-1, rfl, fun h => by omega, by omega, HB1.out⟩
 have HS := Lib.hid (ra (by omega))
 clear ra
 go_wp2_with fail
 refine (szEntryS_any h.cp h.cn h.cc r1 _ (by omega) rb hcn').mono ?_
 rintro e w2 ⟨r2, rfl, sa, sb, sc, hb2⟩
 have HB2 := Lib.hid (HB1.out.trans (hb2.mono hz1))
 clear hb2
 by_cases g2 : r2 < 0
 ·clear sc
  go_wp2_with fail
  go_ret
  exact ⟨-1, rfl, fun h => by omega, by omega, HB2.out⟩
 have c2 := sc (by omega)
 clear sc
 have HSm : Hid (StSmall s) := Lib.hid ⟨HS.out, by rw [← HC.out]; exact c2⟩
 go_wp2_with fail
 go_ret
 exact ⟨r2, rfl, fun _ => HSm.out, by omega, HB2.out⟩

/-- A store in new memory, whose lists lie apart. -/
def StNew (w0 w : World) (h : SH) (s : St) : Prop := GrNew w0 w h.gh s.gr ∧ ∃ g4, h.cp = some ⟨g4, 0, none⟩ ∧ h.cn = s.cache.length ∧ h.cc = s.cache.length ∧ w0.heap.size ≤ g4 ∧ (∀ b o, h.gh.dp = some ⟨b, o, none⟩ → b < g4) ∧ Row w g4 50 (s.cache.flatMap enCf)
theorem StNew.isIn {w0 w : World} {h : SH} {s : St} (hn : StNew w0 w h s) : StIn w h s := by
 obtain ⟨h1, g4, h2, h3, h4, h5, h6, h7⟩ := hn
 exact ⟨h1.isIn, h3, by rw [h2]; exact LIn.of h7.lat⟩
theorem StNew.later {w0 w w1 : World} {h : SH} {s : St} (hn : StNew w0 w h s) (hb : Below w.heap.size w w1) : StNew w0 w1 h s := by
 obtain ⟨h1, g4, h2, h3, h4, h5, h6, h7⟩ := hn
 exact ⟨h1.later hb, g4, h2, h3, h4, h5, h6, h7.below hb h7.lt⟩
def ToS (s : St) (w : World) (e : Ending) (w' : World) : Prop := ∃ h, e = .returned (stV s h) ∧ StNew w w' h s ∧ Below w.heap.size w w'
theorem sizeGrant : (Tryz.prog.info? 31).map (·.size) = some 4 := by kernel_rfl
theorem sizeStore : (Tryz.prog.info? 34).map (·.size) = some 7 := by kernel_rfl
theorem oneGrant (n : Int) (h : GH) : (#[.int .i64 n, .slice h.wp h.wn h.wc, .slice h.kp h.kn h.kc, .slice h.dp h.dn h.dc] : Array Value).all (·.oneCell') = true := by simp [Value.oneCell']
theorem oneStore (s : St) (h : SH) : (#[.int .i64 s.gr.now, .slice h.gh.wp h.gh.wn h.gh.wc, .slice h.gh.kp h.gh.kn h.gh.kc, .slice h.gh.dp h.gh.dn h.gh.dc, .int .i64 s.ver, .int .i64 s.lock, .slice h.cp h.cn h.cc] : Array Value).all (·.oneCell') = true := by simp [Value.oneCell']
theorem GrNew.kept {w0 w w1 : World} {N p : Nat} {h : GH} {g : Gr} (hn : GrNew w0 w h g) (hk : Kept N p p p w w1) (hN : w.heap.size ≤ N) (hp : p < w0.heap.size) : GrNew w0 w1 h g := by
 obtain ⟨g1, g2, g3, rfl, a, b, c, r1, r2, r3⟩ := hn
 have := r1.lt
 have := r2.lt
 have := r3.lt
 exact ⟨g1, g2, g3, rfl, a, b, c, r1.kept hk (by omega) (by omega) (by omega) (by omega), r2.kept hk (by omega) (by omega) (by omega) (by omega), r3.kept hk (by omega) (by omega) (by omega) (by omega)⟩
theorem GrNew.dpl {w0 w : World} {h : GH} {g : Gr} (hn : GrNew w0 w h g) : ∀ b o, h.dp = some ⟨b, o, none⟩ → b < w.heap.size := by
 obtain ⟨g1, g2, g3, rfl, a, b, c, r1, r2, r3⟩ := hn
 intro b o hb
 simp only [Option.some.injEq, Addr.mk.injEq] at hb
 have := r3.lt
 omega
theorem GrNew.old {w0 wx w : World} {h : GH} {g : Gr} (hn : GrNew w0 w h g) (hs : wx.heap.size ≤ w0.heap.size) : GrNew wx w h g := by
 obtain ⟨g1, g2, g3, rfl, a, b, c, r1, r2, r3⟩ := hn
 exact ⟨g1, g2, g3, rfl, by omega, b, c, r1, r2, r3⟩
theorem ret_store {fn : Func} {p : Tmp} (h : fn.results = #[.cell p 34]) {tmps : Array Value} {w : World} {g : Nat} {s : St} {k : SH} (hp : tmps.getD p undef = .pointer (some ⟨g, 0, none⟩)) (hr : Row w g 34 (stL s k)) :
  (results fn tmps).run Tryz.prog w = .ok (stV s k) w := by
 have hu := Tryz.underlying34
 exact results_cell_row h tmps w g 34 (stL s k).toArray (0, 0) _ hp hr hu rfl sizeStore
set_option maxRecDepth 100000 in
set_option maxHeartbeats 800000 in
theorem toStore_any (h : SH) (s : St) (w : World) (hin : StIn w h s) (hs : StSmall s) : Calls Tryz.prog 20 #[stV s h] w (ToS s w) := by
 obtain ⟨hg, hcn, hcl⟩ := hin
 obtain ⟨hsg, hsc⟩ := hs
 unfold stV
 obtain ⟨W, hW⟩ : ∃ W, W = ((w.alloc (.cells #[.int .i64 s.gr.now, .slice h.gh.wp h.gh.wn h.gh.wc, .slice h.gh.kp h.gh.kn h.gh.kc, .slice h.gh.dp h.gh.dn h.gh.dc, .int .i64 s.ver, .int .i64 s.lock, .slice h.cp h.cn h.cc] 44)).alloc (.cells #[.int .i64 0, .slice none 0 0, .slice none 0 0, .slice none 0 0, .int .i64 0, .int .i64 0, .slice none 0 0] 34)).alloc (.cells #[.int .i64 0, .slice none 0 0, .slice none 0 0, .slice none 0 0, .int .i64 0, .int .i64 0, .slice none 0 0] 34) := ⟨_, rfl⟩
 obtain ⟨p, hp⟩ : ∃ p, p = w.heap.size + 1 + 1 := ⟨_, rfl⟩
 have hb0 : Below w.heap.size w W := by rw [hW]; go_grown
 have r0 : Row W w.heap.size 44 (stL s h) := by
  rw [hW]
  exact Row.below (heap_alloc_new w _) (((Below.refl _ _).alloc (Nat.le_refl _) _).alloc (by simp) _) (by simp)
 have r1 : Row W (w.heap.size + 1) 34 [.int .i64 0, .slice none 0 0, .slice none 0 0, .slice none 0 0, .int .i64 0, .int .i64 0, .slice none 0 0] := by
  rw [hW]
  have h := heap_alloc_new (w.alloc (.cells #[.int .i64 s.gr.now, .slice h.gh.wp h.gh.wn h.gh.wc, .slice h.gh.kp h.gh.kn h.gh.kc, .slice h.gh.dp h.gh.dn h.gh.dc, .int .i64 s.ver, .int .i64 s.lock, .slice h.cp h.cn h.cc] 44)) (.cells #[.int .i64 0, .slice none 0 0, .slice none 0 0, .slice none 0 0, .int .i64 0, .int .i64 0, .slice none 0 0] 34)
  rw [World.size_alloc] at h
  exact Row.below h ((Below.refl _ _).alloc (Nat.le_refl _) _) (by simp)
 have r2 : Row W p 34 [.int .i64 0, .slice none 0 0, .slice none 0 0, .slice none 0 0, .int .i64 0, .int .i64 0, .slice none 0 0] := by
  rw [hW, hp]
  have h := heap_alloc_new ((w.alloc (.cells #[.int .i64 s.gr.now, .slice h.gh.wp h.gh.wn h.gh.wc, .slice h.gh.kp h.gh.kn h.gh.kc, .slice h.gh.dp h.gh.dn h.gh.dc, .int .i64 s.ver, .int .i64 s.lock, .slice h.cp h.cn h.cc] 44)).alloc (.cells #[.int .i64 0, .slice none 0 0, .slice none 0 0, .slice none 0 0, .int .i64 0, .int .i64 0, .slice none 0 0] 34)) (.cells #[.int .i64 0, .slice none 0 0, .slice none 0 0, .slice none 0 0, .int .i64 0, .int .i64 0, .slice none 0 0] 34)
  rw [World.size_alloc, World.size_alloc] at h
  exact h
 have HP := Lib.hid hp
 have hp2 : w.heap.size + 1 < p := by omega
 have HW := Lib.hid hW
 have hz := hb0.size
 have HB := Lib.hid hb0
 have R0 := Lib.hid r0
 have R1 := Lib.hid r1
 have R2 := Lib.hid r2
 have hl2 := r2.lt
 have HGi := Lib.hid (hg.later hb0)
 have HC := Lib.hid hcl
 have HCn := Lib.hid hcn
 have HSg := Lib.hid hsg
 have HE := Lib.hid (szG s h)
 clear hp hW hb0 r0 r1 r2 hg hcl hcn hsg
 go_enter Tryz.func20, Tryz.ntmps20
 go_wp2_with fail
 rw [← HW.out, ← HE.out, ← HP.out]
 refine (toGrant_any h.gh s.gr _ HGi.out HSg.out).mono ?_
 rintro e w1 ⟨h1, rfl, hn1, hb1⟩
 have S0 := Lib.hid (R0.out.below hb1 R0.out.lt)
 have S1 := Lib.hid (R1.out.below hb1 R1.out.lt)
 have S2 := Lib.hid (R2.out.below hb1 R2.out.lt)
 have HB1 := Lib.hid (HB.out.trans (hb1.mono hz))
 have hz1 := hb1.size
 have hth : w1.there p 0 (#[.int .i64 s.gr.now, .slice h1.wp h1.wn h1.wc, .slice h1.kp h1.kn h1.kc, .slice h1.dp h1.dn h1.dc] : Array Value).size := S2.out.there 0 4 (by simp)
 have HT := Lib.hid hth
 have HN1 := Lib.hid hn1
 clear hb1 hth hn1
 unfold grV
 go_wp2_with (refine Stop.out (p := wpList _ _ _ [{ dst := _, op := .store 31 _ _, type := _, pos := _, after := _, guard := _ }] _ _) ?_)
 constructor
 refine wpList_store_to rfl 31 (.tmp 7) (.tmp 6) rfl p 0 #[.int .i64 s.gr.now, .slice h1.wp h1.wn h1.wc, .slice h1.kp h1.kn h1.kc, .slice h1.dp h1.dn h1.dc] rfl rfl HT.out sizeGrant (oneGrant s.gr.now h1) ?_
 intro V hV
 have hk1 : Kept (w1.heap.size) p p p w1 V := by rw [hV]; exact Kept.setCells (.inl rfl) _ 0 (Kept.refl _ _ _ _ _)
 have T0 := Lib.hid (S0.out.kept hk1 S0.out.lt (by omega) (by omega) (by omega))
 have T1 := Lib.hid (S1.out.kept hk1 S1.out.lt (by omega) (by omega) (by omega))
 have T2 : Hid (Row V p 34 [.int .i64 s.gr.now, .slice h1.wp h1.wn h1.wc, .slice h1.kp h1.kn h1.kc, .slice h1.dp h1.dn h1.dc, .int .i64 0, .int .i64 0, .slice none 0 0]) := Lib.hid (by rw [hV]; exact S2.out.setCells _ 0)
 have HN2 := Lib.hid (HN1.out.kept hk1 (Nat.le_refl _) (by omega))
 have HB2 := Lib.hid (HB1.out.trans (hk1.below (B := w.heap.size) (by omega) (by omega) (by omega) (by omega)))
 have hz2 := hk1.size
 have c4 : V.cell? ⟨w.heap.size, 4, none⟩ = some (.int .i64 s.ver) := T0.out.cell 4
 have c5 : V.cell? ⟨w.heap.size, 5, none⟩ = some (.int .i64 s.lock) := T0.out.cell 5
 have c6 : V.cell? ⟨w.heap.size, 6, none⟩ = some (.slice h.cp h.cn h.cc) := T0.out.cell 6
 have z4 : V.cell? ⟨p, 4, none⟩ = some (.int .i64 0) := T2.out.cell 4
 have z5 : V.cell? ⟨p, 5, none⟩ = some (.int .i64 0) := T2.out.cell 5
 have f4 : V.frozen? ⟨p, 4, none⟩ = false := T2.out.free 4
 have f5 : V.frozen? ⟨p, 5, none⟩ = false := T2.out.free 5
 clear hk1 hV
 go_wp2_with fail
 obtain ⟨U, hU⟩ : ∃ U, U = (V.setCell ⟨p, 4, none⟩ (.int .i64 s.ver)).setCell ⟨p, 5, none⟩ (.int .i64 s.lock) := ⟨_, rfl⟩
 have hk2 : Kept (V.heap.size) p p p V U := by rw [hU]; exact ((Kept.refl _ _ _ _ _).setCell (a := ⟨p, 4, none⟩) _ (.inl rfl)).setCell (a := ⟨p, 5, none⟩) _ (.inl rfl)
 have U1 := Lib.hid (T1.out.kept hk2 T1.out.lt (by omega) (by omega) (by omega))
 have U2 : Hid (Row U p 34 [.int .i64 s.gr.now, .slice h1.wp h1.wn h1.wc, .slice h1.kp h1.kn h1.kc, .slice h1.dp h1.dn h1.dc, .int .i64 s.ver, .int .i64 s.lock, .slice none 0 0]) := Lib.hid (by rw [hU]; exact (T2.out.set 4 _).set 5 _)
 have HN3 := Lib.hid (HN2.out.kept hk2 (Nat.le_refl _) (by omega))
 have HB3 := Lib.hid (HB2.out.trans (hk2.below (B := w.heap.size) (by omega) (by omega) (by omega) (by omega)))
 have hz3 := hk2.size
 have HC3 := Lib.hid (HC.out.later HB3.out)
 rw [← hU]
 clear hk2 hU c4 c5 c6 z4 z5 f4 f5
 rw [HCn.out]
 refine (toEntryS_any h.cp h.cc s.cache _ HC3.out hsc).mono ?_
 rintro e w4 ⟨g4, rfl, hg4, hr4, hb4⟩
 have X1 := Lib.hid (U1.out.below hb4 U1.out.lt)
 have X2 := Lib.hid (U2.out.below hb4 U2.out.lt)
 have HN4 := Lib.hid (HN3.out.later hb4)
 have HB4 := Lib.hid (HB3.out.trans (hb4.mono HB3.out.size))
 have hz4 := hb4.size
 have HR4 := Lib.hid hr4
 have hdp := HN3.out.dpl
 have HD : Hid (∀ b o, h1.dp = some ⟨b, o, none⟩ → b < g4) := Lib.hid (fun b o hb => by have := hdp b o hb; omega)
 have z6 : w4.cell? ⟨p, 6, none⟩ = some (.slice none 0 0) := X2.out.cell 6
 have f6 : w4.frozen? ⟨p, 6, none⟩ = false := X2.out.free 6
 have y0 : w4.cell? ⟨p, 0, none⟩ = some (.int .i64 s.gr.now) := X2.out.cell 0
 have y1 : w4.cell? ⟨p, 1, none⟩ = some (.slice h1.wp h1.wn h1.wc) := X2.out.cell 1
 have y2 : w4.cell? ⟨p, 2, none⟩ = some (.slice h1.kp h1.kn h1.kc) := X2.out.cell 2
 have y3 : w4.cell? ⟨p, 3, none⟩ = some (.slice h1.dp h1.dn h1.dc) := X2.out.cell 3
 have y4 : w4.cell? ⟨p, 4, none⟩ = some (.int .i64 s.ver) := X2.out.cell 4
 have y5 : w4.cell? ⟨p, 5, none⟩ = some (.int .i64 s.lock) := X2.out.cell 5
 clear hb4 hr4 hdp
 have hk4 : Kept (w4.heap.size) p p p w4 (w4.setCell ⟨p, 6, none⟩ (.slice (some ⟨g4, 0, none⟩) s.cache.length s.cache.length)) := (Kept.refl _ _ _ _ _).setCell (a := ⟨p, 6, none⟩) _ (.inl rfl)
 have Y1 := Lib.hid (X1.out.kept hk4 X1.out.lt (by omega) (by omega) (by omega))
 have hth : (w4.setCell ⟨p, 6, none⟩ (.slice (some ⟨g4, 0, none⟩) s.cache.length s.cache.length)).there (w.heap.size + 1) 0 (#[.int .i64 s.gr.now, .slice h1.wp h1.wn h1.wc, .slice h1.kp h1.kn h1.kc, .slice h1.dp h1.dn h1.dc, .int .i64 s.ver, .int .i64 s.lock, .slice (some ⟨g4, 0, none⟩) s.cache.length s.cache.length] : Array Value).size := Y1.out.there 0 7 (by simp)
 have HT4 := Lib.hid hth
 have HK4 := Lib.hid hk4
 clear hth hk4
 go_wp2_with (refine Stop.out (p := wpList _ _ _ [{ dst := _, op := .store 34 _ _, type := _, pos := _, after := _, guard := _ }] _ _) ?_)
 constructor
 refine wpList_store_to rfl 34 (.tmp 2) (.tmp 18) rfl (w.heap.size + 1) 0 #[.int .i64 s.gr.now, .slice h1.wp h1.wn h1.wc, .slice h1.kp h1.kn h1.kc, .slice h1.dp h1.dn h1.dc, .int .i64 s.ver, .int .i64 s.lock, .slice (some ⟨g4, 0, none⟩) s.cache.length s.cache.length] rfl rfl HT4.out sizeStore (oneStore s ⟨h1, some ⟨g4, 0, none⟩, s.cache.length, s.cache.length⟩) ?_
 intro Z hZ
 have hk5 : Kept (w4.heap.size) (w.heap.size + 1) (w.heap.size + 1) (w.heap.size + 1) (w4.setCell ⟨p, 6, none⟩ (.slice (some ⟨g4, 0, none⟩) s.cache.length s.cache.length)) Z := by rw [hZ]; exact Kept.setCells (.inl rfl) _ 0 (Kept.refl _ _ _ _ _)
 have Z1 : Row Z (w.heap.size + 1) 34 (stL s ⟨h1, some ⟨g4, 0, none⟩, s.cache.length, s.cache.length⟩) := by rw [hZ]; exact Y1.out.setCells _ 0
 have HNz := (HN4.out.kept HK4.out (Nat.le_refl _) (by omega)).kept hk5 (by simp) (by omega)
 have hlt4 := HR4.out.lt
 have hRz := (HR4.out.kept HK4.out hlt4 (by omega) (by omega) (by omega)).kept hk5 hlt4 (by omega) (by omega) (by omega)
 have hbz : Below w.heap.size w Z := (HB4.out.trans (HK4.out.below (B := w.heap.size) (by omega) (by omega) (by omega) (by omega))).trans (hk5.below (B := w.heap.size) (by omega) (by omega) (by omega) (by omega))
 have HZ1 := Lib.hid Z1
 have HHN := Lib.hid HNz
 have HHR := Lib.hid hRz
 have HHB := Lib.hid hbz
 clear hZ hk5 Z1 HNz hRz hbz z6 f6 y0 y1 y2 y3 y4 y5
 go_wp2_with fail
 refine bodyPost_ret (ret_store rfl rfl HZ1.out) rfl ?_
 exact ⟨_, rfl, ⟨HHN.out.old (by omega), g4, rfl, rfl, rfl, by omega, HD.out, HHR.out⟩, HHB.out⟩
set_option maxRecDepth 100000 in
set_option maxHeartbeats 1000000 in
theorem eqStore_same (h h' : SH) (s : St) (w : World) (hi : StIn w h s) (hi' : StIn w h' s) (hs : StSmall s) : Calls Tryz.prog 13 #[stV s h, stV s h'] w (Ret (.bool true) w) := by
 obtain ⟨hg, hcn, hcl⟩ := hi
 obtain ⟨hg', hcn', hcl'⟩ := hi'
 obtain ⟨hsg, hsc⟩ := hs
 unfold stV
 obtain ⟨W, hW⟩ : ∃ W, W = (w.alloc (.cells #[.int .i64 s.gr.now, .slice h.gh.wp h.gh.wn h.gh.wc, .slice h.gh.kp h.gh.kn h.gh.kc, .slice h.gh.dp h.gh.dn h.gh.dc, .int .i64 s.ver, .int .i64 s.lock, .slice h.cp h.cn h.cc] 34)).alloc (.cells #[.int .i64 s.gr.now, .slice h'.gh.wp h'.gh.wn h'.gh.wc, .slice h'.gh.kp h'.gh.kn h'.gh.kc, .slice h'.gh.dp h'.gh.dn h'.gh.dc, .int .i64 s.ver, .int .i64 s.lock, .slice h'.cp h'.cn h'.cc] 34) := ⟨_, rfl⟩
 have hb0 : Below w.heap.size w W := by rw [hW]; go_grown
 have hr1 : Row W w.heap.size 34 (stL s h) := by
  rw [hW]
  exact Row.below (heap_alloc_new w _) ((Below.refl _ _).alloc (Nat.le_refl _) _) (by simp)
 have hr2 : Row W (w.heap.size + 1) 34 (stL s h') := by
  rw [hW]
  have := heap_alloc_new (w.alloc (.cells #[.int .i64 s.gr.now, .slice h.gh.wp h.gh.wn h.gh.wc, .slice h.gh.kp h.gh.kn h.gh.kc, .slice h.gh.dp h.gh.dn h.gh.dc, .int .i64 s.ver, .int .i64 s.lock, .slice h.cp h.cn h.cc] 34)) (.cells #[.int .i64 s.gr.now, .slice h'.gh.wp h'.gh.wn h'.gh.wc, .slice h'.gh.kp h'.gh.kn h'.gh.kc, .slice h'.gh.dp h'.gh.dn h'.gh.dc, .int .i64 s.ver, .int .i64 s.lock, .slice h'.cp h'.cn h'.cc] 34)
  rw [World.size_alloc] at this
  exact this
 have HW := Lib.hid hW
 have HR1 := Lib.hid hr1
 have HR2 := Lib.hid hr2
 have HG := Lib.hid (hg.later hb0)
 have HG' := Lib.hid (hg'.later hb0)
 have HC := Lib.hid (hcl.later hb0)
 have HC' := Lib.hid (hcl'.later hb0)
 have HN := Lib.hid hcn
 have HN' := Lib.hid hcn'
 have HB := Lib.hid hb0
 have HE := Lib.hid (szG s h)
 have HE' := Lib.hid (szG s h')
 have hz := hb0.size
 have hg1 := hr1.lt
 have hg2 := hr2.lt
 have hne1 : (s.ver != s.ver) = false := by simp
 have hne2 : (s.lock != s.lock) = false := by simp
 clear hg hg' hcl hcl' hcn hcn' hr1 hr2 hb0 hW
 go_enter Tryz.func13, Tryz.ntmps13
 go_wp2_with fail
 rw [← HW.out, ← HE.out, ← HE'.out]
 refine (eqGrant_same h.gh h'.gh s.gr _ HG.out HG'.out hsg).mono ?_
 rintro e w1 ⟨rfl, hb1⟩
 have HB1 := Lib.hid (HB.out.trans (hb1.mono hz))
 have HS1 := Lib.hid (HR1.out.below hb1 hg1)
 have HS2 := Lib.hid (HR2.out.below hb1 hg2)
 have HD := Lib.hid (HC.out.later hb1)
 have HD' := Lib.hid (HC'.out.later hb1)
 have a4 : w1.cell? ⟨w.heap.size, 4, none⟩ = some (.int .i64 s.ver) := HS1.out.cell 4
 have a5 : w1.cell? ⟨w.heap.size, 5, none⟩ = some (.int .i64 s.lock) := HS1.out.cell 5
 have a6 : w1.cell? ⟨w.heap.size, 6, none⟩ = some (.slice h.cp h.cn h.cc) := HS1.out.cell 6
 have b4 : w1.cell? ⟨w.heap.size + 1, 4, none⟩ = some (.int .i64 s.ver) := HS2.out.cell 4
 have b5 : w1.cell? ⟨w.heap.size + 1, 5, none⟩ = some (.int .i64 s.lock) := HS2.out.cell 5
 have b6 : w1.cell? ⟨w.heap.size + 1, 6, none⟩ = some (.slice h'.cp h'.cn h'.cc) := HS2.out.cell 6
 have hz1 := HB1.out.size
 clear hb1
 go_wp2_with fail
 rw [HN.out, HN'.out]
 refine (eqEntryS_same h.cp h'.cp h.cc h'.cc s.cache _ HD.out HD'.out hsc).mono ?_
 rintro e w2 ⟨rfl, hb2⟩
 have HB2 := Lib.hid (HB1.out.trans (hb2.mono hz1))
 clear hb2
 go_wp2_with fail
 go_ret
 exact ⟨rfl, HB2.out⟩
end Go.Proofs.YtjccnjfdeedneaaGreat
