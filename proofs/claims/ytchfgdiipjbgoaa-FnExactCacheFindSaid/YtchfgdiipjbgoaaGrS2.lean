/- The laws' helpers on whole grants: measured, copied, compared. -/
import Derived.Test.YtchfgdiipjbgoaaGrS
namespace Go.Proofs.Ytchfgdiipjbgoaa
open Go Go.RowKit Go.Lib
set_option linter.unusedVariables false

/-- What the form of claims gives of a grant. -/
def GrArg (w : World) (h : GH) (g : Gr) : Prop := GrIn w h g ∧ (∀ x ∈ g.words, x.shade.size ≤ maxLen) ∧ g.words.length ≤ maxLen ∧ g.keys.length ≤ maxLen ∧ g.dead.length ≤ maxLen
def SzG (g : Gr) (w : World) (e : Ending) (w' : World) : Prop := ∃ r : Int, e = .returned (.int .i64 r) ∧ (0 ≤ r → GrSmall g) ∧ r ≤ 1048576 ∧ Below w.heap.size w w'
theorem grSmall_of {g : Gr} (h1 : g.words.length ≤ 1048576) (h2 : g.keys.length ≤ 1048576) (h3 : g.dead.length ≤ 1048576) (h : ∀ x ∈ g.words, x.shade.size ≤ maxLen) : GrSmall g := ⟨h1, h2, h3, h⟩
set_option maxHeartbeats 400000 in
theorem szGrant_any (h : GH) (g : Gr) (w : World) (hin : GrArg w h g) : Calls Try.prog 10 #[grV g.now h, .int .i64 1048576] w (SzG g w) := by
  obtain ⟨wp, wn, wc, kp, kn, kc, dp, dn, dc⟩ := h
  obtain ⟨now, ws, ks, ds⟩ := g
  obtain ⟨⟨⟨hn1, hn2, hn3⟩, hl1, hl2, hl3⟩, hs, hm1, hm2, hm3⟩ := hin
  simp only at hn1 hn2 hn3 hl1 hl2 hl3 hs hm1 hm2 hm3 ⊢
  subst hn1 hn2 hn3
  unfold grV
  simp only
  have hb0 := (Below.refl w.heap.size w).alloc (Nat.le_refl _) (.cells #[.int .i64 now, .slice wp ws.length wc, .slice kp ks.length kc, .slice dp ds.length dc] 26)
  have hrow : Row (w.alloc (.cells #[.int .i64 now, .slice wp ws.length wc, .slice kp ks.length kc, .slice dp ds.length dc] 26)) w.heap.size 26 [.int .i64 now, .slice wp ws.length wc, .slice kp ks.length kc, .slice dp ds.length dc] := heap_alloc_new w _
  have HL1 := Lib.hid (hl1.later hb0)
  have HR := Lib.hid hrow
  have HB := Lib.hid hb0
  have hz := hb0.size
  have hgl := hrow.lt
  have HS := Lib.hid hs
  clear hl1 hl2 hl3 hrow hb0 hs
  go_enter Try.func10, Try.ntmps10
  go_wp2_with fail
  refine (szWordS_any wp wc ws 1048576 _ HL1.out HS.out hm1 (by omega) (by omega)).mono ?_
  rintro e w1 ⟨r1, rfl, ra, rb, rc, hb1⟩
  have HR1 := Lib.hid (HR.out.below hb1 hgl)
  have HB1 := Lib.hid (HB.out.trans (hb1.mono hz))
  have hz1 := HB1.out.size
  have hgl1 := HR1.out.lt
  have q2 : w1.cell? ⟨w.heap.size, 2, none⟩ = some (.slice kp ks.length kc) := HR1.out.cell 2
  have q3 : w1.cell? ⟨w.heap.size, 3, none⟩ = some (.slice dp ds.length dc) := HR1.out.cell 3
  clear hb1
  by_cases g1 : r1 < 0
  · clear rc
    go_wp2_with fail
    go_ret
    exact ⟨-1, rfl, fun h => by omega, by omega, HB1.out⟩
  have c1 := rc (by omega)
  clear rc
  go_wp2_with fail
  refine (szKeyS_any kp ks.length kc r1 _ (by omega) rb hm2).mono ?_
  rintro e w2 ⟨r2, rfl, sa, sb, sc, hb2⟩
  have HB2 := Lib.hid (HB1.out.trans (hb2.mono hz1))
  have p3 : w2.cell? ⟨w.heap.size, 3, none⟩ = some (.slice dp ds.length dc) := (HR1.out.below hb2 hgl1).cell 3
  have hz2 := HB2.out.size
  clear hb2 q2 q3
  by_cases g2 : r2 < 0
  · clear sc
    go_wp2_with fail
    go_ret
    exact ⟨-1, rfl, fun h => by omega, by omega, HB2.out⟩
  have c2 := sc (by omega)
  clear sc
  go_wp2_with fail
  refine (szInt64S_any dp ds.length dc r2 _ (by omega) sb hm3).mono ?_
  rintro e w3 ⟨r3, rfl, ta, tb, tc, hb3⟩
  have HB3 := Lib.hid (HB2.out.trans (hb3.mono hz2))
  clear hb3
  by_cases g3 : r3 < 0
  · clear tc
    go_wp2_with fail
    go_ret
    exact ⟨-1, rfl, fun h => by omega, by omega, HB3.out⟩
  have c3 := tc (by omega)
  clear tc
  have HC := Lib.hid (grSmall_of (g := ⟨now, ws, ks, ds⟩) c1 c2 c3 HS.out)
  go_wp2_with fail
  go_ret
  exact ⟨r3, rfl, fun _ => HC.out, by omega, HB3.out⟩

/-- A grant in new memory, whose lists lie apart. -/
def GrNew (w0 w : World) (h : GH) (g : Gr) : Prop := ∃ g1 g2 g3, h = ⟨some ⟨g1, 0, none⟩, g.words.length, g.words.length, some ⟨g2, 0, none⟩, g.keys.length, g.keys.length, some ⟨g3, 0, none⟩, g.dead.length, g.dead.length⟩ ∧
  w0.heap.size ≤ g1 ∧ g1 < g2 ∧ g2 < g3 ∧ Row w g1 101 (g.words.flatMap wdCf) ∧ Row w g2 104 (g.keys.flatMap kyCf) ∧ Row w g3 2 (g.dead.flatMap inCf)
theorem GrNew.isIn {w0 w : World} {h : GH} {g : Gr} (hn : GrNew w0 w h g) : GrIn w h g := by
  obtain ⟨g1, g2, g3, rfl, _, _, _, r1, r2, r3⟩ := hn
  exact ⟨⟨rfl, rfl, rfl⟩, LIn.of r1.lat, LIn.of r2.lat, LIn.of r3.lat⟩
theorem GrNew.later {w0 w w1 : World} {h : GH} {g : Gr} (hn : GrNew w0 w h g) (hb : Below w.heap.size w w1) : GrNew w0 w1 h g := by
  obtain ⟨g1, g2, g3, rfl, a, b, c, r1, r2, r3⟩ := hn
  exact ⟨g1, g2, g3, rfl, a, b, c, r1.below hb r1.lt, r2.below hb r2.lt, r3.below hb r3.lt⟩
def ToG (g : Gr) (w : World) (e : Ending) (w' : World) : Prop := ∃ h, e = .returned (grV g.now h) ∧ GrNew w w' h g ∧ Below w.heap.size w w'
theorem Row.setOth2 {w : World} {q : Nat} {E : TypeId} {l : List Value} (h : Row w q E l) {g j : Nat} (hne : q ≠ g) (v : Value) : Row (w.setCell ⟨g, j, none⟩ v) q E l := by
  unfold Row at h ⊢
  rw [Below.heap_setCell w ⟨g, j, none⟩ v q hne]
  exact h
set_option maxRecDepth 100000 in
set_option maxHeartbeats 2000000 in
theorem toGrant_any (h : GH) (g : Gr) (w : World) (hin : GrIn w h g) (hs : GrSmall g) : Calls Try.prog 14 #[grV g.now h] w (ToG g w) := by
  obtain ⟨wp, wn, wc, kp, kn, kc, dp, dn, dc⟩ := h
  obtain ⟨now, ws, ks, ds⟩ := g
  obtain ⟨⟨hn1, hn2, hn3⟩, hl1, hl2, hl3⟩ := hin
  obtain ⟨hm1, hm2, hm3, _⟩ := hs
  simp only at hn1 hn2 hn3 hl1 hl2 hl3 hm1 hm2 hm3 ⊢
  subst hn1 hn2 hn3
  unfold grV
  simp only
  have HL1 := Lib.hid hl1
  have HL2 := Lib.hid hl2
  have HL3 := Lib.hid hl3
  clear hl1 hl2 hl3
  obtain ⟨W, hW⟩ : ∃ W, W = ((w.alloc (.cells #[.int .i64 now, .slice wp ws.length wc, .slice kp ks.length kc, .slice dp ds.length dc] 26)).alloc (.cells #[.int .i64 0, .slice none 0 0, .slice none 0 0, .slice none 0 0] 37)).alloc (.cells #[.int .i64 now, .slice none 0 0, .slice none 0 0, .slice none 0 0] 37) := ⟨_, rfl⟩
  have hb0 : Below w.heap.size w W := by rw [hW]; go_grown
  have r0 : Row W w.heap.size 26 [.int .i64 now, .slice wp ws.length wc, .slice kp ks.length kc, .slice dp ds.length dc] := by
    rw [hW]
    exact Row.below (heap_alloc_new w _) (((Below.refl _ _).alloc (Nat.le_refl _) _).alloc (by simp) _) (by simp)
  have r1 : Row W (w.heap.size + 1) 37 [.int .i64 0, .slice none 0 0, .slice none 0 0, .slice none 0 0] := by
    rw [hW]
    have h := heap_alloc_new (w.alloc (.cells #[.int .i64 now, .slice wp ws.length wc, .slice kp ks.length kc, .slice dp ds.length dc] 26)) (.cells #[.int .i64 0, .slice none 0 0, .slice none 0 0, .slice none 0 0] 37)
    rw [World.size_alloc] at h
    exact Row.below h ((Below.refl _ _).alloc (Nat.le_refl _) _) (by simp)
  have r2 : Row W (w.heap.size + 2) 37 [.int .i64 now, .slice none 0 0, .slice none 0 0, .slice none 0 0] := by
    rw [hW]
    have h := heap_alloc_new ((w.alloc (.cells #[.int .i64 now, .slice wp ws.length wc, .slice kp ks.length kc, .slice dp ds.length dc] 26)).alloc (.cells #[.int .i64 0, .slice none 0 0, .slice none 0 0, .slice none 0 0] 37)) (.cells #[.int .i64 now, .slice none 0 0, .slice none 0 0, .slice none 0 0] 37)
    rw [World.size_alloc, World.size_alloc] at h
    exact h
  have HW := Lib.hid hW
  have hz := hb0.size
  have HB := Lib.hid hb0
  have R0 := Lib.hid r0
  have R1 := Lib.hid r1
  have R2 := Lib.hid r2
  have hl0 := r2.lt
  clear hW hb0 r0 r1 r2
  go_enter Try.func14, Try.ntmps14
  go_wp2_with fail
  rw [← HW.out]
  refine (toWordS_any wp wc ws _ (HL1.out.later HB.out) hm1).mono ?_
  rintro e w1 ⟨g1, rfl, hg1, hr1, hb1⟩
  have S10 := Lib.hid (R0.out.below hb1 R0.out.lt)
  have S11 := Lib.hid (R1.out.below hb1 R1.out.lt)
  have S12 := Lib.hid (R2.out.below hb1 R2.out.lt)
  have B1 := Lib.hid (HB.out.trans (hb1.mono hz))
  have N11r := Lib.hid hr1
  have hlo1 : w.heap.size + 2 < g1 := by omega
  have z1 : w1.cell? ⟨w.heap.size + 2, 1, none⟩ = some (.slice none 0 0) := S12.out.cell 1
  have f1 : w1.frozen? ⟨w.heap.size + 2, 1, none⟩ = false := S12.out.free 1
  have T10 := Lib.hid (S10.out.setOth2 (g := w.heap.size + 2) (j := 1) (by omega) (.slice (some ⟨g1, 0, none⟩) ws.length ws.length))
  have T11 := Lib.hid (S11.out.setOth2 (g := w.heap.size + 2) (j := 1) (by omega) (.slice (some ⟨g1, 0, none⟩) ws.length ws.length))
  have T12 : Hid (Row (w1.setCell ⟨w.heap.size + 2, 1, none⟩ (.slice (some ⟨g1, 0, none⟩) ws.length ws.length)) (w.heap.size + 2) 37 [.int .i64 now, .slice (some ⟨g1, 0, none⟩) ws.length ws.length, .slice none 0 0, .slice none 0 0]) := Lib.hid (S12.out.set 1 (.slice (some ⟨g1, 0, none⟩) ws.length ws.length))
  have C1 := Lib.hid (B1.out.setCell (p := ⟨w.heap.size + 2, 1, none⟩) (by simp) (.slice (some ⟨g1, 0, none⟩) ws.length ws.length))
  have N11 := Lib.hid (N11r.out.setOth2 (g := w.heap.size + 2) (j := 1) (by omega) (.slice (some ⟨g1, 0, none⟩) ws.length ws.length))
  have hz1 := C1.out.size
  have hzz1 := T12.out.lt
  have q1 : (w1.setCell ⟨w.heap.size + 2, 1, none⟩ (.slice (some ⟨g1, 0, none⟩) ws.length ws.length)).cell? ⟨w.heap.size, 2, none⟩ = some (.slice kp ks.length kc) := T10.out.cell 2
  clear hb1 hr1
  go_wp2_with fail
  refine (toKeyS_any kp kc ks _ (HL2.out.later C1.out) hm2).mono ?_
  rintro e w2 ⟨g2, rfl, hg2, hr2, hb2⟩
  have S20 := Lib.hid (T10.out.below hb2 T10.out.lt)
  have S21 := Lib.hid (T11.out.below hb2 T11.out.lt)
  have S22 := Lib.hid (T12.out.below hb2 T12.out.lt)
  have B2 := Lib.hid (C1.out.trans (hb2.mono hz1))
  have N21 := Lib.hid (N11.out.below hb2 N11.out.lt)
  have hgg12 : g1 < g2 := Nat.lt_of_lt_of_le N11.out.lt hg2
  have N22r := Lib.hid hr2
  have hlo2 : w.heap.size + 2 < g2 := by omega
  have z2 : w2.cell? ⟨w.heap.size + 2, 2, none⟩ = some (.slice none 0 0) := S22.out.cell 2
  have f2 : w2.frozen? ⟨w.heap.size + 2, 2, none⟩ = false := S22.out.free 2
  have T20 := Lib.hid (S20.out.setOth2 (g := w.heap.size + 2) (j := 2) (by omega) (.slice (some ⟨g2, 0, none⟩) ks.length ks.length))
  have T21 := Lib.hid (S21.out.setOth2 (g := w.heap.size + 2) (j := 2) (by omega) (.slice (some ⟨g2, 0, none⟩) ks.length ks.length))
  have T22 : Hid (Row (w2.setCell ⟨w.heap.size + 2, 2, none⟩ (.slice (some ⟨g2, 0, none⟩) ks.length ks.length)) (w.heap.size + 2) 37 [.int .i64 now, .slice (some ⟨g1, 0, none⟩) ws.length ws.length, .slice (some ⟨g2, 0, none⟩) ks.length ks.length, .slice none 0 0]) := Lib.hid (S22.out.set 2 (.slice (some ⟨g2, 0, none⟩) ks.length ks.length))
  have C2 := Lib.hid (B2.out.setCell (p := ⟨w.heap.size + 2, 2, none⟩) (by simp) (.slice (some ⟨g2, 0, none⟩) ks.length ks.length))
  have N21 := Lib.hid (N21.out.setOth2 (g := w.heap.size + 2) (j := 2) (by omega) (.slice (some ⟨g2, 0, none⟩) ks.length ks.length))
  have N22 := Lib.hid (N22r.out.setOth2 (g := w.heap.size + 2) (j := 2) (by omega) (.slice (some ⟨g2, 0, none⟩) ks.length ks.length))
  have hz2 := C2.out.size
  have hzz2 := T22.out.lt
  have q2 : (w2.setCell ⟨w.heap.size + 2, 2, none⟩ (.slice (some ⟨g2, 0, none⟩) ks.length ks.length)).cell? ⟨w.heap.size, 3, none⟩ = some (.slice dp ds.length dc) := T20.out.cell 3
  clear hb2 hr2
  go_wp2_with fail
  refine (toInt64S_any dp dc ds _ (HL3.out.later C2.out) hm3).mono ?_
  rintro e w3 ⟨g3, rfl, hg3, hr3, hb3⟩
  have S30 := Lib.hid (T20.out.below hb3 T20.out.lt)
  have S31 := Lib.hid (T21.out.below hb3 T21.out.lt)
  have S32 := Lib.hid (T22.out.below hb3 T22.out.lt)
  have B3 := Lib.hid (C2.out.trans (hb3.mono hz2))
  have N31 := Lib.hid (N21.out.below hb3 N21.out.lt)
  have hgg13 : g1 < g3 := Nat.lt_of_lt_of_le N21.out.lt hg3
  have N32 := Lib.hid (N22.out.below hb3 N22.out.lt)
  have hgg23 : g2 < g3 := Nat.lt_of_lt_of_le N22.out.lt hg3
  have N33r := Lib.hid hr3
  have hlo3 : w.heap.size + 2 < g3 := by omega
  have z3 : w3.cell? ⟨w.heap.size + 2, 3, none⟩ = some (.slice none 0 0) := S32.out.cell 3
  have f3 : w3.frozen? ⟨w.heap.size + 2, 3, none⟩ = false := S32.out.free 3
  have T30 := Lib.hid (S30.out.setOth2 (g := w.heap.size + 2) (j := 3) (by omega) (.slice (some ⟨g3, 0, none⟩) ds.length ds.length))
  have T31 := Lib.hid (S31.out.setOth2 (g := w.heap.size + 2) (j := 3) (by omega) (.slice (some ⟨g3, 0, none⟩) ds.length ds.length))
  have T32 : Hid (Row (w3.setCell ⟨w.heap.size + 2, 3, none⟩ (.slice (some ⟨g3, 0, none⟩) ds.length ds.length)) (w.heap.size + 2) 37 [.int .i64 now, .slice (some ⟨g1, 0, none⟩) ws.length ws.length, .slice (some ⟨g2, 0, none⟩) ks.length ks.length, .slice (some ⟨g3, 0, none⟩) ds.length ds.length]) := Lib.hid (S32.out.set 3 (.slice (some ⟨g3, 0, none⟩) ds.length ds.length))
  have C3 := Lib.hid (B3.out.setCell (p := ⟨w.heap.size + 2, 3, none⟩) (by simp) (.slice (some ⟨g3, 0, none⟩) ds.length ds.length))
  have N31 := Lib.hid (N31.out.setOth2 (g := w.heap.size + 2) (j := 3) (by omega) (.slice (some ⟨g3, 0, none⟩) ds.length ds.length))
  have N32 := Lib.hid (N32.out.setOth2 (g := w.heap.size + 2) (j := 3) (by omega) (.slice (some ⟨g3, 0, none⟩) ds.length ds.length))
  have N33 := Lib.hid (N33r.out.setOth2 (g := w.heap.size + 2) (j := 3) (by omega) (.slice (some ⟨g3, 0, none⟩) ds.length ds.length))
  have hz3 := C3.out.size
  have hzz3 := T32.out.lt
  have y0 : (w3.setCell ⟨w.heap.size + 2, 3, none⟩ (.slice (some ⟨g3, 0, none⟩) ds.length ds.length)).cell? ⟨w.heap.size + 2, 0, none⟩ = some (.int .i64 now) := T32.out.cell 0
  have y1 : (w3.setCell ⟨w.heap.size + 2, 3, none⟩ (.slice (some ⟨g3, 0, none⟩) ds.length ds.length)).cell? ⟨w.heap.size + 2, 1, none⟩ = some (.slice (some ⟨g1, 0, none⟩) ws.length ws.length) := T32.out.cell 1
  have y2 : (w3.setCell ⟨w.heap.size + 2, 3, none⟩ (.slice (some ⟨g3, 0, none⟩) ds.length ds.length)).cell? ⟨w.heap.size + 2, 2, none⟩ = some (.slice (some ⟨g2, 0, none⟩) ks.length ks.length) := T32.out.cell 2
  have y3 : (w3.setCell ⟨w.heap.size + 2, 3, none⟩ (.slice (some ⟨g3, 0, none⟩) ds.length ds.length)).cell? ⟨w.heap.size + 2, 3, none⟩ = some (.slice (some ⟨g3, 0, none⟩) ds.length ds.length) := T32.out.cell 3
  have xz0 : (w3.setCell ⟨w.heap.size + 2, 3, none⟩ (.slice (some ⟨g3, 0, none⟩) ds.length ds.length)).cell? ⟨w.heap.size + 1, 0, none⟩ = some (.int .i64 0) := T31.out.cell 0
  have xf0 := T31.out.free 0
  have xz1 : (w3.setCell ⟨w.heap.size + 2, 3, none⟩ (.slice (some ⟨g3, 0, none⟩) ds.length ds.length)).cell? ⟨w.heap.size + 1, 1, none⟩ = some (.slice none 0 0) := T31.out.cell 1
  have xf1 := T31.out.free 1
  have xz2 : (w3.setCell ⟨w.heap.size + 2, 3, none⟩ (.slice (some ⟨g3, 0, none⟩) ds.length ds.length)).cell? ⟨w.heap.size + 1, 2, none⟩ = some (.slice none 0 0) := T31.out.cell 2
  have xf2 := T31.out.free 2
  have xz3 : (w3.setCell ⟨w.heap.size + 2, 3, none⟩ (.slice (some ⟨g3, 0, none⟩) ds.length ds.length)).cell? ⟨w.heap.size + 1, 3, none⟩ = some (.slice none 0 0) := T31.out.cell 3
  have xf3 := T31.out.free 3
  have xR : Row (((((w3.setCell ⟨w.heap.size + 2, 3, none⟩ (.slice (some ⟨g3, 0, none⟩) ds.length ds.length)).setCell ⟨w.heap.size + 1, 0, none⟩ (.int .i64 now)).setCell ⟨w.heap.size + 1, 1, none⟩ (.slice (some ⟨g1, 0, none⟩) ws.length ws.length)).setCell ⟨w.heap.size + 1, 2, none⟩ (.slice (some ⟨g2, 0, none⟩) ks.length ks.length)).setCell ⟨w.heap.size + 1, 3, none⟩ (.slice (some ⟨g3, 0, none⟩) ds.length ds.length)) (w.heap.size + 1) 37 ([.int .i64 now, .slice (some ⟨g1, 0, none⟩) ws.length ws.length, .slice (some ⟨g2, 0, none⟩) ks.length ks.length, .slice (some ⟨g3, 0, none⟩) ds.length ds.length]) := ((((T31.out.set 0 (.int .i64 now)).set 1 (.slice (some ⟨g1, 0, none⟩) ws.length ws.length)).set 2 (.slice (some ⟨g2, 0, none⟩) ks.length ks.length)).set 3 (.slice (some ⟨g3, 0, none⟩) ds.length ds.length))
  have xd0 : (((((w3.setCell ⟨w.heap.size + 2, 3, none⟩ (.slice (some ⟨g3, 0, none⟩) ds.length ds.length)).setCell ⟨w.heap.size + 1, 0, none⟩ (.int .i64 now)).setCell ⟨w.heap.size + 1, 1, none⟩ (.slice (some ⟨g1, 0, none⟩) ws.length ws.length)).setCell ⟨w.heap.size + 1, 2, none⟩ (.slice (some ⟨g2, 0, none⟩) ks.length ks.length)).setCell ⟨w.heap.size + 1, 3, none⟩ (.slice (some ⟨g3, 0, none⟩) ds.length ds.length)).cell? ⟨w.heap.size + 1, 0, none⟩ = some (.int .i64 now) := xR.cell 0
  have xd1 : (((((w3.setCell ⟨w.heap.size + 2, 3, none⟩ (.slice (some ⟨g3, 0, none⟩) ds.length ds.length)).setCell ⟨w.heap.size + 1, 0, none⟩ (.int .i64 now)).setCell ⟨w.heap.size + 1, 1, none⟩ (.slice (some ⟨g1, 0, none⟩) ws.length ws.length)).setCell ⟨w.heap.size + 1, 2, none⟩ (.slice (some ⟨g2, 0, none⟩) ks.length ks.length)).setCell ⟨w.heap.size + 1, 3, none⟩ (.slice (some ⟨g3, 0, none⟩) ds.length ds.length)).cell? ⟨w.heap.size + 1, 1, none⟩ = some (.slice (some ⟨g1, 0, none⟩) ws.length ws.length) := xR.cell 1
  have xd2 : (((((w3.setCell ⟨w.heap.size + 2, 3, none⟩ (.slice (some ⟨g3, 0, none⟩) ds.length ds.length)).setCell ⟨w.heap.size + 1, 0, none⟩ (.int .i64 now)).setCell ⟨w.heap.size + 1, 1, none⟩ (.slice (some ⟨g1, 0, none⟩) ws.length ws.length)).setCell ⟨w.heap.size + 1, 2, none⟩ (.slice (some ⟨g2, 0, none⟩) ks.length ks.length)).setCell ⟨w.heap.size + 1, 3, none⟩ (.slice (some ⟨g3, 0, none⟩) ds.length ds.length)).cell? ⟨w.heap.size + 1, 2, none⟩ = some (.slice (some ⟨g2, 0, none⟩) ks.length ks.length) := xR.cell 2
  have xd3 : (((((w3.setCell ⟨w.heap.size + 2, 3, none⟩ (.slice (some ⟨g3, 0, none⟩) ds.length ds.length)).setCell ⟨w.heap.size + 1, 0, none⟩ (.int .i64 now)).setCell ⟨w.heap.size + 1, 1, none⟩ (.slice (some ⟨g1, 0, none⟩) ws.length ws.length)).setCell ⟨w.heap.size + 1, 2, none⟩ (.slice (some ⟨g2, 0, none⟩) ks.length ks.length)).setCell ⟨w.heap.size + 1, 3, none⟩ (.slice (some ⟨g3, 0, none⟩) ds.length ds.length)).cell? ⟨w.heap.size + 1, 3, none⟩ = some (.slice (some ⟨g3, 0, none⟩) ds.length ds.length) := xR.cell 3
  have XR := Lib.hid xR
  have XB := Lib.hid ((((C3.out.setCell (p := ⟨w.heap.size + 1, 0, none⟩) (by simp) (.int .i64 now)).setCell (p := ⟨w.heap.size + 1, 1, none⟩) (by simp) (.slice (some ⟨g1, 0, none⟩) ws.length ws.length)).setCell (p := ⟨w.heap.size + 1, 2, none⟩) (by simp) (.slice (some ⟨g2, 0, none⟩) ks.length ks.length)).setCell (p := ⟨w.heap.size + 1, 3, none⟩) (by simp) (.slice (some ⟨g3, 0, none⟩) ds.length ds.length))
  have M1 := Lib.hid ((((N31.out.setOth2 (g := w.heap.size + 1) (j := 0) (by omega) (.int .i64 now)).setOth2 (g := w.heap.size + 1) (j := 1) (by omega) (.slice (some ⟨g1, 0, none⟩) ws.length ws.length)).setOth2 (g := w.heap.size + 1) (j := 2) (by omega) (.slice (some ⟨g2, 0, none⟩) ks.length ks.length)).setOth2 (g := w.heap.size + 1) (j := 3) (by omega) (.slice (some ⟨g3, 0, none⟩) ds.length ds.length))
  have M2 := Lib.hid ((((N32.out.setOth2 (g := w.heap.size + 1) (j := 0) (by omega) (.int .i64 now)).setOth2 (g := w.heap.size + 1) (j := 1) (by omega) (.slice (some ⟨g1, 0, none⟩) ws.length ws.length)).setOth2 (g := w.heap.size + 1) (j := 2) (by omega) (.slice (some ⟨g2, 0, none⟩) ks.length ks.length)).setOth2 (g := w.heap.size + 1) (j := 3) (by omega) (.slice (some ⟨g3, 0, none⟩) ds.length ds.length))
  have M3 := Lib.hid ((((N33.out.setOth2 (g := w.heap.size + 1) (j := 0) (by omega) (.int .i64 now)).setOth2 (g := w.heap.size + 1) (j := 1) (by omega) (.slice (some ⟨g1, 0, none⟩) ws.length ws.length)).setOth2 (g := w.heap.size + 1) (j := 2) (by omega) (.slice (some ⟨g2, 0, none⟩) ks.length ks.length)).setOth2 (g := w.heap.size + 1) (j := 3) (by omega) (.slice (some ⟨g3, 0, none⟩) ds.length ds.length))
  clear xR
  clear hb3 hr3
  go_wp2_with fail
  refine bodyPost_ret (v := .agg #[.int .i64 now, .slice (some ⟨g1, 0, none⟩) ws.length ws.length, .slice (some ⟨g2, 0, none⟩) ks.length ks.length, .slice (some ⟨g3, 0, none⟩) ds.length ds.length]) (by simp [results, Try.results14, go_sem, xd0, xd1, xd2, xd3]; try rfl) rfl ?_
  exact ⟨_, rfl, ⟨g1, g2, g3, rfl, by omega, by omega, by omega, M1.out, M2.out, M3.out⟩, XB.out⟩
theorem eqGrant_same (h h' : GH) (g : Gr) (w : World) (hi : GrIn w h g) (hi' : GrIn w h' g) (hs : GrSmall g) : Calls Try.prog 19 #[grV g.now h, grV g.now h'] w (Ret (.bool true) w) := by
  obtain ⟨wp, wn, wc, kp, kn, kc, dp, dn, dc⟩ := h
  obtain ⟨wp', wn', wc', kp', kn', kc', dp', dn', dc'⟩ := h'
  obtain ⟨now, ws, ks, ds⟩ := g
  obtain ⟨⟨hn1, hn2, hn3⟩, hl1, hl2, hl3⟩ := hi
  obtain ⟨⟨hn1', hn2', hn3'⟩, hl1', hl2', hl3'⟩ := hi'
  obtain ⟨hm1, hm2, hm3, _⟩ := hs
  simp only at hn1 hn2 hn3 hl1 hl2 hl3 hn1' hn2' hn3' hl1' hl2' hl3' hm1 hm2 hm3 ⊢
  subst hn1 hn2 hn3 hn1' hn2' hn3'
  unfold grV
  simp only
  have hb0 := ((Below.refl w.heap.size w).alloc (Nat.le_refl _) (.cells #[.int .i64 now, .slice wp ws.length wc, .slice kp ks.length kc, .slice dp ds.length dc] 37)).alloc (by simp) (.cells #[.int .i64 now, .slice wp' ws.length wc', .slice kp' ks.length kc', .slice dp' ds.length dc'] 37)
  obtain ⟨W, hW⟩ : ∃ W, W = (w.alloc (.cells #[.int .i64 now, .slice wp ws.length wc, .slice kp ks.length kc, .slice dp ds.length dc] 37)).alloc (.cells #[.int .i64 now, .slice wp' ws.length wc', .slice kp' ks.length kc', .slice dp' ds.length dc'] 37) := ⟨_, rfl⟩
  have hr1 : Row W w.heap.size 37 [.int .i64 now, .slice wp ws.length wc, .slice kp ks.length kc, .slice dp ds.length dc] := by
    rw [hW]
    exact Row.below (heap_alloc_new w _) ((Below.refl _ _).alloc (Nat.le_refl _) _) (by simp)
  have hr2 : Row W (w.heap.size + 1) 37 [.int .i64 now, .slice wp' ws.length wc', .slice kp' ks.length kc', .slice dp' ds.length dc'] := by
    rw [hW]
    have := heap_alloc_new (w.alloc (.cells #[.int .i64 now, .slice wp ws.length wc, .slice kp ks.length kc, .slice dp ds.length dc] 37)) (.cells #[.int .i64 now, .slice wp' ws.length wc', .slice kp' ks.length kc', .slice dp' ds.length dc'] 37)
    rw [World.size_alloc] at this
    exact this
  rw [← hW] at hb0
  have HW := Lib.hid hW
  have HR1 := Lib.hid hr1
  have HR2 := Lib.hid hr2
  have HL1 := Lib.hid (hl1.later hb0)
  have HL2 := Lib.hid (hl2.later hb0)
  have HL3 := Lib.hid (hl3.later hb0)
  have HL1' := Lib.hid (hl1'.later hb0)
  have HL2' := Lib.hid (hl2'.later hb0)
  have HL3' := Lib.hid (hl3'.later hb0)
  have HB := Lib.hid hb0
  have hz := hb0.size
  have hg1 := hr1.lt
  have hg2 := hr2.lt
  have hne : (now != now) = false := by simp
  clear hl1 hl2 hl3 hl1' hl2' hl3' hr1 hr2 hb0 hW
  go_enter Try.func19, Try.ntmps19
  go_wp2_with fail
  rw [← HW.out]
  refine (eqWordS_same wp wp' wc wc' ws _ HL1.out HL1'.out hm1).mono ?_
  rintro e w1 ⟨rfl, hb1⟩
  have HB1 := Lib.hid (HB.out.trans (hb1.mono hz))
  have a2 : w1.cell? ⟨w.heap.size, 2, none⟩ = some (.slice kp ks.length kc) := (HR1.out.below hb1 hg1).cell 2
  have a2' : w1.cell? ⟨w.heap.size + 1, 2, none⟩ = some (.slice kp' ks.length kc') := (HR2.out.below hb1 hg2).cell 2
  have HS1 := Lib.hid (HR1.out.below hb1 hg1)
  have HS2 := Lib.hid (HR2.out.below hb1 hg2)
  have HK := Lib.hid (HL2.out.later hb1)
  have HK' := Lib.hid (HL2'.out.later hb1)
  have HD := Lib.hid (HL3.out.later hb1)
  have HD' := Lib.hid (HL3'.out.later hb1)
  have hz1 := HB1.out.size
  have hg3 := HS1.out.lt
  have hg4 := HS2.out.lt
  clear hb1
  go_wp2_with fail
  refine (eqKeyS_same kp kp' kc kc' ks _ HK.out HK'.out hm2).mono ?_
  rintro e w2 ⟨rfl, hb2⟩
  have HB2 := Lib.hid (HB1.out.trans (hb2.mono hz1))
  have b3 : w2.cell? ⟨w.heap.size, 3, none⟩ = some (.slice dp ds.length dc) := (HS1.out.below hb2 hg3).cell 3
  have b3' : w2.cell? ⟨w.heap.size + 1, 3, none⟩ = some (.slice dp' ds.length dc') := (HS2.out.below hb2 hg4).cell 3
  have HE := Lib.hid (HD.out.later hb2)
  have HE' := Lib.hid (HD'.out.later hb2)
  have hz2 := HB2.out.size
  clear hb2 a2 a2'
  go_wp2_with fail
  refine (eqInt64S_same dp dp' dc dc' ds _ HE.out HE'.out hm3).mono ?_
  rintro e w3 ⟨rfl, hb3⟩
  have HB3 := Lib.hid (HB2.out.trans (hb3.mono hz2))
  clear hb3
  go_wp2_with fail
  go_ret
  exact ⟨rfl, HB3.out⟩
end Go.Proofs.Ytchfgdiipjbgoaa
