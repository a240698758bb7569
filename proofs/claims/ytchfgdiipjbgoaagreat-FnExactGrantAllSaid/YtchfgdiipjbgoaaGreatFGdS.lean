/- Opens: the model's side, whole. Opens: the program's side. -/
import Derived.Test.YtchfgdiipjbgoaaGreatFOpSpec
import Derived.Test.YtchfgdiipjbgoaaGreatFGdE
import Derived.Test.YtchfgdiipjbgoaaGreatFOpImpA
namespace Go.Proofs.YtchfgdiipjbgoaaGreat
open Go Go.RowKit Go.Lib
set_option linter.unusedVariables false

set_option maxRecDepth 100000 in
set_option maxHeartbeats 2000000 in
theorem opens_spec (g : Gr) (h : GH) (no client : Int) (w : World) (hin : GrIn w h g) (hs : GrSmall g) : Calls Tryz.prog 21 #[grV g.now h, .int .i64 no, .int .i64 client] w (Ret (.bool (opensB g no client)) w) := by
 have hb0 := (Below.refl w.heap.size w).alloc (Nat.le_refl _) (.cells #[.int .i64 g.now, .slice h.wp h.wn h.wc, .slice h.kp h.kn h.kc, .slice h.dp h.dn h.dc] 27)
 have hrow : Row (w.alloc (.cells #[.int .i64 g.now, .slice h.wp h.wn h.wc, .slice h.kp h.kn h.kc, .slice h.dp h.dn h.dc] 27)) w.heap.size 27 [.int .i64 g.now, .slice h.wp h.wn h.wc, .slice h.kp h.kn h.kc, .slice h.dp h.dn h.dc] := heap_alloc_new w _
 obtain ⟨W, hW⟩ : ∃ W, W = w.alloc (.cells #[.int .i64 g.now, .slice h.wp h.wn h.wc, .slice h.kp h.kn h.kc, .slice h.dp h.dn h.dc] 27) := ⟨_, rfl⟩
 rw [← hW] at hb0 hrow
 have HW := Lib.hid hW
 have HR := Lib.hid hrow
 have HB := Lib.hid hb0
 have hz := hb0.size
 have hgl := hrow.lt
 have HA := Lib.hid (hin.later hb0)
 have HS := Lib.hid hs
 have HE := Lib.hid (show grV g.now h = .agg #[.int .i64 g.now, .slice h.wp h.wn h.wc, .slice h.kp h.kn h.kc, .slice h.dp h.dn h.dc] from rfl)
 clear hb0 hrow hW hin hs
 rw [HE.out]
 go_enter Tryz.func21, Tryz.ntmps21
 go_wp2_with fail
 rw [← HW.out, ← HE.out]
 refine (key_ix g.now h g.keys no _ HA.out.1.2.1 HA.out.2.2.1 HS.out.2.1).mono ?_
 rintro e w1 ⟨rfl, hb1⟩
 have HB1 := Lib.hid (HB.out.trans (hb1.mono hz))
 have HR1 := Lib.hid (HR.out.below hb1 hgl)
 have HA1 := Lib.hid (HA.out.later hb1)
 have hz1 := HB1.out.size
 have hg1 := HR1.out.lt
 have a0 : w1.cell? ⟨w.heap.size, 0, none⟩ = some (.int .i64 g.now) := HR1.out.cell 0
 have a1 : w1.cell? ⟨w.heap.size, 1, none⟩ = some (.slice h.wp h.wn h.wc) := HR1.out.cell 1
 have a2 : w1.cell? ⟨w.heap.size, 2, none⟩ = some (.slice h.kp h.kn h.kc) := HR1.out.cell 2
 have a3 : w1.cell? ⟨w.heap.size, 3, none⟩ = some (.slice h.dp h.dn h.dc) := HR1.out.cell 3
 clear hb1
 cases tg : grantB g with
 | false =>
  have HG : Hid (opensB g no client = false) := Lib.hid (by simp [opensB, tg])
  have TG := Lib.hid tg
  clear tg
  go_wp2_with fail
  rw [← HE.out]
  refine (grant_spec g h _ HA1.out HS.out).mono ?_
  rw [TG.out]
  rintro e w2 ⟨rfl, hb2⟩
  have HB2 := Lib.hid (HB1.out.trans (hb2.mono hz1))
  clear hb2
  go_wp2_with fail
  go_ret
  exact ⟨by rw [HG.out]; rfl, HB2.out⟩
 | true =>
  have TG := Lib.hid tg
  clear tg
  cases tf : findK g.keys no with
  | none =>
   have HG : Hid (opensB g no client = false) := Lib.hid (by simp [opensB, opensAt, tf])
   have HI := Lib.hid (keyIx_none tf)
   clear tf
   rw [HI.out]
   go_wp2_with fail
   rw [← HE.out]
   refine (grant_spec g h _ HA1.out HS.out).mono ?_
   rw [TG.out]
   rintro e w2 ⟨rfl, hb2⟩
   have HB2 := Lib.hid (HB1.out.trans (hb2.mono hz1))
   clear hb2
   go_wp2_with fail
   go_ret
   exact ⟨by rw [HG.out]; rfl, HB2.out⟩
  | some x =>
   obtain ⟨k, hk, hx, hn⟩ := keyIx_some tf
   have HI := Lib.hid hk
   have HX := Lib.hid hx
   have HF := Lib.hid tf
   have hkl : k < h.kn := by have := (List.getElem?_eq_some_iff.1 hx).1; have := HA.out.1.2.1; omega
   have hk2 : h.kn ≤ 1048576 := by have := HS.out.2.1; have := HA.out.1.2.1; omega
   clear tf hk hx hn
   rw [HI.out]
   go_wp2_with fail
   rw [← HE.out]
   refine (grant_spec g h _ HA1.out HS.out).mono ?_
   rw [TG.out]
   rintro e w2 ⟨rfl, hb2⟩
   have HB2 := Lib.hid (HB1.out.trans (hb2.mono hz1))
   have HR2 := Lib.hid (HR1.out.below hb2 hg1)
   have HA2 := Lib.hid (HA1.out.later hb2)
   have hz2 := HB2.out.size
   clear hb2 a0 a1 a2 a3
   obtain ⟨bb, o, hp, hat⟩ := HA2.out.2.2.1.some HX.out
   obtain ⟨c0, c1, c2, c3, c4, c5⟩ := ky_cells hat HX.out
   have HP := Lib.hid hp
   have a0 : w2.cell? ⟨w.heap.size, 0, none⟩ = some (.int .i64 g.now) := HR2.out.cell 0
   have a1 : w2.cell? ⟨w.heap.size, 1, none⟩ = some (.slice h.wp h.wn h.wc) := HR2.out.cell 1
   have a2 : w2.cell? ⟨w.heap.size, 2, none⟩ = some (.slice (some ⟨bb, o, none⟩) h.kn h.kc) := by rw [← hp]; exact HR2.out.cell 2
   have a3 : w2.cell? ⟨w.heap.size, 3, none⟩ = some (.slice h.dp h.dn h.dc) := HR2.out.cell 3
   clear hp hat c0 c2 c3 c4 c5
   cases tc : x.client == client with
   | false =>
    have HG : Hid (opensB g no client = false) := Lib.hid (by simp [opensB, opensAt, HF.out, tc])
    go_wp2_with fail
    go_ret
    exact ⟨by rw [HG.out]; rfl, HB2.out⟩
   | true =>
    have HG : Hid (opensB g no client = keyOpenB g.now g.dead x) := Lib.hid (by simp [opensB, opensAt, HF.out, tc, TG.out])
    go_wp2_with fail
    rw [← HP.out, ← HE.out]
    refine (opens_at g h k x _ HA2.out HS.out HX.out).mono ?_
    rintro e w3 ⟨rfl, hb3⟩
    have HB3 := Lib.hid (HB2.out.trans (hb3.mono hz2))
    clear hb3
    go_wp2_with fail
    go_ret
    exact ⟨by rw [HG.out]; rfl, HB3.out⟩
end Go.Proofs.YtchfgdiipjbgoaaGreat
/- Opens: the program's side. -/
namespace Go.Proofs.YtchfgdiipjbgoaaGreat
open Go Go.RowKit Go.Lib
set_option linter.unusedVariables false

set_option maxRecDepth 100000 in
set_option maxHeartbeats 2000000 in
theorem opens_imp (g : Gr) (h : GH) (no client : Int) (w : World) (hin : GrIn w h g) (hs : GrSmall g) (hf : GrWf g) (hwf : (Lit.int .i64 no).wf = true) : Calls Tryz.prog 20 #[grV g.now h, .int .i64 no, .int .i64 client] w (Ret (.bool (opensB g no client)) w) := by
 have hb0 := (Below.refl w.heap.size w).alloc (Nat.le_refl _) (.cells #[.int .i64 g.now, .slice h.wp h.wn h.wc, .slice h.kp h.kn h.kc, .slice h.dp h.dn h.dc] 27)
 have hrow : Row (w.alloc (.cells #[.int .i64 g.now, .slice h.wp h.wn h.wc, .slice h.kp h.kn h.kc, .slice h.dp h.dn h.dc] 27)) w.heap.size 27 [.int .i64 g.now, .slice h.wp h.wn h.wc, .slice h.kp h.kn h.kc, .slice h.dp h.dn h.dc] := heap_alloc_new w _
 obtain ⟨W, hW⟩ : ∃ W, W = w.alloc (.cells #[.int .i64 g.now, .slice h.wp h.wn h.wc, .slice h.kp h.kn h.kc, .slice h.dp h.dn h.dc] 27) := ⟨_, rfl⟩
 rw [← hW] at hb0 hrow
 have HW := Lib.hid hW
 have HR := Lib.hid hrow
 have HB := Lib.hid hb0
 have hz := hb0.size
 have hgl := hrow.lt
 have HA := Lib.hid (hin.later hb0)
 have HS := Lib.hid hs
 have HF := Lib.hid hf
 have HWf := Lib.hid hwf
 have HE := Lib.hid (show grV g.now h = .agg #[.int .i64 g.now, .slice h.wp h.wn h.wc, .slice h.kp h.kn h.kc, .slice h.dp h.dn h.dc] from rfl)
 clear hb0 hrow hW hin hs hf hwf
 rw [HE.out]
 cases tg : grantB g with
 | false =>
  have HG : Hid (opensB g no client = false) := Lib.hid (by simp [opensB, tg])
  have TG := Lib.hid tg
  clear tg
  go_enter Tryz.func20, Tryz.ntmps20
  go_wp2_with fail
  rw [← HW.out, ← HE.out]
  refine (grant_imp g h _ HA.out HS.out HF.out).mono ?_
  rw [TG.out]
  rintro e w2 ⟨rfl, hb2⟩
  have HB2 := Lib.hid (HB.out.trans (hb2.mono hz))
  clear hb2
  go_wp2_with fail
  go_ret
  exact ⟨by rw [HG.out]; rfl, HB2.out⟩
 | true =>
  have TG := Lib.hid tg
  obtain ⟨⟨n0, n1⟩, hw20, hk40, hws, hks, hds⟩ := gr_facts tg
  have HWs := Lib.hid hws
  have HKs := Lib.hid hks
  clear tg hws hks hds
  go_enter Tryz.func20, Tryz.ntmps20
  go_wp2_with fail
  rw [← HW.out, ← HE.out]
  refine (grant_imp g h _ HA.out HS.out HF.out).mono ?_
  rw [TG.out]
  rintro e w2 ⟨rfl, hb2⟩
  have HB2 := Lib.hid (HB.out.trans (hb2.mono hz))
  have HR2 := Lib.hid (HR.out.below hb2 hgl)
  have HA2 := Lib.hid (HA.out.later hb2)
  have hz2 := HB2.out.size
  have a0 : w2.cell? ⟨w.heap.size, 0, none⟩ = some (.int .i64 g.now) := HR2.out.cell 0
  have a1 : w2.cell? ⟨w.heap.size, 1, none⟩ = some (.slice h.wp h.wn h.wc) := HR2.out.cell 1
  have a2 : w2.cell? ⟨w.heap.size, 2, none⟩ = some (.slice h.kp h.kn h.kc) := HR2.out.cell 2
  have a3 : w2.cell? ⟨w.heap.size, 3, none⟩ = some (.slice h.dp h.dn h.dc) := HR2.out.cell 3
  clear hb2
  go_wp2_with fail
  rw [← HE.out]
  refine (ledgerOf_any g h _ HA2.out TG.out).mono ?_
  rintro e w3 ⟨B, lb, mw, mk, rfl, hBl, hled, hb3⟩
  have HL := Lib.hid hled
  have HB3 := Lib.hid (HB2.out.trans (hb3.mono hz2))
  have hz3 := HB3.out.size
  clear hled hb3 a0 a1 a2 a3
  go_wp2_with fail
  refine (keyOf_any lb mw mk B g no client _ HL.out HWf.out).mono ?_
  cases tk : keyFor g.keys no client with
  | none =>
   have HG : Hid (opensB g no client = false) := Lib.hid (by simp [opensB, opens_for, tk])
   rw [show keyForV none = .tuple #[.agg #[.int .i64 0, .int .i64 0, .bool false, .float .f64 0, .int .i64 0], .bool false] from rfl]
   rintro e w4 ⟨rfl, hb4⟩
   have HB4 := Lib.hid (HB3.out.trans (hb4.mono hz3))
   have hsf := run_store_float
   clear hb4
   have hz4 := HB4.out.size
   go_wp2_with fail
   go_ret
   exact ⟨by rw [HG.out]; rfl, HB4.out.alloc hz4 _⟩
  | some x =>
   have HG : Hid (opensB g no client = keyOpenB g.now g.dead x) := Lib.hid (by simp [opensB, opens_for, tk, TG.out])
   obtain ⟨hfk, e1⟩ := keyFor_mem tk
   obtain ⟨j, hj, e2⟩ := findK_mem hfk
   obtain ⟨⟨_, _, _, f4, f5, _⟩, _⟩ := keysOk_get HKs.out hj
   obtain ⟨y, hy, hyn⟩ := hasNo_find f4
   obtain ⟨i, hi, e3⟩ := find_mem hy
   obtain ⟨⟨i1, i9, _⟩, _⟩ := wordsOk_get HWs.out hi
   have HY := Lib.hid hy
   have HFm := Lib.hid (wf_small (n := x.fam) (by omega) (by omega))
   have HE2 := Lib.hid (show hkV x = .agg #[.int .i64 x.client, .int .i64 x.fam, .bool x.refresh, .float .f64 (floatOfInt .f64 x.till), .int .i64 x.state] from rfl)
   have hsf := run_store_float
   clear hfk hj f4 hy hi hyn tk e1 e2 e3
   rw [show keyForV (some x) = .tuple #[.agg #[.int .i64 x.client, .int .i64 x.fam, .bool x.refresh, .float .f64 (floatOfInt .f64 x.till), .int .i64 x.state], .bool true] from rfl]
   rintro e w4 ⟨rfl, hb4⟩
   have HB4 := Lib.hid (HB3.out.trans (hb4.mono hz3))
   have hz4 := HB4.out.size
   have HL4 := Lib.hid ((HL.out.later hb4).later ((Below.refl w4.heap.size w4).alloc (Nat.le_refl _) (.cells #[.int .i64 x.client, .int .i64 x.fam, .bool x.refresh, .float .f64 (floatOfInt .f64 x.till), .int .i64 x.state] 132)))
   have HB5 := Lib.hid (HB4.out.alloc hz4 (.cells #[.int .i64 x.client, .int .i64 x.fam, .bool x.refresh, .float .f64 (floatOfInt .f64 x.till), .int .i64 x.state] 132))
   have hz5 := HB5.out.size
   clear hb4
   go_wp2_with fail
   rw [← HE2.out]
   refine (opens_led lb mw mk B g x y _ HL4.out HY.out HFm.out n0 n1 f5.1 f5.2).mono ?_
   rintro e w5 ⟨rfl, hb5⟩
   have HB6 := Lib.hid (HB5.out.trans (hb5.mono hz5))
   clear hb5
   go_wp2_with fail
   go_ret
   exact ⟨by rw [HG.out]; rfl, HB6.out⟩
end Go.Proofs.YtchfgdiipjbgoaaGreat
