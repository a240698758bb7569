/- Honest: the model's side. -/
import Derived.Test.YtjccnjfdeedneaaGreatSHoI
import Derived.Test.YtjccnjfdeedneaaGreatSOpSpec
import Derived.Test.YtjccnjfdeedneaaGreatSStSpec
namespace Go.Proofs.YtjccnjfdeedneaaGreat
open Go Go.RowKit Go.Lib
set_option linter.unusedVariables false
set_option linter.unusedSimpArgs false
set_option maxRecDepth 100000

def honD (g : Gr) (v : Int) (l : List En) : Bool := Int.tmod v 2 != 0 || honC g v l
def HonDRel (g : Gr) (v : Int) (l : List En) (w : World) (i : Value) (wr : World) : Prop := ∃ k : Nat, k ≤ l.length ∧ i = .int .i64 k ∧ honD g v (l.take k) = true ∧ Below w.heap.size w wr
theorem honD_step {g : Gr} {v : Int} {l : List En} {k : Nat} {x : En} (hx : l[k]? = some x) (h : honD g v (l.take k) = true) (hs : (x.ver != v) = true ∨ (Int.tmod v 2 != 0) = true ∨ vouchB g x = true) : honD g v (l.take (k + 1)) = true := by
 unfold honD at h ⊢
 rw [honC_at hx]
 rcases hs with hs | hs | hs
 ·rw [hs]; simpa using h
 ·rw [hs]; rfl
 ·rw [hs]; simpa using h
theorem honD_false {g : Gr} {v : Int} {l : List En} {k : Nat} {x : En} (hx : l[k]? = some x) (h1 : (x.ver != v) = false) (h2 : (Int.tmod v 2 != 0) = false) (h3 : vouchB g x = false) : honD g v l = false := by
 unfold honD
 rw [h2, honC_false hx (by rw [h1, h3]; rfl)]
 rfl
theorem svouch_ways {g : Gr} {x : En} {k : Ky} (hf : findK g.keys x.token = some k) : (k.refresh = true ∧ vouchB g x = false) ∨ (k.refresh = false ∧ (k.client != x.client) = true ∧ vouchB g x = false) ∨ (k.refresh = false ∧ (k.client != x.client) = false ∧ (k.till != x.till) = true ∧ vouchB g x = false)
  ∨ (k.refresh = false ∧ (k.client != x.client) = false ∧ (k.till != x.till) = false ∧ (k.state != 0) = true ∧ vouchB g x = false) ∨ (k.refresh = false ∧ (k.client != x.client) = false ∧ (k.till != x.till) = false ∧ (k.state != 0) = false ∧ isDeadB g.dead k.fam = true ∧ vouchB g x = false)
  ∨ (k.refresh = false ∧ (k.client != x.client) = false ∧ (k.till != x.till) = false ∧ (k.state != 0) = false ∧ isDeadB g.dead k.fam = false ∧ vouchB g x = true) := by
 unfold vouchB keyFor vouchK
 rw [hf]
 by_cases h1 : k.client = x.client <;> by_cases h2 : k.till = x.till <;> by_cases h3 : k.state = 0 <;> cases h4 : k.refresh <;> cases h5 : isDeadB g.dead k.fam <;> simp [h1, h2, h3, h4, h5]
theorem keyS_at {now : Int} {h : GH} {l : List Ky} {n r : Int} {w : World} (hn : h.kn = l.length) (hl : LIn kyCf w h.kp l) (hc : l.length ≤ 1048576) (hr : keyIx l n = r) : Calls Tryz.prog 72 #[grV now h, .int .i64 n] w (Ret (.int .i64 r) w) := by
 subst hr
 exact key_ix now h l n w hn hl hc
theorem deadS_at {now : Int} {h : GH} {l : List Int} {n : Int} {b : Bool} {w : World} (hn : h.dn = l.length) (hl : LIn inCf w h.dp l) (hc : l.length ≤ 1048576) (hb : isDeadB l n = b) : Calls Tryz.prog 73 #[grV now h, .int .i64 n] w (Ret (.bool b) w) := by
 subst hb
 exact dead_spec now h l n w hn hl hc
set_option maxHeartbeats 8000000 in
theorem hon_spec (s : St) (h : SH) (w : World) (hin : StIn w h s) (hs : StSmall s) : Calls Tryz.prog 23 #[stV s h] w (Ret (.bool (honB s)) w) := by
 obtain ⟨W, hW⟩ : ∃ W, W = w.alloc (.cells #[.int .i64 s.gr.now, .slice h.gh.wp h.gh.wn h.gh.wc, .slice h.gh.kp h.gh.kn h.gh.kc, .slice h.gh.dp h.gh.dn h.gh.dc, .int .i64 s.ver, .int .i64 s.lock, .slice h.cp h.cn h.cc] 34) := ⟨_, rfl⟩
 have hb0 : Below w.heap.size w W := by rw [hW]; exact (Below.refl _ _).alloc (Nat.le_refl _) _
 have r0 : Row W w.heap.size 34 (stL s h) := by rw [hW]; exact heap_alloc_new w _
 have HW := Lib.hid hW
 have HIN := Lib.hid (StIn.later hin hb0)
 have HB := Lib.hid hb0
 have HR0 := Lib.hid r0
 have HE := Lib.hid (show stV s h = .agg #[.int .i64 s.gr.now, .slice h.gh.wp h.gh.wn h.gh.wc, .slice h.gh.kp h.gh.kn h.gh.kc, .slice h.gh.dp h.gh.dn h.gh.dc, .int .i64 s.ver, .int .i64 s.lock, .slice h.cp h.cn h.cc] from rfl)
 have HG := Lib.hid (szG s h)
 have HP := Lib.hid (store_spec s h W HIN.out hs)
 have hcn : h.cn = s.cache.length := hin.2.1
 have HN := Lib.hid hcn
 have hcm : h.cn ≤ 1048576 := by rw [hcn]; exact hs.2
 have hgs : s.gr.keys.length ≤ 1048576 ∧ s.gr.dead.length ≤ 1048576 := ⟨hs.1.2.1, hs.1.2.2.1⟩
 have HGs := Lib.hid hgs
 clear hin hb0 r0 hW hcn hgs
 rw [HE.out]
 go_enter Tryz.func23, Tryz.ntmps23
 go_wp2_with fail
 rw [← HW.out, ← HE.out]
 refine HP.out.mono ?_
 rintro e W2 ⟨rfl, hb2⟩
 have HB2 := Lib.hid (HB.out.trans (hb2.mono HB.out.size))
 have HS2 := Lib.hid (HR0.out.below hb2 HR0.out.lt)
 have HIN2 := Lib.hid (StIn.later HIN.out hb2)
 clear hb2
 cases hst : storeB s with
 | false =>
  have HH : Hid (honB s = false) := Lib.hid (by simp [honB, hst])
  clear hst
  go_wp2_with fail
  go_ret
  exact ⟨by rw [HH.out]; rfl, HB2.out⟩
 | true =>
  have HH : Hid (honB s = honD s.gr s.ver s.cache) := Lib.hid (by simp [honB, honD, hst])
  clear hst
  go_wp2_with fail
  go_loopw [3] (HonDRel s.gr s.ver s.cache W2) (fun i _ => h.cn - (RowKit.intOf i).toNat)
  case atStart => exact ⟨0, by omega, rfl, by simp [honD, honC], Below.refl _ _⟩
  case round =>
   obtain ⟨k, hk, rfl, he, hbel⟩ := hrel
   rw [← HN.out] at hk
   have HEq := Lib.hid he
   have HBl := Lib.hid (HB2.out.trans (hbel.mono HB2.out.size))
   have HBw := Lib.hid hbel
   have HINr := Lib.hid (StIn.later HIN2.out hbel)
   have HRr := Lib.hid (HS2.out.below hbel HS2.out.lt)
   have c6 : wr.cell? ⟨w.heap.size, 6, none⟩ = some (.slice h.cp h.cn h.cc) := HRr.out.cell 6
   clear he hbel
   by_cases hlt : k < h.cn
   ·obtain ⟨x, hx⟩ : ∃ x, s.cache[k]? = some x := ⟨_, List.getElem?_eq_getElem (by rw [← HN.out]; exact hlt)⟩
    obtain ⟨b, o, hp, hat⟩ := HINr.out.2.2.some hx
    obtain ⟨c0, c1, c2, c3⟩ := en_cells hat hx
    have HX := Lib.hid hx
    rw [hp] at c6
    obtain ⟨V, hV⟩ : ∃ V, V = wr.alloc (.cells #[.int .i64 x.token, .int .i64 x.client, .int .i64 x.till, .int .i64 x.ver] 50) := ⟨_, rfl⟩
    obtain ⟨q, hq⟩ : ∃ q, q = wr.heap.size := ⟨_, rfl⟩
    have hbx : Below wr.heap.size wr V := by rw [hV]; exact (Below.refl _ _).alloc (Nat.le_refl _) _
    have rV : Row V q 50 (enCf x) := by rw [hV, hq]; exact heap_alloc_new wr _
    have sV := HRr.out.below hbx HRr.out.lt
    have HV := Lib.hid hV
    have HQ := Lib.hid hq
    have HBV := Lib.hid (HBl.out.trans (hbx.mono HBl.out.size))
    have HBVw := Lib.hid (HBw.out.trans (hbx.mono HBw.out.size))
    have HINV := Lib.hid (StIn.later HINr.out hbx)
    have HRV := Lib.hid rV
    have HSV := Lib.hid sV
    have v3 : V.cell? ⟨q, 3, none⟩ = some (.int .i64 x.ver) := rV.cell 3
    have v0 : V.cell? ⟨q, 0, none⟩ = some (.int .i64 x.token) := rV.cell 0
    have s4 : V.cell? ⟨w.heap.size, 4, none⟩ = some (.int .i64 s.ver) := sV.cell 4
    have s0 : V.cell? ⟨w.heap.size, 0, none⟩ = some (.int .i64 s.gr.now) := sV.cell 0
    have s1 : V.cell? ⟨w.heap.size, 1, none⟩ = some (.slice h.gh.wp h.gh.wn h.gh.wc) := sV.cell 1
    have s2 : V.cell? ⟨w.heap.size, 2, none⟩ = some (.slice h.gh.kp h.gh.kn h.gh.kc) := sV.cell 2
    have s3 : V.cell? ⟨w.heap.size, 3, none⟩ = some (.slice h.gh.dp h.gh.dn h.gh.dc) := sV.cell 3
    rw [hV, hq] at v3 v0
    rw [hV] at s4 s0 s1 s2 s3
    clear hx hat hp hbx rV sV hV hq
    cases hxv : (x.ver != s.ver) with
    | true =>
     have HNx := Lib.hid (honD_step HX.out HEq.out (.inl hxv))
     go_wp2_with fail
     rw [← HV.out]
     go_roundw
     case rel => exact ⟨k + 1, by rw [← HN.out]; omega, by go_num, HNx.out, HBVw.out⟩
     case measure => simp [RowKit.intOf]; omega
    | false =>
     cases hev : (Int.tmod s.ver 2 != 0) with
     | true =>
      have HNx := Lib.hid (honD_step HX.out HEq.out (.inr (.inl hev)))
      go_wp2_with fail
      rw [← HV.out]
      go_roundw
      case rel => exact ⟨k + 1, by rw [← HN.out]; omega, by go_num, HNx.out, HBVw.out⟩
      case measure => simp [RowKit.intOf]; omega
     | false =>
      have HFalse : Hid (vouchB s.gr x = false → honB s = false) := Lib.hid (fun h3 => by rw [HH.out]; exact honD_false HX.out hxv hev h3)
      have HTrue : Hid (vouchB s.gr x = true → honD s.gr s.ver (s.cache.take (k + 1)) = true) := Lib.hid (fun h3 => honD_step HX.out HEq.out (.inr (.inr h3)))
      cases hf : findK s.gr.keys x.token with
      | none =>
       have HF : Hid (honB s = false) := Lib.hid (HFalse.out (by simp [vouchB, keyFor, hf]))
       have HKx := Lib.hid (keyIx_none hf)
       clear hf
       go_wp2_with fail
       rw [← HV.out, ← HG.out]
       refine (keyS_at HINV.out.1.1.2.1 HINV.out.1.2.2.1 HGs.out.1 HKx.out).mono ?_
       rintro e w3 ⟨rfl, hb3⟩
       have HB3 := Lib.hid (HBV.out.trans (hb3.mono HBV.out.size))
       clear hb3
       go_wp2_with fail
       go_ret
       exact ⟨by rw [HF.out]; rfl, HB3.out⟩
      | some y =>
       obtain ⟨j, hj, hyj, hyn⟩ := keyIx_some hf
       have HKx := Lib.hid hj
       have HYj := Lib.hid hyj
       have HWy := Lib.hid (svouch_ways hf)
       clear hf hj hyj hyn
       go_wp2_with fail
       rw [← HV.out, ← HG.out]
       refine (keyS_at HINV.out.1.1.2.1 HINV.out.1.2.2.1 HGs.out.1 HKx.out).mono ?_
       rintro e w3 ⟨rfl, hb3⟩
       have HB3 := Lib.hid (HBV.out.trans (hb3.mono HBV.out.size))
       have HB3w := Lib.hid (HBVw.out.trans (hb3.mono HBVw.out.size))
       have HIN3 := Lib.hid (StIn.later HINV.out hb3)
       have HR3 := Lib.hid (HRV.out.below hb3 HRV.out.lt)
       have HS3 := Lib.hid (HSV.out.below hb3 HSV.out.lt)
       clear hb3 v3 v0 s4 s0 s1 s2 s3
       obtain ⟨b2, o2, hp2, hat2⟩ := HIN3.out.1.2.2.1.some HYj.out
       obtain ⟨y0, y1, y2, y3, y4, y5⟩ := ky_cells hat2 HYj.out
       have hjl : j < h.gh.kn := by have := (List.getElem?_eq_some_iff.1 HYj.out).1; have := HIN3.out.1.1.2.1; omega
       have t2 : w3.cell? ⟨w.heap.size, 2, none⟩ = some (.slice h.gh.kp h.gh.kn h.gh.kc) := HS3.out.cell 2
       rw [hp2] at t2
       have hw := HWy.out
       rcases hw with ⟨t1, te⟩ | ⟨t1, u2, te⟩ | ⟨t1, u2, u3, te⟩ | ⟨t1, u2, u3, u4, te⟩ | ⟨t1, u2, u3, u4, u5, te⟩ | ⟨t1, u2, u3, u4, u5, te⟩
       all_goals
        have TE := Lib.hid te
        obtain ⟨U, hU⟩ : ∃ U, U = w3.alloc (.cells #[.int .i64 y.no, .int .i64 y.client, .int .i64 y.fam, .bool y.refresh, .int .i64 y.till, .int .i64 y.state] 127) := ⟨_, rfl⟩
        obtain ⟨p, hpp⟩ : ∃ p, p = w3.heap.size := ⟨_, rfl⟩
        have hbU : Below w3.heap.size w3 U := by rw [hU]; exact (Below.refl _ _).alloc (Nat.le_refl _) _
        have kU : Row U p 127 [.int .i64 y.no, .int .i64 y.client, .int .i64 y.fam, .bool y.refresh, .int .i64 y.till, .int .i64 y.state] := by rw [hU, hpp]; exact heap_alloc_new w3 _
        have rU := HR3.out.below hbU HR3.out.lt
        have sU := HS3.out.below hbU HS3.out.lt
        rw [t1] at hU y3 kU
        have HUe := Lib.hid hU
        have HPe := Lib.hid hpp
        have HBU := Lib.hid (HB3.out.trans (hbU.mono HB3.out.size))
        have HBUw := Lib.hid (HB3w.out.trans (hbU.mono HB3w.out.size))
        have HINU := Lib.hid (StIn.later HIN3.out hbU)
        have k1 : U.cell? ⟨p, 1, none⟩ = some (.int .i64 y.client) := kU.cell 1
        have k2 : U.cell? ⟨p, 2, none⟩ = some (.int .i64 y.fam) := kU.cell 2
        have k3 : U.cell? ⟨p, 3, none⟩ = some (.bool y.refresh) := by rw [t1]; exact kU.cell 3
        rw [t1] at k3
        have k4 : U.cell? ⟨p, 4, none⟩ = some (.int .i64 y.till) := kU.cell 4
        have k5 : U.cell? ⟨p, 5, none⟩ = some (.int .i64 y.state) := kU.cell 5
        have f1 : U.cell? ⟨q, 1, none⟩ = some (.int .i64 x.client) := rU.cell 1
        have f2 : U.cell? ⟨q, 2, none⟩ = some (.int .i64 x.till) := rU.cell 2
        have s0 : U.cell? ⟨w.heap.size, 0, none⟩ = some (.int .i64 s.gr.now) := sU.cell 0
        have s1 : U.cell? ⟨w.heap.size, 1, none⟩ = some (.slice h.gh.wp h.gh.wn h.gh.wc) := sU.cell 1
        have s2 : U.cell? ⟨w.heap.size, 2, none⟩ = some (.slice h.gh.kp h.gh.kn h.gh.kc) := sU.cell 2
        have s3 : U.cell? ⟨w.heap.size, 3, none⟩ = some (.slice h.gh.dp h.gh.dn h.gh.dc) := sU.cell 3
        rw [← HQ.out]
        rw [hU, hpp] at k1 k2 k3 k4 k5
        rw [hU] at f1 f2 s0 s1 s2 s3
        clear hat2 hp2 hbU kU rU sU hU hpp
        clear te t1
       ·have HF := Lib.hid (HFalse.out TE.out)
        go_wp2_with fail
        rw [← HUe.out]
        go_ret
        exact ⟨by rw [HF.out]; rfl, HBU.out⟩
       ·have HF := Lib.hid (HFalse.out TE.out)
        go_wp2_with fail
        rw [← HUe.out]
        go_ret
        exact ⟨by rw [HF.out]; rfl, HBU.out⟩
       ·have HF := Lib.hid (HFalse.out TE.out)
        go_wp2_with fail
        rw [← HUe.out]
        go_ret
        exact ⟨by rw [HF.out]; rfl, HBU.out⟩
       ·have HF := Lib.hid (HFalse.out TE.out)
        go_wp2_with fail
        rw [← HUe.out]
        go_ret
        exact ⟨by rw [HF.out]; rfl, HBU.out⟩
       ·have HF := Lib.hid (HFalse.out TE.out)
        have U5 := Lib.hid u5
        clear u5
        go_wp2_with fail
        rw [← HUe.out, ← HG.out]
        refine (deadS_at HINU.out.1.1.2.2 HINU.out.1.2.2.2 HGs.out.2 U5.out).mono ?_
        rintro e w4 ⟨rfl, hb4⟩
        have HB4 := Lib.hid (HBU.out.trans (hb4.mono HBU.out.size))
        clear hb4
        go_wp2_with fail
        go_ret
        exact ⟨by rw [HF.out]; rfl, HB4.out⟩
       ·have HNx := Lib.hid (HTrue.out TE.out)
        have U5 := Lib.hid u5
        clear u5
        go_wp2_with fail
        rw [← HUe.out, ← HG.out]
        refine (deadS_at HINU.out.1.1.2.2 HINU.out.1.2.2.2 HGs.out.2 U5.out).mono ?_
        rintro e w4 ⟨rfl, hb4⟩
        have HB4 := Lib.hid (HBUw.out.trans (hb4.mono HBUw.out.size))
        clear hb4
        go_wp2_with fail
        go_roundw
        case rel => exact ⟨k + 1, by rw [← HN.out]; omega, by go_num, HNx.out, HB4.out⟩
        case measure => simp [RowKit.intOf]; omega
   ·have HF : Hid (honB s = true) := Lib.hid (by
     rw [HH.out]
     have h9 := HEq.out
     unfold honD at h9 ⊢
     rw [honC_end (by rw [← HN.out]; omega)] at h9
     exact h9)
    go_wp2_with fail
    go_ret
    exact ⟨by rw [HF.out]; rfl, HBl.out⟩
end Go.Proofs.YtjccnjfdeedneaaGreat
