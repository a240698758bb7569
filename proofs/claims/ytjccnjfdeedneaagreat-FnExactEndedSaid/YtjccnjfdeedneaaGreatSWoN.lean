/- Which threads a world may have: the model's side. -/
import Derived.Test.YtjccnjfdeedneaaGreatSWoM
import Derived.Test.YtjccnjfdeedneaaGreatSOpSpec
namespace Go.Proofs.YtjccnjfdeedneaaGreat
open Go Go.RowKit Go.Lib
set_option linter.unusedVariables false
set_option linter.unusedSimpArgs false
set_option maxRecDepth 100000

theorem hasNo_is (l : List Wd) (n : Int) : hasNo l n = (findW l n).isSome := by
 unfold hasNo findW
 rw [Bool.eq_iff_iff, List.any_eq_true, List.find?_isSome]
theorem word_pos {now : Int} {h : GH} {l : List Wd} {n : Int} {b : Bool} {w : World} (hn : h.wn = l.length) (hl : LIn wdCf w h.wp l) (hc : l.length ≤ 1048576) (hb : (findW l n).isSome = b) : Calls Tryz.prog 104 #[grV now h, .int .i64 n] w fun e w' => ∃ q : Int, e = .returned (.int .i64 q) ∧ decide (0 ≤ q) = b ∧ Below w.heap.size w w' := by
 refine (word_any now h l n w hn hl hc).mono ?_
 rintro e w' ⟨q, hq, rfl, hbl⟩
 refine ⟨q, rfl, ?_, hbl⟩
 rw [← hb, ← hasNo_is]
 rcases hq with ⟨rfl, h1⟩ | ⟨k, x, rfl, hx, hxn, _⟩
 ·rw [h1]; rfl
 ·rw [hasNo_yes hx hxn]; simp
theorem key_pos {now : Int} {h : GH} {l : List Ky} {n : Int} {b : Bool} {w : World} (hn : h.kn = l.length) (hl : LIn kyCf w h.kp l) (hc : l.length ≤ 1048576) (hb : (findK l n).isSome = b) : Calls Tryz.prog 72 #[grV now h, .int .i64 n] w fun e w' => ∃ q : Int, e = .returned (.int .i64 q) ∧ decide (0 ≤ q) = b ∧ Below w.heap.size w w' := by
 refine (key_ix now h l n w hn hl hc).mono ?_
 rintro e w' ⟨rfl, hbl⟩
 refine ⟨_, rfl, ?_, hbl⟩
 rw [← hb]
 cases hf : findK l n with
 | none => rw [keyIx_none hf]; rfl
 | some x =>
  obtain ⟨k, hk, _, _⟩ := keyIx_some hf
  rw [hk]; simp
theorem thread_spec_at {t : TH} {b : Bool} {w : World} (hp : t.req.proof.size ≤ maxLen) (h : threadB t = b) : Calls Tryz.prog 140 #[thV t] w (Ret (.bool b) w) := by
 subst h
 exact thread_spec t w hp
def nosB (x : Wr) : Bool := thrOk [] x.ths && freeB x.first x.ths && lockB x.store.lock x.ths
def WnRel (x : Wr) (w : World) (lk i : Value) (wr : World) : Prop := ∃ k : Nat, k ≤ x.ths.length ∧ i = .int .i64 k ∧ lk = .bool (x.store.lock == 0 || hasNoT (x.ths.take k) x.store.lock) ∧ thrOk [] x.ths = thrOk (x.ths.take k) (x.ths.drop k) ∧ freeB x.first (x.ths.take k) = true ∧ Below w.heap.size w wr
def WkRel (l : List TH) (k : Nat) (no : Int) (w : World) (i : Value) (wr : World) : Prop := ∃ j : Nat, j ≤ k ∧ i = .int .i64 j ∧ (∀ (a : Nat) (y : TH), a < j → l[a]? = some y → y.req.no ≠ no) ∧ wr = w
theorem hasNoT_at {l : List TH} {k : Nat} {t : TH} {n : Int} (hx : l[k]? = some t) : hasNoT (l.take (k + 1)) n = (hasNoT (l.take k) n || t.req.no == n) := by
 unfold hasNoT
 rw [List.take_add_one, hx, Option.toList_some, List.any_append]
 simp
set_option maxHeartbeats 16000000 in
theorem nos_spec (x : Wr) (h : WH) (w : World) (hin : WoIn w h x) (hs : WoSmall x) (hpr : ∀ t ∈ x.ths, t.req.proof.size ≤ maxLen) : Calls Tryz.prog 77 #[woV x h] w (Ret (.bool (nosB x)) w) := by
 obtain ⟨W, hW⟩ : ∃ W, W = w.alloc (.cells #[.int .i64 x.first.now, .slice h.fh.wp h.fh.wn h.fh.wc, .slice h.fh.kp h.fh.kn h.fh.kc, .slice h.fh.dp h.fh.dn h.fh.dc, .int .i64 x.store.gr.now, .slice h.sh.gh.wp h.sh.gh.wn h.sh.gh.wc, .slice h.sh.gh.kp h.sh.gh.kn h.sh.gh.kc, .slice h.sh.gh.dp h.sh.gh.dn h.sh.gh.dc, .int .i64 x.store.ver, .int .i64 x.store.lock, .slice h.sh.cp h.sh.cn h.sh.cc, .slice h.tp h.tn h.tc, .slice h.lp h.ln h.lc] 64) := ⟨_, rfl⟩
 have hb0 : Below w.heap.size w W := by rw [hW]; exact (Below.refl _ _).alloc (Nat.le_refl _) _
 have r0 : Row W w.heap.size 64 (woL x h) := by rw [hW]; exact heap_alloc_new w _
 have HW := Lib.hid hW
 have HIN := Lib.hid (hin.later hb0)
 have HB := Lib.hid hb0
 have HR := Lib.hid r0
 have HPr := Lib.hid hpr
 have HE := Lib.hid (wG x h)
 have HSm := Lib.hid hs
 have htn : h.tn = x.ths.length := hin.2.2.1.1
 obtain ⟨n, hn⟩ : ∃ n, n = x.ths.length := ⟨_, rfl⟩
 have hnm : n ≤ 1048576 := by rw [hn]; exact hs.2.2.1
 have HN := Lib.hid hn
 have HTn : Hid (h.tn = n) := Lib.hid (by rw [htn, hn])
 have hgs : x.first.words.length ≤ 1048576 ∧ x.first.keys.length ≤ 1048576 := ⟨hs.1.1, hs.1.2.1⟩
 have HGs := Lib.hid hgs
 have a9 : W.cell? ⟨w.heap.size, 9, none⟩ = some (.int .i64 x.store.lock) := r0.cell 9
 rw [hW] at a9
 clear hW hb0 r0 hin hs hpr htn hn hgs
 unfold woV
 go_enter Tryz.func77, Tryz.ntmps77
 go_wp2_with fail
 rw [← HW.out]
 clear a9
 go_loopw [3, 4] (WnRel x W) (fun _ i _ => n - (RowKit.intOf i).toNat)
 case atStart => exact ⟨0, by omega, rfl, by simp [hasNoT], rfl, rfl, Below.refl _ _⟩
 case round =>
  obtain ⟨k, hk, rfl, rfl, he, hfr, hbel⟩ := hrel
  rw [← HN.out] at hk
  obtain ⟨lk, hlk⟩ : ∃ lk, lk = (x.store.lock == 0 || hasNoT (x.ths.take k) x.store.lock) := ⟨_, rfl⟩
  rw [← hlk]
  have HLk := Lib.hid hlk
  have HEq := Lib.hid he
  have HFr := Lib.hid hfr
  have HBl := Lib.hid (HB.out.trans (hbel.mono HB.out.size))
  have HBw := Lib.hid hbel
  have HINr := Lib.hid (HIN.out.later hbel)
  have HRr := Lib.hid (HR.out.below hbel HR.out.lt)
  have c0 : wr.cell? ⟨w.heap.size, 0, none⟩ = some (.int .i64 x.first.now) := HRr.out.cell 0
  have c1 : wr.cell? ⟨w.heap.size, 1, none⟩ = some (.slice h.fh.wp h.fh.wn h.fh.wc) := HRr.out.cell 1
  have c2 : wr.cell? ⟨w.heap.size, 2, none⟩ = some (.slice h.fh.kp h.fh.kn h.fh.kc) := HRr.out.cell 2
  have c3 : wr.cell? ⟨w.heap.size, 3, none⟩ = some (.slice h.fh.dp h.fh.dn h.fh.dc) := HRr.out.cell 3
  have c9 : wr.cell? ⟨w.heap.size, 9, none⟩ = some (.int .i64 x.store.lock) := HRr.out.cell 9
  have c11 : wr.cell? ⟨w.heap.size, 11, none⟩ = some (.slice h.tp h.tn h.tc) := HRr.out.cell 11
  rw [HTn.out] at c11
  clear he hfr hbel hlk
  by_cases hlt : k < n
  ·obtain ⟨t, ht⟩ : ∃ t, x.ths[k]? = some t := ⟨_, List.getElem?_eq_getElem (by rw [← HN.out]; exact hlt)⟩
   obtain ⟨b, o, hp, hat⟩ := HINr.out.2.2.1.2.some ht
   obtain ⟨d0, d1, d2, d3, d4, d5, d6, d7, d8, d9, d10, d11, d12, d13, d14⟩ := th_cells hat ht
   have HAt := Lib.hid hat
   have HX := Lib.hid ht
   have HPt := Lib.hid (HPr.out t (List.mem_of_getElem? ht))
   rw [hp] at c11
   have HV := Lib.hid (show thV t = .agg #[.int .i64 t.req.no, .int .i64 t.req.kind, .int .i64 t.req.client, .int .i64 t.req.code, .int .i64 t.req.token, .string t.req.proof, .int .i64 t.req.upTo, .int .i64 t.pc, .int .i64 t.ver, .int .i64 t.till, .int .i64 t.resp.code, .int .i64 t.resp.token, .int .i64 t.resp.next, .bool t.resp.yes, .bool t.done] from rfl)
   have hst := HEq.out.trans (thrOk_at ht)
   have HSt := Lib.hid hst
   obtain ⟨lk2, hlk2⟩ : ∃ lk2, lk2 = (lk || x.store.lock == t.req.no) := ⟨_, rfl⟩
   have HLk2 : Hid (lk2 = (x.store.lock == 0 || hasNoT (x.ths.take (k + 1)) x.store.lock)) := Lib.hid (by
    rw [hlk2, HLk.out, hasNoT_at ht, show (t.req.no == x.store.lock) = (x.store.lock == t.req.no) by rw [Bool.eq_iff_iff, beq_iff_eq, beq_iff_eq]; exact eq_comm]
    cases (x.store.lock == 0) <;> cases hasNoT (x.ths.take k) x.store.lock <;> rfl)
   have hw8 : (lk = true ∧ lk2 = true) ∨ (lk = false ∧ (x.store.lock == t.req.no) = lk2) := by
    rw [hlk2]; cases lk <;> simp
   have HP := Lib.hid hp
   clear hst ht hat hp hlk2
   rcases hw8 with ⟨rfl, rfl⟩ | ⟨rfl, hw8⟩
   all_goals
    cases t1 : threadB t with
    | false =>
     have HF : Hid (nosB x = false) := Lib.hid (by unfold nosB; rw [HSt.out, t1]; rfl)
     have T1 := Lib.hid t1
     clear t1
     go_wp2_with fail
     rw [← HV.out]
     refine (thread_spec_at HPt.out T1.out).mono ?_
     rintro e w3 ⟨rfl, hb3⟩
     have HB3 := Lib.hid (HBl.out.trans (hb3.mono HBl.out.size))
     clear hb3
     go_wp2_with fail
     go_ret
     exact ⟨by rw [HF.out]; rfl, HB3.out⟩
    | true =>
     have hno := threadB_no t1
     have T1 := Lib.hid t1
     clear t1
     go_wp2_with fail
     rw [← HV.out]
     refine (thread_spec_at HPt.out T1.out).mono ?_
     rintro e w3 ⟨rfl, hb3⟩
     have HB3 := Lib.hid (HBl.out.trans (hb3.mono HBl.out.size))
     have HB3w := Lib.hid (HBw.out.trans (hb3.mono HBw.out.size))
     have HIN3 := Lib.hid (HINr.out.later hb3)
     have HR3 := Lib.hid (HRr.out.below hb3 HRr.out.lt)
     clear hb3 c0 c1 c2 c3 c9 c11 d0 d1 d2 d3 d4 d5 d6 d7 d8 d9 d10 d11 d12 d13 d14
     have e0 : w3.cell? ⟨w.heap.size, 0, none⟩ = some (.int .i64 x.first.now) := HR3.out.cell 0
     have e1 : w3.cell? ⟨w.heap.size, 1, none⟩ = some (.slice h.fh.wp h.fh.wn h.fh.wc) := HR3.out.cell 1
     have e2 : w3.cell? ⟨w.heap.size, 2, none⟩ = some (.slice h.fh.kp h.fh.kn h.fh.kc) := HR3.out.cell 2
     have e3 : w3.cell? ⟨w.heap.size, 3, none⟩ = some (.slice h.fh.dp h.fh.dn h.fh.dc) := HR3.out.cell 3
     go_wp2_with fail
     rw [← HE.out]
     obtain ⟨iw, hiw⟩ : ∃ iw, (findW x.first.words t.req.no).isSome = iw := ⟨_, rfl⟩
     refine (word_pos HIN3.out.1.1.1 HIN3.out.1.2.1 HGs.out.1 hiw).mono ?_
     rintro e w4 ⟨qw, rfl, hqw, hb4⟩
     have HB4 := Lib.hid (HB3.out.trans (hb4.mono HB3.out.size))
     have HB4w := Lib.hid (HB3w.out.trans (hb4.mono HB3w.out.size))
     have HIN4 := Lib.hid (HIN3.out.later hb4)
     have HR4 := Lib.hid (HR3.out.below hb4 HR3.out.lt)
     have HIw := Lib.hid hiw
     clear hb4 e0 e1 e2 e3 hiw
     cases iw with
     | true =>
      have hft : freeT x.first t = false := by
       have h5 := HIw.out
       unfold freeT
       cases hf : findW x.first.words t.req.no with
       | none => rw [hf] at h5; cases h5
       | some y => rfl
      have HF : Hid (nosB x = false) := Lib.hid (by unfold nosB; rw [freeB_false HX.out hft]; simp)
      clear hft
      go_wp2_with fail
      go_ret
      exact ⟨by rw [HF.out]; rfl, HB4.out⟩
     | false =>
      have e0 : w4.cell? ⟨w.heap.size, 0, none⟩ = some (.int .i64 x.first.now) := HR4.out.cell 0
      have e1 : w4.cell? ⟨w.heap.size, 1, none⟩ = some (.slice h.fh.wp h.fh.wn h.fh.wc) := HR4.out.cell 1
      have e2 : w4.cell? ⟨w.heap.size, 2, none⟩ = some (.slice h.fh.kp h.fh.kn h.fh.kc) := HR4.out.cell 2
      have e3 : w4.cell? ⟨w.heap.size, 3, none⟩ = some (.slice h.fh.dp h.fh.dn h.fh.dc) := HR4.out.cell 3
      go_wp2_with fail
      rw [← HE.out]
      obtain ⟨i1, hi1⟩ : ∃ i1, (findK x.first.keys (10 * t.req.no + 1)).isSome = i1 := ⟨_, rfl⟩
      refine (key_pos HIN4.out.1.1.2.1 HIN4.out.1.2.2.1 HGs.out.2 hi1).mono ?_
      rintro e w5 ⟨q1, rfl, hq1, hb5⟩
      have HB5 := Lib.hid (HB4.out.trans (hb5.mono HB4.out.size))
      have HB5w := Lib.hid (HB4w.out.trans (hb5.mono HB4w.out.size))
      have HIN5 := Lib.hid (HIN4.out.later hb5)
      have HR5 := Lib.hid (HR4.out.below hb5 HR4.out.lt)
      have HI1 := Lib.hid hi1
      clear hb5 e0 e1 e2 e3 hi1
      cases i1 with
      | true =>
       have HF : Hid (nosB x = false) := Lib.hid (by unfold nosB; rw [freeB_false HX.out (by unfold freeT; rw [HI1.out]; simp)]; simp)
       go_wp2_with fail
       go_ret
       exact ⟨by rw [HF.out]; rfl, HB5.out⟩
      | false =>
       have e0 : w5.cell? ⟨w.heap.size, 0, none⟩ = some (.int .i64 x.first.now) := HR5.out.cell 0
       have e1 : w5.cell? ⟨w.heap.size, 1, none⟩ = some (.slice h.fh.wp h.fh.wn h.fh.wc) := HR5.out.cell 1
       have e2 : w5.cell? ⟨w.heap.size, 2, none⟩ = some (.slice h.fh.kp h.fh.kn h.fh.kc) := HR5.out.cell 2
       have e3 : w5.cell? ⟨w.heap.size, 3, none⟩ = some (.slice h.fh.dp h.fh.dn h.fh.dc) := HR5.out.cell 3
       go_wp2_with fail
       rw [← HE.out]
       obtain ⟨i2, hi2⟩ : ∃ i2, (findK x.first.keys (10 * t.req.no + 2)).isSome = i2 := ⟨_, rfl⟩
       refine (key_pos HIN5.out.1.1.2.1 HIN5.out.1.2.2.1 HGs.out.2 hi2).mono ?_
       rintro e w6 ⟨q2, rfl, hq2, hb6⟩
       have HB6 := Lib.hid (HB5.out.trans (hb6.mono HB5.out.size))
       have HB6w := Lib.hid (HB5w.out.trans (hb6.mono HB5w.out.size))
       have HIN6 := Lib.hid (HIN5.out.later hb6)
       have HR6 := Lib.hid (HR5.out.below hb6 HR5.out.lt)
       have HI2 := Lib.hid hi2
       clear hb6 e0 e1 e2 e3 hi2
       cases i2 with
       | true =>
        have HF : Hid (nosB x = false) := Lib.hid (by unfold nosB; rw [freeB_false HX.out (by unfold freeT; rw [HI2.out]; simp)]; simp)
        go_wp2_with fail
        go_ret
        exact ⟨by rw [HF.out]; rfl, HB6.out⟩
       | false =>
        have HFx : Hid (freeB x.first (x.ths.take (k + 1)) = true) := Lib.hid (by
         rw [freeB_at HX.out, HFr.out]
         unfold freeT
         rw [HI1.out, HI2.out]
         have := HIw.out
         cases hf : findW x.first.words t.req.no with
         | none => rfl
         | some y => rw [hf] at this; cases this)
        have c11 : w6.cell? ⟨w.heap.size, 11, none⟩ = some (.slice h.tp h.tn h.tc) := HR6.out.cell 11
        rw [HTn.out, HP.out] at c11
        have hAt6 := (HIN6.out.2.2.1.2)
        go_wp2_with fail
        go_loopw [6] (WkRel x.ths k t.req.no w6) (fun i _ => k - (RowKit.intOf i).toNat)
        case atStart => exact ⟨0, by omega, rfl, fun a y h => by omega, rfl⟩
        case round =>
         obtain ⟨j, hj, rfl, hall, rfl⟩ := hrel
         have HAll := Lib.hid hall
         clear hall
         by_cases hjk : j < k
         ·obtain ⟨u, hu⟩ : ∃ u, x.ths[j]? = some u := ⟨_, List.getElem?_eq_getElem (by rw [← HN.out]; omega)⟩
          obtain ⟨b', o', hp', hat'⟩ := hAt6.some hu
          obtain ⟨g0, g1, g2, g3, g4, g5, g6, g7, g8, g9, g10, g11, g12, g13, g14⟩ := th_cells hat' hu
          rw [HP.out] at hp'
          obtain ⟨rfl, rfl⟩ : b = b' ∧ o = o' := by simpa using hp'
          have HU := Lib.hid hu
          clear hu hat' hp' g1 g2 g3 g4 g5 g6 g7 g8 g9 g10 g11 g12 g13 g14
          by_cases heq : u.req.no = t.req.no
          ·have HF : Hid (nosB x = false) := Lib.hid (by
            unfold nosB
            rw [HSt.out, T1.out, hasNoT_yes (l := x.ths.take k) (k := j) (x := u) (by rw [List.getElem?_take_of_lt hjk]; exact HU.out) heq]
            rfl)
           have e8 : (u.req.no == t.req.no) = true := by simpa using heq
           clear heq
           go_wp2_with fail
           go_ret
           exact ⟨by rw [HF.out]; rfl, HB6.out⟩
          ·have e8 : (u.req.no == t.req.no) = false := by simpa using heq
           have HNe := Lib.hid heq
           clear heq
           go_wp2_with fail
           go_roundw
           case rel =>
            refine ⟨j + 1, by omega, by go_num, fun a y ha hy => ?_, rfl⟩
            by_cases e : a = j
            ·subst e
             rw [HU.out] at hy
             obtain rfl := Option.some.inj hy
             exact HNe.out
            ·exact HAll.out a y (by omega) hy
           case measure => simp [RowKit.intOf]; omega
         ·have HNx : Hid (thrOk [] x.ths = thrOk (x.ths.take (k + 1)) (x.ths.drop (k + 1))) := Lib.hid (by
           rw [HSt.out, T1.out, hasNoT_no (l := x.ths.take k) (t := t.req.no) (fun a y hy => HAll.out a y (by have := (List.getElem?_eq_some_iff.1 hy).1; rw [List.length_take] at this; omega) (by
            have h1 := (List.getElem?_eq_some_iff.1 hy).1
            rw [List.length_take] at h1
            rw [List.getElem?_take_of_lt (by omega)] at hy
            exact hy))]
           rfl)
          go_wp2_with fail
          go_roundw
          case rel => exact ⟨k + 1, by rw [← HN.out]; omega, by go_num, by rw [HLk2.out], HNx.out, HFx.out, HB6w.out⟩
          case measure => simp [RowKit.intOf]; omega
  ·have HF : Hid (nosB x = lk) := Lib.hid (by
    unfold nosB
    rw [HEq.out, List.drop_of_length_le (by rw [← HN.out]; omega), ← freeB_end (k := k) (by rw [← HN.out]; omega), HFr.out, HLk.out]
    unfold lockB
    rw [List.take_of_length_le (by rw [← HN.out]; omega)]
    rfl)
   go_wp2_with fail
   go_ret
   exact ⟨by rw [HF.out]; rfl, HBl.out⟩
end Go.Proofs.YtjccnjfdeedneaaGreat
