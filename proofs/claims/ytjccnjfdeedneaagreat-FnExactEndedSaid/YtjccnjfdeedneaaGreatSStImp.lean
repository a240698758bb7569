/- Right stores: the program's side. -/
import Derived.Test.YtjccnjfdeedneaaGreatSStSpec
import Derived.Test.YtjccnjfdeedneaaGreatSGdB
namespace Go.Proofs.YtjccnjfdeedneaaGreat
open Go Go.RowKit Go.Lib
set_option linter.unusedVariables false
set_option maxRecDepth 100000


set_option maxHeartbeats 800000 in
theorem entry_imp (x : En) (w : World) : Calls Tryz.prog 69 #[enV x] w (Ret (.bool (entryB x)) w) := by
 unfold enV
 rcases entry_ways x with ⟨t1, te⟩ | ⟨t1, t2, te⟩ | ⟨t1, t2, t3, te⟩ | ⟨t1, t2, t3, t4, te⟩ | ⟨t1, t2, t3, t4, te⟩
 all_goals
  have TE := Lib.hid te
  clear te
  go_enter Tryz.func69, Tryz.ntmps69
  go_wp2_with (first | (go_at_call 128; refine (upto_at (by assumption)).mono ?_; rintro e w' ⟨rfl, hww⟩; rw [hww]; clear hww w') | (go_at_call 107; refine (isTime_at (by assumption)).mono ?_; rintro e w' ⟨rfl, hww⟩; rw [hww]; clear hww w'))
  go_ret
  exact ⟨by rw [TE.out]; rfl, by go_grown⟩
theorem entry_imp_at {x : En} {b : Bool} {w : World} (h : entryB x = b) : Calls Tryz.prog 69 #[enV x] w (Ret (.bool b) w) := by
 subst h
 exact entry_imp x w
theorem lock_ways (n : Int) : (n = 0 ∧ isB n 0 99 = true) ∨ (n ≠ 0 ∧ isB n 1 99 = true ∧ isB n 0 99 = true) ∨ (n ≠ 0 ∧ isB n 1 99 = false ∧ isB n 0 99 = false) := by
 by_cases h : n = 0
 ·left; subst h; exact ⟨rfl, by decide⟩
 ·right
  unfold isB
  by_cases h1 : 1 ≤ n
  ·rw [decide_eq_true h1, decide_eq_true (show 0 ≤ n by omega)]
   cases decide (n ≤ 99) <;> simp [h]
  ·right
   rw [decide_eq_false h1, decide_eq_false (show ¬ 0 ≤ n by omega)]
   simp [h]
theorem lock_imp (n : Int) (w : World) : Calls Tryz.prog 126 #[.int .i64 n] w fun e w' => e = .returned (.bool (isB n 0 99)) ∧ w' = w := by
 rcases lock_ways n with ⟨t0, te⟩ | ⟨t0, t1, te⟩ | ⟨t0, t1, te⟩
 ·have e0 : (n == 0) = true := by simpa using t0
  have TE := Lib.hid te
  clear te t0
  go_enter Tryz.func126, Tryz.ntmps126
  go_wp2_with fail
  go_ret
  exact ⟨by rw [TE.out]; rfl, rfl⟩
 all_goals
  have e0 : (n == 0) = false := by simpa using t0
  have TE := Lib.hid te
  clear te t0
  go_enter Tryz.func126, Tryz.ntmps126
  go_wp2_with (first | (go_at_call 128; refine (upto_at (by assumption)).mono ?_; rintro e w' ⟨rfl, hww⟩; rw [hww]; clear hww w') | (go_at_call 107; refine (isTime_at (by assumption)).mono ?_; rintro e w' ⟨rfl, hww⟩; rw [hww]; clear hww w'))
  go_ret
  exact ⟨by rw [TE.out]; rfl, rfl⟩
theorem lock_imp_at {n : Int} {b : Bool} {w : World} (h : isB n 0 99 = b) : Calls Tryz.prog 126 #[.int .i64 n] w fun e w' => e = .returned (.bool b) ∧ w' = w := by
 subst h
 exact lock_imp n w
theorem place1_any (x : En) (q : Nat) (t : Int) (b : Bool) (hb : (x.token == t) = b) (w : World) (hq : w.cell? ⟨q, 0, none⟩ = some (.int .i64 t)) : Calls Tryz.prog 180 #[enV x, .pointer (some ⟨q, 0, none⟩)] w (Ret (.bool b) w) := by
 have hq2 : (w.alloc (.cells #[.int .i64 x.token, .int .i64 x.client, .int .i64 x.till, .int .i64 x.ver] 50)).cell? ⟨q, 0, none⟩ = some (.int .i64 t) := (((Below.refl w.heap.size w).alloc (Nat.le_refl _) _).cell (p := ⟨q, 0, none⟩) (World.block_lt_of_cell? w _ hq)).trans hq
 unfold enV
 clear hq
 cases b with
 | true =>
  go_enter Tryz.func180, Tryz.ntmps180
  go_wp2_with fail
  go_ret
  exact ⟨rfl, by go_grown⟩
 | false =>
  go_enter Tryz.func180, Tryz.ntmps180
  go_wp2_with fail
  go_ret
  exact ⟨rfl, by go_grown⟩
def EnRelW (l : List En) (t : Int) (w : World) (i : Value) (wr : World) : Prop := ∃ k : Nat, k ≤ l.length ∧ i = .int .i64 k ∧ (∀ (j : Nat) (y : En), j < k → l[j]? = some y → y.token ≠ t) ∧ Below w.heap.size w wr
set_option maxHeartbeats 800000 in
theorem indexFunc_any (p : Option Addr) (cap : Nat) (l : List En) (t : Int) (q : Nat) (w : World) (hl : LIn enCf w p l) (hc : l.length ≤ 1048576) (hq : w.cell? ⟨q, 0, none⟩ = some (.int .i64 t)) :
  Calls Tryz.prog 179 #[.slice p l.length cap, .func (.func 180) #[] #[.pointer (some ⟨q, 0, none⟩)]] w (Ret (.int .i64 (enIx l t)) w) := by
 have HL := Lib.hid hl
 have HQ := Lib.hid hq
 have hql := World.block_lt_of_cell? w _ hq
 obtain ⟨n, hn⟩ : ∃ n, n = l.length := ⟨_, rfl⟩
 rw [← hn] at hc ⊢
 have HN := Lib.hid hn
 clear hl hn hq
 go_enter Tryz.func179, Tryz.ntmps179
 go_wp2_with fail
 go_loopw [8] (EnRelW l t w) (fun i _ => n - (RowKit.intOf i).toNat)
 case atStart => exact ⟨0, by omega, rfl, fun j y h => by omega, Below.refl _ _⟩
 case round =>
  obtain ⟨k, hk, rfl, hr, hbel⟩ := hrel
  rw [← HN.out] at hk
  have HR := Lib.hid hr
  have HB := Lib.hid hbel
  have hz := hbel.size
  have HQr := Lib.hid ((hbel.cell (p := ⟨q, 0, none⟩) hql).trans HQ.out)
  clear hr hbel
  by_cases hlt : k < n
  ·obtain ⟨x, hx⟩ : ∃ x, l[k]? = some x := ⟨_, List.getElem?_eq_getElem (by rw [← HN.out]; exact hlt)⟩
   obtain ⟨b, o, rfl, hat⟩ := (HL.out.later HB.out).some hx
   obtain ⟨c0, c1, c2, c3⟩ := en_cells hat hx
   have HX := Lib.hid hx
   have HV := Lib.hid (show enV x = .agg #[.int .i64 x.token, .int .i64 x.client, .int .i64 x.till, .int .i64 x.ver] from rfl)
   clear hx hat
   cases he : x.token == t with
   | true =>
    have HE := Lib.hid he
    clear he
    go_wp2_with fail
    rw [← HV.out]
    refine (place1_any x q t true HE.out _ HQr.out).mono ?_
    rintro e w2 ⟨rfl, hb2⟩
    have HB2 := Lib.hid (HB.out.trans (hb2.mono hz))
    clear hb2
    go_wp2_with fail
    go_ret
    exact ⟨by rw [enIx_at HX.out (by simpa using HE.out) HR.out]; rfl, HB2.out⟩
   | false =>
    have HE := Lib.hid he
    clear he
    go_wp2_with fail
    rw [← HV.out]
    refine (place1_any x q t false HE.out _ HQr.out).mono ?_
    rintro e w2 ⟨rfl, hb2⟩
    have HB2 := Lib.hid (HB.out.trans (hb2.mono hz))
    clear hb2
    go_wp2_with fail
    go_roundw
    case rel =>
     refine ⟨k + 1, by rw [← HN.out]; omega, by go_num, fun j y hj hy => ?_, HB2.out⟩
     by_cases e : j = k
     ·subst e
      rw [HX.out] at hy
      obtain rfl := Option.some.inj hy
      simpa using HE.out
     ·exact HR.out j y (by omega) hy
    case measure => simp [RowKit.intOf]; omega
  ·go_wp2_with fail
   go_ret
   exact ⟨by rw [enIx_none fun j y hy => HR.out j y (by have := (List.getElem?_eq_some_iff.1 hy).1; rw [← HN.out] at this; omega) hy]; rfl, HB.out⟩
theorem placeOf_any (p : Option Addr) (cap : Nat) (l : List En) (t : Int) (w : World) (hl : LIn enCf w p l) (hc : l.length ≤ 1048576) : Calls Tryz.prog 135 #[.slice p l.length cap, .int .i64 t] w (Ret (.int .i64 (enIx l t)) w) := by
 have hb0 := (Below.refl w.heap.size w).alloc (Nat.le_refl _) (.cells #[.int .i64 t] 2)
 have HL := Lib.hid (hl.later hb0)
 have HQ : Hid ((w.alloc (.cells #[.int .i64 t] 2)).cell? ⟨w.heap.size, 0, none⟩ = some (.int .i64 t)) := Lib.hid (by simp)
 have HB := Lib.hid hb0
 have hz := hb0.size
 obtain ⟨n, hn⟩ : ∃ n, n = l.length := ⟨_, rfl⟩
 rw [← hn]
 have HN := Lib.hid hn
 have HC := Lib.hid hc
 clear hl hb0 hn hc
 go_enter Tryz.func135, Tryz.ntmps135
 go_wp2_with fail
 rw [HN.out]
 refine (indexFunc_any p cap l t w.heap.size _ HL.out HC.out HQ.out).mono ?_
 rintro e w2 ⟨rfl, hb2⟩
 have HB2 := Lib.hid (HB.out.trans (hb2.mono hz))
 clear hb2
 go_wp2_with fail
 go_ret
 exact ⟨rfl, HB2.out⟩
theorem placeOf_ext {W : World} {u : Ext W} {p : Option Addr} {n cap : Nat} {l : List En} {t r : Int} (hn : n = l.length) (hl : LIn enCf W p l) (hc : l.length ≤ 1048576) (hr : enIx l t = r) : Calls Tryz.prog 135 #[.slice p n cap, .int .i64 t] u.w fun e w' => e = .returned (.int .i64 r) ∧ ∃ u' : Ext W, w' = u'.w := by
 subst hn hr
 exact calls_ext (placeOf_any p cap l t u.w (hl.later u.below) hc)
theorem LAt.take {α : Type} {cf : α → List Value} {w : World} {b o : Nat} {l : List α} (h : LAt cf w b o l) (k : Nat) : LAt cf w b o (l.take k) := by
 intro j v hj
 refine h j v ?_
 conv => lhs; rw [← List.take_append_drop k l, List.flatMap_append]
 rw [List.getElem?_append_left (List.getElem?_eq_some_iff.1 hj).1]
 exact hj
theorem LIn.take {α : Type} {cf : α → List Value} {w : World} {p : Option Addr} {l : List α} (h : LIn cf w p l) (k : Nat) : LIn cf w p (l.take k) := by
 rcases h with rfl | ⟨b, o, h1, h2⟩
 ·exact .inl (by simp)
 ·exact .inr ⟨b, o, h1, h2.take k⟩
set_option maxHeartbeats 2000000 in
theorem cache_imp (p : Option Addr) (n cap : Nat) (l : List En) (w : World) (hn : n = l.length) (hl : LIn enCf w p l) (hc : n ≤ 1048576) (hcap : n ≤ cap) (hcm : cap ≤ 1048576) : Calls Tryz.prog 127 #[.slice p n cap] w (Ret (.bool (decide (l.length ≤ 4) && cacheOk [] l)) w) := by
 have HL := Lib.hid hl
 have HN := Lib.hid hn
 by_cases h4 : 4 < n
 ·have HS : Hid ((decide (l.length ≤ 4) && cacheOk [] l) = false) := Lib.hid (by rw [decide_eq_false (by omega)]; rfl)
  clear hl hn
  go_enter Tryz.func127, Tryz.ntmps127
  go_wp2_with fail
  go_ret
  exact ⟨by rw [HS.out]; rfl, Below.refl _ _⟩
 ·have TE : Hid ((decide (l.length ≤ 4) && cacheOk [] l) = cacheOk [] l) := Lib.hid (by rw [decide_eq_true (by omega)]; simp)
  have h4' : n ≤ 4 := by omega
  rw [TE.out]
  clear hl hn h4
  go_enter Tryz.func127, Tryz.ntmps127
  go_wp2_with fail
  go_loopw [10] (StRel l w) (fun i _ => n - (RowKit.intOf i).toNat)
  case atStart => exact ⟨0, by omega, rfl, rfl, Below.refl _ _⟩
  case round =>
   obtain ⟨k, hk, rfl, he, hbel⟩ := hrel
   rw [← HN.out] at hk
   have HEq := Lib.hid he
   have HBl := Lib.hid hbel
   have hz := hbel.size
   have HCr := Lib.hid (HL.out.later hbel)
   clear he hbel
   by_cases hlt : k < n
   ·obtain ⟨x, hx⟩ : ∃ x, l[k]? = some x := ⟨_, List.getElem?_eq_getElem (by rw [← HN.out]; exact hlt)⟩
    obtain ⟨b, o, rfl, hat⟩ := HCr.out.some hx
    obtain ⟨c0, c1, c2, c3⟩ := en_cells hat hx
    have HX := Lib.hid hx
    have hst := HEq.out.trans (cacheOk_at hx)
    have HLk : Hid (k = (l.take k).length) := Lib.hid (by have := HN.out; rw [List.length_take]; omega)
    have hLs : Hid ((l.take k).length ≤ 1048576) := Lib.hid (by have := HN.out; rw [List.length_take]; omega)
    have hkc : k ≤ cap := by omega
    have hbx := (Below.refl wr.heap.size wr).alloc (Nat.le_refl _) (.cells #[.int .i64 x.token, .int .i64 x.client, .int .i64 x.till, .int .i64 x.ver] 50)
    obtain ⟨V, hV⟩ : ∃ V, V = wr.alloc (.cells #[.int .i64 x.token, .int .i64 x.client, .int .i64 x.till, .int .i64 x.ver] 50) := ⟨_, rfl⟩
    have hrV : Row V wr.heap.size 50 (enCf x) := by rw [hV]; exact heap_alloc_new wr _
    rw [← hV] at hbx
    have HV := Lib.hid hV
    have HBV := Lib.hid (HBl.out.trans (hbx.mono hz))
    have hzV := HBV.out.size
    have HCV := Lib.hid ((HCr.out.later hbx).take k)
    have f0 : ∀ u : Ext V, u.w.cell? ⟨wr.heap.size, 0, none⟩ = some (.int .i64 x.token) := fun u => u.cell (hrV.cell 0)
    have f1 : ∀ u : Ext V, u.w.cell? ⟨wr.heap.size, 1, none⟩ = some (.int .i64 x.client) := fun u => u.cell (hrV.cell 1)
    have f2 : ∀ u : Ext V, u.w.cell? ⟨wr.heap.size, 2, none⟩ = some (.int .i64 x.till) := fun u => u.cell (hrV.cell 2)
    have f3 : ∀ u : Ext V, u.w.cell? ⟨wr.heap.size, 3, none⟩ = some (.int .i64 x.ver) := fun u => u.cell (hrV.cell 3)
    clear hx hat hbx hV hrV
    cases t1 : entryB x with
    | false =>
     have HS : Hid (cacheOk [] l = false) := Lib.hid (by rw [hst, t1]; rfl)
     have T1 := Lib.hid t1
     clear t1 hst
     go_wp2_with fail
     rw [← HV.out]
     refine ext_region V (by kernel_rfl) (by kernel_rfl) (Below.refl _ _) ?_
     repeat (go_big_quiet_step ((go_at_call 69; exact calls_ext (entry_imp_at T1.out))))
     refine wpQuiet_nil ?_
     intro w3 hb3
     have HB3 := Lib.hid (HBV.out.trans (hb3.mono hzV))
     clear hb3
     go_wp2_with fail
     go_ret
     exact ⟨by rw [HS.out]; rfl, HB3.out⟩
    | true =>
     have T1 := Lib.hid t1
     have hix : decide (0 ≤ enIx (l.take k) x.token) = hasTok (l.take k) x.token := enIx_nonneg
     cases t2 : hasTok (l.take k) x.token with
     | true =>
      have HS : Hid (cacheOk [] l = false) := Lib.hid (by rw [hst, t1, t2]; rfl)
      rw [t2] at hix
      obtain ⟨r, hr⟩ : ∃ r, enIx (l.take k) x.token = r := ⟨_, rfl⟩
      rw [hr] at hix
      have HRx := Lib.hid hr
      clear t1 t2 hst hr
      go_wp2_with fail
      rw [← HV.out]
      refine ext_region V (by kernel_rfl) (by kernel_rfl) (Below.refl _ _) ?_
      repeat (go_big_quiet_step (first | (go_at_call 69; exact calls_ext (entry_imp_at T1.out)) | (go_at_call 135; exact placeOf_ext HLk.out HCV.out hLs.out HRx.out)))
      refine wpQuiet_nil ?_
      intro w3 hb3
      have HB3 := Lib.hid (HBV.out.trans (hb3.mono hzV))
      clear hb3
      go_wp2_with fail
      go_ret
      exact ⟨by rw [HS.out]; rfl, HB3.out⟩
     | false =>
      rw [t1, t2] at hst
      have HNx := Lib.hid hst
      rw [t2] at hix
      obtain ⟨r, hr⟩ : ∃ r, enIx (l.take k) x.token = r := ⟨_, rfl⟩
      rw [hr] at hix
      have HRx := Lib.hid hr
      clear t1 t2 hst hr
      go_wp2_with fail
      rw [← HV.out]
      refine ext_region V (by kernel_rfl) (by kernel_rfl) (Below.refl _ _) ?_
      repeat (go_big_quiet_step (first | (go_at_call 69; exact calls_ext (entry_imp_at T1.out)) | (go_at_call 135; exact placeOf_ext HLk.out HCV.out hLs.out HRx.out)))
      refine wpQuiet_nil ?_
      intro w3 hb3
      have HB3 := Lib.hid (HBV.out.trans (hb3.mono hzV))
      clear hb3
      go_wp2_with fail
      go_roundw
      case rel => exact ⟨k + 1, by rw [← HN.out]; omega, by go_num, HNx.out, HB3.out⟩
      case measure => simp [RowKit.intOf]; omega
   ·have HS : Hid (cacheOk [] l = true) := Lib.hid (by rw [HEq.out]; exact cacheOk_end (by rw [← HN.out]; omega))
    go_wp2_with fail
    go_ret
    exact ⟨by rw [HS.out]; rfl, HBl.out⟩
theorem store_waysI (s : St) : (grantB s.gr = false ∧ storeB s = false) ∨ (grantB s.gr = true ∧ isB s.ver 0 1000000 = false ∧ storeB s = false) ∨ (grantB s.gr = true ∧ isB s.ver 0 1000000 = true ∧ isB s.lock 0 99 = false ∧ storeB s = false) ∨ (grantB s.gr = true ∧ isB s.ver 0 1000000 = true ∧ isB s.lock 0 99 = true ∧ storeB s = (decide (s.cache.length ≤ 4) && cacheOk [] s.cache)) := by
 unfold storeB
 cases grantB s.gr <;> cases isB s.ver 0 1000000 <;> cases isB s.lock 0 99 <;> simp
set_option maxHeartbeats 2000000 in
theorem store_imp (s : St) (h : SH) (w : World) (hin : StIn w h s) (hs : StSmall s) (hf : GrWf s.gr) (hcap : h.cn ≤ h.cc ∧ h.cc ≤ 1048576) : Calls Tryz.prog 68 #[stV s h] w (Ret (.bool (storeB s)) w) := by
 obtain ⟨hg, hcn, hcl⟩ := hin
 obtain ⟨hsg, hsc⟩ := hs
 unfold stV
 have hb0 := (Below.refl w.heap.size w).alloc (Nat.le_refl _) (.cells #[.int .i64 s.gr.now, .slice h.gh.wp h.gh.wn h.gh.wc, .slice h.gh.kp h.gh.kn h.gh.kc, .slice h.gh.dp h.gh.dn h.gh.dc, .int .i64 s.ver, .int .i64 s.lock, .slice h.cp h.cn h.cc] 34)
 have hrow : Row (w.alloc (.cells #[.int .i64 s.gr.now, .slice h.gh.wp h.gh.wn h.gh.wc, .slice h.gh.kp h.gh.kn h.gh.kc, .slice h.gh.dp h.gh.dn h.gh.dc, .int .i64 s.ver, .int .i64 s.lock, .slice h.cp h.cn h.cc] 34)) w.heap.size 34 (stL s h) := heap_alloc_new w _
 obtain ⟨W, hW⟩ : ∃ W, W = w.alloc (.cells #[.int .i64 s.gr.now, .slice h.gh.wp h.gh.wn h.gh.wc, .slice h.gh.kp h.gh.kn h.gh.kc, .slice h.gh.dp h.gh.dn h.gh.dc, .int .i64 s.ver, .int .i64 s.lock, .slice h.cp h.cn h.cc] 34) := ⟨_, rfl⟩
 rw [← hW] at hb0 hrow
 have HW := Lib.hid hW
 have HR := Lib.hid hrow
 have HB := Lib.hid hb0
 have hz := hb0.size
 have hgl := hrow.lt
 have HG := Lib.hid (hg.later hb0)
 have HC := Lib.hid (hcl.later hb0)
 have HN := Lib.hid hcn
 have HSg := Lib.hid hsg
 have HF := Lib.hid hf
 have HE := Lib.hid (szG s h)
 have hcn' : h.cn ≤ 1048576 := by omega
 have HCap := Lib.hid hcap
 clear hg hcl hcn hb0 hrow hW hsg hf hcap
 rcases store_waysI s with ⟨tg, te⟩ | ⟨tg, tv, te⟩ | ⟨tg, tv, tl, te⟩ | ⟨tg, tv, tl, te⟩
 all_goals
  have TG := Lib.hid tg
  have TE := Lib.hid te
  clear tg te
  go_enter Tryz.func68, Tryz.ntmps68
  go_wp2_with fail
  rw [← HW.out, ← HE.out]
  refine (grant_imp s.gr h.gh _ HG.out HSg.out HF.out).mono ?_
  rw [TG.out]
  rintro e w2 ⟨rfl, hb2⟩
  have HB2 := Lib.hid (HB.out.trans (hb2.mono hz))
  have HR2 := Lib.hid (HR.out.below hb2 hgl)
  have HC2 := Lib.hid (HC.out.later hb2)
  have hz2 := HB2.out.size
  have hg2 := HR2.out.lt
  have a4 : w2.cell? ⟨w.heap.size, 4, none⟩ = some (.int .i64 s.ver) := HR2.out.cell 4
  have a5 : w2.cell? ⟨w.heap.size, 5, none⟩ = some (.int .i64 s.lock) := HR2.out.cell 5
  have a6 : w2.cell? ⟨w.heap.size, 6, none⟩ = some (.slice h.cp h.cn h.cc) := HR2.out.cell 6
  clear hb2
 ·go_wp2_with fail
  go_ret
  exact ⟨by rw [TE.out]; rfl, HB2.out⟩
 ·go_wp2_with (first | (go_at_call 128; refine (upto_at (by assumption)).mono ?_; rintro e w' ⟨rfl, hww⟩; rw [hww]; clear hww w') | (go_at_call 107; refine (isTime_at (by assumption)).mono ?_; rintro e w' ⟨rfl, hww⟩; rw [hww]; clear hww w') | (go_at_call 126; refine (lock_imp_at (by assumption)).mono ?_; rintro e w' ⟨rfl, hww⟩; rw [hww]; clear hww w'))
  go_ret
  exact ⟨by rw [TE.out]; rfl, HB2.out⟩
 ·go_wp2_with (first | (go_at_call 128; refine (upto_at (by assumption)).mono ?_; rintro e w' ⟨rfl, hww⟩; rw [hww]; clear hww w') | (go_at_call 107; refine (isTime_at (by assumption)).mono ?_; rintro e w' ⟨rfl, hww⟩; rw [hww]; clear hww w') | (go_at_call 126; refine (lock_imp_at (by assumption)).mono ?_; rintro e w' ⟨rfl, hww⟩; rw [hww]; clear hww w'))
  go_ret
  exact ⟨by rw [TE.out]; rfl, HB2.out⟩
 ·go_wp2_with (first | (go_at_call 128; refine (upto_at (by assumption)).mono ?_; rintro e w' ⟨rfl, hww⟩; rw [hww]; clear hww w') | (go_at_call 107; refine (isTime_at (by assumption)).mono ?_; rintro e w' ⟨rfl, hww⟩; rw [hww]; clear hww w') | (go_at_call 126; refine (lock_imp_at (by assumption)).mono ?_; rintro e w' ⟨rfl, hww⟩; rw [hww]; clear hww w'))
  refine (cache_imp h.cp h.cn h.cc s.cache _ HN.out HC2.out hcn' HCap.out.1 HCap.out.2).mono ?_
  rintro e w3 ⟨rfl, hb3⟩
  have HB3 := Lib.hid (HB2.out.trans (hb3.mono hz2))
  clear hb3
  go_wp2_with fail
  go_ret
  exact ⟨by rw [TE.out]; rfl, HB3.out⟩
end Go.Proofs.YtjccnjfdeedneaaGreat
