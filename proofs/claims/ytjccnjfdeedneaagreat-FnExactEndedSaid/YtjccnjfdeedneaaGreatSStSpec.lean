/- Right stores: the model's side. -/
import Derived.Test.YtjccnjfdeedneaaGreatSStS2
import Derived.Test.YtjccnjfdeedneaaGreatSGrSpec2
import Derived.Test.YtjccnjfdeedneaaGreatSGdA
namespace Go.Proofs.YtjccnjfdeedneaaGreat
open Go Go.RowKit Go.Lib
set_option linter.unusedVariables false
set_option maxRecDepth 100000

theorem entry_ways (x : En) : (isB x.token 1 999 = false ∧ entryB x = false) ∨ (isB x.token 1 999 = true ∧ isB x.client 1 3 = false ∧ entryB x = false) ∨ (isB x.token 1 999 = true ∧ isB x.client 1 3 = true ∧ isB x.till 0 1000000 = false ∧ entryB x = false) ∨ (isB x.token 1 999 = true ∧ isB x.client 1 3 = true ∧ isB x.till 0 1000000 = true ∧ isB x.ver 0 1000000 = false ∧ entryB x = false) ∨ (isB x.token 1 999 = true ∧ isB x.client 1 3 = true ∧ isB x.till 0 1000000 = true ∧ isB x.ver 0 1000000 = true ∧ entryB x = true) := by
 unfold entryB
 cases isB x.token 1 999 <;> cases isB x.client 1 3 <;> cases isB x.till 0 1000000 <;> cases isB x.ver 0 1000000 <;> simp
set_option maxHeartbeats 800000 in
theorem entry_spec (x : En) (w : World) : Calls Tryz.prog 65 #[enV x] w (Ret (.bool (entryB x)) w) := by
 unfold enV
 rcases entry_ways x with ⟨t1, te⟩ | ⟨t1, t2, te⟩ | ⟨t1, t2, t3, te⟩ | ⟨t1, t2, t3, t4, te⟩ | ⟨t1, t2, t3, t4, te⟩
 all_goals
  have TE := Lib.hid te
  clear te
  go_enter Tryz.func65, Tryz.ntmps65
  go_wp2_with (first | (go_at_call 102; refine (is_at (by assumption)).mono ?_; rintro e w' ⟨rfl, hww⟩; rw [hww]; clear hww w') | (go_at_call 101; refine (time_at (by assumption)).mono ?_; rintro e w' ⟨rfl, hww⟩; rw [hww]; clear hww w'))
  go_ret
  exact ⟨by rw [TE.out]; rfl, by go_grown⟩
theorem entry_spec_at {x : En} {b : Bool} {w : World} (h : entryB x = b) : Calls Tryz.prog 65 #[enV x] w (Ret (.bool b) w) := by
 subst h
 exact entry_spec x w
theorem store_ways (s : St) : (grantB s.gr = false ∧ storeB s = false) ∨ (grantB s.gr = true ∧ isB s.ver 0 1000000 = false ∧ storeB s = false) ∨ (grantB s.gr = true ∧ isB s.ver 0 1000000 = true ∧ isB s.lock 0 99 = false ∧ storeB s = false) ∨ (grantB s.gr = true ∧ isB s.ver 0 1000000 = true ∧ isB s.lock 0 99 = true ∧ 4 < s.cache.length ∧ storeB s = false) ∨ (grantB s.gr = true ∧ isB s.ver 0 1000000 = true ∧ isB s.lock 0 99 = true ∧ s.cache.length ≤ 4 ∧ storeB s = cacheOk [] s.cache) := by
 unfold storeB
 by_cases hc : s.cache.length ≤ 4
 ·rw [decide_eq_true hc]
  cases grantB s.gr <;> cases isB s.ver 0 1000000 <;> cases isB s.lock 0 99 <;> simp [hc]
 ·rw [decide_eq_false hc]
  cases grantB s.gr <;> cases isB s.ver 0 1000000 <;> cases isB s.lock 0 99 <;> simp [hc] <;> omega
def EnRel (l : List En) (t : Int) (i : Value) : Prop := ∃ k : Nat, k ≤ l.length ∧ i = .int .i64 k ∧ ∀ (j : Nat) (y : En), j < k → l[j]? = some y → y.token ≠ t
theorem enAt_spec (p : Option Addr) (cap : Nat) (l : List En) (t : Int) (w : World) (hl : LIn enCf w p l) (hc : l.length ≤ 1048576) : Calls Tryz.prog 125 #[.slice p l.length cap, .int .i64 t] w fun e w' => e = .returned (.int .i64 (enIx l t)) ∧ w' = w := by
 have HL := Lib.hid hl
 obtain ⟨n, hn⟩ : ∃ n, n = l.length := ⟨_, rfl⟩
 rw [← hn] at hc ⊢
 have HN := Lib.hid hn
 clear hl hn
 go_enter Tryz.func125, Tryz.ntmps125
 go_wp2_with fail
 go_loop [5] (EnRel l t) (fun i => n - (RowKit.intOf i).toNat)
 case atStart => exact ⟨0, by omega, rfl, fun j y h => by omega⟩
 case round =>
  obtain ⟨k, hk, rfl, hr⟩ := hrel
  rw [← HN.out] at hk
  have HR := Lib.hid hr
  clear hr
  by_cases hlt : k < n
  ·obtain ⟨x, hx⟩ : ∃ x, l[k]? = some x := ⟨_, List.getElem?_eq_getElem (by rw [← HN.out]; exact hlt)⟩
   obtain ⟨b, o, rfl, hat⟩ := HL.out.some hx
   obtain ⟨c0, c1, c2, c3⟩ := en_cells hat hx
   have HX := Lib.hid hx
   clear hx hat c1 c2 c3
   by_cases he : x.token = t
   ·have e1 : (x.token == t) = true := by simpa using he
    have HE := Lib.hid he
    clear he
    go_wp2_with fail
    go_ret
    exact ⟨by rw [enIx_at HX.out HE.out HR.out]; rfl, rfl⟩
   ·have e1 : (x.token == t) = false := by simpa using he
    have HE := Lib.hid he
    clear he
    go_wp2_with fail
    go_round
    case rel =>
     refine ⟨k + 1, by rw [← HN.out]; omega, by go_num, fun j y hj hy => ?_⟩
     by_cases e : j = k
     ·subst e
      rw [HX.out] at hy
      obtain rfl := Option.some.inj hy
      exact HE.out
     ·exact HR.out j y (by omega) hy
    case measure => simp [RowKit.intOf]; omega
  ·go_wp2_with fail
   go_ret
   exact ⟨by rw [enIx_none fun j y hy => HR.out j y (by have := (List.getElem?_eq_some_iff.1 hy).1; rw [← HN.out] at this; omega) hy]; rfl, rfl⟩
theorem enAt_ext {W : World} {u : Ext W} {p : Option Addr} {n cap : Nat} {l : List En} {t r : Int} (hn : n = l.length) (hl : LIn enCf W p l) (hc : l.length ≤ 1048576) (hr : enIx l t = r) : Calls Tryz.prog 125 #[.slice p n cap, .int .i64 t] u.w fun e w' => e = .returned (.int .i64 r) ∧ ∃ u' : Ext W, w' = u'.w := by
 subst hn hr
 exact calls_ext_same (enAt_spec p cap l t u.w (hl.later u.below) hc)
def StRel (l : List En) (w : World) (i : Value) (wr : World) : Prop := ∃ k : Nat, k ≤ l.length ∧ i = .int .i64 k ∧ cacheOk [] l = cacheOk (l.take k) (l.drop k) ∧ Below w.heap.size w wr
set_option maxHeartbeats 4000000 in
theorem store_spec (s : St) (h : SH) (w : World) (hin : StIn w h s) (hs : StSmall s) : Calls Tryz.prog 64 #[stV s h] w (Ret (.bool (storeB s)) w) := by
 obtain ⟨hg, hcn, hcl⟩ := hin
 obtain ⟨hsg, hsc⟩ := hs
 unfold stV
 have hb0 := (Below.refl w.heap.size w).alloc (Nat.le_refl _) (.cells #[.int .i64 s.gr.now, .slice h.gh.wp h.gh.wn h.gh.wc, .slice h.gh.kp h.gh.kn h.gh.kc, .slice h.gh.dp h.gh.dn h.gh.dc, .int .i64 s.ver, .int .i64 s.lock, .slice h.cp h.cn h.cc] 34)
 have hrow : Row (w.alloc (.cells #[.int .i64 s.gr.now, .slice h.gh.wp h.gh.wn h.gh.wc, .slice h.gh.kp h.gh.kn h.gh.kc, .slice h.gh.dp h.gh.dn h.gh.dc, .int .i64 s.ver, .int .i64 s.lock, .slice h.cp h.cn h.cc] 34)) w.heap.size 34 (stL s h) := heap_alloc_new w _
 obtain ⟨W, hW⟩ : ∃ W, W = w.alloc (.cells #[.int .i64 s.gr.now, .slice h.gh.wp h.gh.wn h.gh.wc, .slice h.gh.kp h.gh.kn h.gh.kc, .slice h.gh.dp h.gh.dn h.gh.dc, .int .i64 s.ver, .int .i64 s.lock, .slice h.cp h.cn h.cc] 34) := ⟨_, rfl⟩
 rw [← hW] at hb0 hrow
 have HW := Lib.hid hW
 have HR := Lib.hid hrow
 have HB := Lib.hid hb0
 have hz := hb0.size
 have hgl := hrow.lt
 have HG := Lib.hid (hg.later hb0)
 have HC := Lib.hid (hcl.later hb0)
 have HN := Lib.hid hcn
 have HSg := Lib.hid hsg
 have HE := Lib.hid (szG s h)
 have hcn' : h.cn ≤ 1048576 := by omega
 clear hg hcl hcn hb0 hrow hW hsg
 rcases store_ways s with ⟨tg, te⟩ | ⟨tg, tv, te⟩ | ⟨tg, tv, tl, te⟩ | ⟨tg, tv, tl, tc, te⟩ | ⟨tg, tv, tl, tc, te⟩
 all_goals
  have TG := Lib.hid tg
  have TE := Lib.hid te
  clear tg te
  go_enter Tryz.func64, Tryz.ntmps64
  go_wp2_with fail
  rw [← HW.out, ← HE.out]
  refine (grant_spec s.gr h.gh _ HG.out HSg.out).mono ?_
  rw [TG.out]
  rintro e w2 ⟨rfl, hb2⟩
  have HB2 := Lib.hid (HB.out.trans (hb2.mono hz))
  have HR2 := Lib.hid (HR.out.below hb2 hgl)
  have HC2 := Lib.hid (HC.out.later hb2)
  have hz2 := HB2.out.size
  have hg2 := HR2.out.lt
  have a4 : w2.cell? ⟨w.heap.size, 4, none⟩ = some (.int .i64 s.ver) := HR2.out.cell 4
  have a5 : w2.cell? ⟨w.heap.size, 5, none⟩ = some (.int .i64 s.lock) := HR2.out.cell 5
  have a6 : w2.cell? ⟨w.heap.size, 6, none⟩ = some (.slice h.cp h.cn h.cc) := HR2.out.cell 6
  clear hb2
 ·go_wp2_with fail
  go_ret
  exact ⟨by rw [TE.out]; rfl, HB2.out⟩
 ·go_wp2_with (first | (go_at_call 102; refine (is_at (by assumption)).mono ?_; rintro e w' ⟨rfl, hww⟩; rw [hww]; clear hww w') | (go_at_call 101; refine (time_at (by assumption)).mono ?_; rintro e w' ⟨rfl, hww⟩; rw [hww]; clear hww w'))
  go_ret
  exact ⟨by rw [TE.out]; rfl, HB2.out⟩
 ·go_wp2_with (first | (go_at_call 102; refine (is_at (by assumption)).mono ?_; rintro e w' ⟨rfl, hww⟩; rw [hww]; clear hww w') | (go_at_call 101; refine (time_at (by assumption)).mono ?_; rintro e w' ⟨rfl, hww⟩; rw [hww]; clear hww w'))
  go_ret
  exact ⟨by rw [TE.out]; rfl, HB2.out⟩
 ·have e4 : 4 < h.cn := by have := HN.out; omega
  go_wp2_with (first | (go_at_call 102; refine (is_at (by assumption)).mono ?_; rintro e w' ⟨rfl, hww⟩; rw [hww]; clear hww w') | (go_at_call 101; refine (time_at (by assumption)).mono ?_; rintro e w' ⟨rfl, hww⟩; rw [hww]; clear hww w'))
  go_ret
  exact ⟨by rw [TE.out]; rfl, HB2.out⟩
 ·have e4 : h.cn ≤ 4 := by have := HN.out; omega
  go_wp2_with (first | (go_at_call 102; refine (is_at (by assumption)).mono ?_; rintro e w' ⟨rfl, hww⟩; rw [hww]; clear hww w') | (go_at_call 101; refine (time_at (by assumption)).mono ?_; rintro e w' ⟨rfl, hww⟩; rw [hww]; clear hww w'))
  go_loopw [3] (StRel s.cache w2) (fun i _ => h.cn - (RowKit.intOf i).toNat)
  case atStart => exact ⟨0, by omega, rfl, rfl, Below.refl _ _⟩
  case round =>
   obtain ⟨k, hk, rfl, he, hbel⟩ := hrel
   rw [← HN.out] at hk
   have HEq := Lib.hid he
   have HBl := Lib.hid (HB2.out.trans (hbel.mono hz2))
   have HBw := Lib.hid hbel
   have HCr := Lib.hid (HC2.out.later hbel)
   have HRr := Lib.hid (HR2.out.below hbel hg2)
   have hzr := HBl.out.size
   have c6 : wr.cell? ⟨w.heap.size, 6, none⟩ = some (.slice h.cp h.cn h.cc) := HRr.out.cell 6
   clear he hbel
   by_cases hlt : k < h.cn
   ·obtain ⟨x, hx⟩ : ∃ x, s.cache[k]? = some x := ⟨_, List.getElem?_eq_getElem (by rw [← HN.out]; exact hlt)⟩
    obtain ⟨b, o, hp, hat⟩ := HCr.out.some hx
    obtain ⟨c0, c1, c2, c3⟩ := en_cells hat hx
    have HEv := Lib.hid (show enV x = .agg #[.int .i64 x.token, .int .i64 x.client, .int .i64 x.till, .int .i64 x.ver] from rfl)
    have HX := Lib.hid hx
    clear hx hat
    rw [hp] at c6
    have f6 : ∀ u : Ext wr, u.w.cell? ⟨w.heap.size, 6, none⟩ = some (.slice (some ⟨b, o, none⟩) h.cn h.cc) := fun u => u.cell c6
    have f0 : ∀ u : Ext wr, u.w.cell? ⟨b, o + k * 4, none⟩ = some (.int .i64 x.token) := fun u => u.cell c0
    have f1 : ∀ u : Ext wr, u.w.cell? ⟨b, o + k * 4 + 1, none⟩ = some (.int .i64 x.client) := fun u => u.cell c1
    have f2 : ∀ u : Ext wr, u.w.cell? ⟨b, o + k * 4 + 2, none⟩ = some (.int .i64 x.till) := fun u => u.cell c2
    have f3 : ∀ u : Ext wr, u.w.cell? ⟨b, o + k * 4 + 3, none⟩ = some (.int .i64 x.ver) := fun u => u.cell c3
    have HCp : Hid (LIn enCf wr (some ⟨b, o, none⟩) s.cache) := Lib.hid (hp ▸ HCr.out)
    clear hp
    have hst := HEq.out.trans (cacheOk_at HX.out)
    cases t1 : entryB x with
    | false =>
     have HS : Hid (storeB s = false) := Lib.hid (by rw [TE.out, hst, t1]; rfl)
     have T1 := Lib.hid t1
     clear t1 hst
     go_wp2_with fail
     refine ext_region wr (by kernel_rfl) (by kernel_rfl) (Below.refl _ _) ?_
     repeat (go_big_quiet_step ((go_at_call 65; exact calls_ext (entry_spec_at T1.out))))
     refine wpQuiet_nil ?_
     intro w3 hb3
     have HB3 := Lib.hid (HBl.out.trans (hb3.mono hzr))
     clear hb3
     go_wp2_with fail
     go_ret
     exact ⟨by rw [HS.out]; rfl, HB3.out⟩
    | true =>
     have T1 := Lib.hid t1
     have hix := enIx_first HX.out
     cases t2 : hasTok (s.cache.take k) x.token with
     | true =>
      have HS : Hid (storeB s = false) := Lib.hid (by rw [TE.out, hst, t1, t2]; rfl)
      rw [t2] at hix
      obtain ⟨r, hr⟩ : ∃ r, enIx s.cache x.token = r := ⟨_, rfl⟩
      rw [hr] at hix
      have HRx := Lib.hid hr
      clear t1 t2 hst hr
      go_wp2_with fail
      refine ext_region wr (by kernel_rfl) (by kernel_rfl) (Below.refl _ _) ?_
      repeat (go_big_quiet_step (first | (go_at_call 65; exact calls_ext (entry_spec_at T1.out)) | (go_at_call 125; exact enAt_ext HN.out HCp.out hsc HRx.out)))
      refine wpQuiet_nil ?_
      intro w3 hb3
      have HB3 := Lib.hid (HBl.out.trans (hb3.mono hzr))
      clear hb3
      go_wp2_with fail
      go_ret
      exact ⟨by rw [HS.out]; rfl, HB3.out⟩
     | false =>
      rw [t1, t2] at hst
      have HNx := Lib.hid hst
      rw [t2] at hix
      obtain ⟨r, hr⟩ : ∃ r, enIx s.cache x.token = r := ⟨_, rfl⟩
      rw [hr] at hix
      have HRx := Lib.hid hr
      clear t1 t2 hst hr
      go_wp2_with fail
      refine ext_region wr (by kernel_rfl) (by kernel_rfl) (Below.refl _ _) ?_
      repeat (go_big_quiet_step (first | (go_at_call 65; exact calls_ext (entry_spec_at T1.out)) | (go_at_call 125; exact enAt_ext HN.out HCp.out hsc HRx.out)))
      refine wpQuiet_nil ?_
      intro w3 hb3
      have HB3 := Lib.hid (HBw.out.trans (hb3.mono HBw.out.size))
      clear hb3
      go_wp2_with fail
      go_roundw
      case rel => exact ⟨k + 1, by rw [← HN.out]; omega, by go_num, HNx.out, HB3.out⟩
      case measure => simp [RowKit.intOf]; omega
   ·have HS : Hid (storeB s = true) := Lib.hid (by rw [TE.out, HEq.out]; exact cacheOk_end (by rw [← HN.out]; omega))
    go_wp2_with fail
    go_ret
    exact ⟨by rw [HS.out]; rfl, HBl.out⟩
end Go.Proofs.YtjccnjfdeedneaaGreat
