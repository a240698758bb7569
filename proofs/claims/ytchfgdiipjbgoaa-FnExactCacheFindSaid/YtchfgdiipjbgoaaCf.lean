/- CacheFind: the contracts of both sides. -/
import Derived.Test.YtchfgdiipjbgoaaCf0
namespace Go.Proofs.Ytchfgdiipjbgoaa
open Go Go.RowKit Go.Lib
set_option linter.unusedVariables false
set_option maxRecDepth 100000

def cfE (s : St) (t v : Int) : En := if storeB s then findE s.cache t v else zE
set_option maxHeartbeats 2000000 in
theorem cf_spec (s : St) (h : SH) (t v : Int) (w : World) (hin : StIn w h s) (hs : StSmall s) : Calls Try.prog 5 #[stV s h, .int .i64 t, .int .i64 v] w (Ret (enV (cfE s t v)) w) := by
  obtain ⟨W, hW⟩ : ∃ W, W = (w.alloc (.cells #[.int .i64 s.gr.now, .slice h.gh.wp h.gh.wn h.gh.wc, .slice h.gh.kp h.gh.kn h.gh.kc, .slice h.gh.dp h.gh.dn h.gh.dc, .int .i64 s.ver, .int .i64 s.lock, .slice h.cp h.cn h.cc] 40)).alloc (.cells #[.int .i64 0, .int .i64 0, .int .i64 0, .int .i64 0] 32) := ⟨_, rfl⟩
  have hb0 : Below w.heap.size w W := by rw [hW]; go_grown
  have r0 : Row W w.heap.size 40 (stL s h) := by
    rw [hW]
    exact Row.below (heap_alloc_new w _) ((Below.refl _ _).alloc (Nat.le_refl _) _) (by simp)
  have r1 : Row W (w.heap.size + 1) 32 (enCf zE) := by
    rw [hW]
    have h := heap_alloc_new (w.alloc (.cells #[.int .i64 s.gr.now, .slice h.gh.wp h.gh.wn h.gh.wc, .slice h.gh.kp h.gh.kn h.gh.kc, .slice h.gh.dp h.gh.dn h.gh.dc, .int .i64 s.ver, .int .i64 s.lock, .slice h.cp h.cn h.cc] 40)) (.cells #[.int .i64 0, .int .i64 0, .int .i64 0, .int .i64 0] 32)
    rw [World.size_alloc] at h
    exact h
  obtain ⟨g, hg⟩ : ∃ g, g = w.heap.size + 1 := ⟨_, rfl⟩
  rw [← hg] at r1
  have hwg : w.heap.size < g := by omega
  have hz := r1.lt
  have HW := Lib.hid hW
  have HG := Lib.hid hg
  have HIN := Lib.hid (StIn.later hin hb0)
  have HB := Lib.hid hb0
  have HR0 := Lib.hid r0
  have HR1 := Lib.hid r1
  have HE := Lib.hid (show stV s h = .agg #[.int .i64 s.gr.now, .slice h.gh.wp h.gh.wn h.gh.wc, .slice h.gh.kp h.gh.kn h.gh.kc, .slice h.gh.dp h.gh.dn h.gh.dc, .int .i64 s.ver, .int .i64 s.lock, .slice h.cp h.cn h.cc] from rfl)
  have a0 : W.cell? ⟨w.heap.size, 0, none⟩ = some (.int .i64 s.gr.now) := r0.cell 0
  have a1 : W.cell? ⟨w.heap.size, 1, none⟩ = some (.slice h.gh.wp h.gh.wn h.gh.wc) := r0.cell 1
  have a2 : W.cell? ⟨w.heap.size, 2, none⟩ = some (.slice h.gh.kp h.gh.kn h.gh.kc) := r0.cell 2
  have a3 : W.cell? ⟨w.heap.size, 3, none⟩ = some (.slice h.gh.dp h.gh.dn h.gh.dc) := r0.cell 3
  have a4 : W.cell? ⟨w.heap.size, 4, none⟩ = some (.int .i64 s.ver) := r0.cell 4
  have a5 : W.cell? ⟨w.heap.size, 5, none⟩ = some (.int .i64 s.lock) := r0.cell 5
  have a6 : W.cell? ⟨w.heap.size, 6, none⟩ = some (.slice h.cp h.cn h.cc) := r0.cell 6
  have HP := Lib.hid (store_spec s h W HIN.out hs)
  clear hin hb0 r0 r1 hW hg
  rw [HE.out]
  go_enter Try.func5, Try.ntmps5
  go_wp2_with fail
  rw [← HG.out, ← HW.out, ← HE.out]
  refine HP.out.mono ?_
  rintro e W2 ⟨rfl, hb2⟩
  have HB2 := Lib.hid (HB.out.trans (hb2.mono (by omega)))
  have HR2 := Lib.hid (HR1.out.below hb2 hz)
  have HS2 := Lib.hid (HR0.out.below hb2 (by omega))
  have HIN2 := Lib.hid (StIn.later HIN.out hb2)
  have hz2 := HR2.out.lt
  clear hb2 a0 a1 a2 a3 a4 a5 a6
  cases hst : storeB s with
  | false =>
    have hr : cfE s t v = zE := by simp [cfE, hst]
    go_wp2_with (refine Stop.out (p := wpList _ _ _ [{ dst := none, op := .store 32 (.tmp 6) (.tmp 10), type := _, pos := _, after := _, guard := _ }] _ _) ?_)
    constructor
    refine wpList_store_to rfl 32 (.tmp 6) (.tmp 10) rfl g 0 #[.int .i64 0, .int .i64 0, .int .i64 0, .int .i64 0] rfl rfl (HR2.out.there 0 4 (by simp [enCf])) sizeEn (oneEnV zE) ?_
    intro Y hY
    have rz : Row Y g 32 (enCf zE) := by rw [hY]; exact HR2.out.setCells _ 0
    have RZ := Lib.hid rz
    have BZ := Lib.hid (show Below w.heap.size w Y by rw [hY]; exact below_setCells (by omega) _ _ HB2.out)
    clear hY rz
    go_wp2_with fail
    refine bodyPost_ret (ret_en (x := zE) rfl rfl RZ.out) rfl ?_
    exact ⟨by rw [hr], BZ.out⟩
  | true =>
    have hr : cfE s t v = findE s.cache t v := by simp [cfE, hst]
    have a0 : W2.cell? ⟨w.heap.size, 0, none⟩ = some (.int .i64 s.gr.now) := HS2.out.cell 0
    have a1 : W2.cell? ⟨w.heap.size, 1, none⟩ = some (.slice h.gh.wp h.gh.wn h.gh.wc) := HS2.out.cell 1
    have a2 : W2.cell? ⟨w.heap.size, 2, none⟩ = some (.slice h.gh.kp h.gh.kn h.gh.kc) := HS2.out.cell 2
    have a3 : W2.cell? ⟨w.heap.size, 3, none⟩ = some (.slice h.gh.dp h.gh.dn h.gh.dc) := HS2.out.cell 3
    have a4 : W2.cell? ⟨w.heap.size, 4, none⟩ = some (.int .i64 s.ver) := HS2.out.cell 4
    have a5 : W2.cell? ⟨w.heap.size, 5, none⟩ = some (.int .i64 s.lock) := HS2.out.cell 5
    have a6 : W2.cell? ⟨w.heap.size, 6, none⟩ = some (.slice h.cp h.cn h.cc) := HS2.out.cell 6
    go_wp2_with fail
    rw [← HE.out]
    refine (lfind_spec s h t v W2 HIN2.out hs.2).mono ?_
    rintro e W3 ⟨rfl, hb3⟩
    have HB3 := Lib.hid (HB2.out.trans (hb3.mono (by omega)))
    have HR3 := Lib.hid (HR2.out.below hb3 hz2)
    clear hb3
    obtain ⟨x, hx⟩ : ∃ x, x = findE s.cache t v := ⟨_, rfl⟩
    rw [← hx] at hr ⊢
    clear hx
    unfold enV
    go_wp2_with (refine Stop.out (p := wpList _ _ _ [{ dst := none, op := .store 32 (.tmp 6) (.tmp 14), type := _, pos := _, after := _, guard := _ }] _ _) ?_)
    constructor
    refine wpList_store_to rfl 32 (.tmp 6) (.tmp 14) rfl g 0 #[.int .i64 x.token, .int .i64 x.client, .int .i64 x.till, .int .i64 x.ver] rfl rfl (HR3.out.there 0 4 (by simp [enCf])) sizeEn (oneEnV x) ?_
    intro Y hY
    have rz : Row Y g 32 (enCf x) := by rw [hY]; exact HR3.out.setCells _ 0
    have RZ := Lib.hid rz
    have BZ := Lib.hid (show Below w.heap.size w Y by rw [hY]; exact below_setCells (by omega) _ _ HB3.out)
    clear hY rz
    go_wp2_with fail
    refine bodyPost_ret (ret_en (x := x) rfl rfl RZ.out) rfl ?_
    exact ⟨by rw [hr], BZ.out⟩
set_option maxHeartbeats 2000000 in
theorem cf_impl (s : St) (h : SH) (t v : Int) (w : World) (hin : StIn w h s) (hs : StSmall s) (hf : GrWf s.gr) (hcap : h.cn ≤ h.cc ∧ h.cc ≤ 1048576) (hsrc : Src enCf w (.slice h.cp h.cn h.cc) s.cache) : Calls Try.prog 7 #[stV s h, .int .i64 t, .int .i64 v] w (Ret (enV (cfE s t v)) w) := by
  obtain ⟨W, hW⟩ : ∃ W, W = (w.alloc (.cells #[.int .i64 s.gr.now, .slice h.gh.wp h.gh.wn h.gh.wc, .slice h.gh.kp h.gh.kn h.gh.kc, .slice h.gh.dp h.gh.dn h.gh.dc, .int .i64 s.ver, .int .i64 s.lock, .slice h.cp h.cn h.cc] 40)).alloc (.cells #[.int .i64 0, .int .i64 0, .int .i64 0, .int .i64 0] 32) := ⟨_, rfl⟩
  have hb0 : Below w.heap.size w W := by rw [hW]; go_grown
  have r0 : Row W w.heap.size 40 (stL s h) := by
    rw [hW]
    exact Row.below (heap_alloc_new w _) ((Below.refl _ _).alloc (Nat.le_refl _) _) (by simp)
  have r1 : Row W (w.heap.size + 1) 32 (enCf zE) := by
    rw [hW]
    have h := heap_alloc_new (w.alloc (.cells #[.int .i64 s.gr.now, .slice h.gh.wp h.gh.wn h.gh.wc, .slice h.gh.kp h.gh.kn h.gh.kc, .slice h.gh.dp h.gh.dn h.gh.dc, .int .i64 s.ver, .int .i64 s.lock, .slice h.cp h.cn h.cc] 40)) (.cells #[.int .i64 0, .int .i64 0, .int .i64 0, .int .i64 0] 32)
    rw [World.size_alloc] at h
    exact h
  obtain ⟨g, hg⟩ : ∃ g, g = w.heap.size + 1 := ⟨_, rfl⟩
  rw [← hg] at r1
  have hwg : w.heap.size < g := by omega
  have hz := r1.lt
  have HW := Lib.hid hW
  have HG := Lib.hid hg
  have HIN := Lib.hid (StIn.later hin hb0)
  have HB := Lib.hid hb0
  have HR0 := Lib.hid r0
  have HR1 := Lib.hid r1
  have HE := Lib.hid (show stV s h = .agg #[.int .i64 s.gr.now, .slice h.gh.wp h.gh.wn h.gh.wc, .slice h.gh.kp h.gh.kn h.gh.kc, .slice h.gh.dp h.gh.dn h.gh.dc, .int .i64 s.ver, .int .i64 s.lock, .slice h.cp h.cn h.cc] from rfl)
  have HSR := Lib.hid (Src.later hsrc hb0)
  have a0 : W.cell? ⟨w.heap.size, 0, none⟩ = some (.int .i64 s.gr.now) := r0.cell 0
  have a1 : W.cell? ⟨w.heap.size, 1, none⟩ = some (.slice h.gh.wp h.gh.wn h.gh.wc) := r0.cell 1
  have a2 : W.cell? ⟨w.heap.size, 2, none⟩ = some (.slice h.gh.kp h.gh.kn h.gh.kc) := r0.cell 2
  have a3 : W.cell? ⟨w.heap.size, 3, none⟩ = some (.slice h.gh.dp h.gh.dn h.gh.dc) := r0.cell 3
  have a4 : W.cell? ⟨w.heap.size, 4, none⟩ = some (.int .i64 s.ver) := r0.cell 4
  have a5 : W.cell? ⟨w.heap.size, 5, none⟩ = some (.int .i64 s.lock) := r0.cell 5
  have a6 : W.cell? ⟨w.heap.size, 6, none⟩ = some (.slice h.cp h.cn h.cc) := r0.cell 6
  have HP := Lib.hid (store_imp s h W HIN.out hs hf hcap)
  clear hin hb0 r0 r1 hW hg hsrc
  rw [HE.out]
  go_enter Try.func7, Try.ntmps7
  go_wp2_with fail
  rw [← HG.out, ← HW.out, ← HE.out]
  refine HP.out.mono ?_
  rintro e W2 ⟨rfl, hb2⟩
  have HB2 := Lib.hid (HB.out.trans (hb2.mono (by omega)))
  have HR2 := Lib.hid (HR1.out.below hb2 hz)
  have HS2 := Lib.hid (HR0.out.below hb2 (by omega))
  have HIN2 := Lib.hid (StIn.later HIN.out hb2)
  have HSR2 := Lib.hid (Src.later HSR.out hb2)
  have hz2 := HR2.out.lt
  clear hb2 a0 a1 a2 a3 a4 a5 a6
  cases hst : storeB s with
  | false =>
    have hr : cfE s t v = zE := by simp [cfE, hst]
    go_wp2_with (refine Stop.out (p := wpList _ _ _ [{ dst := none, op := .store 32 (.tmp 6) (.tmp 10), type := _, pos := _, after := _, guard := _ }] _ _) ?_)
    constructor
    refine wpList_store_to rfl 32 (.tmp 6) (.tmp 10) rfl g 0 #[.int .i64 0, .int .i64 0, .int .i64 0, .int .i64 0] rfl rfl (HR2.out.there 0 4 (by simp [enCf])) sizeEn (oneEnV zE) ?_
    intro Y hY
    have rz : Row Y g 32 (enCf zE) := by rw [hY]; exact HR2.out.setCells _ 0
    have RZ := Lib.hid rz
    have BZ := Lib.hid (show Below w.heap.size w Y by rw [hY]; exact below_setCells (by omega) _ _ HB2.out)
    clear hY rz
    go_wp2_with fail
    refine bodyPost_ret (ret_en (x := zE) rfl rfl RZ.out) rfl ?_
    exact ⟨by rw [hr], BZ.out⟩
  | true =>
    have hr : cfE s t v = findE s.cache t v := by simp [cfE, hst]
    have a0 : W2.cell? ⟨w.heap.size, 0, none⟩ = some (.int .i64 s.gr.now) := HS2.out.cell 0
    have a1 : W2.cell? ⟨w.heap.size, 1, none⟩ = some (.slice h.gh.wp h.gh.wn h.gh.wc) := HS2.out.cell 1
    have a2 : W2.cell? ⟨w.heap.size, 2, none⟩ = some (.slice h.gh.kp h.gh.kn h.gh.kc) := HS2.out.cell 2
    have a3 : W2.cell? ⟨w.heap.size, 3, none⟩ = some (.slice h.gh.dp h.gh.dn h.gh.dc) := HS2.out.cell 3
    have a4 : W2.cell? ⟨w.heap.size, 4, none⟩ = some (.int .i64 s.ver) := HS2.out.cell 4
    have a5 : W2.cell? ⟨w.heap.size, 5, none⟩ = some (.int .i64 s.lock) := HS2.out.cell 5
    have a6 : W2.cell? ⟨w.heap.size, 6, none⟩ = some (.slice h.cp h.cn h.cc) := HS2.out.cell 6
    have hgr : grantB s.gr = true := by unfold storeB at hst; simp only [Bool.and_eq_true] at hst; exact hst.1.1.1.1
    go_wp2_with fail
    rw [← HE.out]
    refine (sharedOf_any s h W2 HIN2.out HSR2.out hgr hs.2).mono ?_
    rintro e W3 ⟨H, td, q, c', rfl, hsb, hrise, hrow, hmaps, htd, ho, hqb, hb3⟩
    have HB3 := Lib.hid (HB2.out.trans (hb3.mono (by omega)))
    have HR3 := Lib.hid (HR2.out.below hb3 hz2)
    have HO := Lib.hid ho
    have HF := Lib.hid (find_any (t := t) (v := v) (hrow.cell 3) (hrow.free 3) (hrow.cell 5) ho (fun k hk => by have := hqb k hk; omega) hs.2)
    have hz3 := HR3.out.lt
    have hgs : g < H.sb := by omega
    clear hb3 hrise hrow hmaps htd ho hqb
    go_wp2_with fail
    refine HF.out.mono ?_
    rintro e W4 ⟨rfl, hb4⟩
    have HB4 := Lib.hid (HB3.out.trans (hb4.mono (by omega)))
    have HR4 := Lib.hid (HR3.out.below hb4 hgs)
    clear hb4
    obtain ⟨x, hx⟩ : ∃ x, x = findE s.cache t v := ⟨_, rfl⟩
    rw [← hx] at hr ⊢
    clear hx
    unfold enV
    go_wp2_with (refine Stop.out (p := wpList _ _ _ [{ dst := none, op := .store 32 (.tmp 6) (.tmp 17), type := _, pos := _, after := _, guard := _ }] _ _) ?_)
    constructor
    refine wpList_store_to rfl 32 (.tmp 6) (.tmp 17) rfl g 0 #[.int .i64 x.token, .int .i64 x.client, .int .i64 x.till, .int .i64 x.ver] rfl rfl (HR4.out.there 0 4 (by simp [enCf])) sizeEn (oneEnV x) ?_
    intro Y hY
    have rz : Row Y g 32 (enCf x) := by rw [hY]; exact HR4.out.setCells _ 0
    have RZ := Lib.hid rz
    have BZ := Lib.hid (show Below w.heap.size w Y by rw [hY]; exact below_setCells (by omega) _ _ HB4.out)
    clear hY rz
    go_wp2_with fail
    refine bodyPost_ret (ret_en (x := x) rfl rfl RZ.out) rfl ?_
    exact ⟨by rw [hr], BZ.out⟩
end Go.Proofs.Ytchfgdiipjbgoaa
