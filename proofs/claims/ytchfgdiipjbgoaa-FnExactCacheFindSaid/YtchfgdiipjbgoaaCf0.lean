/- CacheFind: the model's search. -/
import Derived.Test.YtchfgdiipjbgoaaSh5
import Derived.Test.YtchfgdiipjbgoaaStSpec
namespace Go.Proofs.Ytchfgdiipjbgoaa
open Go Go.RowKit Go.Lib
set_option linter.unusedVariables false
set_option maxRecDepth 100000

set_option maxHeartbeats 2000000 in
theorem lfind_spec (s : St) (h : SH) (t v : Int) (w : World) (hin : StIn w h s) (hl : s.cache.length ≤ 1048576) : Calls Try.prog 13 #[stV s h, .int .i64 t, .int .i64 v] w (Ret (enV (findE s.cache t v)) w) := by
  obtain ⟨W, hW⟩ : ∃ W, W = (w.alloc (.cells #[.int .i64 s.gr.now, .slice h.gh.wp h.gh.wn h.gh.wc, .slice h.gh.kp h.gh.kn h.gh.kc, .slice h.gh.dp h.gh.dn h.gh.dc, .int .i64 s.ver, .int .i64 s.lock, .slice h.cp h.cn h.cc] 40)).alloc (.cells #[.int .i64 0, .int .i64 0, .int .i64 0, .int .i64 0] 32) := ⟨_, rfl⟩
  have hb0 : Below w.heap.size w W := by rw [hW]; go_grown
  have r0 : Row W w.heap.size 40 (stL s h) := by
    rw [hW]
    exact Row.below (heap_alloc_new w _) ((Below.refl _ _).alloc (Nat.le_refl _) _) (by simp)
  have r1 : Row W (w.heap.size + 1) 32 (enCf zE) := by
    rw [hW]
    have h := heap_alloc_new (w.alloc (.cells #[.int .i64 s.gr.now, .slice h.gh.wp h.gh.wn h.gh.wc, .slice h.gh.kp h.gh.kn h.gh.kc, .slice h.gh.dp h.gh.dn h.gh.dc, .int .i64 s.ver, .int .i64 s.lock, .slice h.cp h.cn h.cc] 40)) (.cells #[.int .i64 0, .int .i64 0, .int .i64 0, .int .i64 0] 32)
    rw [World.size_alloc] at h
    exact h
  obtain ⟨g, hg⟩ : ∃ g, g = w.heap.size + 1 := ⟨_, rfl⟩
  rw [← hg] at r1
  have hwg : w.heap.size < g := by omega
  have hz := r1.lt
  have HW := Lib.hid hW
  have HG := Lib.hid hg
  have HIN := Lib.hid (StIn.later hin hb0)
  have HB := Lib.hid hb0
  have HR0 := Lib.hid r0
  have HR1 := Lib.hid r1
  have HE := Lib.hid (show stV s h = .agg #[.int .i64 s.gr.now, .slice h.gh.wp h.gh.wn h.gh.wc, .slice h.gh.kp h.gh.kn h.gh.kc, .slice h.gh.dp h.gh.dn h.gh.dc, .int .i64 s.ver, .int .i64 s.lock, .slice h.cp h.cn h.cc] from rfl)
  obtain ⟨i, hi⟩ : ∃ i, i = enIx s.cache t := ⟨_, rfl⟩
  have hcn : h.cn = s.cache.length := hin.2.1
  have HP := Lib.hid (enAt_spec h.cp h.cc s.cache t W HIN.out.2.2 hl)
  have HN := Lib.hid hcn
  have a6 : W.cell? ⟨w.heap.size, 6, none⟩ = some (.slice h.cp h.cn h.cc) := r0.cell 6
  rw [hcn] at a6
  clear hin hb0 r0 r1 hW hg hcn
  rw [HE.out]
  go_enter Try.func13, Try.ntmps13
  go_wp2_with fail
  rw [← HG.out, ← HW.out, HN.out]
  refine HP.out.mono ?_
  rintro e W2 ⟨rfl, hw2⟩
  rw [hw2, ← hi]
  clear hw2
  cases ht : hasTok s.cache t with
  | false =>
    have hi1 : i = -1 := by rw [hi]; simp [enIx, ht]
    have hr : findE s.cache t v = zE := findE_none ht
    clear hi
    subst hi1
    go_wp2_with (refine Stop.out (p := wpList _ _ _ [{ dst := none, op := .store 32 (.tmp 6) (.tmp 24), type := _, pos := _, after := _, guard := _ }] _ _) ?_)
    constructor
    refine wpList_store_to rfl 32 (.tmp 6) (.tmp 24) rfl g 0 #[.int .i64 0, .int .i64 0, .int .i64 0, .int .i64 0] rfl rfl (HR1.out.there 0 4 (by simp [enCf])) sizeEn (oneEnV zE) ?_
    intro Y hY
    have rz : Row Y g 32 (enCf zE) := by rw [hY]; exact HR1.out.setCells _ 0
    have RZ := Lib.hid rz
    have BZ := Lib.hid (show Below w.heap.size w Y by rw [hY]; exact below_setCells (by omega) _ _ HB.out)
    clear hY rz
    go_wp2_with fail
    refine bodyPost_ret (ret_en (x := zE) rfl rfl RZ.out) rfl ?_
    exact ⟨by rw [hr], BZ.out⟩
  | true =>
    obtain ⟨k, x, hk, hx, -, -⟩ := enIx_some ht
    have hF := findE_at (v := v) ht hk hx
    rw [hk] at hi
    subst hi
    have hkl : k < s.cache.length := (List.getElem?_eq_some_iff.1 hx).1
    obtain ⟨gN, oN, hcp, hat⟩ := HIN.out.2.2.some hx
    rw [hcp] at a6
    obtain ⟨e0, e1, e2, e3⟩ := en_cells hat hx
    cases hv : (x.ver != v) with
    | true =>
      have hr : findE s.cache t v = zE := by rw [hF, if_neg (by simpa using hv)]
      clear hF hat
      go_wp2_with (refine Stop.out (p := wpList _ _ _ [{ dst := none, op := .store 32 (.tmp 6) (.tmp 24), type := _, pos := _, after := _, guard := _ }] _ _) ?_)
      constructor
      refine wpList_store_to rfl 32 (.tmp 6) (.tmp 24) rfl g 0 #[.int .i64 0, .int .i64 0, .int .i64 0, .int .i64 0] rfl rfl (HR1.out.there 0 4 (by simp [enCf])) sizeEn (oneEnV zE) ?_
      intro Y hY
      have rz : Row Y g 32 (enCf zE) := by rw [hY]; exact HR1.out.setCells _ 0
      have RZ := Lib.hid rz
      have BZ := Lib.hid (show Below w.heap.size w Y by rw [hY]; exact below_setCells (by omega) _ _ HB.out)
      clear hY rz
      go_wp2_with fail
      refine bodyPost_ret (ret_en (x := zE) rfl rfl RZ.out) rfl ?_
      exact ⟨by rw [hr], BZ.out⟩
    | false =>
      have hr : findE s.cache t v = x := by rw [hF, if_pos (by simpa using hv)]
      clear hF hat
      go_wp2_with (refine Stop.out (p := wpList _ _ _ [{ dst := none, op := .store 32 (.tmp 6) (.tmp 29), type := _, pos := _, after := _, guard := _ }] _ _) ?_)
      constructor
      refine wpList_store_to rfl 32 (.tmp 6) (.tmp 29) rfl g 0 #[.int .i64 x.token, .int .i64 x.client, .int .i64 x.till, .int .i64 x.ver] rfl rfl (HR1.out.there 0 4 (by simp [enCf])) sizeEn (oneEnV x) ?_
      intro Y hY
      have rz : Row Y g 32 (enCf x) := by rw [hY]; exact HR1.out.setCells _ 0
      have RZ := Lib.hid rz
      have BZ := Lib.hid (show Below w.heap.size w Y by rw [hY]; exact below_setCells (by omega) _ _ HB.out)
      clear hY rz
      go_wp2_with fail
      refine bodyPost_ret (ret_en (x := x) rfl rfl RZ.out) rfl ?_
      exact ⟨by rw [hr], BZ.out⟩
end Go.Proofs.Ytchfgdiipjbgoaa
