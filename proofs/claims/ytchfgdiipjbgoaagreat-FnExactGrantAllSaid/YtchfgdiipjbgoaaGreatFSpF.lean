/- The model: what a request names. -/
import Derived.Test.YtchfgdiipjbgoaaGreatFSpM
import Derived.Deep.DeepCutAuto
namespace Go.Proofs.YtchfgdiipjbgoaaGreat
open Go Go.RowKit Go.Lib
set_option linter.unusedVariables false
set_option maxRecDepth 100000

def foundIx (g : Gr) (r : RQ) : Int := if r.kind = 2 then (if (wordFor g r).isSome then wdPl g.words r.code else -1) else match keyFor g.keys r.token r.client with
 | some x => if r.kind ≠ 3 ∨ x.refresh = true then keyIx g.keys r.token else -1
 | none => -1
theorem below_call {w X w2 : World} (h : Below w.heap.size w X) (hb : Below X.heap.size X w2) : Below w.heap.size w w2 := h.trans (hb.mono h.size)
set_option maxHeartbeats 4000000 in
theorem found_spec (g : Gr) (h : GH) (r : RQ) (w : World) (hin : GrIn w h g) (hs : GrSmall g) (hp : r.proof.size ≤ 40) : Calls Tryz.prog 170 #[grV g.now h, rqV r] w (Ret (.int .i64 (foundIx g r)) w) := by
 obtain ⟨wp, wn, wc, kp, kn, kc, dp, dn, dc⟩ := h
 have HE0 := Lib.hid (show grV g.now ⟨wp, wn, wc, kp, kn, kc, dp, dn, dc⟩ = .agg #[.int .i64 g.now, .slice wp wn wc, .slice kp kn kc, .slice dp dn dc] from rfl)
 unfold rqV
 obtain ⟨X, hX⟩ : ∃ X, X = (w.alloc (.cells #[.int .i64 g.now, .slice wp wn wc, .slice kp kn kc, .slice dp dn dc] 27)).alloc (.cells #[.int .i64 r.no, .int .i64 r.kind, .int .i64 r.client, .int .i64 r.code, .int .i64 r.token, .string r.proof, .int .i64 r.upTo] 29) := ⟨_, rfl⟩
 obtain ⟨s, hs2⟩ : ∃ s, s = w.heap.size := ⟨_, rfl⟩
 have hbx : Below w.heap.size w X := by rw [hX]; exact ((Below.refl _ _).alloc (Nat.le_refl _) _).alloc (by simp) _
 have hgx : Row X s 27 (grL g.now ⟨wp, wn, wc, kp, kn, kc, dp, dn, dc⟩) := by rw [hX, hs2]; exact Row.below (heap_alloc_new w (.cells #[.int .i64 g.now, .slice wp wn wc, .slice kp kn kc, .slice dp dn dc] 27)) ((Below.refl (w.alloc (.cells #[.int .i64 g.now, .slice wp wn wc, .slice kp kn kc, .slice dp dn dc] 27)).heap.size _).alloc (Nat.le_refl _) _) (by simp)
 have hqx : Row X (s + 1) 29 (rqL r) := by rw [hX, hs2]; exact heap_alloc2_new w (.cells #[.int .i64 g.now, .slice wp wn wc, .slice kp kn kc, .slice dp dn dc] 27) (.cells #[.int .i64 r.no, .int .i64 r.kind, .int .i64 r.client, .int .i64 r.code, .int .i64 r.token, .string r.proof, .int .i64 r.upTo] 29)
 have HX0 := Lib.hid hX
 have HSe := Lib.hid hs2
 have HBx := Lib.hid hbx
 have HGx := Lib.hid hgx
 have HQx := Lib.hid hqx
 have HIx := Lib.hid (hin.later hbx)
 have hzx := hbx.size
 have HSm := Lib.hid hs
 have HWn : Hid (wn = g.words.length) := Lib.hid hin.1.1
 have HKn : Hid (kn = g.keys.length) := Lib.hid hin.1.2.1
 have hw' : wn ≤ 1048576 := by have := hs.1; have := HWn.out; omega
 have hk' : kn ≤ 1048576 := by have := hs.2.1; have := HKn.out; omega
 have q1 : X.cell? ⟨s + 1, 1, none⟩ = some (.int .i64 r.kind) := hqx.cell 1
 have q3 : X.cell? ⟨s + 1, 3, none⟩ = some (.int .i64 r.code) := hqx.cell 3
 have q4 : X.cell? ⟨s + 1, 4, none⟩ = some (.int .i64 r.token) := hqx.cell 4
 have g0 : X.cell? ⟨s, 0, none⟩ = some (.int .i64 g.now) := hgx.cell 0
 have g1 : X.cell? ⟨s, 1, none⟩ = some (.slice wp wn wc) := hgx.cell 1
 have g2 : X.cell? ⟨s, 2, none⟩ = some (.slice kp kn kc) := hgx.cell 2
 have g3 : X.cell? ⟨s, 3, none⟩ = some (.slice dp dn dc) := hgx.cell 3
 clear hX hs2 hbx hgx hqx hin hs
 rw [HE0.out]
 by_cases hk2 : r.kind = 2
 ·have e0 : (r.kind == 2) = true := by simpa using hk2
  cases hf : findW g.words r.code with
  | none =>
   have HF : Hid (foundIx g r = -1) := Lib.hid (by unfold foundIx; rw [if_pos hk2]; simp [wordFor, hf])
   have HJ := Lib.hid (wdPl_none hf)
   clear hf hk2
   go_enter Tryz.func170, Tryz.ntmps170
   go_upto_region 1 with fail
   rw [← HX0.out, ← HSe.out]
   go_wp2_with fail
   rw [← HE0.out]
   refine (word_pl HWn.out HIx.out.2.1 (by rw [← HWn.out]; exact hw') HJ.out).mono ?_
   rintro e w2 ⟨rfl, hb2⟩
   have HB2 := Lib.hid (below_call HBx.out hb2)
   have hz2 := HB2.out.size
   have HI2 := Lib.hid (HIx.out.later hb2)
   have HGr := Lib.hid (HGx.out.below hb2 HGx.out.lt)
   have HQr := Lib.hid (HQx.out.below hb2 HQx.out.lt)
   clear hb2 q1 q3 q4 g0 g1 g2 g3
   have u1 : ∀ u : Ext w2, u.w.cell? ⟨s, 1, none⟩ = some (.slice wp wn wc) := fun u => u.cell (HGr.out.cell 1)
   have u2 : ∀ u : Ext w2, u.w.cell? ⟨s + 1, 2, none⟩ = some (.int .i64 r.client) := fun u => u.cell (HQr.out.cell 2)
   have u3 : ∀ u : Ext w2, u.w.cell? ⟨s + 1, 5, none⟩ = some (.string r.proof) := fun u => u.cell (HQr.out.cell 5)
   have u4 : ∀ u : Ext w2, u.w.cell? ⟨s + 1, 1, none⟩ = some (.int .i64 r.kind) := fun u => u.cell (HQr.out.cell 1)
   go_wp2_with fail
   refine ext_region w2 (by kernel_rfl) (by kernel_rfl) (Below.refl _ _) ?_
   repeat (go_big_quiet_step (fail))
   refine wpQuiet_nil ?_
   intro w3 hb3
   have HB3 := Lib.hid (HB2.out.trans (hb3.mono hz2))
   clear hb3
   go_wp2_with fail
   go_ret
   exact ⟨by rw [HF.out]; rfl, HB3.out⟩
  | some x =>
   obtain ⟨k, hk, hx, hxn⟩ := wdPl_some hf
   obtain ⟨wb, wo, hwp, hat⟩ := HIx.out.2.1.some hx
   obtain ⟨_, c1, c2, _, _⟩ := wd_cells hat hx
   simp only at hwp
   subst hwp
   have HJ := Lib.hid hk
   have hkl : k < wn := by have := (List.getElem?_eq_some_iff.1 hx).1; have := HWn.out; omega
   have C1 := Lib.hid c1
   have C2 := Lib.hid c2
   have hwb : wb < X.heap.size := World.block_lt_of_cell? X _ c1
   have HFd := Lib.hid hf
   have HK2 := Lib.hid hk2
   clear hx hat c1 c2 hf hk2 hk
   cases hcl : x.client == r.client with
   | false =>
    have HF : Hid (foundIx g r = -1) := Lib.hid (by unfold foundIx; rw [if_pos HK2.out]; simp [wordFor, HFd.out, hcl])
    go_enter Tryz.func170, Tryz.ntmps170
    go_upto_region 1 with fail
    rw [← HX0.out, ← HSe.out]
    go_wp2_with fail
    rw [← HE0.out]
    refine (word_pl HWn.out HIx.out.2.1 (by rw [← HWn.out]; exact hw') HJ.out).mono ?_
    rintro e w2 ⟨rfl, hb2⟩
    have HB2 := Lib.hid (below_call HBx.out hb2)
    have hz2 := HB2.out.size
    have HI2 := Lib.hid (HIx.out.later hb2)
    have HGr := Lib.hid (HGx.out.below hb2 HGx.out.lt)
    have HQr := Lib.hid (HQx.out.below hb2 HQx.out.lt)
    have d1 : ∀ u : Ext w2, u.w.cell? ⟨wb, wo + k * 5 + 1, none⟩ = some (.int .i64 x.client) := fun u => u.cell ((hb2.cell (p := ⟨wb, wo + k * 5 + 1, none⟩) hwb).trans C1.out)
    clear hb2 q1 q3 q4 g0 g1 g2 g3
    have u1 : ∀ u : Ext w2, u.w.cell? ⟨s, 1, none⟩ = some (.slice (some ⟨wb, wo, none⟩) wn wc) := fun u => u.cell (HGr.out.cell 1)
    have u2 : ∀ u : Ext w2, u.w.cell? ⟨s + 1, 2, none⟩ = some (.int .i64 r.client) := fun u => u.cell (HQr.out.cell 2)
    have u3 : ∀ u : Ext w2, u.w.cell? ⟨s + 1, 5, none⟩ = some (.string r.proof) := fun u => u.cell (HQr.out.cell 5)
    have u4 : ∀ u : Ext w2, u.w.cell? ⟨s + 1, 1, none⟩ = some (.int .i64 r.kind) := fun u => u.cell (HQr.out.cell 1)
    go_wp2_with fail
    refine ext_region w2 (by kernel_rfl) (by kernel_rfl) (Below.refl _ _) ?_
    repeat (go_big_quiet_step (fail))
    refine wpQuiet_nil ?_
    intro w3 hb3
    have HB3 := Lib.hid (HB2.out.trans (hb3.mono hz2))
    clear hb3
    go_wp2_with fail
    go_ret
    exact ⟨by rw [HF.out]; rfl, HB3.out⟩
   | true =>
    cases hsd : (x.shade.toList == (shadeT r.proof).toList) with
    | false =>
     have HF : Hid (foundIx g r = -1) := Lib.hid (by unfold foundIx; rw [if_pos HK2.out]; simp only [wordFor, HFd.out, hcl, hsd]; rfl)
     go_enter Tryz.func170, Tryz.ntmps170
     go_upto_region 1 with fail
     rw [← HX0.out, ← HSe.out]
     go_wp2_with fail
     rw [← HE0.out]
     refine (word_pl HWn.out HIx.out.2.1 (by rw [← HWn.out]; exact hw') HJ.out).mono ?_
     rintro e w2 ⟨rfl, hb2⟩
     have HB2 := Lib.hid (below_call HBx.out hb2)
     have hz2 := HB2.out.size
     have HI2 := Lib.hid (HIx.out.later hb2)
     have HGr := Lib.hid (HGx.out.below hb2 HGx.out.lt)
     have HQr := Lib.hid (HQx.out.below hb2 HQx.out.lt)
     have d1 : ∀ u : Ext w2, u.w.cell? ⟨wb, wo + k * 5 + 1, none⟩ = some (.int .i64 x.client) := fun u => u.cell ((hb2.cell (p := ⟨wb, wo + k * 5 + 1, none⟩) hwb).trans C1.out)
     have d2 : ∀ u : Ext w2, u.w.cell? ⟨wb, wo + k * 5 + 2, none⟩ = some (.string x.shade) := fun u => u.cell ((hb2.cell (p := ⟨wb, wo + k * 5 + 2, none⟩) hwb).trans C2.out)
     clear hb2 q1 q3 q4 g0 g1 g2 g3
     have u1 : ∀ u : Ext w2, u.w.cell? ⟨s, 1, none⟩ = some (.slice (some ⟨wb, wo, none⟩) wn wc) := fun u => u.cell (HGr.out.cell 1)
     have u2 : ∀ u : Ext w2, u.w.cell? ⟨s + 1, 2, none⟩ = some (.int .i64 r.client) := fun u => u.cell (HQr.out.cell 2)
     have u3 : ∀ u : Ext w2, u.w.cell? ⟨s + 1, 5, none⟩ = some (.string r.proof) := fun u => u.cell (HQr.out.cell 5)
     have u4 : ∀ u : Ext w2, u.w.cell? ⟨s + 1, 1, none⟩ = some (.int .i64 r.kind) := fun u => u.cell (HQr.out.cell 1)
     go_wp2_with fail
     refine ext_region w2 (by kernel_rfl) (by kernel_rfl) (Below.refl _ _) ?_
     repeat (go_big_quiet_step ((go_at_call 227; exact calls_ext (shade_spec r.proof _ hp))))
     refine wpQuiet_nil ?_
     intro w3 hb3
     have HB3 := Lib.hid (HB2.out.trans (hb3.mono hz2))
     clear hb3
     go_wp2_with fail
     go_ret
     exact ⟨by rw [HF.out]; rfl, HB3.out⟩
    | true =>
     have HF : Hid (foundIx g r = (k : Nat)) := Lib.hid (by unfold foundIx; rw [if_pos HK2.out]; simp only [wordFor, HFd.out, hcl, hsd]; exact HJ.out)
     go_enter Tryz.func170, Tryz.ntmps170
     go_upto_region 1 with fail
     rw [← HX0.out, ← HSe.out]
     go_wp2_with fail
     rw [← HE0.out]
     refine (word_pl HWn.out HIx.out.2.1 (by rw [← HWn.out]; exact hw') HJ.out).mono ?_
     rintro e w2 ⟨rfl, hb2⟩
     have HB2 := Lib.hid (below_call HBx.out hb2)
     have hz2 := HB2.out.size
     have HI2 := Lib.hid (HIx.out.later hb2)
     have HGr := Lib.hid (HGx.out.below hb2 HGx.out.lt)
     have HQr := Lib.hid (HQx.out.below hb2 HQx.out.lt)
     have d1 : ∀ u : Ext w2, u.w.cell? ⟨wb, wo + k * 5 + 1, none⟩ = some (.int .i64 x.client) := fun u => u.cell ((hb2.cell (p := ⟨wb, wo + k * 5 + 1, none⟩) hwb).trans C1.out)
     have d2 : ∀ u : Ext w2, u.w.cell? ⟨wb, wo + k * 5 + 2, none⟩ = some (.string x.shade) := fun u => u.cell ((hb2.cell (p := ⟨wb, wo + k * 5 + 2, none⟩) hwb).trans C2.out)
     clear hb2 q1 q3 q4 g0 g1 g2 g3
     have u1 : ∀ u : Ext w2, u.w.cell? ⟨s, 1, none⟩ = some (.slice (some ⟨wb, wo, none⟩) wn wc) := fun u => u.cell (HGr.out.cell 1)
     have u2 : ∀ u : Ext w2, u.w.cell? ⟨s + 1, 2, none⟩ = some (.int .i64 r.client) := fun u => u.cell (HQr.out.cell 2)
     have u3 : ∀ u : Ext w2, u.w.cell? ⟨s + 1, 5, none⟩ = some (.string r.proof) := fun u => u.cell (HQr.out.cell 5)
     have u4 : ∀ u : Ext w2, u.w.cell? ⟨s + 1, 1, none⟩ = some (.int .i64 r.kind) := fun u => u.cell (HQr.out.cell 1)
     go_wp2_with fail
     refine ext_region w2 (by kernel_rfl) (by kernel_rfl) (Below.refl _ _) ?_
     repeat (go_big_quiet_step ((go_at_call 227; exact calls_ext (shade_spec r.proof _ hp))))
     refine wpQuiet_nil ?_
     intro w3 hb3
     have HB3 := Lib.hid (HB2.out.trans (hb3.mono hz2))
     clear hb3
     go_wp2_with fail
     go_ret
     exact ⟨by rw [HF.out]; rfl, HB3.out⟩
 ·have e0 : (r.kind == 2) = false := by simpa using hk2
  cases hf : findK g.keys r.token with
  | none =>
   have HF : Hid (foundIx g r = -1) := Lib.hid (by unfold foundIx; rw [if_neg hk2]; simp [keyFor, hf])
   have HJ := Lib.hid (keyIx_none hf)
   clear hf hk2
   go_enter Tryz.func170, Tryz.ntmps170
   go_upto_region 1 with fail
   rw [← HX0.out, ← HSe.out]
   go_wp2_with fail
   rw [← HE0.out]
   refine (key_at HKn.out HIx.out.2.2.1 (by rw [← HKn.out]; exact hk') HJ.out).mono ?_
   rintro e w2 ⟨rfl, hb2⟩
   have HB2 := Lib.hid (below_call HBx.out hb2)
   have hz2 := HB2.out.size
   have HI2 := Lib.hid (HIx.out.later hb2)
   have HGr := Lib.hid (HGx.out.below hb2 HGx.out.lt)
   have HQr := Lib.hid (HQx.out.below hb2 HQx.out.lt)
   clear hb2 q1 q3 q4 g0 g1 g2 g3
   have u1 : ∀ u : Ext w2, u.w.cell? ⟨s, 2, none⟩ = some (.slice kp kn kc) := fun u => u.cell (HGr.out.cell 2)
   have u2 : ∀ u : Ext w2, u.w.cell? ⟨s + 1, 2, none⟩ = some (.int .i64 r.client) := fun u => u.cell (HQr.out.cell 2)
   have u3 : ∀ u : Ext w2, u.w.cell? ⟨s + 1, 5, none⟩ = some (.string r.proof) := fun u => u.cell (HQr.out.cell 5)
   have u4 : ∀ u : Ext w2, u.w.cell? ⟨s + 1, 1, none⟩ = some (.int .i64 r.kind) := fun u => u.cell (HQr.out.cell 1)
   go_wp2_with fail
   refine ext_region w2 (by kernel_rfl) (by kernel_rfl) (Below.refl _ _) ?_
   repeat (go_big_quiet_step (fail))
   refine wpQuiet_nil ?_
   intro w3 hb3
   have HB3 := Lib.hid (HB2.out.trans (hb3.mono hz2))
   clear hb3
   go_wp2_with fail
   go_ret
   exact ⟨by rw [HF.out]; rfl, HB3.out⟩
  | some x =>
   obtain ⟨k, hk, hx, hxn⟩ := keyIx_some hf
   obtain ⟨kb, ko, hkp, hat⟩ := HIx.out.2.2.1.some hx
   obtain ⟨_, c1, _, c3, _, _⟩ := ky_cells hat hx
   simp only at hkp
   subst hkp
   have HJ := Lib.hid hk
   have hkl : k < kn := by have := (List.getElem?_eq_some_iff.1 hx).1; have := HKn.out; omega
   have C1 := Lib.hid c1
   have C3 := Lib.hid c3
   have hkb : kb < X.heap.size := World.block_lt_of_cell? X _ c1
   have HFd := Lib.hid hf
   have HK2 := Lib.hid hk2
   clear hx hat c1 c3 hf hk2 hk
   cases hcl : x.client == r.client with
   | false =>
    have HF : Hid (foundIx g r = -1) := Lib.hid (by unfold foundIx; rw [if_neg HK2.out]; simp [keyFor, HFd.out, hcl])
    go_enter Tryz.func170, Tryz.ntmps170
    go_upto_region 1 with fail
    rw [← HX0.out, ← HSe.out]
    go_wp2_with fail
    rw [← HE0.out]
    refine (key_at HKn.out HIx.out.2.2.1 (by rw [← HKn.out]; exact hk') HJ.out).mono ?_
    rintro e w2 ⟨rfl, hb2⟩
    have HB2 := Lib.hid (below_call HBx.out hb2)
    have hz2 := HB2.out.size
    have HI2 := Lib.hid (HIx.out.later hb2)
    have HGr := Lib.hid (HGx.out.below hb2 HGx.out.lt)
    have HQr := Lib.hid (HQx.out.below hb2 HQx.out.lt)
    have d1 : ∀ u : Ext w2, u.w.cell? ⟨kb, ko + k * 6 + 1, none⟩ = some (.int .i64 x.client) := fun u => u.cell ((hb2.cell (p := ⟨kb, ko + k * 6 + 1, none⟩) hkb).trans C1.out)
    clear hb2 q1 q3 q4 g0 g1 g2 g3
    have u1 : ∀ u : Ext w2, u.w.cell? ⟨s, 2, none⟩ = some (.slice (some ⟨kb, ko, none⟩) kn kc) := fun u => u.cell (HGr.out.cell 2)
    have u2 : ∀ u : Ext w2, u.w.cell? ⟨s + 1, 2, none⟩ = some (.int .i64 r.client) := fun u => u.cell (HQr.out.cell 2)
    have u3 : ∀ u : Ext w2, u.w.cell? ⟨s + 1, 5, none⟩ = some (.string r.proof) := fun u => u.cell (HQr.out.cell 5)
    have u4 : ∀ u : Ext w2, u.w.cell? ⟨s + 1, 1, none⟩ = some (.int .i64 r.kind) := fun u => u.cell (HQr.out.cell 1)
    go_wp2_with fail
    refine ext_region w2 (by kernel_rfl) (by kernel_rfl) (Below.refl _ _) ?_
    repeat (go_big_quiet_step (fail))
    refine wpQuiet_nil ?_
    intro w3 hb3
    have HB3 := Lib.hid (HB2.out.trans (hb3.mono hz2))
    clear hb3
    go_wp2_with fail
    go_ret
    exact ⟨by rw [HF.out]; rfl, HB3.out⟩
   | true =>
    by_cases hk3 : r.kind = 3
    ·have e3 : (r.kind != 3) = false := by simpa using hk3
     cases hrf : x.refresh with
     | false =>
      have HF : Hid (foundIx g r = -1) := Lib.hid (by unfold foundIx; rw [if_neg HK2.out]; simp [keyFor, HFd.out, hcl, hk3, hrf])
      have C3 := Lib.hid (by have h := C3.out; rw [hrf] at h; exact h)
      clear hk3 hrf
      go_enter Tryz.func170, Tryz.ntmps170
      go_upto_region 1 with fail
      rw [← HX0.out, ← HSe.out]
      go_wp2_with fail
      rw [← HE0.out]
      refine (key_at HKn.out HIx.out.2.2.1 (by rw [← HKn.out]; exact hk') HJ.out).mono ?_
      rintro e w2 ⟨rfl, hb2⟩
      have HB2 := Lib.hid (below_call HBx.out hb2)
      have hz2 := HB2.out.size
      have HI2 := Lib.hid (HIx.out.later hb2)
      have HGr := Lib.hid (HGx.out.below hb2 HGx.out.lt)
      have HQr := Lib.hid (HQx.out.below hb2 HQx.out.lt)
      have d1 : ∀ u : Ext w2, u.w.cell? ⟨kb, ko + k * 6 + 1, none⟩ = some (.int .i64 x.client) := fun u => u.cell ((hb2.cell (p := ⟨kb, ko + k * 6 + 1, none⟩) hkb).trans C1.out)
      have d3 : ∀ u : Ext w2, u.w.cell? ⟨kb, ko + k * 6 + 3, none⟩ = some (.bool false) := fun u => u.cell ((hb2.cell (p := ⟨kb, ko + k * 6 + 3, none⟩) hkb).trans C3.out)
      clear hb2 q1 q3 q4 g0 g1 g2 g3
      have u1 : ∀ u : Ext w2, u.w.cell? ⟨s, 2, none⟩ = some (.slice (some ⟨kb, ko, none⟩) kn kc) := fun u => u.cell (HGr.out.cell 2)
      have u2 : ∀ u : Ext w2, u.w.cell? ⟨s + 1, 2, none⟩ = some (.int .i64 r.client) := fun u => u.cell (HQr.out.cell 2)
      have u3 : ∀ u : Ext w2, u.w.cell? ⟨s + 1, 5, none⟩ = some (.string r.proof) := fun u => u.cell (HQr.out.cell 5)
      have u4 : ∀ u : Ext w2, u.w.cell? ⟨s + 1, 1, none⟩ = some (.int .i64 r.kind) := fun u => u.cell (HQr.out.cell 1)
      go_wp2_with fail
      refine ext_region w2 (by kernel_rfl) (by kernel_rfl) (Below.refl _ _) ?_
      repeat (go_big_quiet_step (fail))
      refine wpQuiet_nil ?_
      intro w3 hb3
      have HB3 := Lib.hid (HB2.out.trans (hb3.mono hz2))
      clear hb3
      go_wp2_with fail
      go_ret
      exact ⟨by rw [HF.out]; rfl, HB3.out⟩
     | true =>
      have HF : Hid (foundIx g r = (k : Nat)) := Lib.hid (by unfold foundIx; rw [if_neg HK2.out]; simp only [keyFor, HFd.out, hcl, if_true]; rw [if_pos (.inr hrf)]; exact HJ.out)
      have C3 := Lib.hid (by have h := C3.out; rw [hrf] at h; exact h)
      clear hk3 hrf
      go_enter Tryz.func170, Tryz.ntmps170
      go_upto_region 1 with fail
      rw [← HX0.out, ← HSe.out]
      go_wp2_with fail
      rw [← HE0.out]
      refine (key_at HKn.out HIx.out.2.2.1 (by rw [← HKn.out]; exact hk') HJ.out).mono ?_
      rintro e w2 ⟨rfl, hb2⟩
      have HB2 := Lib.hid (below_call HBx.out hb2)
      have hz2 := HB2.out.size
      have HI2 := Lib.hid (HIx.out.later hb2)
      have HGr := Lib.hid (HGx.out.below hb2 HGx.out.lt)
      have HQr := Lib.hid (HQx.out.below hb2 HQx.out.lt)
      have d1 : ∀ u : Ext w2, u.w.cell? ⟨kb, ko + k * 6 + 1, none⟩ = some (.int .i64 x.client) := fun u => u.cell ((hb2.cell (p := ⟨kb, ko + k * 6 + 1, none⟩) hkb).trans C1.out)
      have d3 : ∀ u : Ext w2, u.w.cell? ⟨kb, ko + k * 6 + 3, none⟩ = some (.bool true) := fun u => u.cell ((hb2.cell (p := ⟨kb, ko + k * 6 + 3, none⟩) hkb).trans C3.out)
      clear hb2 q1 q3 q4 g0 g1 g2 g3
      have u1 : ∀ u : Ext w2, u.w.cell? ⟨s, 2, none⟩ = some (.slice (some ⟨kb, ko, none⟩) kn kc) := fun u => u.cell (HGr.out.cell 2)
      have u2 : ∀ u : Ext w2, u.w.cell? ⟨s + 1, 2, none⟩ = some (.int .i64 r.client) := fun u => u.cell (HQr.out.cell 2)
      have u3 : ∀ u : Ext w2, u.w.cell? ⟨s + 1, 5, none⟩ = some (.string r.proof) := fun u => u.cell (HQr.out.cell 5)
      have u4 : ∀ u : Ext w2, u.w.cell? ⟨s + 1, 1, none⟩ = some (.int .i64 r.kind) := fun u => u.cell (HQr.out.cell 1)
      go_wp2_with fail
      refine ext_region w2 (by kernel_rfl) (by kernel_rfl) (Below.refl _ _) ?_
      repeat (go_big_quiet_step (fail))
      refine wpQuiet_nil ?_
      intro w3 hb3
      have HB3 := Lib.hid (HB2.out.trans (hb3.mono hz2))
      clear hb3
      go_wp2_with fail
      go_ret
      exact ⟨by rw [HF.out]; rfl, HB3.out⟩
    ·have e3 : (r.kind != 3) = true := by simpa using hk3
     have HF : Hid (foundIx g r = (k : Nat)) := Lib.hid (by unfold foundIx; rw [if_neg HK2.out]; simp only [keyFor, HFd.out, hcl, if_true]; rw [if_pos (.inl hk3)]; exact HJ.out)
     clear hk3
     go_enter Tryz.func170, Tryz.ntmps170
     go_upto_region 1 with fail
     rw [← HX0.out, ← HSe.out]
     go_wp2_with fail
     rw [← HE0.out]
     refine (key_at HKn.out HIx.out.2.2.1 (by rw [← HKn.out]; exact hk') HJ.out).mono ?_
     rintro e w2 ⟨rfl, hb2⟩
     have HB2 := Lib.hid (below_call HBx.out hb2)
     have hz2 := HB2.out.size
     have HI2 := Lib.hid (HIx.out.later hb2)
     have HGr := Lib.hid (HGx.out.below hb2 HGx.out.lt)
     have HQr := Lib.hid (HQx.out.below hb2 HQx.out.lt)
     have d1 : ∀ u : Ext w2, u.w.cell? ⟨kb, ko + k * 6 + 1, none⟩ = some (.int .i64 x.client) := fun u => u.cell ((hb2.cell (p := ⟨kb, ko + k * 6 + 1, none⟩) hkb).trans C1.out)
     clear hb2 q1 q3 q4 g0 g1 g2 g3
     have u1 : ∀ u : Ext w2, u.w.cell? ⟨s, 2, none⟩ = some (.slice (some ⟨kb, ko, none⟩) kn kc) := fun u => u.cell (HGr.out.cell 2)
     have u2 : ∀ u : Ext w2, u.w.cell? ⟨s + 1, 2, none⟩ = some (.int .i64 r.client) := fun u => u.cell (HQr.out.cell 2)
     have u3 : ∀ u : Ext w2, u.w.cell? ⟨s + 1, 5, none⟩ = some (.string r.proof) := fun u => u.cell (HQr.out.cell 5)
     have u4 : ∀ u : Ext w2, u.w.cell? ⟨s + 1, 1, none⟩ = some (.int .i64 r.kind) := fun u => u.cell (HQr.out.cell 1)
     go_wp2_with fail
     refine ext_region w2 (by kernel_rfl) (by kernel_rfl) (Below.refl _ _) ?_
     repeat (go_big_quiet_step (fail))
     refine wpQuiet_nil ?_
     intro w3 hb3
     have HB3 := Lib.hid (HB2.out.trans (hb3.mono hz2))
     clear hb3
     go_wp2_with fail
     go_ret
     exact ⟨by rw [HF.out]; rfl, HB3.out⟩
end Go.Proofs.YtchfgdiipjbgoaaGreat
