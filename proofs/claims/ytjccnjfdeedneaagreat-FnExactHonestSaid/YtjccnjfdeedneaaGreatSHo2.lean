/- Honest: what the shared store is asked of an entry. -/
import Derived.Test.YtjccnjfdeedneaaGreatSHo1
import Derived.Test.YtjccnjfdeedneaaGreatSGdC
namespace Go.Proofs.YtjccnjfdeedneaaGreat
open Go Go.RowKit Go.Lib Go.MuLone
set_option linter.unusedVariables false
set_option linter.unusedSimpArgs false
set_option maxRecDepth 100000

theorem shL_m (now ver hold : Int) (cs : Value) (c m : Int) (h : ShH) {j : Nat} (hj : j < 4) : (shL now ver hold cs c m h)[6 + j * 4]? = some (.int .i32 m) := by
 rcases (show j = 0 ∨ j = 1 ∨ j = 2 ∨ j = 3 by omega) with rfl | rfl | rfl | rfl <;> rfl
theorem shL_w2 (now ver hold : Int) (cs : Value) (c m : Int) (h : ShH) {j : Nat} (hj : j < 4) : (shL now ver hold cs c m h)[6 + j * 4 + 2]? = some (.map (some (h.wAt j))) := by
 rcases (show j = 0 ∨ j = 1 ∨ j = 2 ∨ j = 3 by omega) with rfl | rfl | rfl | rfl <;> rfl
theorem shL_k3 (now ver hold : Int) (cs : Value) (c m : Int) (h : ShH) {j : Nat} (hj : j < 4) : (shL now ver hold cs c m h)[6 + j * 4 + 3]? = some (.map (some (h.kAt j))) := by
 rcases (show j = 0 ∨ j = 1 ∨ j = 2 ∨ j = 3 by omega) with rfl | rfl | rfl | rfl <;> rfl
theorem wf_of {n : Int} (h0 : 0 ≤ n) (h1 : n ≤ 1000000) : (Lit.int .i64 n).wf = true := (Lit.wf_int_iff .i64 n).2 (show -9223372036854775808 ≤ n ∧ n ≤ 9223372036854775807 by omega)
/-- The shared store, with nobody at it. -/
def ShAt (w : World) (h : ShH) (M : Nat) (g : Gr) (td : Int → Int) (ver hold : Int) (cs : Value) : Prop := Row w h.sb 123 (shL g.now ver hold cs 0 0 h) ∧ h.Rise ∧ ShMaps w h M (wdF g.words g.dead td) (kyF g.keys) ∧ (∀ i, 0 ≤ td i ∧ td i ≤ g.now) ∧ grantB g = true
theorem ShAt.later {w w' : World} {h : ShH} {M : Nat} {g : Gr} {td : Int → Int} {ver hold : Int} {cs : Value} (k : ShAt w h M g td ver hold cs) (hb : Below w.heap.size w w') : ShAt w' h M g td ver hold cs := ⟨k.1.below hb k.1.lt, k.2.1, k.2.2.1.later hb, k.2.2.2⟩
set_option maxHeartbeats 2000000 in
theorem shared_keyOf {h : ShH} {M : Nat} {g : Gr} {td : Int → Int} {ver hold : Int} {cs : Value} {no client : Int} {w : World} (hS : ShAt w h M g td ver hold cs) (h0 : 0 ≤ no) (h1 : no ≤ 1000000) :
  Calls Tryz.prog 181 #[.pointer (some ⟨h.sb, 0, none⟩), .int .i64 no, .int .i64 client] w (Ret (keyForV (keyFor g.keys no client)) w) := by
 obtain ⟨s, hs, hs4⟩ : ∃ s : Nat, no % 4 = s ∧ s < 4 := ⟨(no % 4).toNat, by omega, by omega⟩
 obtain ⟨W, hW⟩ : ∃ W, W = w.alloc (.cells #[.int .i64 0, .int .i64 0, .bool false, .float .f64 0, .int .i64 0] 245) := ⟨_, rfl⟩
 have hb0 : Below w.heap.size w W := by rw [hW]; exact (Below.refl _ _).alloc (Nat.le_refl _) _
 have q0 : Row W w.heap.size 245 [.int .i64 0, .int .i64 0, .bool false, .float .f64 0, .int .i64 0] := by rw [hW]; exact heap_alloc_new w _
 have hS0 := hS.later hb0
 obtain ⟨n, _, hI⟩ := hS0.2.2.1.2 s hs4
 have HK := Lib.hid (stripe_keyOf (client := client) hS0.1 (shL_m g.now ver hold cs 0 0 h hs4) (shL_k3 g.now ver hold cs 0 0 h hs4) hI (F := stF (kyF g.keys) s) (ks := g.keys) (no := no) (by unfold stF; rw [if_pos hs]) (by have := hS0.2.1.k_ge s; omega) (wf_of h0 h1))
 have HW := Lib.hid hW
 have HQ := Lib.hid q0
 have HB := Lib.hid hb0
 have HS := Lib.hid hs
 clear hW q0 hb0 hS0 hI hS hs
 go_enter Tryz.func181, Tryz.ntmps181
 go_wp2_with fail
 rw [← HW.out]
 refine (stripeOf_any h.sb no s _ h0 HS.out hs4).mono ?_
 rintro e w1 ⟨rfl, hw1⟩
 rw [hw1]
 clear hw1
 go_wp2_with fail
 refine HK.out.mono ?_
 rintro e w2 ⟨rfl, hb2⟩
 have HB2 := Lib.hid (HB.out.trans (hb2.mono HB.out.size))
 have r2 := HQ.out.below hb2 HQ.out.lt
 have HT := Lib.hid (r2.there 0 5 (by simp))
 have HR2 := Lib.hid r2
 obtain ⟨c, f, b, t, s', ok, hs⟩ := keyForV_shape (keyFor g.keys no client)
 rw [hs]
 have HSs := Lib.hid hs
 clear hb2 hs r2
 go_wp2_with (refine Stop.out (p := wpList _ _ _ [{ dst := _, op := .store 245 _ _, type := _, pos := _, after := _, guard := _ }, _] _ _) ?_)
 constructor
 refine wpList_store_to rfl 245 (.tmp 6) (.tmp 14) rfl w.heap.size 0 #[.int .i64 c, .int .i64 f, .bool b, .float .f64 t, .int .i64 s'] rfl rfl HT.out (by kernel_rfl) (by simp [Value.oneCell']) ?_
 intro V hV
 have hk3 : Kept w2.heap.size w.heap.size w.heap.size w.heap.size w2 V := by rw [hV]; exact Kept.setCells (.inl rfl) _ 0 (Kept.refl _ _ _ _ _)
 have R3 : Row V w.heap.size 245 [.int .i64 c, .int .i64 f, .bool b, .float .f64 t, .int .i64 s'] := by rw [hV]; exact HR2.out.setCells _ 0
 have HB3 := Lib.hid (HB2.out.trans (hk3.below (B := w.heap.size) HB2.out.size (by omega) (by omega) (by omega)))
 have HR3 := Lib.hid R3
 clear hV hk3 R3
 go_wp2_with fail
 refine bodyPost_ret (results_key rfl rfl HR3.out) rfl ?_
 exact ⟨by rw [HSs.out]; rfl, HB3.out⟩
set_option maxHeartbeats 2000000 in
theorem shared_isDead {h : ShH} {M : Nat} {g : Gr} {td : Int → Int} {ver hold : Int} {cs : Value} {no : Int} {y : Wd} {w : World} (hS : ShAt w h M g td ver hold cs) (hy : findW g.words no = some y) (h0 : 0 ≤ no) (h1 : no ≤ 1000000) :
  Calls Tryz.prog 182 #[.pointer (some ⟨h.sb, 0, none⟩), .int .i64 no] w (Ret (.bool (isDeadB g.dead no)) w) := by
 obtain ⟨s, hs, hs4⟩ : ∃ s : Nat, no % 4 = s ∧ s < 4 := ⟨(no % 4).toNat, by omega, by omega⟩
 obtain ⟨n, _, hI⟩ := hS.2.2.1.1 s hs4
 have hnow := (gr_facts hS.2.2.2.2).1
 obtain ⟨dd, hdd⟩ : ∃ dd, dd = ddB g.dead td no := ⟨_, rfl⟩
 have HC := Lib.hid (show (FloatKind.f64.format.order dd (floatOfInt .f64 g.now) == some .lt || FloatKind.f64.format.order dd (floatOfInt .f64 g.now) == some .eq) = isDeadB g.dead no by rw [hdd]; exact dd_leq hnow.1 hnow.2 (hS.2.2.2.1 no))
 have HWd := Lib.hid (stripe_word (y := y) (dd := dd) hS.1 (shL_m g.now ver hold cs 0 0 h hs4) (shL_w2 g.now ver hold cs 0 0 h hs4) hI (F := stF (wdF g.words g.dead td) s) (no := no) (by unfold stF; rw [if_pos hs, hdd]; simp [wdF, hy]) (by have := hS.2.1.w_ge s; omega) (wf_of h0 h1))
 have HSh := Lib.hid hS
 have HS := Lib.hid hs
 have HN := Lib.hid hnow
 clear hI hS hs hy hnow hdd
 go_enter Tryz.func182, Tryz.ntmps182
 go_wp2_with fail
 refine (stripeOf_any h.sb no s _ h0 HS.out hs4).mono ?_
 rintro e w1 ⟨rfl, hw1⟩
 rw [hw1]
 clear hw1
 go_wp2_with fail
 refine HWd.out.mono ?_
 rintro e w2 ⟨rfl, hb2⟩
 have HB2 := Lib.hid hb2
 have HS2 := Lib.hid (HSh.out.later hb2)
 clear hb2
 unfold hwV
 go_wp2_with fail
 refine (time_any h.sb g.now _ HN.out.1 HN.out.2 (HS2.out.1.cell 0)).mono ?_
 rintro e w3 ⟨rfl, hb3⟩
 have HB3 := Lib.hid (HB2.out.trans (hb3.mono HB2.out.size))
 clear hb3
 go_wp2_with fail
 refine (deadAt_any _ _ _ _ _ _ _ HC.out _).mono ?_
 rintro e w4 ⟨rfl, hb4⟩
 have HB4 := Lib.hid (HB3.out.trans (hb4.mono HB3.out.size))
 clear hb4
 go_wp2_with fail
 go_ret
 exact ⟨rfl, HB4.out⟩
theorem shared_isDead_at {h : ShH} {M : Nat} {g : Gr} {td : Int → Int} {ver hold : Int} {cs : Value} {no : Int} {y : Wd} {w : World} {b : Bool} (hS : ShAt w h M g td ver hold cs) (hy : findW g.words no = some y) (h0 : 0 ≤ no) (h1 : no ≤ 1000000) (hb : isDeadB g.dead no = b) :
  Calls Tryz.prog 182 #[.pointer (some ⟨h.sb, 0, none⟩), .int .i64 no] w (Ret (.bool b) w) := by
 subst hb
 exact shared_isDead hS hy h0 h1
/-- Does an entry name a key that there is, as it says? -/
def vouchK (g : Gr) (x : En) (k : Ky) : Bool := !k.refresh && k.till == x.till && k.state == 0 && !isDeadB g.dead k.fam
def vouchB (g : Gr) (x : En) : Bool := match keyFor g.keys x.token x.client with
 | none => false
 | some k => vouchK g x k
theorem vouch_ways (g : Gr) (x : En) (k : Ky) : (k.refresh = true ∧ vouchK g x k = false) ∨ (k.refresh = false ∧ k.till ≠ x.till ∧ vouchK g x k = false) ∨ (k.refresh = false ∧ k.till = x.till ∧ k.state ≠ 0 ∧ vouchK g x k = false) ∨ (k.refresh = false ∧ k.till = x.till ∧ k.state = 0 ∧ isDeadB g.dead k.fam = true ∧ vouchK g x k = false) ∨ (k.refresh = false ∧ k.till = x.till ∧ k.state = 0 ∧ isDeadB g.dead k.fam = false ∧ vouchK g x k = true) := by
 unfold vouchK
 cases k.refresh
 ·right
  by_cases h2 : k.till = x.till
  ·right
   by_cases h3 : k.state = 0
   ·right
    cases isDeadB g.dead k.fam <;> simp [h2, h3]
   ·left; exact ⟨rfl, h2, h3, by simp [h3]⟩
  ·left; exact ⟨rfl, h2, by simp [h2]⟩
 ·left; exact ⟨rfl, by simp⟩
theorem keyFor_facts {g : Gr} {t c : Int} {k : Ky} (hg : grantB g = true) (h : keyFor g.keys t c = some k) : (0 ≤ k.till ∧ k.till ≤ 1000000) ∧ (0 ≤ k.fam ∧ k.fam ≤ 1000000) ∧ ∃ y, findW g.words k.fam = some y := by
 obtain ⟨_, _, _, hws, hks, _⟩ := gr_facts hg
 unfold keyFor at h
 split at h
 ·cases h
 ·next z hf =>
  split at h
  ·obtain rfl : z = k := by simpa using h
   obtain ⟨j, hj, _⟩ := findK_mem hf
   have hk := (keysOk_get hks hj).1
   obtain ⟨y, hy, hyn⟩ := hasNo_find hk.2.2.2.1
   refine ⟨hk.2.2.2.2.1, ?_, y, hy⟩
   obtain ⟨i, hi, hin⟩ := List.mem_iff_getElem?.1 (List.mem_of_find?_eq_some hy) |>.imp (fun i hi => (⟨hi, hyn⟩ : _ ∧ _))
   have := (wordsOk_get hws hi).1
   omega
  ·cases h
theorem neq_of {a b : Int} (ha : Whole a) (hb : Whole b) : (FloatKind.f64.format.order (floatOfInt .f64 a) (floatOfInt .f64 b) != some .eq) = decide (a ≠ b) := by
 rw [order_of ha hb]
 rcases Int.lt_trichotomy a b with h | h | h
 ·rw [cmp_lt h, decide_eq_true (by omega)]; rfl
 ·rw [cmp_eq h, decide_eq_false (by omega)]; rfl
 ·rw [cmp_gt h, decide_eq_true (by omega)]; rfl
set_option maxHeartbeats 8000000 in
theorem vouch_any {h : ShH} {M : Nat} {g : Gr} {td : Int → Int} {ver hold : Int} {cs : Value} {x : En} {w : World} (hS : ShAt w h M g td ver hold cs) (hx : entryB x = true) :
  Calls Tryz.prog 138 #[.pointer (some ⟨h.sb, 0, none⟩), enV x] w (Ret (.bool (vouchB g x)) w) := by
 have hxb : (0 ≤ x.token ∧ x.token ≤ 1000000) ∧ (0 ≤ x.till ∧ x.till ≤ 1000000) := by
  unfold entryB at hx
  simp only [Bool.and_eq_true] at hx
  have h1 := isB_iff.1 hx.1.1.1
  have h2 := isB_iff.1 hx.1.2
  omega
 have hsf := run_store_float
 obtain ⟨W, hW⟩ : ∃ W, W = w.alloc (.cells #[.int .i64 x.token, .int .i64 x.client, .int .i64 x.till, .int .i64 x.ver] 50) := ⟨_, rfl⟩
 have hb0 : Below w.heap.size w W := by rw [hW]; exact (Below.refl _ _).alloc (Nat.le_refl _) _
 have q0 : Row W w.heap.size 50 (enCf x) := by rw [hW]; exact heap_alloc_new w _
 have HS0 := Lib.hid (hS.later hb0)
 have HG := Lib.hid hS.2.2.2.2
 have HW := Lib.hid hW
 have HQ := Lib.hid q0
 have HB := Lib.hid hb0
 have HTm := Lib.hid (fun (w' : World) => timeOf_at (w := w') (isB_iff.2 hxb.2))
 clear hW q0 hb0 hS hx
 unfold enV
 go_enter Tryz.func138, Tryz.ntmps138
 go_wp2_with fail
 rw [← HW.out]
 refine (shared_keyOf HS0.out hxb.1.1 hxb.1.2).mono ?_
 rintro e w2 ⟨rfl, hb2⟩
 have HB2 := Lib.hid (HB.out.trans (hb2.mono HB.out.size))
 have HS2 := Lib.hid (HS0.out.later hb2)
 have HQ2 := Lib.hid (HQ.out.below hb2 HQ.out.lt)
 clear hb2
 cases hk : keyFor g.keys x.token x.client with
 | none =>
  have hv : vouchB g x = false := by simp [vouchB, hk]
  have HV := Lib.hid hv
  clear hk hv
  unfold keyForV hkZ
  go_wp2_with fail
  refine ext_region _ (by kernel_rfl) (by kernel_rfl) (Below.refl _ _) ?_
  repeat (go_big_quiet_step (fail))
  refine wpQuiet_nil ?_
  intro w3 hb3
  have HB3 := Lib.hid ((HB2.out.alloc HB2.out.size _).trans (hb3.mono (by simpa using Nat.le_succ_of_le HB2.out.size)))
  clear hb3
  go_wp2_with fail
  go_ret
  exact ⟨by rw [HV.out]; rfl, HB3.out⟩
 | some k =>
  have hv : vouchB g x = vouchK g x k := by simp [vouchB, hk]
  obtain ⟨ht, hf, y, hy⟩ := keyFor_facts HG.out hk
  have hne := neq_of (whole_of ht.1 ht.2) (whole_of hxb.2.1 hxb.2.2)
  have hyy := Lib.hid hy
  have HV := Lib.hid hv
  clear hk hv hy
  unfold keyForV hkV
  obtain ⟨V, hV⟩ : ∃ V, V = w2.alloc (.cells #[.int .i64 k.client, .int .i64 k.fam, .bool k.refresh, .float .f64 (floatOfInt .f64 k.till), .int .i64 k.state] 245) := ⟨_, rfl⟩
  obtain ⟨p, hp⟩ : ∃ p, p = w2.heap.size := ⟨_, rfl⟩
  have hbV : Below w2.heap.size w2 V := by rw [hV]; exact (Below.refl _ _).alloc (Nat.le_refl _) _
  have rV : Row V p 245 [.int .i64 k.client, .int .i64 k.fam, .bool k.refresh, .float .f64 (floatOfInt .f64 k.till), .int .i64 k.state] := by rw [hV, hp]; exact heap_alloc_new w2 _
  have qV := HQ2.out.below hbV HQ2.out.lt
  have HSV := Lib.hid (HS2.out.later hbV)
  have HBV := Lib.hid (HB2.out.trans (hbV.mono HB2.out.size))
  have HVe := Lib.hid hV
  have HPe := Lib.hid hp
  have HRV := Lib.hid rV
  clear hbV hV hp
  go_wp2_with fail
  rw [← HVe.out, ← HPe.out]
  have c2 : ∀ u : Ext V, u.w.cell? ⟨p, 2, none⟩ = some (.bool k.refresh) := fun u => u.cell (rV.cell 2)
  have c3 : ∀ u : Ext V, u.w.cell? ⟨p, 3, none⟩ = some (.float .f64 (floatOfInt .f64 k.till)) := fun u => u.cell (rV.cell 3)
  have d2 : ∀ u : Ext V, u.w.cell? ⟨w.heap.size, 2, none⟩ = some (.int .i64 x.till) := fun u => u.cell (qV.cell 2)
  clear rV qV
  rcases vouch_ways g x k with ⟨s1, te⟩ | ⟨s1, s2, te⟩ | ⟨s1, s2, s3, te⟩ | ⟨s1, s2, s3, s4, te⟩ | ⟨s1, s2, s3, s4, te⟩
  ·have TE := Lib.hid te
   clear te hne
   rw [s1] at c2
   clear s1
   refine ext_region V (by kernel_rfl) (by kernel_rfl) (Below.refl _ _) ?_
   repeat (go_big_quiet_step (fail))
   refine wpQuiet_nil ?_
   intro w3 hb3
   have HB3 := Lib.hid (HBV.out.trans (hb3.mono HBV.out.size))
   clear hb3
   go_wp2_with fail
   go_ret
   exact ⟨by rw [HV.out, TE.out]; rfl, HB3.out⟩
  ·have TE := Lib.hid te
   rw [decide_eq_true s2] at hne
   have S2 := Lib.hid s2
   clear te s2
   rw [s1] at c2
   clear s1
   refine ext_region V (by kernel_rfl) (by kernel_rfl) (Below.refl _ _) ?_
   repeat (go_big_quiet_step ((go_at_call 161; exact calls_ext_same (HTm.out _))))
   refine wpQuiet_nil ?_
   intro w3 hb3
   have HB3 := Lib.hid (HBV.out.trans (hb3.mono HBV.out.size))
   clear hb3
   go_wp2_with fail
   go_ret
   exact ⟨by rw [HV.out, TE.out]; rfl, HB3.out⟩
  all_goals
   have TE := Lib.hid te
   rw [decide_eq_false (by omega)] at hne
   have S2 := Lib.hid s2
   clear te s2
   rw [s1] at c2
   clear s1
   refine ext_region V (by kernel_rfl) (by kernel_rfl) (Below.refl _ _) ?_
   repeat (go_big_quiet_step ((go_at_call 161; exact calls_ext_same (HTm.out _))))
   refine wpQuiet_nil ?_
   intro w3 hb3
   have HB3 := Lib.hid (HBV.out.trans (hb3.mono HBV.out.size))
   have HS3 := Lib.hid (HSV.out.later hb3)
   have r3 := HRV.out.below hb3 HRV.out.lt
   have e1 : w3.cell? ⟨p, 1, none⟩ = some (.int .i64 k.fam) := r3.cell 1
   have e4 : w3.cell? ⟨p, 4, none⟩ = some (.int .i64 k.state) := r3.cell 4
   clear hb3 r3
  ·have s5 : (k.state == 0) = false := by simpa using s3
   clear s3
   go_wp2_with fail
   go_ret
   exact ⟨by rw [HV.out, TE.out]; rfl, HB3.out⟩
  all_goals
   have s5 : (k.state == 0) = true := by simpa using s3
   have S4 := Lib.hid s4
   clear s3 s4
   go_wp2_with fail
   refine (shared_isDead_at HS3.out hyy.out hf.1 hf.2 S4.out).mono ?_
   rintro e w4 ⟨rfl, hb4⟩
   have HB4 := Lib.hid (HB3.out.trans (hb4.mono HB3.out.size))
   clear hb4
   go_wp2_with fail
   go_ret
   exact ⟨by rw [HV.out, TE.out]; rfl, HB4.out⟩
end Go.Proofs.YtjccnjfdeedneaaGreat
