/- The ledger of a right grant. -/
import Derived.Test.YtchfgdiipjbgoaaLedM2
import Derived.Test.YtchfgdiipjbgoaaLed3
import Derived.Test.YtchfgdiipjbgoaaGrImp3
namespace Go.Proofs.Ytchfgdiipjbgoaa
open Go Go.RowKit Go.Lib
set_option linter.unusedVariables false

theorem timeOf_at {n : Int} {w : World} (h : isB n 0 1000000 = true) : Calls Try.prog 56 #[.int .i64 n] w fun e w' => e = .returned (.float .f64 (floatOfInt .f64 n)) ∧ w' = w :=
  (timeOf_any n w).mono fun _ _ ⟨h1, h2⟩ => ⟨by rw [h1, tmB_yes h], h2.symm⟩
theorem never_at {w : World} : Calls Try.prog 62 #[] w fun e w' => e = .returned (.float .f64 infB) ∧ w' = w := (never_any w).mono fun _ _ h => ⟨h.1, h.2.symm⟩
def LR (now : Int) (mw mk : Nat) : List Value := [.float .f64 (floatOfInt .f64 now), .map (some mw), .map (some mk)]
def L1 (now : Int) (ws : List Wd) (lb mw mk : Nat) (W : World) (i : Value) (wr : World) : Prop := ∃ k : Nat, k ≤ ws.length ∧ i = .int .i64 k ∧ Row wr lb 121 (LR now mw mk) ∧ IMap Try.prog 2 wr mw k (wdF (ws.take k) [] fun _ => 0) ∧ IMap Try.prog 2 wr mk 0 (fun _ => none) ∧ Below mw W wr
def L2 (now : Int) (ws : List Wd) (ks : List Ky) (lb mw mk : Nat) (W : World) (i : Value) (wr : World) : Prop := ∃ k : Nat, k ≤ ks.length ∧ i = .int .i64 k ∧ Row wr lb 121 (LR now mw mk) ∧ IMap Try.prog 2 wr mw ws.length (wdF ws [] fun _ => 0) ∧ IMap Try.prog 2 wr mk k (kyF (ks.take k)) ∧ Below mw W wr
def L3 (now : Int) (ws : List Wd) (ks : List Ky) (ds : List Int) (lb mw mk : Nat) (W : World) (i : Value) (wr : World) : Prop := ∃ k : Nat, k ≤ ds.length ∧ i = .int .i64 k ∧ LedAt wr mw lb mw mk ⟨now, ws, ks, ds.take k⟩ ∧ Below mw W wr
def LedOut (g : Gr) (w : World) (e : Ending) (w' : World) : Prop := ∃ B lb mw mk, e = .returned (.pointer (some ⟨lb, 0, none⟩)) ∧ w.heap.size ≤ B ∧ LedAt w' B lb mw mk g ∧ Below w.heap.size w w'
theorem drew_grown {w w' : World} {r : Option Nat} (h : w.drew.grownBy w' r) : w.grownBy w' r := ⟨h.os, h.tape, h.output, h.size, h.block⟩

theorem newLedger_any (now : Nat) (w : World) : Calls Try.prog 61 #[.float .f64 now] w fun e w' => e = .returned (.pointer (some ⟨w.heap.size + 2, 0, none⟩)) ∧ w' = ((w.alloc (.map #[] 0)).alloc (.map #[] 0)).alloc (.cells #[.float .f64 now, .map (some w.heap.size), .map (some (w.heap.size + 1))] 121) := by
  have hm1 := fun h w => run_makeMap_hintI (P := Try.prog) Try.underlying63 .i64 h w
  have hm2 := fun h w => run_makeMap_hintI (P := Try.prog) Try.underlying64 .i64 h w
  go_enter Try.func61, Try.ntmps61
  go_wp2_with fail
  go_ret
  exact ⟨by simp, by simp⟩
set_option maxRecDepth 100000 in
set_option maxHeartbeats 4000000 in
theorem ledgerOf_any (g : Gr) (h : GH) (w : World) (hin : GrIn w h g) (hg : grantB g = true) : Calls Try.prog 40 #[grV g.now h] w (LedOut g w) := by
  have hd20 : g.dead.length ≤ 20 := by
    have hf := gr_facts hg
    have := deadOk_le hf.2.2.2.1 hf.2.2.2.2.2 (fun x hx => (deadOk_up hf.2.2.2.2.2 x hx).2)
    omega
  obtain ⟨wp, wn, wc, kp, kn, kc, dp, dn, dc⟩ := h
  obtain ⟨now, ws, ks, ds⟩ := g
  obtain ⟨⟨hn1, hn2, hn3⟩, hl1, hl2, hl3⟩ := hin
  obtain ⟨⟨n0, n1⟩, hw20, hk40, hws, hks, hds⟩ := gr_facts hg
  simp only at hn1 hn2 hn3 hl1 hl2 hl3 n0 n1 hw20 hk40 hws hks hds hd20 ⊢
  unfold grV
  simp only
  have b1 : wn ≤ 20 := by omega
  have b2 : kn ≤ 40 := by omega
  have b3 : dn ≤ 20 := by omega
  have HN1 := Lib.hid hn1
  have HN2 := Lib.hid hn2
  have HN3 := Lib.hid hn3
  have t0 : isB now 0 1000000 = true := isB_iff.2 ⟨n0, n1⟩
  have HWs := Lib.hid hws
  have HKs := Lib.hid hks
  have HDs := Lib.hid hds
  obtain ⟨W, hW⟩ : ∃ W, W = (((w.alloc (.cells #[.int .i64 now, .slice wp wn wc, .slice kp kn kc, .slice dp dn dc] 37)).alloc (.map #[] 0)).alloc (.map #[] 0)).alloc (.cells #[.float .f64 (floatOfInt .f64 now), .map (some (w.heap.size + 1)), .map (some (w.heap.size + 2))] 121) := ⟨_, rfl⟩
  have hb0 : Below w.heap.size w W := by rw [hW]; go_grown
  have r0 : Row W w.heap.size 37 [.int .i64 now, .slice wp wn wc, .slice kp kn kc, .slice dp dn dc] := by
    rw [hW]
    exact Row.below (heap_alloc_new w _) ((((Below.refl _ _).alloc (Nat.le_refl _) _).alloc (by simp) _).alloc (by simp) _) (by simp)
  have m1 : IMap Try.prog 2 W (w.heap.size + 1) 0 (fun _ => none) := by
    rw [hW]
    have h := IMap.made (w.alloc (.cells #[.int .i64 now, .slice wp wn wc, .slice kp kn kc, .slice dp dn dc] 37)) Try.prog 2
    rw [World.size_alloc] at h
    exact (h.alloc _).alloc _
  have m2 : IMap Try.prog 2 W (w.heap.size + 2) 0 (fun _ => none) := by
    rw [hW]
    have h := IMap.made ((w.alloc (.cells #[.int .i64 now, .slice wp wn wc, .slice kp kn kc, .slice dp dn dc] 37)).alloc (.map #[] 0)) Try.prog 2
    rw [World.size_alloc, World.size_alloc] at h
    exact h.alloc _
  have r3 : Row W (w.heap.size + 3) 121 (LR now (w.heap.size + 1) (w.heap.size + 2)) := by
    rw [hW]
    have h := heap_alloc_new (((w.alloc (.cells #[.int .i64 now, .slice wp wn wc, .slice kp kn kc, .slice dp dn dc] 37)).alloc (.map #[] 0)).alloc (.map #[] 0)) (.cells #[.float .f64 (floatOfInt .f64 now), .map (some (w.heap.size + 1)), .map (some (w.heap.size + 2))] 121)
    rw [World.size_alloc, World.size_alloc, World.size_alloc] at h
    exact h
  obtain ⟨s, hs⟩ : ∃ s, s = w.heap.size := ⟨_, rfl⟩
  rw [← hs] at hW r0 m1 m2 r3 hb0
  have HW := Lib.hid hW
  have HB := Lib.hid hb0
  have R0 := Lib.hid r0
  have M1 := Lib.hid m1
  have M2 := Lib.hid m2
  have R3 := Lib.hid r3
  have HSz := Lib.hid hs
  have hsz : w.heap.size ≤ s := by omega
  have hl3W := r3.lt
  have HL1 := Lib.hid hl1
  have HL2 := Lib.hid hl2
  have HL3 := Lib.hid hl3
  have g1 : W.cell? ⟨s, 1, none⟩ = some (.slice wp wn wc) := r0.cell 1
  have HNL := Lib.hid (show Calls Try.prog 61 #[.float .f64 (floatOfInt .f64 now)] (w.alloc (.cells #[.int .i64 now, .slice wp wn wc, .slice kp kn kc, .slice dp dn dc] 37)) fun e w' => e = .returned (.pointer (some ⟨s + 3, 0, none⟩)) ∧ w' = W from (newLedger_any _ _).mono (by
    rintro e w' ⟨rfl, rfl⟩
    exact ⟨by simp [hs], by rw [hW]; simp [hs]⟩))
  clear hn1 hn2 hn3 hl1 hl2 hl3 hw20 hk40 hws hks hds hd20 hg hb0 r0 m1 m2 r3 hW
  go_enter Try.func40, Try.ntmps40
  go_wp2_with fail
  refine (timeOf_at t0).mono ?_
  rintro e w' ⟨rfl, rfl⟩
  go_wp2_with fail
  refine HNL.out.mono ?_
  rintro e w' ⟨rfl, hw'⟩
  rw [hw', ← hs]
  clear hs hw' w'
  go_wp2_with fail
  go_loopw [17] (L1 now ws (s + 3) (s + 1) (s + 2) W) (fun i _ => wn - (RowKit.intOf i).toNat)
  case atStart => exact ⟨0, by omega, rfl, R3.out, M1.out.same (fun i => by simp [wdF, findW]), M2.out, Below.refl _ _⟩
  case round =>
    obtain ⟨k, hk, rfl, hr, hm, hmk, hbel⟩ := hrel
    rw [← HN1.out] at hk
    have HBl := Lib.hid hbel
    have hzr := hbel.size
    have hlr := hr.lt
    have HRr := Lib.hid hr
    have HM := Lib.hid hm
    have HK := Lib.hid hmk
    have hgl : s < wr.heap.size := by omega
    clear hr hm hmk hbel
    by_cases hlt : k < wn
    · obtain ⟨x, hx⟩ : ∃ x, ws[k]? = some x := ⟨_, List.getElem?_eq_getElem (by rw [← HN1.out]; exact hlt)⟩
      obtain ⟨⟨f1, f2, f3, f4, f5, f6⟩, f7⟩ := wordsOk_get HWs.out hx
      obtain ⟨b, o, rfl, hat⟩ := HL1.out.some hx
      obtain ⟨a0, a1, a2, a3, a4⟩ := wd_cells hat hx
      have hbw : b < w.heap.size := World.block_lt_of_cell? w _ a0
      have hbs : b < s + 1 := by omega
      have c0 := (HBl.out.cell (p := ⟨b, o + k * 5, none⟩) hbs).trans ((HB.out.cell (p := ⟨b, o + k * 5, none⟩) (by rw [HSz.out]; exact hbw)).trans a0)
      have c1 := (HBl.out.cell (p := ⟨b, o + k * 5 + 1, none⟩) hbs).trans ((HB.out.cell (p := ⟨b, o + k * 5 + 1, none⟩) (by rw [HSz.out]; exact hbw)).trans a1)
      have c2 := (HBl.out.cell (p := ⟨b, o + k * 5 + 2, none⟩) hbs).trans ((HB.out.cell (p := ⟨b, o + k * 5 + 2, none⟩) (by rw [HSz.out]; exact hbw)).trans a2)
      have c3 := (HBl.out.cell (p := ⟨b, o + k * 5 + 3, none⟩) hbs).trans ((HB.out.cell (p := ⟨b, o + k * 5 + 3, none⟩) (by rw [HSz.out]; exact hbw)).trans a3)
      have c4 := (HBl.out.cell (p := ⟨b, o + k * 5 + 4, none⟩) hbs).trans ((HB.out.cell (p := ⟨b, o + k * 5 + 4, none⟩) (by rw [HSz.out]; exact hbw)).trans a4)
      have ht : isB x.till 0 1000000 = true := isB_iff.2 ⟨f5, f6⟩
      have HWf := Lib.hid (wf_small (n := x.no) (by omega) (by omega))
      have HX := Lib.hid hx
      have HLt := Lib.hid f7
      clear a0 a1 a2 a3 a4 hx hat f7
      have hb1 := (Below.refl wr.heap.size wr).alloc (Nat.le_refl _) (.cells #[.int .i64 x.no, .int .i64 x.client, .string x.shade, .int .i64 x.till, .bool x.used] 101)
      have p1 : (wr.alloc (.cells #[.int .i64 x.no, .int .i64 x.client, .string x.shade, .int .i64 x.till, .bool x.used] 101)).cell? ⟨s + 3, 1, none⟩ = some (.map (some (s + 1))) := (hb1.cell (p := ⟨s + 3, 1, none⟩) hlr).trans (HRr.out.cell 1)
      have HRn := Lib.hid (HRr.out.below hb1 hlr)
      have HMn := Lib.hid (HM.out.later hb1)
      have HKn := Lib.hid (HK.out.later hb1)
      have HBn := Lib.hid (HBl.out.alloc (by omega) (.cells #[.int .i64 x.no, .int .i64 x.client, .string x.shade, .int .i64 x.till, .bool x.used] 101))
      clear hb1
      go_wp2_with fail
      refine region_tail 17 (by kernel_rfl) (by kernel_rfl) ?_
      simp only [List.take_succ_cons, List.take_zero, List.drop_succ_cons, List.drop_zero]
      repeat still_step
      still_call (timeOf_at ht)
      repeat still_step
      still_call never_at
      repeat still_step
      refine wpStill_nil ?_
      refine wpList_put_I rfl (.tmp 24) (.tmp 26) (.tmp 37) 63 rfl Try.underlying63 Try.underlying2 rfl HMn.out (by unfold maxLen; omega) x.no rfl HWf.out (hwV x infB) rfl ?_
      intro w3 hm3 hg3'
      have hg3 := drew_grown hg3'
      rw [grow_w HLt.out] at hm3
      have HM3 := Lib.hid (hm3.same (wdF_step HX.out HLt.out))
      have HR3 := Lib.hid (HRn.out.grownI hg3 (fun e => by have := Option.some.inj e; omega))
      have HK3 := Lib.hid (HKn.out.grown hg3 (fun e => by have := Option.some.inj e; omega))
      have HB3 := Lib.hid (HBn.out.grown hg3 (by simp; omega) (fun j hj => by cases hj; exact Nat.le_refl _))
      clear hm3 hg3 hg3'
      go_wp2_with fail
      go_roundw
      case rel => exact ⟨k + 1, by rw [← HN1.out]; omega, by go_num, HR3.out, HM3.out, HK3.out, HB3.out⟩
      case measure => simp [RowKit.intOf]; omega
    · have hM : IMap Try.prog 2 wr (s + 1) ws.length (wdF ws [] fun _ => 0) := by
        have h := HM.out
        rw [List.take_of_length_le (by rw [← HN1.out]; omega)] at h
        have e : k = ws.length := by have := HN1.out; omega
        rw [e] at h
        exact h
      have HMa := Lib.hid hM
      have q2 : wr.cell? ⟨s, 2, none⟩ = some (.slice kp kn kc) := (HBl.out.cell (p := ⟨s, 2, none⟩) (by show s < s + 1; omega)).trans (R0.out.cell 2)
      clear hM
      go_wp2_with fail
      obtain ⟨wo, hwo⟩ : ∃ wo : World, wo = wr := ⟨_, rfl⟩
      rw [← hwo] at HBl hzr hlr HRr HK HMa ⊢
      clear HM hgl hlt hk hwo q2 g1
      go_loopw [42] (L2 now ws ks (s + 3) (s + 1) (s + 2) W) (fun i _ => kn - (RowKit.intOf i).toNat)
      case atStart => exact ⟨0, by omega, rfl, HRr.out, HMa.out, HK.out.same (fun i => by simp [kyF, findK]), HBl.out⟩
      case round =>
        clear HBl hzr hlr HRr HK HMa
        obtain ⟨k, hk, rfl, hr, hm, hmk, hbel⟩ := hrel
        rw [← HN2.out] at hk
        have HBl := Lib.hid hbel
        have hzr := hbel.size
        have hlr := hr.lt
        have HRr := Lib.hid hr
        have HM := Lib.hid hm
        have HK := Lib.hid hmk
        have hgl : s < wr.heap.size := by omega
        clear hr hm hmk hbel
        by_cases hlt : k < kn
        · obtain ⟨x, hx⟩ : ∃ x, ks[k]? = some x := ⟨_, List.getElem?_eq_getElem (by rw [← HN2.out]; exact hlt)⟩
          obtain ⟨⟨f1, f2, f3, f4, f5, f6⟩, f7⟩ := keysOk_get HKs.out hx
          obtain ⟨b, o, rfl, hat⟩ := HL2.out.some hx
          obtain ⟨a0, a1, a2, a3, a4, a5⟩ := ky_cells hat hx
          have hbw : b < w.heap.size := World.block_lt_of_cell? w _ a0
          have hbs : b < s + 1 := by omega
          have c0 := (HBl.out.cell (p := ⟨b, o + k * 6, none⟩) hbs).trans ((HB.out.cell (p := ⟨b, o + k * 6, none⟩) (by rw [HSz.out]; exact hbw)).trans a0)
          have c1 := (HBl.out.cell (p := ⟨b, o + k * 6 + 1, none⟩) hbs).trans ((HB.out.cell (p := ⟨b, o + k * 6 + 1, none⟩) (by rw [HSz.out]; exact hbw)).trans a1)
          have c2 := (HBl.out.cell (p := ⟨b, o + k * 6 + 2, none⟩) hbs).trans ((HB.out.cell (p := ⟨b, o + k * 6 + 2, none⟩) (by rw [HSz.out]; exact hbw)).trans a2)
          have c3 := (HBl.out.cell (p := ⟨b, o + k * 6 + 3, none⟩) hbs).trans ((HB.out.cell (p := ⟨b, o + k * 6 + 3, none⟩) (by rw [HSz.out]; exact hbw)).trans a3)
          have c4 := (HBl.out.cell (p := ⟨b, o + k * 6 + 4, none⟩) hbs).trans ((HB.out.cell (p := ⟨b, o + k * 6 + 4, none⟩) (by rw [HSz.out]; exact hbw)).trans a4)
          have c5 := (HBl.out.cell (p := ⟨b, o + k * 6 + 5, none⟩) hbs).trans ((HB.out.cell (p := ⟨b, o + k * 6 + 5, none⟩) (by rw [HSz.out]; exact hbw)).trans a5)
          have ht : isB x.till 0 1000000 = true := isB_iff.2 f5
          have HWf := Lib.hid (wf_small (n := x.no) (by omega) (by omega))
          have HX := Lib.hid hx
          have HLt := Lib.hid f7
          clear a0 a1 a2 a3 a4 a5 hx hat f7
          have hb1 := (Below.refl wr.heap.size wr).alloc (Nat.le_refl _) (.cells #[.int .i64 x.no, .int .i64 x.client, .int .i64 x.fam, .bool x.refresh, .int .i64 x.till, .int .i64 x.state] 104)
          have p1 : (wr.alloc (.cells #[.int .i64 x.no, .int .i64 x.client, .int .i64 x.fam, .bool x.refresh, .int .i64 x.till, .int .i64 x.state] 104)).cell? ⟨s + 3, 2, none⟩ = some (.map (some (s + 2))) := (hb1.cell (p := ⟨s + 3, 2, none⟩) hlr).trans (HRr.out.cell 2)
          have HRn := Lib.hid (HRr.out.below hb1 hlr)
          have HMn := Lib.hid (HM.out.later hb1)
          have HKn := Lib.hid (HK.out.later hb1)
          have HBn := Lib.hid (HBl.out.alloc (by omega) (.cells #[.int .i64 x.no, .int .i64 x.client, .int .i64 x.fam, .bool x.refresh, .int .i64 x.till, .int .i64 x.state] 104))
          clear hb1
          go_wp2_with fail
          refine region_tail 18 (by kernel_rfl) (by kernel_rfl) ?_
          simp only [List.take_succ_cons, List.take_zero, List.drop_succ_cons, List.drop_zero]
          repeat still_step
          still_call (timeOf_at ht)
          repeat still_step
          refine wpStill_nil ?_
          refine wpList_put_I rfl (.tmp 49) (.tmp 51) (.tmp 63) 64 rfl Try.underlying64 Try.underlying2 rfl HKn.out (by unfold maxLen; omega) x.no rfl HWf.out (hkV x) rfl ?_
          intro w3 hm3 hg3'
          have hg3 := drew_grown hg3'
          rw [grow_k HLt.out] at hm3
          have HK3 := Lib.hid (hm3.same (kyF_step HX.out HLt.out))
          have HR3 := Lib.hid (HRn.out.grownI hg3 (fun e => by have := Option.some.inj e; omega))
          have HM3 := Lib.hid (HMn.out.grown hg3 (fun e => by have := Option.some.inj e; omega))
          have HB3 := Lib.hid (HBn.out.grown hg3 (by simp; omega) (fun j hj => by cases hj; omega))
          clear hm3 hg3 hg3'
          go_wp2_with fail
          go_roundw
          case rel => exact ⟨k + 1, by rw [← HN2.out]; omega, by go_num, HR3.out, HM3.out, HK3.out, HB3.out⟩
          case measure => simp [RowKit.intOf]; omega
        · have hK : IMap Try.prog 2 wr (s + 2) ks.length (kyF ks) := by
            have h := HK.out
            rw [List.take_of_length_le (by rw [← HN2.out]; omega)] at h
            have e : k = ks.length := by have := HN2.out; omega
            rw [e] at h
            exact h
          have HLa : Hid (LedAt wr (s + 1) (s + 3) (s + 1) (s + 2) ⟨now, ws, ks, []⟩) := Lib.hid ⟨fun _ => 0, fun i => ⟨by simp, n0⟩, HRr.out, HM.out, hK, by omega, by omega, by omega, by omega, by omega, by omega⟩
          have q3 : wr.cell? ⟨s, 3, none⟩ = some (.slice dp dn dc) := (HBl.out.cell (p := ⟨s, 3, none⟩) (by show s < s + 1; omega)).trans (R0.out.cell 3)
          clear hK
          go_wp2_with fail
          obtain ⟨wo, hwo⟩ : ∃ wo : World, wo = wr := ⟨_, rfl⟩
          rw [← hwo] at HBl HLa ⊢
          clear HM HK HRr hgl hlt hk hwo q3 hzr hlr
          go_loopw [68] (L3 now ws ks ds (s + 3) (s + 1) (s + 2) W) (fun i _ => dn - (RowKit.intOf i).toNat)
          case atStart => exact ⟨0, by omega, rfl, HLa.out, HBl.out⟩
          case round =>
            clear HBl HLa
            obtain ⟨k, hk, rfl, hled, hbel⟩ := hrel
            rw [← HN3.out] at hk
            have HBl := Lib.hid hbel
            have HLd := Lib.hid hled
            have hzr := hbel.size
            clear hbel hled
            by_cases hlt : k < dn
            · obtain ⟨x, hx⟩ : ∃ x, ds[k]? = some x := ⟨_, List.getElem?_eq_getElem (by rw [← HN3.out]; exact hlt)⟩
              obtain ⟨⟨f1, f2⟩, f3⟩ := deadOk_get HDs.out hx
              obtain ⟨y, hy, hyn⟩ := hasNo_find f2
              obtain ⟨j, hj, _⟩ := find_mem hy
              obtain ⟨⟨_, y9, _⟩, _⟩ := wordsOk_get HWs.out hj
              obtain ⟨b, o, rfl, hat⟩ := HL3.out.some hx
              have a0 := in_cells hat hx
              have hbw : b < w.heap.size := World.block_lt_of_cell? w _ a0
              have hbs : b < s + 1 := by omega
              have c0 : wr.cell? ⟨b, o + k, none⟩ = some (.int .i64 x) := (HBl.out.cell (p := ⟨b, o + k, none⟩) hbs).trans ((HB.out.cell (p := ⟨b, o + k, none⟩) (by rw [HSz.out]; exact hbw)).trans a0)
              have hwf := wf_small (n := x) (by omega) (by omega)
              have HWf := Lib.hid hwf
              have HY := Lib.hid hy
              have hins : insD (ds.take k) x = ds.take (k + 1) := by rw [insD_snoc f3, take_snoc hx]
              have HI := Lib.hid hins
              have hle : ws.length ≤ 1000000 := by have := HN1.out; omega
              clear hx hat a0 hy hj hyn f3 f2 hwf hins
              go_wp2_with fail
              refine (kill_any (s + 3) (s + 1) (s + 2) (s + 1) ⟨now, ws, ks, ds.take k⟩ x y _ HLd.out HY.out HWf.out n0 hle).mono ?_
              rintro e w3 ⟨rfl, hl3, hb3⟩
              have HB3 := Lib.hid (HBl.out.trans hb3)
              have HL4 : Hid (LedAt w3 (s + 1) (s + 3) (s + 1) (s + 2) ⟨now, ws, ks, ds.take (k + 1)⟩) := Lib.hid (by have h := hl3; unfold killG at h; simp only at h; rw [HI.out] at h; exact h)
              clear hl3 hb3
              go_wp2_with fail
              go_roundw
              case rel => exact ⟨k + 1, by rw [← HN3.out]; omega, by go_num, HL4.out, HB3.out⟩
              case measure => simp [RowKit.intOf]; omega
            · have HLf : Hid (LedAt wr (s + 1) (s + 3) (s + 1) (s + 2) ⟨now, ws, ks, ds⟩) := Lib.hid (by
                have h := HLd.out
                rw [List.take_of_length_le (by rw [← HN3.out]; omega)] at h
                exact h)
              go_wp2_with fail
              go_ret
              exact ⟨s + 1, s + 3, s + 1, s + 2, rfl, by omega, HLf.out, (HSz.out ▸ HB.out).trans (HBl.out.mono (by omega))⟩
end Go.Proofs.Ytchfgdiipjbgoaa
