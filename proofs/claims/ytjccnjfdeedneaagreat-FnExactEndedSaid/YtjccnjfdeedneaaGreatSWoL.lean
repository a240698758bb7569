/- Right events: the model's side. -/
import Derived.Test.YtjccnjfdeedneaaGreatSWoE
import Derived.Laws.OwnMore
import Derived.Deep.OwnRows
namespace Go.Proofs.YtjccnjfdeedneaaGreat
open Go Go.RowKit Go.Lib
set_option linter.unusedVariables false
set_option linter.unusedSimpArgs false
set_option maxRecDepth 100000

def cntB (f : Nat → Bool) : Nat → Nat
 | 0 => 0
 | n + 1 => cntB f n + (f n).toNat
theorem cntB_le (f : Nat → Bool) : ∀ n, cntB f n ≤ n
 | 0 => Nat.le_refl _
 | n + 1 => by
  have h := cntB_le f n
  have h2 := Bool.toNat_le (f n)
  show cntB f n + (f n).toNat ≤ n + 1
  omega
theorem cntB_out (f : Nat → Bool) (i : Nat) (b : Bool) : ∀ n, n ≤ i → cntB (setB f i b) n = cntB f n
 | 0, _ => rfl
 | n + 1, h => by
  show cntB (setB f i b) n + (setB f i b n).toNat = cntB f n + (f n).toNat
  rw [cntB_out f i b n (by omega)]
  unfold setB
  rw [if_neg (by omega)]
theorem cntB_set (f : Nat → Bool) (i : Nat) (hf : f i = false) : ∀ n, i < n → cntB (setB f i true) n = cntB f n + 1
 | 0, h => by omega
 | n + 1, h => by
  show cntB (setB f i true) n + (setB f i true n).toNat = cntB f n + (f n).toNat + 1
  by_cases e : i = n
  ·subst e
   rw [cntB_out f i true i (Nat.le_refl _), hf]
   simp [setB]
  ·rw [cntB_set f i hf n (by omega)]
   unfold setB
   rw [if_neg (by omega)]
   omega
theorem setB_same {f : Nat → Bool} {i : Nat} {b : Bool} (h : f i = b) : setB f i b = f := by
 funext j
 unfold setB
 split
 ·next e => rw [e, h]
 ·rfl
theorem logOk_len {m : Nat} : ∀ {l : List Ev} {bg bk : Nat → Bool}, logOk m bg bk l = true → cntB bg m + cntB bk m + l.length ≤ 2 * m
 | [], bg, bk, _ => by
  have h1 := cntB_le bg m
  have h2 := cntB_le bk m
  show cntB bg m + cntB bk m + 0 ≤ 2 * m
  omega
 | x :: r, bg, bk, h => by
  rw [logOk, Bool.and_eq_true] at h
  obtain ⟨h1, h2⟩ := h
  have ih := logOk_len h2
  unfold evOk at h1
  simp only [Bool.and_eq_true, decide_eq_true_eq, Bool.not_eq_true', beq_iff_eq] at h1
  obtain ⟨⟨⟨⟨h0, hm⟩, hbk⟩, hbg⟩, _⟩ := h1
  have ht : x.thread.toNat < m := by omega
  rw [List.length_cons]
  cases hr : x.ret with
  | true =>
   rw [hr] at hbg ih
   rw [setB_same hbg, cntB_set bk _ hbk m ht] at ih
   omega
  | false =>
   rw [hr] at hbg ih
   rw [setB_same hbk, cntB_set bg _ hbg m ht] at ih
   omega
theorem bits_zero (m : Nat) : (madeCells #[Value.bool false] m).toList = bitsL m no0 := by
 rw [toList_madeCells_one]
 apply List.ext_getElem?
 intro i
 by_cases h : i < m
 ·rw [bitsL_get h]; simp [h, no0]
 ·rw [List.getElem?_eq_none (by simp; omega), List.getElem?_eq_none (by rw [bitsL_len]; omega)]
theorem row_bits (w : World) (m : Nat) : Row (w.alloc (.cells (madeCells #[Value.bool false] m) 4)) w.heap.size 4 (bitsL m no0) := by
 have h : Row (w.alloc (.cells (madeCells #[Value.bool false] m) 4)) w.heap.size 4 (madeCells #[Value.bool false] m).toList := heap_alloc_new w _
 rw [bits_zero] at h
 exact h
theorem infoBool : (Tryz.prog.info? 4).map (fun i => (i.zero, i.size, i.bytes)) = some (some (.bool false), 1, 1) := by kernel_rfl
theorem isw_at {n lo hi : Int} {b : Bool} (h : (decide (lo ≤ n) && decide (n ≤ hi)) = b) (w : World) : Calls Tryz.prog 102 #[.int .i64 n, .int .i64 lo, .int .i64 hi] w fun e w' => e = .returned (.bool b) ∧ w' = w := by
 by_cases h0 : lo ≤ n
 ·rw [decide_eq_true h0, Bool.true_and] at h
  go_enter Tryz.func102, Tryz.ntmps102
  go_wp2_with fail
  go_ret
  exact ⟨by rw [← h]; rfl, rfl⟩
 ·rw [decide_eq_false h0, Bool.false_and] at h
  subst h
  have d0 : decide (lo ≤ n) = false := decide_eq_false h0
  go_enter Tryz.func102, Tryz.ntmps102
  go_wp2_with fail
  go_ret
  exact ⟨rfl, rfl⟩
def LgRel (m : Nat) (l : List Ev) (b1 b2 : Nat) (w : World) (i : Value) (wr : World) : Prop := ∃ (k : Nat) (bg bk : Nat → Bool), k ≤ l.length ∧ k ≤ 13 ∧ i = .int .i64 k ∧ logOk m no0 no0 l = logOk m bg bk (l.drop k) ∧ Row wr b1 4 (bitsL m bg) ∧ Row wr b2 4 (bitsL m bk) ∧ Below w.heap.size w wr
set_option maxHeartbeats 8000000 in
theorem log_spec (p : Option Addr) (n cap m : Nat) (l : List Ev) (w : World) (hn : n = l.length) (hl : LIn evCf w p l) (hc : n ≤ 1048576) (hm1 : 1 ≤ m) (hm : m ≤ 6) : Calls Tryz.prog 78 #[.slice p n cap, .int .i64 (m : Int)] w (Ret (.bool (logOk m no0 no0 l)) w) := by
 have HL := Lib.hid hl
 have HN := Lib.hid hn
 have hmk := run_make_row' (P := Tryz.prog) 197 4 (.bool false) 1 Tryz.underlying197 infoBool rfl .i64 .i64 m (by omega) (by omega)
 clear hl hn
 go_enter Tryz.func78, Tryz.ntmps78
 go_upto_region 1 with fail
 go_cut [5, 6] (fun v5 v6 wx => ∃ b1 b2, v5 = .slice (some ⟨b1, 0, none⟩) m m ∧ v6 = .slice (some ⟨b2, 0, none⟩) m m ∧ b1 ≠ b2 ∧ w.heap.size ≤ b1 ∧ w.heap.size ≤ b2 ∧ Row wx b1 4 (bitsL m no0) ∧ Row wx b2 4 (bitsL m no0) ∧ Below w.heap.size w wx)
 case first =>
  have hq1 := row_bits w m
  have hq2 := row_bits (w.alloc (.cells (madeCells #[Value.bool false] m) 4)) m
  rw [World.size_alloc] at hq2
  have hq3 := hq1.below ((Below.refl _ _).alloc (Nat.le_refl _) (.cells (madeCells #[Value.bool false] m) 4)) (by simp)
  go_region
  all_goals
   go_wp2_with fail
   go_meet
   first
   | exact ⟨w.heap.size, w.heap.size + 1, rfl, rfl, by omega, by omega, by omega, hq3, hq2, by go_grown⟩
   | exact ⟨w.heap.size + 1, w.heap.size, rfl, rfl, by omega, by omega, by omega, hq2, hq3, by go_grown⟩
 case rest =>
 obtain ⟨b1, b2, rfl, rfl, hne, hb1, hb2, hr1, hr2, hbU⟩ := hcut
 obtain ⟨U, hU⟩ : ∃ U : World, U = wc := ⟨_, rfl⟩
 rw [← hU] at hr1 hr2 hbU ⊢
 have R1 := Lib.hid hr1
 have R2 := Lib.hid hr2
 have HB := Lib.hid hbU
 clear hU hr1 hr2 hbU hmk
 go_wp2_with fail
 go_loopw [7] (LgRel m l b1 b2 w) (fun i _ => n - (RowKit.intOf i).toNat)
 case atStart => exact ⟨0, no0, no0, by omega, by omega, rfl, rfl, R1.out, R2.out, HB.out⟩
 case round =>
  obtain ⟨k, bg, bk, hk, hk13, rfl, he, hr1, hr2, hbel⟩ := hrel
  rw [← HN.out] at hk
  have HEq := Lib.hid he
  have HBl := Lib.hid hbel
  have HLr := Lib.hid (HL.out.later hbel)
  have HR1 := Lib.hid hr1
  have HR2 := Lib.hid hr2
  have hz1 := hr1.lt
  have hz2 := hr2.lt
  have hzw := hbel.size
  clear he hr1 hr2 hbel
  by_cases hlt : k < n
  ·by_cases h12 : k ≤ 12
   ·obtain ⟨x, hx⟩ : ∃ x, l[k]? = some x := ⟨_, List.getElem?_eq_getElem (by rw [← HN.out]; exact hlt)⟩
    obtain ⟨b, o, rfl, hat⟩ := HLr.out.some hx
    obtain ⟨c0, c1, c2, c3, c4, c5⟩ := ev_cells hat hx
    have hst := HEq.out.trans (logOk_at hx)
    obtain ⟨th, rt, ⟨rc, rk, rn, ry⟩⟩ := x
    dsimp only at c0 c1 c2 c3 c4 c5 hst
    obtain ⟨V, hV⟩ : ∃ V, V = wr.alloc (.cells #[.int .i64 th, .bool rt, .int .i64 rc, .int .i64 rk, .int .i64 rn, .bool ry] 199) := ⟨_, rfl⟩
    obtain ⟨q, hq⟩ : ∃ q, q = wr.heap.size := ⟨_, rfl⟩
    have hbx : Below wr.heap.size wr V := by rw [hV]; exact (Below.refl _ _).alloc (Nat.le_refl _) _
    have rV : Row V q 199 [.int .i64 th, .bool rt, .int .i64 rc, .int .i64 rk, .int .i64 rn, .bool ry] := by rw [hV, hq]; exact heap_alloc_new wr _
    have hS1 := HR1.out.below hbx hz1
    have hS2 := HR2.out.below hbx hz2
    have HV := Lib.hid hV
    have HQ := Lib.hid hq
    have HBV := Lib.hid (HBl.out.trans (hbx.mono hzw))
    have HRV := Lib.hid rV
    have S1 := Lib.hid hS1
    have S2 := Lib.hid hS2
    have HSt := Lib.hid hst
    have f0 : ∀ u : Ext V, u.w.cell? ⟨q, 0, none⟩ = some (.int .i64 th) := fun u => u.cell (rV.cell 0)
    have f1 : ∀ u : Ext V, u.w.cell? ⟨q, 1, none⟩ = some (.bool rt) := fun u => u.cell (rV.cell 1)
    have f2 : ∀ u : Ext V, u.w.cell? ⟨q, 2, none⟩ = some (.int .i64 rc) := fun u => u.cell (rV.cell 2)
    have f3 : ∀ u : Ext V, u.w.cell? ⟨q, 3, none⟩ = some (.int .i64 rk) := fun u => u.cell (rV.cell 3)
    have f4 : ∀ u : Ext V, u.w.cell? ⟨q, 4, none⟩ = some (.int .i64 rn) := fun u => u.cell (rV.cell 4)
    have f5 : ∀ u : Ext V, u.w.cell? ⟨q, 5, none⟩ = some (.bool ry) := fun u => u.cell (rV.cell 5)
    clear hx hat hbx rV hS1 hS2 hV hq hst
    cases hpl : (decide (0 ≤ th) && decide (th ≤ (m : Int) - 1)) with
    | false =>
     have HF : Hid (logOk m no0 no0 l = false) := Lib.hid (by
      rw [HSt.out]
      have e : (decide (0 ≤ th) && decide (th < (m : Int))) = false := by rw [← hpl]; congr 1; exact decide_eq_decide.2 (by omega)
      unfold evOk
      rw [e]
      rfl)
     have HP := Lib.hid hpl
     clear hpl
     go_wp2_with fail
     rw [← HV.out, ← HQ.out]
     refine ext_region V (by kernel_rfl) (by kernel_rfl) (Below.refl _ _) ?_
     repeat (go_big_quiet_step ((go_at_call 102; exact calls_ext_same (isw_at HP.out _))))
     refine wpQuiet_nil ?_
     intro w3 hb3
     have HB3 := Lib.hid (HBV.out.trans (hb3.mono HBV.out.size))
     clear hb3
     go_wp2_with fail
     go_ret
     exact ⟨by rw [HF.out]; rfl, HB3.out⟩
    | true =>
     have HP := Lib.hid hpl
     obtain ⟨h0, h1⟩ : 0 ≤ th ∧ th ≤ (m : Int) - 1 := by
      rw [Bool.and_eq_true] at hpl
      exact ⟨of_decide_eq_true hpl.1, of_decide_eq_true hpl.2⟩
     obtain ⟨t, ht⟩ : ∃ t : Nat, th = (t : Int) := ⟨th.toNat, by omega⟩
     subst ht
     have htm : t < m := by omega
     have g1 : ∀ u : Ext V, u.w.cell? ⟨b1, t, none⟩ = some (.bool (bg t)) := fun u => u.cell ((S1.out.cell t).trans (bitsL_get htm))
     have g2 : ∀ u : Ext V, u.w.cell? ⟨b2, t, none⟩ = some (.bool (bk t)) := fun u => u.cell ((S2.out.cell t).trans (bitsL_get htm))
     have HSt2 : Hid (logOk m no0 no0 l = ((!bk t && (bg t == rt) && (rt || (rc == 0 && rk == 0 && rn == 0 && !ry))) && logOk m (setB bg t true) (setB bk t rt) (l.drop (k + 1)))) := Lib.hid (by
      rw [HSt.out]
      unfold evOk
      rw [decide_eq_true (show 0 ≤ (t : Int) by omega), decide_eq_true (show (t : Int) < m by omega)]
      simp)
     clear hpl HSt h0 h1
     cases rt <;> cases hbg : bg t <;> rw [hbg] at g1
     ·cases hbk : bk t with
      | true =>
       have HF : Hid (logOk m no0 no0 l = false) := Lib.hid (by rw [HSt2.out, hbk]; rfl)
       rw [hbk] at g2
       clear hbk hbg
       go_wp2_with fail
       rw [← HV.out, ← HQ.out]
       refine ext_region V (by kernel_rfl) (by kernel_rfl) (Below.refl _ _) ?_
       repeat (go_big_quiet_step ((go_at_call 102; exact calls_ext_same (isw_at HP.out _))))
       refine wpQuiet_nil ?_
       intro w3 hb3
       have HB3 := Lib.hid (HBV.out.trans (hb3.mono HBV.out.size))
       clear hb3
       go_wp2_with fail
       go_ret
       exact ⟨by rw [HF.out]; rfl, HB3.out⟩
      | false =>
       rw [hbk] at g2
       have HSt3 : Hid (logOk m no0 no0 l = ((rc == 0 && rk == 0 && rn == 0 && !ry) && logOk m (setB bg t true) bk (l.drop (k + 1)))) := Lib.hid (by rw [HSt2.out, hbk, hbg, setB_same hbk]; simp)
       clear hbg hbk HSt2
       cases hz : (rc == 0 && rk == 0 && rn == 0 && !ry) with
       | false =>
        have HF : Hid (logOk m no0 no0 l = false) := Lib.hid (by rw [HSt3.out, hz]; rfl)
        have hdec : (rc = 0 ∧ rk = 0 ∧ rn = 0 ∧ ry = true) ∨ (rc = 0 ∧ rk = 0 ∧ rn ≠ 0) ∨ (rc = 0 ∧ rk ≠ 0) ∨ rc ≠ 0 := by
         by_cases z1 : rc = 0 <;> by_cases z2 : rk = 0 <;> by_cases z3 : rn = 0 <;> cases ry <;> simp_all
        clear hz HSt3
        rcases hdec with ⟨rfl, rfl, rfl, rfl⟩ | ⟨rfl, rfl, z3⟩ | ⟨rfl, z2⟩ | z1
        all_goals
         go_wp2_with fail
         rw [← HV.out, ← HQ.out]
         refine ext_region V (by kernel_rfl) (by kernel_rfl) (Below.refl _ _) ?_
         repeat (go_big_quiet_step ((go_at_call 102; exact calls_ext_same (isw_at HP.out _))))
         refine wpQuiet_nil ?_
         intro w3 hb3
         have HB3 := Lib.hid (HBV.out.trans (hb3.mono HBV.out.size))
         clear hb3
         go_wp2_with fail
         go_ret
         exact ⟨by rw [HF.out]; rfl, HB3.out⟩
       | true =>
        obtain ⟨rfl, rfl, rfl, rfl⟩ : rc = 0 ∧ rk = 0 ∧ rn = 0 ∧ ry = false := by
         simp only [Bool.and_eq_true, beq_iff_eq, Bool.not_eq_true'] at hz
         exact ⟨hz.1.1.1, hz.1.1.2, hz.1.2, hz.2⟩
        have HSt4 : Hid (logOk m no0 no0 l = logOk m (setB bg t true) bk (l.drop (k + 1))) := Lib.hid (by rw [HSt3.out]; simp)
        clear hz HSt3
        go_wp2_with fail
        rw [← HV.out, ← HQ.out]
        refine ext_region V (by kernel_rfl) (by kernel_rfl) (Below.refl _ _) ?_
        repeat (go_big_quiet_step ((go_at_call 102; exact calls_ext_same (isw_at HP.out _))))
        refine wpQuiet_nil ?_
        intro w3 hb3
        have HB3 := Lib.hid (HBV.out.trans (hb3.mono HBV.out.size))
        have T1 := Lib.hid (S1.out.below hb3 S1.out.lt)
        have T2 := Lib.hid (S2.out.below hb3 S2.out.lt)
        have RV3 := HRV.out.below hb3 HRV.out.lt
        have e0 : w3.cell? ⟨q, 0, none⟩ = some (.int .i64 t) := RV3.cell 0
        have e1 : w3.cell? ⟨q, 1, none⟩ = some (.bool false) := RV3.cell 1
        have k1 : w3.cell? ⟨b1, t, none⟩ = some (.bool (bg t)) := (T1.out.cell t).trans (bitsL_get htm)
        have y1 := T1.out.free t
        have HNx : Hid (Row (w3.setCell ⟨b1, t, none⟩ (.bool true)) b1 4 (bitsL m (setB bg t true)) ∧ Row (w3.setCell ⟨b1, t, none⟩ (.bool true)) b2 4 (bitsL m bk) ∧ Below w.heap.size w (w3.setCell ⟨b1, t, none⟩ (.bool true))) := Lib.hid ⟨by rw [← bitsL_set htm]; exact T1.out.set t _, Row.setElse (a := ⟨b1, t, none⟩) T2.out (by show b2 ≠ b1; omega) _, HB3.out.setCell (p := ⟨b1, t, none⟩) hb1 _⟩
        clear hb3 RV3 f0 f1 f2 f3 f4 f5 g1 g2
        go_wp2_with fail
        go_roundw
        case rel => exact ⟨k + 1, _, _, by rw [← HN.out]; omega, by omega, by go_num, HSt4.out, HNx.out.1, HNx.out.2.1, HNx.out.2.2⟩
        case measure => simp [RowKit.intOf]; omega
     ·have HF : Hid (logOk m no0 no0 l = false) := Lib.hid (by rw [HSt2.out, hbg]; simp)
      clear hbg
      go_wp2_with fail
      rw [← HV.out, ← HQ.out]
      refine ext_region V (by kernel_rfl) (by kernel_rfl) (Below.refl _ _) ?_
      repeat (go_big_quiet_step ((go_at_call 102; exact calls_ext_same (isw_at HP.out _))))
      refine wpQuiet_nil ?_
      intro w3 hb3
      have HB3 := Lib.hid (HBV.out.trans (hb3.mono HBV.out.size))
      clear hb3
      go_wp2_with fail
      go_ret
      exact ⟨by rw [HF.out]; rfl, HB3.out⟩
     ·have HF : Hid (logOk m no0 no0 l = false) := Lib.hid (by rw [HSt2.out, hbg]; simp)
      clear hbg
      go_wp2_with fail
      rw [← HV.out, ← HQ.out]
      refine ext_region V (by kernel_rfl) (by kernel_rfl) (Below.refl _ _) ?_
      repeat (go_big_quiet_step ((go_at_call 102; exact calls_ext_same (isw_at HP.out _))))
      refine wpQuiet_nil ?_
      intro w3 hb3
      have HB3 := Lib.hid (HBV.out.trans (hb3.mono HBV.out.size))
      clear hb3
      go_wp2_with fail
      go_ret
      exact ⟨by rw [HF.out]; rfl, HB3.out⟩
     ·cases hbk : bk t with
      | true =>
       have HF : Hid (logOk m no0 no0 l = false) := Lib.hid (by rw [HSt2.out, hbk]; rfl)
       rw [hbk] at g2
       clear hbk hbg
       go_wp2_with fail
       rw [← HV.out, ← HQ.out]
       refine ext_region V (by kernel_rfl) (by kernel_rfl) (Below.refl _ _) ?_
       repeat (go_big_quiet_step ((go_at_call 102; exact calls_ext_same (isw_at HP.out _))))
       refine wpQuiet_nil ?_
       intro w3 hb3
       have HB3 := Lib.hid (HBV.out.trans (hb3.mono HBV.out.size))
       clear hb3
       go_wp2_with fail
       go_ret
       exact ⟨by rw [HF.out]; rfl, HB3.out⟩
      | false =>
       rw [hbk] at g2
       have HSt4 : Hid (logOk m no0 no0 l = logOk m bg (setB bk t true) (l.drop (k + 1))) := Lib.hid (by rw [HSt2.out, hbk, hbg, setB_same hbg]; simp)
       clear hbg hbk HSt2
       go_wp2_with fail
       rw [← HV.out, ← HQ.out]
       refine ext_region V (by kernel_rfl) (by kernel_rfl) (Below.refl _ _) ?_
       repeat (go_big_quiet_step ((go_at_call 102; exact calls_ext_same (isw_at HP.out _))))
       refine wpQuiet_nil ?_
       intro w3 hb3
       have HB3 := Lib.hid (HBV.out.trans (hb3.mono HBV.out.size))
       have T1 := Lib.hid (S1.out.below hb3 S1.out.lt)
       have T2 := Lib.hid (S2.out.below hb3 S2.out.lt)
       have RV3 := HRV.out.below hb3 HRV.out.lt
       have e0 : w3.cell? ⟨q, 0, none⟩ = some (.int .i64 t) := RV3.cell 0
       have e1 : w3.cell? ⟨q, 1, none⟩ = some (.bool true) := RV3.cell 1
       have k2 : w3.cell? ⟨b2, t, none⟩ = some (.bool (bk t)) := (T2.out.cell t).trans (bitsL_get htm)
       have y2 := T2.out.free t
       have HNx : Hid (Row (w3.setCell ⟨b2, t, none⟩ (.bool true)) b1 4 (bitsL m bg) ∧ Row (w3.setCell ⟨b2, t, none⟩ (.bool true)) b2 4 (bitsL m (setB bk t true)) ∧ Below w.heap.size w (w3.setCell ⟨b2, t, none⟩ (.bool true))) := Lib.hid ⟨Row.setElse (a := ⟨b2, t, none⟩) T1.out (by show b1 ≠ b2; omega) _, by rw [← bitsL_set htm]; exact T2.out.set t _, HB3.out.setCell (p := ⟨b2, t, none⟩) hb2 _⟩
       clear hb3 RV3 f0 f1 f2 f3 f4 f5 g1 g2
       go_wp2_with fail
       go_roundw
       case rel => exact ⟨k + 1, _, _, by rw [← HN.out]; omega, by omega, by go_num, HSt4.out, HNx.out.1, HNx.out.2.1, HNx.out.2.2⟩
       case measure => simp [RowKit.intOf]; omega
   ·have HF : Hid (logOk m no0 no0 l = decide ((n : Int) ≤ 12)) := Lib.hid (by
     cases hq : logOk m no0 no0 l with
     | false => rw [decide_eq_false (by omega)]
     | true => have := logOk_len hq; have := HN.out; omega)
    go_wp2_with fail
    go_ret
    exact ⟨by rw [HF.out]; rfl, HBl.out⟩
  ·have HF : Hid (logOk m no0 no0 l = decide ((n : Int) ≤ 12)) := Lib.hid (by
    have h1 : logOk m no0 no0 l = true := by rw [HEq.out, List.drop_of_length_le (by rw [← HN.out]; omega)]; rfl
    have h2 := logOk_len h1
    have := HN.out
    rw [h1, decide_eq_true (by omega)])
   go_wp2_with fail
   go_ret
   exact ⟨by rw [HF.out]; rfl, HBl.out⟩
end Go.Proofs.YtjccnjfdeedneaaGreat
