/- Right events: mathematics, and the program's side. -/
import Derived.Test.YtjccnjfdeedneaaGreatSWoM
import Derived.Test.YtjccnjfdeedneaaGreatSGdH
import Derived.Laws.StructEq
namespace Go.Proofs.YtjccnjfdeedneaaGreat
open Go Go.RowKit Go.Lib
set_option linter.unusedVariables false
set_option linter.unusedSimpArgs false
set_option maxRecDepth 100000

def bitsL (n : Nat) (f : Nat → Bool) : List Value := (List.range n).map fun i => .bool (f i)
theorem bitsL_len (n : Nat) (f : Nat → Bool) : (bitsL n f).length = n := by simp [bitsL]
theorem bitsL_get {n i : Nat} {f : Nat → Bool} (h : i < n) : (bitsL n f)[i]? = some (.bool (f i)) := by simp [bitsL, h]
theorem bitsL_set {n i : Nat} {f : Nat → Bool} {b : Bool} (h : i < n) : (bitsL n f).set i (.bool b) = bitsL n (setB f i b) := by
 apply List.ext_getElem?
 intro j
 rw [List.getElem?_set]
 by_cases hj : j < n
 ·rw [bitsL_get hj, bitsL_get hj]
  by_cases e : i = j
  ·subst e; simp [bitsL_len, h, setB]
  ·have e2 : ¬ j = i := fun h => e h.symm
   simp [e, e2, setB]
 ·rw [List.getElem?_eq_none (l := bitsL n (setB f i b)) (by rw [bitsL_len]; omega), List.getElem?_eq_none (l := bitsL n f) (by rw [bitsL_len]; omega)]
  by_cases e : i = j
  ·subst e; omega
  ·simp [e]
theorem logOk_at {m : Nat} {bg bk : Nat → Bool} {l : List Ev} {k : Nat} {x : Ev} (hx : l[k]? = some x) : logOk m bg bk (l.drop k) = (evOk m bg bk x && logOk m (setB bg x.thread.toNat true) (setB bk x.thread.toNat x.ret) (l.drop (k + 1))) := by
 rw [drop_cons hx, logOk]
theorem place_at {t : Int} {m : Nat} {b : Bool} (h : (decide (0 ≤ t) && decide (t < (m : Int))) = b) (w : World) : Calls Tryz.prog 147 #[.int .i64 t, .int .i64 (m : Int)] w fun e w' => e = .returned (.bool b) ∧ w' = w := by
 by_cases h0 : 0 ≤ t
 ·rw [decide_eq_true h0, Bool.true_and] at h
  go_enter Tryz.func147, Tryz.ntmps147
  go_wp2_with fail
  go_ret
  exact ⟨by rw [← h]; rfl, rfl⟩
 ·rw [decide_eq_false h0, Bool.false_and] at h
  subst h
  have d0 : decide (0 ≤ t) = false := decide_eq_false h0
  go_enter Tryz.func147, Tryz.ntmps147
  go_wp2_with fail
  go_ret
  exact ⟨rfl, rfl⟩
def EvRel (m : Nat) (l : List Ev) (b1 b2 : Nat) (w : World) (i : Value) (wr : World) : Prop := ∃ (k : Nat) (bg bk : Nat → Bool), k ≤ l.length ∧ i = .int .i64 k ∧ logOk m no0 no0 l = logOk m bg bk (l.drop k) ∧ Row wr b1 212 (bitsL 6 bg) ∧ Row wr b2 212 (bitsL 6 bk) ∧ Below w.heap.size w wr
set_option maxHeartbeats 8000000 in
theorem events_imp (p : Option Addr) (n cap m : Nat) (l : List Ev) (w : World) (hn : n = l.length) (hl : LIn evCf w p l) (hc : n ≤ 1048576) (hm : m ≤ 6) : Calls Tryz.prog 84 #[.slice p n cap, .int .i64 (m : Int)] w (Ret (.bool (logOk m no0 no0 l)) w) := by
 obtain ⟨W, hW⟩ : ∃ W, W = (w.alloc (.cells #[.bool false, .bool false, .bool false, .bool false, .bool false, .bool false] 212)).alloc (.cells #[.bool false, .bool false, .bool false, .bool false, .bool false, .bool false] 212) := ⟨_, rfl⟩
 have hb0 : Below w.heap.size w W := by rw [hW]; go_grown
 have r1 : Row W w.heap.size 212 (bitsL 6 no0) := by
  rw [hW]
  exact Row.below (heap_alloc_new w _) ((Below.refl _ _).alloc (Nat.le_refl _) _) (by simp)
 have r2 : Row W (w.heap.size + 1) 212 (bitsL 6 no0) := by
  rw [hW]
  have h := heap_alloc_new (w.alloc (.cells #[.bool false, .bool false, .bool false, .bool false, .bool false, .bool false] 212)) (.cells #[.bool false, .bool false, .bool false, .bool false, .bool false, .bool false] 212)
  rw [World.size_alloc] at h
  exact h
 obtain ⟨b2, hb2⟩ : ∃ b2, b2 = w.heap.size + 1 := ⟨_, rfl⟩
 obtain ⟨b1, hb1⟩ : ∃ b1, b1 = w.heap.size := ⟨_, rfl⟩
 rw [← hb2] at r2
 rw [← hb1] at r1
 have h12 : b1 < b2 := by omega
 have h1w : w.heap.size ≤ b1 := by omega
 have HL := Lib.hid hl
 have HN := Lib.hid hn
 have HW := Lib.hid hW
 have HB1 := Lib.hid hb1
 have HB2 := Lib.hid hb2
 have HB := Lib.hid hb0
 have R1 := Lib.hid r1
 have R2 := Lib.hid r2
 clear hl hn hW hb1 hb2 hb0 r1 r2
 go_enter Tryz.func84, Tryz.ntmps84
 go_wp2_with fail
 rw [← HW.out, ← HB2.out, ← HB1.out]
 go_loopw [11] (EvRel m l b1 b2 w) (fun i _ => n - (RowKit.intOf i).toNat)
 case atStart => exact ⟨0, no0, no0, by omega, rfl, rfl, R1.out, R2.out, HB.out⟩
 case round =>
  obtain ⟨k, bg, bk, hk, rfl, he, hr1, hr2, hbel⟩ := hrel
  rw [← HN.out] at hk
  have HEq := Lib.hid he
  have HBl := Lib.hid hbel
  have HLr := Lib.hid (HL.out.later hbel)
  have HR1 := Lib.hid hr1
  have HR2 := Lib.hid hr2
  have hz1 := hr1.lt
  have hz2 := hr2.lt
  have hzw := hbel.size
  clear he hr1 hr2 hbel
  by_cases hlt : k < n
  ·obtain ⟨x, hx⟩ : ∃ x, l[k]? = some x := ⟨_, List.getElem?_eq_getElem (by rw [← HN.out]; exact hlt)⟩
   obtain ⟨b, o, rfl, hat⟩ := HLr.out.some hx
   obtain ⟨c0, c1, c2, c3, c4, c5⟩ := ev_cells hat hx
   have hst := HEq.out.trans (logOk_at hx)
   obtain ⟨th, rt, ⟨rc, rk, rn, ry⟩⟩ := x
   dsimp only at c0 c1 c2 c3 c4 c5 hst
   obtain ⟨V, hV⟩ : ∃ V, V = wr.alloc (.cells #[.int .i64 th, .bool rt, .int .i64 rc, .int .i64 rk, .int .i64 rn, .bool ry] 199) := ⟨_, rfl⟩
   obtain ⟨q, hq⟩ : ∃ q, q = wr.heap.size := ⟨_, rfl⟩
   have hbx : Below wr.heap.size wr V := by rw [hV]; exact (Below.refl _ _).alloc (Nat.le_refl _) _
   have rV : Row V q 199 [.int .i64 th, .bool rt, .int .i64 rc, .int .i64 rk, .int .i64 rn, .bool ry] := by rw [hV, hq]; exact heap_alloc_new wr _
   have hS1 := HR1.out.below hbx hz1
   have hS2 := HR2.out.below hbx hz2
   have hq1 : b1 < q ∧ b2 < q := by omega
   have HV := Lib.hid hV
   have HQ := Lib.hid hq
   have HBV := Lib.hid (HBl.out.trans (hbx.mono hzw))
   have HRV := Lib.hid rV
   have S1 := Lib.hid hS1
   have S2 := Lib.hid hS2
   have HSt := Lib.hid hst
   have f0 : ∀ u : Ext V, u.w.cell? ⟨q, 0, none⟩ = some (.int .i64 th) := fun u => u.cell (rV.cell 0)
   have f1 : ∀ u : Ext V, u.w.cell? ⟨q, 1, none⟩ = some (.bool rt) := fun u => u.cell (rV.cell 1)
   clear hx hat hbx rV hS1 hS2 hV hq hst
   cases hpl : (decide (0 ≤ th) && decide (th < (m : Int))) with
   | false =>
    have HF : Hid (logOk m no0 no0 l = false) := Lib.hid (by rw [HSt.out]; unfold evOk; rw [hpl]; rfl)
    have HP := Lib.hid hpl
    clear hpl
    go_wp2_with fail
    rw [← HV.out, ← HQ.out]
    refine ext_region V (by kernel_rfl) (by kernel_rfl) (Below.refl _ _) ?_
    repeat (go_big_quiet_step ((go_at_call 147; exact calls_ext_same (place_at HP.out _))))
    refine wpQuiet_nil ?_
    intro w3 hb3
    have HB3 := Lib.hid (HBV.out.trans (hb3.mono HBV.out.size))
    clear hb3
    go_wp2_with fail
    go_ret
    exact ⟨by rw [HF.out]; rfl, HB3.out⟩
   | true =>
    have HP := Lib.hid hpl
    obtain ⟨h0, h1⟩ : 0 ≤ th ∧ th < (m : Int) := by
     rw [Bool.and_eq_true] at hpl
     exact ⟨of_decide_eq_true hpl.1, of_decide_eq_true hpl.2⟩
    obtain ⟨t, ht⟩ : ∃ t : Nat, th = (t : Int) := ⟨th.toNat, by omega⟩
    subst ht
    have ht6 : t < 6 := by omega
    have g1 : ∀ u : Ext V, u.w.cell? ⟨b1, t, none⟩ = some (.bool (bg t)) := fun u => u.cell ((S1.out.cell t).trans (bitsL_get ht6))
    have g2 : ∀ u : Ext V, u.w.cell? ⟨b2, t, none⟩ = some (.bool (bk t)) := fun u => u.cell ((S2.out.cell t).trans (bitsL_get ht6))
    have HSt2 : Hid (logOk m no0 no0 l = ((!bk t && (bg t == rt) && (rt || (rc == 0 && rk == 0 && rn == 0 && !ry))) && logOk m (setB bg t true) (setB bk t rt) (l.drop (k + 1)))) := Lib.hid (by rw [HSt.out]; unfold evOk; rw [hpl]; simp)
    clear hpl HSt h0 h1
    cases hbk : bk t with
    | true =>
     have HF : Hid (logOk m no0 no0 l = false) := Lib.hid (by rw [HSt2.out, hbk]; rfl)
     rw [hbk] at g2
     clear hbk
     go_wp2_with fail
     rw [← HV.out, ← HQ.out]
     refine ext_region V (by kernel_rfl) (by kernel_rfl) (Below.refl _ _) ?_
     repeat (go_big_quiet_step ((go_at_call 147; exact calls_ext_same (place_at HP.out _))))
     refine wpQuiet_nil ?_
     intro w3 hb3
     have HB3 := Lib.hid (HBV.out.trans (hb3.mono HBV.out.size))
     clear hb3
     go_wp2_with fail
     go_ret
     exact ⟨by rw [HF.out]; rfl, HB3.out⟩
    | false =>
     rw [hbk] at g2
     cases rt <;> cases hbg : bg t <;> rw [hbg] at g1
     ·have HSt3 : Hid (logOk m no0 no0 l = ((rc == 0 && rk == 0 && rn == 0 && !ry) && logOk m (setB bg t true) (setB bk t false) (l.drop (k + 1)))) := Lib.hid (by rw [HSt2.out, hbk, hbg]; simp)
      clear hbk hbg HSt2
      go_wp2_with fail
      rw [← HV.out, ← HQ.out]
      refine ext_region V (by kernel_rfl) (by kernel_rfl) (Below.refl _ _) ?_
      repeat (go_big_quiet_step ((go_at_call 147; exact calls_ext_same (place_at HP.out _))))
      refine wpQuiet_nil ?_
      intro w3 hb3
      have HB3 := Lib.hid (HBV.out.trans (hb3.mono HBV.out.size))
      have T1 := Lib.hid (S1.out.below hb3 S1.out.lt)
      have T2 := Lib.hid (S2.out.below hb3 S2.out.lt)
      have RV3 := HRV.out.below hb3 HRV.out.lt
      have e0 : w3.cell? ⟨q, 0, none⟩ = some (.int .i64 t) := RV3.cell 0
      have e1 : w3.cell? ⟨q, 1, none⟩ = some (.bool false) := RV3.cell 1
      have e2 : w3.cell? ⟨q, 2, none⟩ = some (.int .i64 rc) := RV3.cell 2
      have e3 : w3.cell? ⟨q, 3, none⟩ = some (.int .i64 rk) := RV3.cell 3
      have e4 : w3.cell? ⟨q, 4, none⟩ = some (.int .i64 rn) := RV3.cell 4
      have e5 : w3.cell? ⟨q, 5, none⟩ = some (.bool ry) := RV3.cell 5
      have hzq := RV3.lt
      clear hb3 RV3 f0 f1 g1 g2
      by_cases z1 : rc = 0
      ·subst z1
       by_cases z2 : rk = 0
       ·subst z2
        by_cases z3 : rn = 0
        ·subst z3
         cases ry with
         | true =>
          have HF : Hid (logOk m no0 no0 l = false) := Lib.hid (by rw [HSt3.out]; simp)
          go_wp2_with fail
          go_ret
          exact ⟨by rw [HF.out]; rfl, HB3.out⟩
         | false =>
          have HSt4 : Hid (logOk m no0 no0 l = logOk m (setB bg t true) (setB bk t false) (l.drop (k + 1))) := Lib.hid (by rw [HSt3.out]; simp)
          go_upto_region 9 with fail
          have k1 : w3.cell? ⟨b1, t, none⟩ = some (.bool (bg t)) := (T1.out.cell t).trans (bitsL_get ht6)
          have k2 : w3.cell? ⟨b2, t, none⟩ = some (.bool (bk t)) := (T2.out.cell t).trans (bitsL_get ht6)
          have z1 := T1.out.free t
          have z2 := T2.out.free t
          have HNx : Hid (Row ((w3.setCell ⟨b1, t, none⟩ (.bool true)).setCell ⟨b2, t, none⟩ (.bool false)) b1 212 (bitsL 6 (setB bg t true)) ∧ Row ((w3.setCell ⟨b1, t, none⟩ (.bool true)).setCell ⟨b2, t, none⟩ (.bool false)) b2 212 (bitsL 6 (setB bk t false)) ∧ Below w.heap.size w ((w3.setCell ⟨b1, t, none⟩ (.bool true)).setCell ⟨b2, t, none⟩ (.bool false))) := Lib.hid ⟨by rw [← bitsL_set ht6]; exact Row.setElse (a := ⟨b2, t, none⟩) (T1.out.set t _) (by show b1 ≠ b2; omega) _, by rw [← bitsL_set ht6]; exact Row.set (Row.setElse (a := ⟨b1, t, none⟩) T2.out (by show b2 ≠ b1; omega) _) t _, (HB3.out.setCell (p := ⟨b1, t, none⟩) h1w _).setCell (p := ⟨b2, t, none⟩) (by show w.heap.size ≤ b2; omega) _⟩
          go_region
          all_goals
           go_wp2_with fail
           go_roundw
           case rel =>
            exact ⟨k + 1, _, _, by rw [← HN.out]; omega, by go_num, HSt4.out, HNx.out.1, HNx.out.2.1, HNx.out.2.2.drew⟩
           case measure => simp [RowKit.intOf]; omega
        ·have HF : Hid (logOk m no0 no0 l = false) := Lib.hid (by rw [HSt3.out]; simp [z3])
         go_wp2_with fail
         go_ret
         exact ⟨by rw [HF.out]; rfl, HB3.out⟩
       ·have HF : Hid (logOk m no0 no0 l = false) := Lib.hid (by rw [HSt3.out]; simp [z2])
        go_wp2_with fail
        go_ret
        exact ⟨by rw [HF.out]; rfl, HB3.out⟩
      ·have HF : Hid (logOk m no0 no0 l = false) := Lib.hid (by rw [HSt3.out]; simp [z1])
       go_wp2_with fail
       go_ret
       exact ⟨by rw [HF.out]; rfl, HB3.out⟩
     ·have HF : Hid (logOk m no0 no0 l = false) := Lib.hid (by rw [HSt2.out, hbk, hbg]; rfl)
      clear hbk hbg
      go_wp2_with fail
      rw [← HV.out, ← HQ.out]
      refine ext_region V (by kernel_rfl) (by kernel_rfl) (Below.refl _ _) ?_
      repeat (go_big_quiet_step ((go_at_call 147; exact calls_ext_same (place_at HP.out _))))
      refine wpQuiet_nil ?_
      intro w3 hb3
      have HB3 := Lib.hid (HBV.out.trans (hb3.mono HBV.out.size))
      clear hb3
      go_wp2_with fail
      go_ret
      exact ⟨by rw [HF.out]; rfl, HB3.out⟩
     ·have HF : Hid (logOk m no0 no0 l = false) := Lib.hid (by rw [HSt2.out, hbk, hbg]; rfl)
      clear hbk hbg
      go_wp2_with fail
      rw [← HV.out, ← HQ.out]
      refine ext_region V (by kernel_rfl) (by kernel_rfl) (Below.refl _ _) ?_
      repeat (go_big_quiet_step ((go_at_call 147; exact calls_ext_same (place_at HP.out _))))
      refine wpQuiet_nil ?_
      intro w3 hb3
      have HB3 := Lib.hid (HBV.out.trans (hb3.mono HBV.out.size))
      clear hb3
      go_wp2_with fail
      go_ret
      exact ⟨by rw [HF.out]; rfl, HB3.out⟩
     ·have HSt3 : Hid (logOk m no0 no0 l = logOk m (setB bg t true) (setB bk t true) (l.drop (k + 1))) := Lib.hid (by rw [HSt2.out, hbk, hbg]; simp)
      clear hbk hbg HSt2
      go_wp2_with fail
      rw [← HV.out, ← HQ.out]
      refine ext_region V (by kernel_rfl) (by kernel_rfl) (Below.refl _ _) ?_
      repeat (go_big_quiet_step ((go_at_call 147; exact calls_ext_same (place_at HP.out _))))
      refine wpQuiet_nil ?_
      intro w3 hb3
      have HB3 := Lib.hid (HBV.out.trans (hb3.mono HBV.out.size))
      have T1 := Lib.hid (S1.out.below hb3 S1.out.lt)
      have T2 := Lib.hid (S2.out.below hb3 S2.out.lt)
      have RV3 := HRV.out.below hb3 HRV.out.lt
      have e0 : w3.cell? ⟨q, 0, none⟩ = some (.int .i64 t) := RV3.cell 0
      have e1 : w3.cell? ⟨q, 1, none⟩ = some (.bool true) := RV3.cell 1
      have e2 : w3.cell? ⟨q, 2, none⟩ = some (.int .i64 rc) := RV3.cell 2
      have e3 : w3.cell? ⟨q, 3, none⟩ = some (.int .i64 rk) := RV3.cell 3
      have e4 : w3.cell? ⟨q, 4, none⟩ = some (.int .i64 rn) := RV3.cell 4
      have e5 : w3.cell? ⟨q, 5, none⟩ = some (.bool ry) := RV3.cell 5
      have hzq := RV3.lt
      clear hb3 RV3 f0 f1 g1 g2
      go_upto_region 9 with fail
      have k1 : w3.cell? ⟨b1, t, none⟩ = some (.bool (bg t)) := (T1.out.cell t).trans (bitsL_get ht6)
      have k2 : w3.cell? ⟨b2, t, none⟩ = some (.bool (bk t)) := (T2.out.cell t).trans (bitsL_get ht6)
      have z1 := T1.out.free t
      have z2 := T2.out.free t
      have HNx : Hid (Row ((w3.setCell ⟨b1, t, none⟩ (.bool true)).setCell ⟨b2, t, none⟩ (.bool true)) b1 212 (bitsL 6 (setB bg t true)) ∧ Row ((w3.setCell ⟨b1, t, none⟩ (.bool true)).setCell ⟨b2, t, none⟩ (.bool true)) b2 212 (bitsL 6 (setB bk t true)) ∧ Below w.heap.size w ((w3.setCell ⟨b1, t, none⟩ (.bool true)).setCell ⟨b2, t, none⟩ (.bool true))) := Lib.hid ⟨by rw [← bitsL_set ht6]; exact Row.setElse (a := ⟨b2, t, none⟩) (T1.out.set t _) (by show b1 ≠ b2; omega) _, by rw [← bitsL_set ht6]; exact Row.set (Row.setElse (a := ⟨b1, t, none⟩) T2.out (by show b2 ≠ b1; omega) _) t _, (HB3.out.setCell (p := ⟨b1, t, none⟩) h1w _).setCell (p := ⟨b2, t, none⟩) (by show w.heap.size ≤ b2; omega) _⟩
      go_region
      all_goals
       go_wp2_with fail
       go_roundw
       case rel =>
        exact ⟨k + 1, _, _, by rw [← HN.out]; omega, by go_num, HSt3.out, HNx.out.1, HNx.out.2.1, HNx.out.2.2.drew⟩
       case measure => simp [RowKit.intOf]; omega
  ·have HF : Hid (logOk m no0 no0 l = true) := Lib.hid (by rw [HEq.out, List.drop_of_length_le (by rw [← HN.out]; omega)]; rfl)
   go_wp2_with fail
   go_ret
   exact ⟨by rw [HF.out]; rfl, HBl.out⟩
end Go.Proofs.YtjccnjfdeedneaaGreat
