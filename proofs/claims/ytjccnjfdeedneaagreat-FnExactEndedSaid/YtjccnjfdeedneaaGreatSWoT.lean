/- Right threads: the program's side. -/
import Derived.Test.YtjccnjfdeedneaaGreatSWoM
namespace Go.Proofs.YtjccnjfdeedneaaGreat
open Go Go.RowKit Go.Lib
set_option linter.unusedVariables false
set_option maxRecDepth 100000

theorem thread_imp_at {t : TH} {b : Bool} {w : World} (hp : t.req.proof.size ≤ maxLen) (h : threadB t = b) : Calls Tryz.prog 143 #[thV t] w (Ret (.bool b) w) := by
 subst h
 exact thread_imp t w hp
def ThrRel (l : List TH) (w : World) (i : Value) (wr : World) : Prop := ∃ k : Nat, k ≤ l.length ∧ i = .int .i64 k ∧ thrOk [] l = thrOk (l.take k) (l.drop k) ∧ Below w.heap.size w wr
set_option maxHeartbeats 4000000 in
theorem threads_imp (p : Option Addr) (n cap : Nat) (l : List TH) (w : World) (hn : n = l.length) (hl : LIn thL w p l) (hpr : ∀ t ∈ l, t.req.proof.size ≤ maxLen) (hc : n ≤ 1048576) (hcap : n ≤ cap) (hcm : cap ≤ 1048576) : Calls Tryz.prog 81 #[.slice p n cap] w (Ret (.bool (thsB l)) w) := by
 have HL := Lib.hid hl
 have HN := Lib.hid hn
 have HPr := Lib.hid hpr
 clear hpr
 rcases (show n = 0 ∨ (n ≠ 0 ∧ 6 < n) ∨ (1 ≤ n ∧ n ≤ 6) by omega) with h4 | ⟨h40, h4⟩ | ⟨h40, h4⟩
 ·have HS : Hid (thsB l = false) := Lib.hid (by unfold thsB; rw [decide_eq_false (show ¬ 1 ≤ l.length by omega)]; rfl)
  have e0 : ((n : Int) == 0) = true := by simpa using h4
  clear hl hn
  go_enter Tryz.func81, Tryz.ntmps81
  go_wp2_with fail
  go_ret
  exact ⟨by rw [HS.out]; rfl, Below.refl _ _⟩
 ·have HS : Hid (thsB l = false) := Lib.hid (by unfold thsB; rw [decide_eq_false (show ¬ l.length ≤ 6 by omega)]; simp)
  have e0 : ((n : Int) == 0) = false := by simpa using h40
  clear hl hn
  go_enter Tryz.func81, Tryz.ntmps81
  go_wp2_with fail
  go_ret
  exact ⟨by rw [HS.out]; rfl, Below.refl _ _⟩
 ·have TE : Hid (thsB l = thrOk [] l) := Lib.hid (by unfold thsB; rw [decide_eq_true (show 1 ≤ l.length by omega), decide_eq_true (show l.length ≤ 6 by omega)]; simp)
  have e0 : ((n : Int) == 0) = false := by simp; omega
  rw [TE.out]
  clear hl hn
  go_enter Tryz.func81, Tryz.ntmps81
  go_wp2_with fail
  go_loopw [15] (ThrRel l w) (fun i _ => n - (RowKit.intOf i).toNat)
  case atStart => exact ⟨0, by omega, rfl, rfl, Below.refl _ _⟩
  case round =>
   obtain ⟨k, hk, rfl, he, hbel⟩ := hrel
   rw [← HN.out] at hk
   have HEq := Lib.hid he
   have HBl := Lib.hid hbel
   have hz := hbel.size
   have HCr := Lib.hid (HL.out.later hbel)
   clear he hbel
   by_cases hlt : k < n
   ·obtain ⟨x, hx⟩ : ∃ x, l[k]? = some x := ⟨_, List.getElem?_eq_getElem (by rw [← HN.out]; exact hlt)⟩
    obtain ⟨b, o, rfl, hat⟩ := HCr.out.some hx
    obtain ⟨c0, c1, c2, c3, c4, c5, c6, c7, c8, c9, c10, c11, c12, c13, c14⟩ := th_cells hat hx
    have HX := Lib.hid hx
    have hst := HEq.out.trans (thrOk_at hx)
    have HLk : Hid (k = (l.take k).length) := Lib.hid (by have := HN.out; rw [List.length_take]; omega)
    have hLs : Hid ((l.take k).length ≤ 1048576) := Lib.hid (by have := HN.out; rw [List.length_take]; omega)
    have hkc : k ≤ cap := by omega
    have hbx := (Below.refl wr.heap.size wr).alloc (Nat.le_refl _) (.cells #[.int .i64 x.req.no, .int .i64 x.req.kind, .int .i64 x.req.client, .int .i64 x.req.code, .int .i64 x.req.token, .string x.req.proof, .int .i64 x.req.upTo, .int .i64 x.pc, .int .i64 x.ver, .int .i64 x.till, .int .i64 x.resp.code, .int .i64 x.resp.token, .int .i64 x.resp.next, .bool x.resp.yes, .bool x.done] 147)
    obtain ⟨V, hV⟩ : ∃ V, V = wr.alloc (.cells #[.int .i64 x.req.no, .int .i64 x.req.kind, .int .i64 x.req.client, .int .i64 x.req.code, .int .i64 x.req.token, .string x.req.proof, .int .i64 x.req.upTo, .int .i64 x.pc, .int .i64 x.ver, .int .i64 x.till, .int .i64 x.resp.code, .int .i64 x.resp.token, .int .i64 x.resp.next, .bool x.resp.yes, .bool x.done] 147) := ⟨_, rfl⟩
    have hrV : Row V wr.heap.size 147 (thL x) := by rw [hV]; exact heap_alloc_new wr _
    rw [← hV] at hbx
    have HV := Lib.hid hV
    have HBV := Lib.hid (HBl.out.trans (hbx.mono hz))
    have hzV := HBV.out.size
    have HCV := Lib.hid ((HCr.out.later hbx).take k)
    have f0 : ∀ u : Ext V, u.w.cell? ⟨wr.heap.size, 0, none⟩ = some (.int .i64 x.req.no) := fun u => u.cell (hrV.cell 0)
    have f1 : ∀ u : Ext V, u.w.cell? ⟨wr.heap.size, 1, none⟩ = some (.int .i64 x.req.kind) := fun u => u.cell (hrV.cell 1)
    have f2 : ∀ u : Ext V, u.w.cell? ⟨wr.heap.size, 2, none⟩ = some (.int .i64 x.req.client) := fun u => u.cell (hrV.cell 2)
    have f3 : ∀ u : Ext V, u.w.cell? ⟨wr.heap.size, 3, none⟩ = some (.int .i64 x.req.code) := fun u => u.cell (hrV.cell 3)
    have f4 : ∀ u : Ext V, u.w.cell? ⟨wr.heap.size, 4, none⟩ = some (.int .i64 x.req.token) := fun u => u.cell (hrV.cell 4)
    have f5 : ∀ u : Ext V, u.w.cell? ⟨wr.heap.size, 5, none⟩ = some (.string x.req.proof) := fun u => u.cell (hrV.cell 5)
    have f6 : ∀ u : Ext V, u.w.cell? ⟨wr.heap.size, 6, none⟩ = some (.int .i64 x.req.upTo) := fun u => u.cell (hrV.cell 6)
    have f7 : ∀ u : Ext V, u.w.cell? ⟨wr.heap.size, 7, none⟩ = some (.int .i64 x.pc) := fun u => u.cell (hrV.cell 7)
    have f8 : ∀ u : Ext V, u.w.cell? ⟨wr.heap.size, 8, none⟩ = some (.int .i64 x.ver) := fun u => u.cell (hrV.cell 8)
    have f9 : ∀ u : Ext V, u.w.cell? ⟨wr.heap.size, 9, none⟩ = some (.int .i64 x.till) := fun u => u.cell (hrV.cell 9)
    have f10 : ∀ u : Ext V, u.w.cell? ⟨wr.heap.size, 10, none⟩ = some (.int .i64 x.resp.code) := fun u => u.cell (hrV.cell 10)
    have f11 : ∀ u : Ext V, u.w.cell? ⟨wr.heap.size, 11, none⟩ = some (.int .i64 x.resp.token) := fun u => u.cell (hrV.cell 11)
    have f12 : ∀ u : Ext V, u.w.cell? ⟨wr.heap.size, 12, none⟩ = some (.int .i64 x.resp.next) := fun u => u.cell (hrV.cell 12)
    have f13 : ∀ u : Ext V, u.w.cell? ⟨wr.heap.size, 13, none⟩ = some (.bool x.resp.yes) := fun u => u.cell (hrV.cell 13)
    have f14 : ∀ u : Ext V, u.w.cell? ⟨wr.heap.size, 14, none⟩ = some (.bool x.done) := fun u => u.cell (hrV.cell 14)
    clear hx hat hbx hV hrV
    cases t1 : threadB x with
    | false =>
     have HS : Hid (thrOk [] l = false) := Lib.hid (by rw [hst, t1]; rfl)
     have T1 := Lib.hid t1
     clear t1 hst
     go_wp2_with fail
     rw [← HV.out]
     refine ext_region V (by kernel_rfl) (by kernel_rfl) (Below.refl _ _) ?_
     repeat (go_big_quiet_step ((go_at_call 143; exact calls_ext (thread_imp_at (HPr.out x (List.mem_of_getElem? HX.out)) T1.out))))
     refine wpQuiet_nil ?_
     intro w3 hb3
     have HB3 := Lib.hid (HBV.out.trans (hb3.mono hzV))
     clear hb3
     go_wp2_with fail
     go_ret
     exact ⟨by rw [HS.out]; rfl, HB3.out⟩
    | true =>
     have T1 := Lib.hid t1
     have hix : decide (0 ≤ thIx (l.take k) x.req.no) = hasNoT (l.take k) x.req.no := thIx_nonneg
     cases t2 : hasNoT (l.take k) x.req.no with
     | true =>
      have HS : Hid (thrOk [] l = false) := Lib.hid (by rw [hst, t1, t2]; rfl)
      rw [t2] at hix
      obtain ⟨r, hr⟩ : ∃ r, thIx (l.take k) x.req.no = r := ⟨_, rfl⟩
      rw [hr] at hix
      have HRx := Lib.hid hr
      clear t1 t2 hst hr
      go_wp2_with fail
      rw [← HV.out]
      refine ext_region V (by kernel_rfl) (by kernel_rfl) (Below.refl _ _) ?_
      repeat (go_big_quiet_step (first | (go_at_call 143; exact calls_ext (thread_imp_at (HPr.out x (List.mem_of_getElem? HX.out)) T1.out)) | (go_at_call 82; exact threadOf_ext HLk.out HCV.out hLs.out HRx.out)))
      refine wpQuiet_nil ?_
      intro w3 hb3
      have HB3 := Lib.hid (HBV.out.trans (hb3.mono hzV))
      clear hb3
      go_wp2_with fail
      go_ret
      exact ⟨by rw [HS.out]; rfl, HB3.out⟩
     | false =>
      rw [t1, t2] at hst
      have HNx := Lib.hid hst
      rw [t2] at hix
      obtain ⟨r, hr⟩ : ∃ r, thIx (l.take k) x.req.no = r := ⟨_, rfl⟩
      rw [hr] at hix
      have HRx := Lib.hid hr
      clear t1 t2 hst hr
      go_wp2_with fail
      rw [← HV.out]
      refine ext_region V (by kernel_rfl) (by kernel_rfl) (Below.refl _ _) ?_
      repeat (go_big_quiet_step (first | (go_at_call 143; exact calls_ext (thread_imp_at (HPr.out x (List.mem_of_getElem? HX.out)) T1.out)) | (go_at_call 82; exact threadOf_ext HLk.out HCV.out hLs.out HRx.out)))
      refine wpQuiet_nil ?_
      intro w3 hb3
      have HB3 := Lib.hid (HBV.out.trans (hb3.mono hzV))
      clear hb3
      go_wp2_with fail
      go_roundw
      case rel => exact ⟨k + 1, by rw [← HN.out]; omega, by go_num, HNx.out, HB3.out⟩
      case measure => simp [RowKit.intOf]; omega
   ·have HS : Hid (thrOk [] l = true) := Lib.hid (by rw [HEq.out]; exact thrOk_end (by rw [← HN.out]; omega))
    go_wp2_with fail
    go_ret
    exact ⟨by rw [HS.out]; rfl, HBl.out⟩
end Go.Proofs.YtjccnjfdeedneaaGreat
