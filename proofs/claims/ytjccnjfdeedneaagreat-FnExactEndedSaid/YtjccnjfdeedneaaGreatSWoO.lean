/- Room for all threads: the program's side. -/
import Derived.Test.YtjccnjfdeedneaaGreatSWoM
import Derived.Test.YtjccnjfdeedneaaGreatSDo1
namespace Go.Proofs.YtjccnjfdeedneaaGreat
open Go Go.RowKit Go.Lib
set_option linter.unusedVariables false
set_option maxRecDepth 100000

theorem hw_shape (ws : List Wd) (dead : List Int) (td : Int → Int) (n : Int) : ∃ c s t u d, (wdF ws dead td n).getD hwZ = .agg #[.int .i64 c, .string s, .float .f64 t, .bool u, .float .f64 d] := by
 unfold wdF
 cases findW ws n with
 | none => exact ⟨_, _, _, _, _, rfl⟩
 | some x => exact ⟨_, _, _, _, _, rfl⟩
def OpRel (g : Gr) (l : List TH) (w : World) (i : Value) (wr : World) : Prop := ∃ k : Nat, k ≤ l.length ∧ i = .int .i64 k ∧ freeB g (l.take k) = true ∧ Below w.heap.size w wr
set_option maxHeartbeats 8000000 in
theorem open_imp (g : Gr) (h : GH) (p : Option Addr) (n cap : Nat) (l : List TH) (w : World) (hin : GrIn w h g) (hg : grantB g = true) (hn : n = l.length) (hl : LIn thL w p l) (hc : n ≤ 6) (hno : ∀ t ∈ l, 1 ≤ t.req.no ∧ t.req.no ≤ 99) :
  Calls Tryz.prog 83 #[grV g.now h, .slice p n cap] w (Ret (.bool (roomB g n && freeB g l)) w) := by
 obtain ⟨W, hW⟩ : ∃ W, W = w.alloc (.cells #[.int .i64 g.now, .slice h.wp h.wn h.wc, .slice h.kp h.kn h.kc, .slice h.dp h.dn h.dc] 31) := ⟨_, rfl⟩
 have hb0 : Below w.heap.size w W := by rw [hW]; exact (Below.refl _ _).alloc (Nat.le_refl _) _
 have hlw : h.wn = g.words.length := hin.1.1
 have hlk : h.kn = g.keys.length := hin.1.2.1
 have HIN := Lib.hid (GrIn.later hin hb0)
 have HL := Lib.hid (hl.later hb0)
 have HB := Lib.hid hb0
 have HW := Lib.hid hW
 have HN := Lib.hid hn
 have HG := Lib.hid hg
 have HNo := Lib.hid hno
 have HE := Lib.hid (show grV g.now h = .agg #[.int .i64 g.now, .slice h.wp h.wn h.wc, .slice h.kp h.kn h.kc, .slice h.dp h.dn h.dc] from rfl)
 have hwl := (gr_facts hg).2.1
 have hkl := (gr_facts hg).2.2.1
 rcases (show g.words.length + n > 20 ∨ (g.words.length + n ≤ 20 ∧ g.keys.length + 2 * n > 40) ∨ (g.words.length + n ≤ 20 ∧ g.keys.length + 2 * n ≤ 40) by omega) with t1 | ⟨t1, t2⟩ | ⟨t1, t2⟩
 ·have HR : Hid (roomB g n = false) := Lib.hid (by unfold roomB; rw [decide_eq_false (by omega)]; rfl)
  have d1 : decide ((20 : Int) - n < h.wn) = true := decide_eq_true (by omega)
  clear hW hb0 hin hl hn hg hno hlw hlk
  rw [HE.out]
  go_enter Tryz.func83, Tryz.ntmps83
  go_wp2_with fail
  rw [← HW.out]
  go_ret
  exact ⟨by rw [HR.out]; rfl, HB.out⟩
 ·have HR : Hid (roomB g n = false) := Lib.hid (by unfold roomB; rw [decide_eq_false (show ¬ g.keys.length + 2 * n ≤ 40 by omega)]; simp)
  have d1 : decide ((20 : Int) - n < h.wn) = false := decide_eq_false (by omega)
  have d2 : decide ((40 : Int) - 2 * n < h.kn) = true := decide_eq_true (by omega)
  clear hW hb0 hin hl hn hg hno hlw hlk
  rw [HE.out]
  go_enter Tryz.func83, Tryz.ntmps83
  go_wp2_with fail
  rw [← HW.out]
  go_ret
  exact ⟨by rw [HR.out]; rfl, HB.out⟩
 ·have HR : Hid (roomB g n = true) := Lib.hid (by unfold roomB; rw [decide_eq_true (by omega), decide_eq_true (by omega)]; rfl)
  have d1 : decide ((20 : Int) - n < h.wn) = false := decide_eq_false (by omega)
  have d2 : decide ((40 : Int) - 2 * n < h.kn) = false := decide_eq_false (by omega)
  clear hW hb0 hin hl hn hg hno hlw hlk
  rw [HE.out]
  go_enter Tryz.func83, Tryz.ntmps83
  go_wp2_with fail
  rw [← HW.out, ← HE.out]
  refine (ledgerOf_any g h _ HIN.out HG.out).mono ?_
  rintro e W2 ⟨B, lb, mw, mk, rfl, hBz, hled, hb2⟩
  have HLed := Lib.hid hled
  have HB2 := Lib.hid (HB.out.trans (hb2.mono HB.out.size))
  have HL2 := Lib.hid (HL.out.later hb2)
  clear hled hb2 hBz d1 d2
  go_wp2_with fail
  go_loopw [31] (OpRel g l W2) (fun i _ => n - (RowKit.intOf i).toNat)
  case atStart => exact ⟨0, by omega, rfl, rfl, Below.refl _ _⟩
  case round =>
   obtain ⟨k, hk, rfl, he, hbel⟩ := hrel
   rw [← HN.out] at hk
   have HEq := Lib.hid he
   have HBl := Lib.hid (HB2.out.trans (hbel.mono HB2.out.size))
   have HBw := Lib.hid hbel
   have HLr := Lib.hid (HL2.out.later hbel)
   have HDr := Lib.hid (HLed.out.later hbel)
   clear he hbel
   by_cases hlt : k < n
   ·obtain ⟨x, hx⟩ : ∃ x, l[k]? = some x := ⟨_, List.getElem?_eq_getElem (by rw [← HN.out]; exact hlt)⟩
    obtain ⟨b, o, rfl, hat⟩ := HLr.out.some hx
    obtain ⟨c0, c1, c2, c3, c4, c5, c6, c7, c8, c9, c10, c11, c12, c13, c14⟩ := th_cells hat hx
    have hxn := HNo.out x (List.mem_of_getElem? hx)
    have HX := Lib.hid hx
    obtain ⟨V, hV⟩ : ∃ V, V = wr.alloc (.cells #[.int .i64 x.req.no, .int .i64 x.req.kind, .int .i64 x.req.client, .int .i64 x.req.code, .int .i64 x.req.token, .string x.req.proof, .int .i64 x.req.upTo, .int .i64 x.pc, .int .i64 x.ver, .int .i64 x.till, .int .i64 x.resp.code, .int .i64 x.resp.token, .int .i64 x.resp.next, .bool x.resp.yes, .bool x.done] 147) := ⟨_, rfl⟩
    obtain ⟨q, hq⟩ : ∃ q, q = wr.heap.size := ⟨_, rfl⟩
    have hbx : Below wr.heap.size wr V := by rw [hV]; exact (Below.refl _ _).alloc (Nat.le_refl _) _
    have rV : Row V q 147 (thL x) := by rw [hV, hq]; exact heap_alloc_new wr _
    have hDV := HDr.out.later hbx
    obtain ⟨td, htd, hrl, hmw, hmk, hrest⟩ := hDV
    have hwf := wf_small (n := x.req.no) (by omega) (by omega)
    obtain ⟨hc, hs, ht, hu, hd, hsh⟩ := hw_shape g.words g.dead td x.req.no
    have hsome : (wdF g.words g.dead td x.req.no).isSome = (findW g.words x.req.no).isSome := by simp [wdF]
    have v0 : V.cell? ⟨q, 0, none⟩ = some (.int .i64 x.req.no) := rV.cell 0
    have l1 : V.cell? ⟨lb, 1, none⟩ = some (.map (some mw)) := hrl.cell 1
    have HV := Lib.hid hV
    have HQ := Lib.hid hq
    have HBV := Lib.hid (HBl.out.trans (hbx.mono HBl.out.size))
    have HBVw := Lib.hid (HBw.out.trans (hbx.mono HBw.out.size))
    have HDV := Lib.hid (HDr.out.later hbx)
    have HRV := Lib.hid rV
    have HMw := Lib.hid hmw
    have HRq := Lib.hid (show rqV x.req = .agg #[.int .i64 x.req.no, .int .i64 x.req.kind, .int .i64 x.req.client, .int .i64 x.req.code, .int .i64 x.req.token, .string x.req.proof, .int .i64 x.req.upTo] from rfl)
    obtain ⟨iw, hiw⟩ : ∃ iw, iw = (findW g.words x.req.no).isSome := ⟨_, rfl⟩
    have hlk0 : ∀ w', Below V.heap.size V w' → (Instr.lookup 117 (.map (some mw)) (.int .i64 x.req.no) true).run Tryz.prog w' = .ok (.tuple #[.agg #[.int .i64 hc, .string hs, .float .f64 ht, .bool hu, .float .f64 hd], .bool iw]) w' := fun w' hb => by
     have h := (HMw.out.later hb).look_ok Tryz.underlying2 Tryz.underlying117 (hwZ_zero _) hwf
     rw [hsh, hsome, ← hiw] at h
     exact h
    have HLk := Lib.hid hlk0
    have HIw := Lib.hid hiw
    clear hx hat hbx rV hV hq hrl hmw hmk hrest htd hsh hsome hlk0 hiw hwf
    have hsf := run_store_float
    go_upto_region 7 with fail
    rw [← HV.out, ← HQ.out]
    go_cut [9] (fun b9 wx => b9 = .bool iw ∧ Below V.heap.size V wx)
    case first =>
     have hA := HLk.out V.drew (Below.refl _ _).drew
     have hA2 := HLk.out (V.alloc (.cells #[.int .i64 0, .string ⟨#[]⟩, .float .f64 0, .bool false, .float .f64 0] 207)).drew (((Below.refl V.heap.size V).alloc (Nat.le_refl _) _).drew)
     have hql := HRV.out.lt
     have hlbl : lb < V.heap.size := by have := World.block_lt_of_cell? V _ l1; simpa using this
     go_region
     all_goals
      go_wp2_with fail
      go_meet
      exact ⟨rfl, by go_grown⟩
    case rest =>
     obtain ⟨rfl, hbc⟩ := hcut
     obtain ⟨U, hU⟩ : ∃ U : World, U = wc := ⟨_, rfl⟩
     rw [← hU] at hbc ⊢
     clear hU
     have HBU := Lib.hid (HBV.out.trans (hbc.mono HBV.out.size))
     have HBUw := Lib.hid (HBVw.out.trans (hbc.mono HBVw.out.size))
     have HDU := Lib.hid (HDV.out.later hbc)
     have rU := HRV.out.below hbc HRV.out.lt
     have u0 : U.cell? ⟨q, 0, none⟩ = some (.int .i64 x.req.no) := rU.cell 0
     have u1 : U.cell? ⟨q, 1, none⟩ = some (.int .i64 x.req.kind) := rU.cell 1
     have u2 : U.cell? ⟨q, 2, none⟩ = some (.int .i64 x.req.client) := rU.cell 2
     have u3 : U.cell? ⟨q, 3, none⟩ = some (.int .i64 x.req.code) := rU.cell 3
     have u4 : U.cell? ⟨q, 4, none⟩ = some (.int .i64 x.req.token) := rU.cell 4
     have u5 : U.cell? ⟨q, 5, none⟩ = some (.string x.req.proof) := rU.cell 5
     have u6 : U.cell? ⟨q, 6, none⟩ = some (.int .i64 x.req.upTo) := rU.cell 6
     have HFt : Hid (freeT g x = (!iw && !((findK g.keys (10 * x.req.no + 1)).isSome || (findK g.keys (10 * x.req.no + 2)).isSome))) := Lib.hid (by unfold freeT; rw [HIw.out]; cases findW g.words x.req.no <;> rfl)
     clear hbc rU
     cases iw with
     | true =>
      have HF : Hid (freeB g l = false) := Lib.hid (freeB_false HX.out (by rw [HFt.out]; rfl))
      go_wp2_with fail
      go_ret
      exact ⟨by rw [HR.out, HF.out]; rfl, HBU.out⟩
     | false =>
      go_wp2_with fail
      rw [← HRq.out]
      refine (there_any lb mw mk B g x.req _ HDU.out hxn.1 hxn.2).mono ?_
      rintro e w4 ⟨rfl, hb4⟩
      have HB4 := Lib.hid (HBU.out.trans (hb4.mono HBU.out.size))
      have HB4w := Lib.hid (HBUw.out.trans (hb4.mono HBUw.out.size))
      clear hb4
      obtain ⟨ik, hik⟩ : ∃ ik, ik = ((findK g.keys (10 * x.req.no + 1)).isSome || (findK g.keys (10 * x.req.no + 2)).isSome) := ⟨_, rfl⟩
      rw [← hik] at HFt ⊢
      clear hik
      cases ik with
      | true =>
       have HF : Hid (freeB g l = false) := Lib.hid (freeB_false HX.out (by rw [HFt.out]; rfl))
       go_wp2_with fail
       go_ret
       exact ⟨by rw [HR.out, HF.out]; rfl, HB4.out⟩
      | false =>
       have HNx : Hid (freeB g (l.take (k + 1)) = true) := Lib.hid (by rw [freeB_at HX.out, HEq.out, HFt.out]; rfl)
       go_wp2_with fail
       go_roundw
       case rel => exact ⟨k + 1, by rw [← HN.out]; omega, by go_num, HNx.out, HB4w.out⟩
       case measure => simp [RowKit.intOf]; omega
   ·have HF : Hid (freeB g l = true) := Lib.hid (by rw [← freeB_end (k := k) (by rw [← HN.out]; omega)]; exact HEq.out)
    go_wp2_with fail
    go_ret
    exact ⟨by rw [HR.out, HF.out]; rfl, HBl.out⟩
end Go.Proofs.YtjccnjfdeedneaaGreat
