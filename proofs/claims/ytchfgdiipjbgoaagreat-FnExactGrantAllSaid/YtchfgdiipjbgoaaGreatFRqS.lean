/- Lists of requests: in cells, measured, copied, compared, marked, by the laws' helpers. -/
import Derived.Test.YtchfgdiipjbgoaaGreatFGdU
import Derived.Test.YtchfgdiipjbgoaaGreatFResR
import Derived.Test.YtchfgdiipjbgoaaGreatFLawGD0
namespace Go.Proofs.YtchfgdiipjbgoaaGreat
open Go Go.RowKit Go.Lib
set_option linter.unusedVariables false
set_option maxRecDepth 100000

theorem szReqZ_any (x : RQ) (left : Int) (w : World) (hs : x.proof.size ≤ maxLen) (h0 : 0 ≤ left) (h1 : left ≤ 1048576) : Calls Tryz.prog 54 #[rqV x, .int .i64 left] w (Sz1 left w) := by
 unfold maxLen at hs
 unfold rqV
 by_cases g1 : left - x.proof.size < 0
 ·go_enter Tryz.func54, Tryz.ntmps54
  go_wp2_with fail
  go_ret
  exact ⟨-1, rfl, by omega, by omega, by go_grown⟩
 ·go_enter Tryz.func54, Tryz.ntmps54
  go_wp2_with fail
  go_ret
  exact ⟨_, rfl, by omega, by omega, by go_grown⟩

set_option maxHeartbeats 800000 in
theorem szReqS_any (p : Option Addr) (cap : Nat) (l : List RQ) (left : Int) (w : World) (hl : LIn rqCf w p l) (hs : ∀ x ∈ l, x.proof.size ≤ maxLen) (hc : l.length ≤ maxLen) (h0 : 0 ≤ left) (h1 : left ≤ 1048576) :
  Calls Tryz.prog 62 #[.slice p l.length cap, .int .i64 left] w (SzOut l.length w) := by
 have HL := Lib.hid hl
 have HS := Lib.hid hs
 unfold maxLen at hc
 obtain ⟨n, hn⟩ : ∃ n, n = l.length := ⟨_, rfl⟩
 rw [← hn] at hc ⊢
 have HN := Lib.hid hn
 clear hl hs hn
 by_cases hlt : left < n
 ·go_enter Tryz.func62, Tryz.ntmps62
  go_wp2_with fail
  go_ret
  exact ⟨-1, rfl, by omega, by omega, fun h => by omega, Below.refl _ _⟩
 ·have hn : n ≤ 1048576 := by omega
  go_enter Tryz.func62, Tryz.ntmps62
  go_wp2_with fail
  go_loopw [1, 5] (SzRel n w) (fun _ i _ => n - (RowKit.intOf i).toNat)
  case atStart => exact ⟨0, left - n, by omega, rfl, rfl, by omega, by omega, Below.refl _ _⟩
  case round =>
   obtain ⟨k, r, hk, rfl, rfl, hr0, hr1, hbel⟩ := hrel
   by_cases hlt : k < n
   ·obtain ⟨x, hx⟩ : ∃ x, l[k]? = some x := ⟨_, List.getElem?_eq_getElem (by rw [← HN.out]; exact hlt)⟩
    obtain ⟨b, o, rfl, hat⟩ := HL.out.some hx
    obtain ⟨a0, a1, a2, a3, a4, a5, a6⟩ := rq_cells hat hx
    have s0 := HS.out x (List.mem_of_getElem? hx)
    have hb : b < w.heap.size := World.block_lt_of_cell? w _ a0
    have c0 := (hbel.cell (p := ⟨b, o + k * 7, none⟩) hb).trans a0
    have c1 := (hbel.cell (p := ⟨b, o + k * 7 + 1, none⟩) hb).trans a1
    have c2 := (hbel.cell (p := ⟨b, o + k * 7 + 2, none⟩) hb).trans a2
    have c3 := (hbel.cell (p := ⟨b, o + k * 7 + 3, none⟩) hb).trans a3
    have c4 := (hbel.cell (p := ⟨b, o + k * 7 + 4, none⟩) hb).trans a4
    have c5 := (hbel.cell (p := ⟨b, o + k * 7 + 5, none⟩) hb).trans a5
    have c6 := (hbel.cell (p := ⟨b, o + k * 7 + 6, none⟩) hb).trans a6
    have hz := hbel.size
    have HB := Lib.hid hbel
    clear a0 a1 a2 a3 a4 a5 a6 hx hat hbel
    go_wp2_with fail
    refine (szReqZ_any x r _ s0 hr0 hr1).mono ?_
    rintro e w1 ⟨q, rfl, q0, q1, hb1⟩
    have HB1 := Lib.hid (HB.out.trans (hb1.mono hz))
    clear hb1
    by_cases hq : q < 0
    ·obtain rfl : q = -1 := by omega
     go_wp2_with fail
     go_ret
     exact ⟨-1, rfl, by omega, by omega, fun h => by omega, HB1.out⟩
    ·go_wp2_with fail
     go_roundw
     case rel => exact ⟨k + 1, q, by omega, by go_num, rfl, by omega, by omega, HB1.out⟩
     case measure => simp [RowKit.intOf]; omega
   ·go_wp2_with fail
    go_ret
    exact ⟨r, rfl, by omega, by omega, fun _ => hn, hbel⟩

theorem eqReqZ_same (r : RQ) (w : World) : Calls Tryz.prog 136 #[rqV r, rqV r] w (Ret (.bool true) w) := by
 unfold rqV
 go_enter Tryz.func136, Tryz.ntmps136
 go_wp2_with fail
 go_ret
 exact ⟨rfl, by go_grown⟩

theorem sizeReq : (Tryz.prog.info? 29).map (·.size) = some 7 := by kernel_rfl
theorem oneReq (x : RQ) : (#[.int .i64 x.no, .int .i64 x.kind, .int .i64 x.client, .int .i64 x.code, .int .i64 x.token, .string x.proof, .int .i64 x.upTo] : Array Value).all (·.oneCell') = true := all_oneCell_toArray (cs := [.int .i64 x.no, .int .i64 x.kind, .int .i64 x.client, .int .i64 x.code, .int .i64 x.token, .string x.proof, .int .i64 x.upTo]) (by
 intro v hv
 simp at hv
 rcases hv with rfl | rfl | rfl | rfl | rfl | rfl | rfl <;> rfl)
set_option maxHeartbeats 800000 in
theorem toReqS_any (p : Option Addr) (cap : Nat) (l : List RQ) (w : World) (hl : LIn rqCf w p l) (hc : l.length ≤ 1048576) : Calls Tryz.prog 63 #[.slice p l.length cap] w (LOut rqCf 29 7 l w) := by
 obtain ⟨i5, hi, hz0, hz1, hz2⟩ := info_parts infoReq
 have HL := Lib.hid hl
 obtain ⟨n, hn⟩ : ∃ n, n = l.length := ⟨_, rfl⟩
 unfold LOut
 rw [← hn] at hc ⊢
 have HN := Lib.hid hn
 clear hl hn
 go_enter Tryz.func63, Tryz.ntmps63
 go_wp2_with (refine wpList_make_full _ rfl (.tmp 6) (.tmp 6) 37 rfl w.heap.size 29 i5 _ 7 Tryz.underlying37 hi hz0 hz1 .i64 .i64 _ _ n rfl rfl rfl rfl (by rw [hz2]; omega) (by unfold maxLen; omega) (Nat.le_refl _) ?_)
 intro w1 hown hgr
 have hR := Row.of_owns hown rfl
 have hlt := hR.lt
 have HR := Lib.hid hR
 have HM := Lib.hid (show (madeCells (Value.cells (.agg #[.int .i64 0, .int .i64 0, .int .i64 0, .int .i64 0, .int .i64 0, .string ByteArray.empty, .int .i64 0])) (n * 7)).toList.length = (n - 0) * 7 by rw [Array.length_toList, size_madeCells]; omega)
 have HB := Lib.hid ((Below.refl w.heap.size w).grown hgr (Nat.le_refl _) (fun k hk => by cases hk))
 obtain ⟨g, hg⟩ : ∃ g, g = w.heap.size := ⟨_, rfl⟩
 rw [← hg] at HR hlt
 clear hown hgr hR
 go_wp2_with fail
 rw [← hg]
 have hg' : w.heap.size ≤ g := by omega
 clear hg
 go_loopw [4] (CopyRel rqCf 29 7 g n l w) (fun i _ => n - (RowKit.intOf i).toNat)
 case atStart => exact ⟨0, _, by omega, rfl, HM.out, HR.out, HB.out⟩
 case round =>
  obtain ⟨k, rest, hk, rfl, hr, hrow, hbel⟩ := hrel
  by_cases hlt : k < n
  ·obtain ⟨x, hx⟩ : ∃ x, l[k]? = some x := ⟨_, List.getElem?_eq_getElem (by rw [← HN.out]; exact hlt)⟩
   obtain ⟨b, o, rfl, hat⟩ := HL.out.some hx
   obtain ⟨a0, a1, a2, a3, a4, a5, a6⟩ := rq_cells hat hx
   have hb : b < w.heap.size := World.block_lt_of_cell? w _ a0
   have c0 := (hbel.cell (p := ⟨b, o + k * 7, none⟩) hb).trans a0
   have c1 := (hbel.cell (p := ⟨b, o + k * 7 + 1, none⟩) hb).trans a1
   have c2 := (hbel.cell (p := ⟨b, o + k * 7 + 2, none⟩) hb).trans a2
   have c3 := (hbel.cell (p := ⟨b, o + k * 7 + 3, none⟩) hb).trans a3
   have c4 := (hbel.cell (p := ⟨b, o + k * 7 + 4, none⟩) hb).trans a4
   have c5 := (hbel.cell (p := ⟨b, o + k * 7 + 5, none⟩) hb).trans a5
   have c6 := (hbel.cell (p := ⟨b, o + k * 7 + 6, none⟩) hb).trans a6
   have hz := hbel.size
   have hgl := hrow.lt
   have HRo := Lib.hid hrow
   have HB1 := Lib.hid hbel
   have HX := Lib.hid hx
   have HRl := Lib.hid hr
   clear a0 a1 a2 a3 a4 a5 a6 hx hat hbel hrow hr
   go_wp2_with fail
   refine (toReqG_any x _).mono ?_
   rintro e w2 ⟨rfl, hb1⟩
   have hst := copy_step rqCf_len HN.out HX.out HRl.out (HRo.out.below hb1 hgl) (HB1.out.trans (hb1.mono hz)) hg'
   have hth : w2.there g (k * 7) (#[.int .i64 x.no, .int .i64 x.kind, .int .i64 x.client, .int .i64 x.code, .int .i64 x.token, .string x.proof, .int .i64 x.upTo] : Array Value).size := by have h := hst.1; simpa using h
   have HT := Lib.hid hth
   have HR1 := Lib.hid hst.2
   clear hb1 hst hth
   unfold rqV
   go_wp2_with (refine wpList_store_mid rfl 29 (.tmp 21) (.tmp 20) rfl g (k * 7) #[.int .i64 x.no, .int .i64 x.kind, .int .i64 x.client, .int .i64 x.code, .int .i64 x.token, .string x.proof, .int .i64 x.upTo] rfl rfl ?hh sizeReq (oneReq x) ?_)
   case hh => exact HT.out
   go_roundw
   case rel => exact HR1.out
   case measure => simp [RowKit.intOf]; omega
  ·have HRa := Lib.hid (show Row wr g 29 (l.flatMap rqCf) by
    obtain rfl : k = n := by omega
    have h := hrow
    rw [List.take_of_length_le (by rw [← HN.out]; exact Nat.le_refl _), List.eq_nil_of_length_eq_zero (l := rest) (by omega), List.append_nil] at h
    exact h)
   clear hrow
   go_wp2_with fail
   go_ret
   exact ⟨g, rfl, hg', HRa.out, hbel⟩

set_option maxHeartbeats 400000 in
theorem eqReqS_same (p p' : Option Addr) (cap cap' : Nat) (l : List RQ) (w : World) (hl : LIn rqCf w p l) (hl' : LIn rqCf w p' l) (hc : l.length ≤ 1048576) : Calls Tryz.prog 64 #[.slice p l.length cap, .slice p' l.length cap'] w (Ret (.bool true) w) := by
 have HL := Lib.hid hl
 have HL' := Lib.hid hl'
 obtain ⟨n, hn⟩ : ∃ n, n = l.length := ⟨_, rfl⟩
 rw [← hn] at hc ⊢
 have HN := Lib.hid hn
 clear hl hl' hn
 go_enter Tryz.func64, Tryz.ntmps64
 go_wp2_with fail
 go_loopw [5] (EqRel n w) (fun i _ => n - (RowKit.intOf i).toNat)
 case atStart => exact ⟨0, by omega, rfl, Below.refl _ _⟩
 case round =>
  obtain ⟨k, hk, rfl, hbel⟩ := hrel
  by_cases hlt : k < n
  ·obtain ⟨x, hx⟩ : ∃ x, l[k]? = some x := ⟨_, List.getElem?_eq_getElem (by rw [← HN.out]; exact hlt)⟩
   obtain ⟨b, o, rfl, hat⟩ := HL.out.some hx
   obtain ⟨b', o', rfl, hat'⟩ := HL'.out.some hx
   obtain ⟨a0, a1, a2, a3, a4, a5, a6⟩ := rq_cells hat hx
   obtain ⟨e0, e1, e2, e3, e4, e5, e6⟩ := rq_cells hat' hx
   have hb : b < w.heap.size := World.block_lt_of_cell? w _ a0
   have hb' : b' < w.heap.size := World.block_lt_of_cell? w _ e0
   have c0 := (hbel.cell (p := ⟨b, o + k * 7, none⟩) hb).trans a0
   have d0 := (hbel.cell (p := ⟨b', o' + k * 7, none⟩) hb').trans e0
   have c1 := (hbel.cell (p := ⟨b, o + k * 7 + 1, none⟩) hb).trans a1
   have d1 := (hbel.cell (p := ⟨b', o' + k * 7 + 1, none⟩) hb').trans e1
   have c2 := (hbel.cell (p := ⟨b, o + k * 7 + 2, none⟩) hb).trans a2
   have d2 := (hbel.cell (p := ⟨b', o' + k * 7 + 2, none⟩) hb').trans e2
   have c3 := (hbel.cell (p := ⟨b, o + k * 7 + 3, none⟩) hb).trans a3
   have d3 := (hbel.cell (p := ⟨b', o' + k * 7 + 3, none⟩) hb').trans e3
   have c4 := (hbel.cell (p := ⟨b, o + k * 7 + 4, none⟩) hb).trans a4
   have d4 := (hbel.cell (p := ⟨b', o' + k * 7 + 4, none⟩) hb').trans e4
   have c5 := (hbel.cell (p := ⟨b, o + k * 7 + 5, none⟩) hb).trans a5
   have d5 := (hbel.cell (p := ⟨b', o' + k * 7 + 5, none⟩) hb').trans e5
   have c6 := (hbel.cell (p := ⟨b, o + k * 7 + 6, none⟩) hb).trans a6
   have d6 := (hbel.cell (p := ⟨b', o' + k * 7 + 6, none⟩) hb').trans e6
   have hz := hbel.size
   have HB := Lib.hid hbel
   clear a0 a1 a2 a3 a4 a5 a6 e0 e1 e2 e3 e4 e5 e6 hx hat hat' hbel
   go_wp2_with fail
   have f0 : ∀ u : Ext wr, u.w.cell? ⟨b, o + k * 7, none⟩ = some (.int .i64 x.no) := fun u => u.cell c0
   have i0 : ∀ u : Ext wr, u.w.cell? ⟨b', o' + k * 7, none⟩ = some (.int .i64 x.no) := fun u => u.cell d0
   have f1 : ∀ u : Ext wr, u.w.cell? ⟨b, o + k * 7 + 1, none⟩ = some (.int .i64 x.kind) := fun u => u.cell c1
   have i1 : ∀ u : Ext wr, u.w.cell? ⟨b', o' + k * 7 + 1, none⟩ = some (.int .i64 x.kind) := fun u => u.cell d1
   have f2 : ∀ u : Ext wr, u.w.cell? ⟨b, o + k * 7 + 2, none⟩ = some (.int .i64 x.client) := fun u => u.cell c2
   have i2 : ∀ u : Ext wr, u.w.cell? ⟨b', o' + k * 7 + 2, none⟩ = some (.int .i64 x.client) := fun u => u.cell d2
   have f3 : ∀ u : Ext wr, u.w.cell? ⟨b, o + k * 7 + 3, none⟩ = some (.int .i64 x.code) := fun u => u.cell c3
   have i3 : ∀ u : Ext wr, u.w.cell? ⟨b', o' + k * 7 + 3, none⟩ = some (.int .i64 x.code) := fun u => u.cell d3
   have f4 : ∀ u : Ext wr, u.w.cell? ⟨b, o + k * 7 + 4, none⟩ = some (.int .i64 x.token) := fun u => u.cell c4
   have i4 : ∀ u : Ext wr, u.w.cell? ⟨b', o' + k * 7 + 4, none⟩ = some (.int .i64 x.token) := fun u => u.cell d4
   have f5 : ∀ u : Ext wr, u.w.cell? ⟨b, o + k * 7 + 5, none⟩ = some (.string x.proof) := fun u => u.cell c5
   have i5 : ∀ u : Ext wr, u.w.cell? ⟨b', o' + k * 7 + 5, none⟩ = some (.string x.proof) := fun u => u.cell d5
   have f6 : ∀ u : Ext wr, u.w.cell? ⟨b, o + k * 7 + 6, none⟩ = some (.int .i64 x.upTo) := fun u => u.cell c6
   have i6 : ∀ u : Ext wr, u.w.cell? ⟨b', o' + k * 7 + 6, none⟩ = some (.int .i64 x.upTo) := fun u => u.cell d6
   refine ext_region wr (by kernel_rfl) (by kernel_rfl) (Below.refl _ _) ?_
   repeat (go_big_quiet_step ((go_at_call 136; exact calls_ext (eqReqZ_same x _))))
   refine wpQuiet_nil ?_
   intro w2 hb2
   have HB2 := Lib.hid hb2
   clear hb2
   go_wp2_with fail
   go_roundw
   case rel => exact ⟨k + 1, by omega, by go_num, HB.out.trans (HB2.out.mono hz)⟩
   case measure => simp [RowKit.intOf]; omega
  ·go_wp2_with fail
   go_ret
   exact ⟨rfl, hbel⟩

end Go.Proofs.YtchfgdiipjbgoaaGreat
