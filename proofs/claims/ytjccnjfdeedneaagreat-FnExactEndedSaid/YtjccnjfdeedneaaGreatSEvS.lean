/- Lists of events: as data, in cells, measured, copied, compared by the laws' helpers. -/
import Derived.Test.YtjccnjfdeedneaaGreatSThS
import Derived.Test.YtjccnjfdeedneaaGreatSGdG
namespace Go.Proofs.YtjccnjfdeedneaaGreat
open Go Go.RowKit Go.Lib
set_option linter.unusedVariables false
set_option maxRecDepth 100000

structure Ev where
 thread : Int
 ret : Bool
 resp : RS
def evCf (x : Ev) : List Value := [.int .i64 x.thread, .bool x.ret, .int .i64 x.resp.code, .int .i64 x.resp.token, .int .i64 x.resp.next, .bool x.resp.yes]
def evV (x : Ev) : Value := .agg #[.int .i64 x.thread, .bool x.ret, .int .i64 x.resp.code, .int .i64 x.resp.token, .int .i64 x.resp.next, .bool x.resp.yes]
theorem evCf_len (x : Ev) : (evCf x).length = 6 := rfl
theorem ev_cells {w : World} {b o : Nat} {l : List Ev} (h : LAt evCf w b o l) {i : Nat} {x : Ev} (hi : l[i]? = some x) :
  w.cell? ⟨b, o + i * 6, none⟩ = some (.int .i64 x.thread) ∧ w.cell? ⟨b, o + i * 6 + 1, none⟩ = some (.bool x.ret) ∧ w.cell? ⟨b, o + i * 6 + 2, none⟩ = some (.int .i64 x.resp.code) ∧ w.cell? ⟨b, o + i * 6 + 3, none⟩ = some (.int .i64 x.resp.token) ∧ w.cell? ⟨b, o + i * 6 + 4, none⟩ = some (.int .i64 x.resp.next) ∧ w.cell? ⟨b, o + i * 6 + 5, none⟩ = some (.bool x.resp.yes) :=
 have hr := rangeAt_elem evCf_len h hi
 ⟨hr 0 _ rfl, hr 1 _ rfl, hr 2 _ rfl, hr 3 _ rfl, hr 4 _ rfl, hr 5 _ rfl⟩
theorem infoEvent : (Tryz.prog.info? 199).map (fun i => (i.zero, i.size, i.bytes)) = some (some (.agg #[.int .i64 0, .bool false, .int .i64 0, .int .i64 0, .int .i64 0, .bool false]), 6, 48) := by kernel_rfl
theorem szEventS_any (p : Option Addr) (n cap : Nat) (left : Int) (w : World) (h0 : 0 ≤ left) (h1 : left ≤ 1048576) (hc : n ≤ maxLen) : Calls Tryz.prog 76 #[.slice p n cap, .int .i64 left] w (SzOut n w) := by
 unfold maxLen at hc
 by_cases g1 : left - n < 0
 ·go_enter Tryz.func76, Tryz.ntmps76
  go_wp2_with fail
  go_ret
  exact ⟨-1, rfl, by omega, by omega, fun h => by omega, by go_grown⟩
 ·go_enter Tryz.func76, Tryz.ntmps76
  go_wp2_with fail
  go_ret
  exact ⟨_, rfl, by omega, by omega, fun _ => by omega, by go_grown⟩

theorem sizeEvent : (Tryz.prog.info? 199).map (·.size) = some 6 := by kernel_rfl
theorem ret_event {fn : Func} {p : Tmp} (h : fn.results = #[.cell p 199]) {tmps : Array Value} {w : World} {g : Nat} {x : Ev} (hp : tmps.getD p undef = .pointer (some ⟨g, 0, none⟩)) (hr : Row w g 199 (evCf x)) :
  (results fn tmps).run Tryz.prog w = .ok (evV x) w := by
 have hu := Tryz.underlying199
 exact results_cell_row h tmps w g 199 (evCf x).toArray (0, 0) _ hp hr hu rfl sizeEvent
set_option maxHeartbeats 2000000 in
theorem toEvent_any (x : Ev) (w : World) : Calls Tryz.prog 142 #[evV x] w (Ret (evV x) w) := by
 obtain ⟨W, hW⟩ : ∃ W, W = ((w.alloc (.cells #[.int .i64 x.thread, .bool x.ret, .int .i64 x.resp.code, .int .i64 x.resp.token, .int .i64 x.resp.next, .bool x.resp.yes] 203)).alloc (.cells #[.int .i64 0, .bool false, .int .i64 0, .int .i64 0, .int .i64 0, .bool false] 199)).alloc (.cells #[.int .i64 x.thread, .bool x.ret, .int .i64 0, .int .i64 0, .int .i64 0, .bool false] 199) := ⟨_, rfl⟩
 obtain ⟨p, hp⟩ : ∃ p, p = w.heap.size + 1 + 1 := ⟨_, rfl⟩
 have hb0 : Below w.heap.size w W := by rw [hW]; go_grown
 have r0 : Row W w.heap.size 203 (evCf x) := by
  rw [hW]
  exact Row.below (heap_alloc_new w _) (((Below.refl _ _).alloc (Nat.le_refl _) _).alloc (by simp) _) (by simp)
 have r1 : Row W (w.heap.size + 1) 199 [.int .i64 0, .bool false, .int .i64 0, .int .i64 0, .int .i64 0, .bool false] := by
  rw [hW]
  have h := heap_alloc_new (w.alloc (.cells #[.int .i64 x.thread, .bool x.ret, .int .i64 x.resp.code, .int .i64 x.resp.token, .int .i64 x.resp.next, .bool x.resp.yes] 203)) (.cells #[.int .i64 0, .bool false, .int .i64 0, .int .i64 0, .int .i64 0, .bool false] 199)
  rw [World.size_alloc] at h
  exact Row.below h ((Below.refl _ _).alloc (Nat.le_refl _) _) (by simp)
 have r2 : Row W p 199 [.int .i64 x.thread, .bool x.ret, .int .i64 0, .int .i64 0, .int .i64 0, .bool false] := by
  rw [hW, hp]
  have h := heap_alloc_new ((w.alloc (.cells #[.int .i64 x.thread, .bool x.ret, .int .i64 x.resp.code, .int .i64 x.resp.token, .int .i64 x.resp.next, .bool x.resp.yes] 203)).alloc (.cells #[.int .i64 0, .bool false, .int .i64 0, .int .i64 0, .int .i64 0, .bool false] 199)) (.cells #[.int .i64 x.thread, .bool x.ret, .int .i64 0, .int .i64 0, .int .i64 0, .bool false] 199)
  rw [World.size_alloc, World.size_alloc] at h
  exact h
 have HP := Lib.hid hp
 have hp2 : w.heap.size + 1 < p := by omega
 have HW := Lib.hid hW
 have hz := hb0.size
 have HB := Lib.hid hb0
 have R0 := Lib.hid r0
 have R1 := Lib.hid r1
 have R2 := Lib.hid r2
 have HV := Lib.hid (show evV x = .agg #[.int .i64 x.thread, .bool x.ret, .int .i64 x.resp.code, .int .i64 x.resp.token, .int .i64 x.resp.next, .bool x.resp.yes] from rfl)
 have HY := Lib.hid (show rsV x.resp = .agg #[.int .i64 x.resp.code, .int .i64 x.resp.token, .int .i64 x.resp.next, .bool x.resp.yes] from rfl)
 have hl0 := r0.lt
 have hl1 := r1.lt
 have hl2 := r2.lt
 have U1 := Lib.hid r1
 have U2 := Lib.hid r2
 have HB3 := Lib.hid hb0
 clear hp hW hb0 r0 r1 r2
 rw [HV.out]
 go_enter Tryz.func142, Tryz.ntmps142
 go_wp2_with fail
 rw [← HP.out, ← HW.out, ← HY.out]
 refine (toRespT_any x.resp _).mono ?_
 rintro e w4 ⟨rfl, hb4⟩
 have X1 := Lib.hid (U1.out.below hb4 U1.out.lt)
 have X2 := Lib.hid (U2.out.below hb4 U2.out.lt)
 have HB4 := Lib.hid (HB3.out.trans (hb4.mono HB3.out.size))
 have hz4 := hb4.size
 have hx1 := X1.out.lt
 have hx2 := X2.out.lt
 have HT4 := Lib.hid (show w4.there p 2 (#[.int .i64 x.resp.code, .int .i64 x.resp.token, .int .i64 x.resp.next, .bool x.resp.yes] : Array Value).size from X2.out.there 2 4 (by simp))
 clear hb4
 rw [HY.out]
 go_wp2_with (refine Stop.out (p := wpList _ _ _ [{ dst := _, op := .store 145 _ _, type := _, pos := _, after := _, guard := _ }] _ _) ?_)
 constructor
 refine wpList_store_to rfl 145 (.tmp 13) (.tmp 12) rfl p 2 #[.int .i64 x.resp.code, .int .i64 x.resp.token, .int .i64 x.resp.next, .bool x.resp.yes] rfl rfl HT4.out sizeRespT (oneRespT x.resp) ?_
 intro Y hY
 have hk5 : Kept (w4.heap.size) p p p w4 Y := by rw [hY]; exact Kept.setCells (.inl rfl) _ 2 (Kept.refl _ _ _ _ _)
 have Y1 := Lib.hid (X1.out.kept hk5 X1.out.lt (by omega) (by omega) (by omega))
 have Y2 : Hid (Row Y p 199 (evCf x)) := Lib.hid (by rw [hY]; exact X2.out.setCells _ 2)
 have HB5 := Lib.hid (HB4.out.trans (hk5.below (B := w.heap.size) (by omega) (by omega) (by omega) (by omega)))
 have hz5 := hk5.size
 have y0 : Y.cell? ⟨p, 0, none⟩ = some (.int .i64 x.thread) := Y2.out.cell 0
 have y1 : Y.cell? ⟨p, 1, none⟩ = some (.bool x.ret) := Y2.out.cell 1
 have y2 : Y.cell? ⟨p, 2, none⟩ = some (.int .i64 x.resp.code) := Y2.out.cell 2
 have y3 : Y.cell? ⟨p, 3, none⟩ = some (.int .i64 x.resp.token) := Y2.out.cell 3
 have y4 : Y.cell? ⟨p, 4, none⟩ = some (.int .i64 x.resp.next) := Y2.out.cell 4
 have y5 : Y.cell? ⟨p, 5, none⟩ = some (.bool x.resp.yes) := Y2.out.cell 5
 have HT6 := Lib.hid (show Y.there (w.heap.size + 1) 0 (#[.int .i64 x.thread, .bool x.ret, .int .i64 x.resp.code, .int .i64 x.resp.token, .int .i64 x.resp.next, .bool x.resp.yes] : Array Value).size from Y1.out.there 0 6 (by simp))
 clear hk5 hY
 go_wp2_with (refine Stop.out (p := wpList _ _ _ [{ dst := _, op := .store 199 _ _, type := _, pos := _, after := _, guard := _ }] _ _) ?_)
 constructor
 refine wpList_store_to rfl 199 (.tmp 2) (.tmp 14) rfl (w.heap.size + 1) 0 #[.int .i64 x.thread, .bool x.ret, .int .i64 x.resp.code, .int .i64 x.resp.token, .int .i64 x.resp.next, .bool x.resp.yes] rfl rfl HT6.out sizeEvent (by simp [Value.oneCell']) ?_
 intro Z hZ
 have hk7 : Kept (Y.heap.size) (w.heap.size + 1) (w.heap.size + 1) (w.heap.size + 1) Y Z := by rw [hZ]; exact Kept.setCells (.inl rfl) _ 0 (Kept.refl _ _ _ _ _)
 have Z1 : Row Z (w.heap.size + 1) 199 (evCf x) := by rw [hZ]; exact Y1.out.setCells _ 0
 have HBz := HB5.out.trans (hk7.below (B := w.heap.size) (by have := HB5.out.size; omega) (by omega) (by omega) (by omega))
 clear hZ hk7
 go_wp2_with fail
 refine bodyPost_ret (ret_event rfl rfl Z1) rfl ?_
 exact ⟨rfl, HBz⟩
theorem eqEvent_same (x : Ev) (w : World) : Calls Tryz.prog 149 #[evV x, evV x] w (Ret (.bool true) w) := by
 obtain ⟨W, hW⟩ : ∃ W, W = (w.alloc (.cells #[.int .i64 x.thread, .bool x.ret, .int .i64 x.resp.code, .int .i64 x.resp.token, .int .i64 x.resp.next, .bool x.resp.yes] 199)).alloc (.cells #[.int .i64 x.thread, .bool x.ret, .int .i64 x.resp.code, .int .i64 x.resp.token, .int .i64 x.resp.next, .bool x.resp.yes] 199) := ⟨_, rfl⟩
 have hb0 : Below w.heap.size w W := by rw [hW]; go_grown
 have HW := Lib.hid hW
 have HB := Lib.hid hb0
 have HV := Lib.hid (show evV x = .agg #[.int .i64 x.thread, .bool x.ret, .int .i64 x.resp.code, .int .i64 x.resp.token, .int .i64 x.resp.next, .bool x.resp.yes] from rfl)
 have HY := Lib.hid (show rsV x.resp = .agg #[.int .i64 x.resp.code, .int .i64 x.resp.token, .int .i64 x.resp.next, .bool x.resp.yes] from rfl)
 have hbb : ∀ b : Bool, (b != b) = false := fun b => by cases b <;> rfl
 clear hW hb0
 rw [HV.out]
 go_enter Tryz.func149, Tryz.ntmps149
 go_wp2_with fail
 rw [← HW.out, ← HY.out]
 refine (eqRespW_same x.resp _).mono ?_
 rintro e w1 ⟨rfl, hb1⟩
 have HB1 := Lib.hid (HB.out.trans (hb1.mono HB.out.size))
 clear hb1
 go_wp2_with fail
 go_ret
 exact ⟨rfl, HB1.out⟩
theorem oneEventX (x : Ev) : (#[.int .i64 x.thread, .bool x.ret, .int .i64 x.resp.code, .int .i64 x.resp.token, .int .i64 x.resp.next, .bool x.resp.yes] : Array Value).all (·.oneCell') = true := all_oneCell_toArray (cs := [.int .i64 x.thread, .bool x.ret, .int .i64 x.resp.code, .int .i64 x.resp.token, .int .i64 x.resp.next, .bool x.resp.yes]) (by
 intro v hv
 simp at hv
 rcases hv with rfl | rfl | rfl | rfl | rfl | rfl <;> rfl)
set_option maxHeartbeats 800000 in
theorem toEventS_any (p : Option Addr) (cap : Nat) (l : List Ev) (w : World) (hl : LIn evCf w p l) (hc : l.length ≤ 1048576) : Calls Tryz.prog 80 #[.slice p l.length cap] w (LOut evCf 199 6 l w) := by
 obtain ⟨i5, hi, hz0, hz1, hz2⟩ := info_parts infoEvent
 have HL := Lib.hid hl
 obtain ⟨n, hn⟩ : ∃ n, n = l.length := ⟨_, rfl⟩
 unfold LOut
 rw [← hn] at hc ⊢
 have HN := Lib.hid hn
 clear hl hn
 go_enter Tryz.func80, Tryz.ntmps80
 go_wp2_with (refine wpList_make_full _ rfl (.tmp 6) (.tmp 6) 62 rfl w.heap.size 199 i5 _ 6 Tryz.underlying62 hi hz0 hz1 .i64 .i64 _ _ n rfl rfl rfl rfl (by rw [hz2]; omega) (by unfold maxLen; omega) (Nat.le_refl _) ?_)
 intro w1 hown hgr
 have hR := Row.of_owns hown rfl
 have hlt := hR.lt
 have HR := Lib.hid hR
 have HM := Lib.hid (show (madeCells (Value.cells (.agg #[.int .i64 0, .bool false, .int .i64 0, .int .i64 0, .int .i64 0, .bool false])) (n * 6)).toList.length = (n - 0) * 6 by rw [Array.length_toList, size_madeCells]; omega)
 have HB := Lib.hid ((Below.refl w.heap.size w).grown hgr (Nat.le_refl _) (fun k hk => by cases hk))
 obtain ⟨g, hg⟩ : ∃ g, g = w.heap.size := ⟨_, rfl⟩
 rw [← hg] at HR hlt
 clear hown hgr hR
 go_wp2_with fail
 rw [← hg]
 have hg' : w.heap.size ≤ g := by omega
 clear hg
 go_loopw [4] (CopyRel evCf 199 6 g n l w) (fun i _ => n - (RowKit.intOf i).toNat)
 case atStart => exact ⟨0, _, by omega, rfl, HM.out, HR.out, HB.out⟩
 case round =>
  obtain ⟨k, rest, hk, rfl, hr, hrow, hbel⟩ := hrel
  by_cases hlt : k < n
  ·obtain ⟨x, hx⟩ : ∃ x, l[k]? = some x := ⟨_, List.getElem?_eq_getElem (by rw [← HN.out]; exact hlt)⟩
   obtain ⟨b, o, rfl, hat⟩ := HL.out.some hx
   obtain ⟨a0, a1, a2, a3, a4, a5⟩ := ev_cells hat hx
   have hb : b < w.heap.size := World.block_lt_of_cell? w _ a0
   have c0 := (hbel.cell (p := ⟨b, o + k * 6, none⟩) hb).trans a0
   have c1 := (hbel.cell (p := ⟨b, o + k * 6 + 1, none⟩) hb).trans a1
   have c2 := (hbel.cell (p := ⟨b, o + k * 6 + 2, none⟩) hb).trans a2
   have c3 := (hbel.cell (p := ⟨b, o + k * 6 + 3, none⟩) hb).trans a3
   have c4 := (hbel.cell (p := ⟨b, o + k * 6 + 4, none⟩) hb).trans a4
   have c5 := (hbel.cell (p := ⟨b, o + k * 6 + 5, none⟩) hb).trans a5
   have hz := hbel.size
   have hgl := hrow.lt
   have HRo := Lib.hid hrow
   have HB1 := Lib.hid hbel
   have HX := Lib.hid hx
   have HRl := Lib.hid hr
   clear a0 a1 a2 a3 a4 a5 hx hat hbel hrow hr
   go_wp2_with fail
   refine (toEvent_any x _).mono ?_
   rintro e w2 ⟨rfl, hb1⟩
   have hst := copy_step evCf_len HN.out HX.out HRl.out (HRo.out.below hb1 hgl) (HB1.out.trans (hb1.mono hz)) hg'
   have hth : w2.there g (k * 6) (#[.int .i64 x.thread, .bool x.ret, .int .i64 x.resp.code, .int .i64 x.resp.token, .int .i64 x.resp.next, .bool x.resp.yes] : Array Value).size := by have h := hst.1; simpa using h
   have HT := Lib.hid hth
   have HR1 := Lib.hid hst.2
   clear hb1 hst hth
   unfold evV
   go_wp2_with (refine wpList_store_mid rfl 199 (.tmp 21) (.tmp 20) rfl g (k * 6) #[.int .i64 x.thread, .bool x.ret, .int .i64 x.resp.code, .int .i64 x.resp.token, .int .i64 x.resp.next, .bool x.resp.yes] rfl rfl ?hh sizeEvent (oneEventX x) ?_)
   case hh => exact HT.out
   go_roundw
   case rel => exact HR1.out
   case measure => simp [RowKit.intOf]; omega
  ·have HRa := Lib.hid (show Row wr g 199 (l.flatMap evCf) by
    obtain rfl : k = n := by omega
    have h := hrow
    rw [List.take_of_length_le (by rw [← HN.out]; exact Nat.le_refl _), List.eq_nil_of_length_eq_zero (l := rest) (by omega), List.append_nil] at h
    exact h)
   clear hrow
   go_wp2_with fail
   go_ret
   exact ⟨g, rfl, hg', HRa.out, hbel⟩

set_option maxHeartbeats 400000 in
theorem eqEventS_same (p p' : Option Addr) (cap cap' : Nat) (l : List Ev) (w : World) (hl : LIn evCf w p l) (hl' : LIn evCf w p' l) (hc : l.length ≤ 1048576) : Calls Tryz.prog 86 #[.slice p l.length cap, .slice p' l.length cap'] w (Ret (.bool true) w) := by
 have HL := Lib.hid hl
 have HL' := Lib.hid hl'
 obtain ⟨n, hn⟩ : ∃ n, n = l.length := ⟨_, rfl⟩
 rw [← hn] at hc ⊢
 have HN := Lib.hid hn
 clear hl hl' hn
 go_enter Tryz.func86, Tryz.ntmps86
 go_wp2_with fail
 go_loopw [5] (EqRel n w) (fun i _ => n - (RowKit.intOf i).toNat)
 case atStart => exact ⟨0, by omega, rfl, Below.refl _ _⟩
 case round =>
  obtain ⟨k, hk, rfl, hbel⟩ := hrel
  by_cases hlt : k < n
  ·obtain ⟨x, hx⟩ : ∃ x, l[k]? = some x := ⟨_, List.getElem?_eq_getElem (by rw [← HN.out]; exact hlt)⟩
   obtain ⟨b, o, rfl, hat⟩ := HL.out.some hx
   obtain ⟨b', o', rfl, hat'⟩ := HL'.out.some hx
   obtain ⟨a0, a1, a2, a3, a4, a5⟩ := ev_cells hat hx
   obtain ⟨e0, e1, e2, e3, e4, e5⟩ := ev_cells hat' hx
   have hb : b < w.heap.size := World.block_lt_of_cell? w _ a0
   have hb' : b' < w.heap.size := World.block_lt_of_cell? w _ e0
   have c0 := (hbel.cell (p := ⟨b, o + k * 6, none⟩) hb).trans a0
   have d0 := (hbel.cell (p := ⟨b', o' + k * 6, none⟩) hb').trans e0
   have c1 := (hbel.cell (p := ⟨b, o + k * 6 + 1, none⟩) hb).trans a1
   have d1 := (hbel.cell (p := ⟨b', o' + k * 6 + 1, none⟩) hb').trans e1
   have c2 := (hbel.cell (p := ⟨b, o + k * 6 + 2, none⟩) hb).trans a2
   have d2 := (hbel.cell (p := ⟨b', o' + k * 6 + 2, none⟩) hb').trans e2
   have c3 := (hbel.cell (p := ⟨b, o + k * 6 + 3, none⟩) hb).trans a3
   have d3 := (hbel.cell (p := ⟨b', o' + k * 6 + 3, none⟩) hb').trans e3
   have c4 := (hbel.cell (p := ⟨b, o + k * 6 + 4, none⟩) hb).trans a4
   have d4 := (hbel.cell (p := ⟨b', o' + k * 6 + 4, none⟩) hb').trans e4
   have c5 := (hbel.cell (p := ⟨b, o + k * 6 + 5, none⟩) hb).trans a5
   have d5 := (hbel.cell (p := ⟨b', o' + k * 6 + 5, none⟩) hb').trans e5
   have hz := hbel.size
   have HB := Lib.hid hbel
   clear a0 a1 a2 a3 a4 a5 e0 e1 e2 e3 e4 e5 hx hat hat' hbel
   go_wp2_with fail
   have f0 : ∀ u : Ext wr, u.w.cell? ⟨b, o + k * 6, none⟩ = some (.int .i64 x.thread) := fun u => u.cell c0
   have i0 : ∀ u : Ext wr, u.w.cell? ⟨b', o' + k * 6, none⟩ = some (.int .i64 x.thread) := fun u => u.cell d0
   have f1 : ∀ u : Ext wr, u.w.cell? ⟨b, o + k * 6 + 1, none⟩ = some (.bool x.ret) := fun u => u.cell c1
   have i1 : ∀ u : Ext wr, u.w.cell? ⟨b', o' + k * 6 + 1, none⟩ = some (.bool x.ret) := fun u => u.cell d1
   have f2 : ∀ u : Ext wr, u.w.cell? ⟨b, o + k * 6 + 2, none⟩ = some (.int .i64 x.resp.code) := fun u => u.cell c2
   have i2 : ∀ u : Ext wr, u.w.cell? ⟨b', o' + k * 6 + 2, none⟩ = some (.int .i64 x.resp.code) := fun u => u.cell d2
   have f3 : ∀ u : Ext wr, u.w.cell? ⟨b, o + k * 6 + 3, none⟩ = some (.int .i64 x.resp.token) := fun u => u.cell c3
   have i3 : ∀ u : Ext wr, u.w.cell? ⟨b', o' + k * 6 + 3, none⟩ = some (.int .i64 x.resp.token) := fun u => u.cell d3
   have f4 : ∀ u : Ext wr, u.w.cell? ⟨b, o + k * 6 + 4, none⟩ = some (.int .i64 x.resp.next) := fun u => u.cell c4
   have i4 : ∀ u : Ext wr, u.w.cell? ⟨b', o' + k * 6 + 4, none⟩ = some (.int .i64 x.resp.next) := fun u => u.cell d4
   have f5 : ∀ u : Ext wr, u.w.cell? ⟨b, o + k * 6 + 5, none⟩ = some (.bool x.resp.yes) := fun u => u.cell c5
   have i5 : ∀ u : Ext wr, u.w.cell? ⟨b', o' + k * 6 + 5, none⟩ = some (.bool x.resp.yes) := fun u => u.cell d5
   refine ext_region wr (by kernel_rfl) (by kernel_rfl) (Below.refl _ _) ?_
   repeat (go_big_quiet_step ((go_at_call 149; exact calls_ext (eqEvent_same x _))))
   refine wpQuiet_nil ?_
   intro w2 hb2
   have HB2 := Lib.hid hb2
   clear hb2
   go_wp2_with fail
   go_roundw
   case rel => exact ⟨k + 1, by omega, by go_num, HB.out.trans (HB2.out.mono hz)⟩
   case measure => simp [RowKit.intOf]; omega
  ·go_wp2_with fail
   go_ret
   exact ⟨rfl, hbel⟩

end Go.Proofs.YtjccnjfdeedneaaGreat
