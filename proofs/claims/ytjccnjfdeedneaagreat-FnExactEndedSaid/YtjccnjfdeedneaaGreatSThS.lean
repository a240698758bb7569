/- Lists of threads: measured, copied, compared by the laws' helpers. -/
import Derived.Test.YtjccnjfdeedneaaGreatSGdG
import Derived.Test.YtjccnjfdeedneaaGreatSThTo
namespace Go.Proofs.YtjccnjfdeedneaaGreat
open Go Go.RowKit Go.Lib
set_option linter.unusedVariables false
set_option maxRecDepth 100000

theorem thL_len (x : TH) : (thL x).length = 15 := rfl
theorem th_cells {w : World} {b o : Nat} {l : List TH} (h : LAt thL w b o l) {i : Nat} {x : TH} (hi : l[i]? = some x) :
  w.cell? ⟨b, o + i * 15, none⟩ = some (.int .i64 x.req.no) ∧ w.cell? ⟨b, o + i * 15 + 1, none⟩ = some (.int .i64 x.req.kind) ∧ w.cell? ⟨b, o + i * 15 + 2, none⟩ = some (.int .i64 x.req.client) ∧ w.cell? ⟨b, o + i * 15 + 3, none⟩ = some (.int .i64 x.req.code) ∧ w.cell? ⟨b, o + i * 15 + 4, none⟩ = some (.int .i64 x.req.token) ∧ w.cell? ⟨b, o + i * 15 + 5, none⟩ = some (.string x.req.proof) ∧ w.cell? ⟨b, o + i * 15 + 6, none⟩ = some (.int .i64 x.req.upTo) ∧ w.cell? ⟨b, o + i * 15 + 7, none⟩ = some (.int .i64 x.pc) ∧ w.cell? ⟨b, o + i * 15 + 8, none⟩ = some (.int .i64 x.ver) ∧ w.cell? ⟨b, o + i * 15 + 9, none⟩ = some (.int .i64 x.till) ∧ w.cell? ⟨b, o + i * 15 + 10, none⟩ = some (.int .i64 x.resp.code) ∧ w.cell? ⟨b, o + i * 15 + 11, none⟩ = some (.int .i64 x.resp.token) ∧ w.cell? ⟨b, o + i * 15 + 12, none⟩ = some (.int .i64 x.resp.next) ∧ w.cell? ⟨b, o + i * 15 + 13, none⟩ = some (.bool x.resp.yes) ∧ w.cell? ⟨b, o + i * 15 + 14, none⟩ = some (.bool x.done) :=
 have hr := rangeAt_elem thL_len h hi
 ⟨hr 0 _ rfl, hr 1 _ rfl, hr 2 _ rfl, hr 3 _ rfl, hr 4 _ rfl, hr 5 _ rfl, hr 6 _ rfl, hr 7 _ rfl, hr 8 _ rfl, hr 9 _ rfl, hr 10 _ rfl, hr 11 _ rfl, hr 12 _ rfl, hr 13 _ rfl, hr 14 _ rfl⟩
theorem infoThread : (Tryz.prog.info? 147).map (fun i => (i.zero, i.size, i.bytes)) = some (some (.agg #[.int .i64 0, .int .i64 0, .int .i64 0, .int .i64 0, .int .i64 0, .string ⟨#[]⟩, .int .i64 0, .int .i64 0, .int .i64 0, .int .i64 0, .int .i64 0, .int .i64 0, .int .i64 0, .bool false, .bool false]), 15, 128) := by kernel_rfl
theorem szReqW_any (x : RQ) (left : Int) (w : World) (hs : x.proof.size ≤ maxLen) (h0 : 0 ≤ left) (h1 : left ≤ 1048576) : Calls Tryz.prog 87 #[rqV x, .int .i64 left] w (Sz1 left w) := by
 unfold maxLen at hs
 unfold rqV
 by_cases g1 : left - x.proof.size < 0
 ·go_enter Tryz.func87, Tryz.ntmps87
  go_wp2_with fail
  go_ret
  exact ⟨-1, rfl, by omega, by omega, by go_grown⟩
 ·go_enter Tryz.func87, Tryz.ntmps87
  go_wp2_with fail
  go_ret
  exact ⟨_, rfl, by omega, by omega, by go_grown⟩
set_option maxHeartbeats 1000000 in
theorem szThreadW_any (t : TH) (left : Int) (w : World) (hp : t.req.proof.size ≤ maxLen) (h0 : 0 ≤ left) (h1 : left ≤ 1048576) : Calls Tryz.prog 139 #[thV t, .int .i64 left] w (Sz1 left w) := by
 have hb0 := (Below.refl w.heap.size w).alloc (Nat.le_refl _) (.cells #[.int .i64 t.req.no, .int .i64 t.req.kind, .int .i64 t.req.client, .int .i64 t.req.code, .int .i64 t.req.token, .string t.req.proof, .int .i64 t.req.upTo, .int .i64 t.pc, .int .i64 t.ver, .int .i64 t.till, .int .i64 t.resp.code, .int .i64 t.resp.token, .int .i64 t.resp.next, .bool t.resp.yes, .bool t.done] 196)
 have HB0 := Lib.hid hb0
 have HV := Lib.hid (show thV t = .agg #[.int .i64 t.req.no, .int .i64 t.req.kind, .int .i64 t.req.client, .int .i64 t.req.code, .int .i64 t.req.token, .string t.req.proof, .int .i64 t.req.upTo, .int .i64 t.pc, .int .i64 t.ver, .int .i64 t.till, .int .i64 t.resp.code, .int .i64 t.resp.token, .int .i64 t.resp.next, .bool t.resp.yes, .bool t.done] from rfl)
 have HE := Lib.hid (show rqV t.req = .agg #[.int .i64 t.req.no, .int .i64 t.req.kind, .int .i64 t.req.client, .int .i64 t.req.code, .int .i64 t.req.token, .string t.req.proof, .int .i64 t.req.upTo] from rfl)
 clear hb0
 rw [HV.out]
 go_enter Tryz.func139, Tryz.ntmps139
 go_wp2_with fail
 rw [← HE.out]
 refine (szReqW_any t.req left _ hp h0 h1).mono ?_
 rintro e w1 ⟨q, rfl, q0, q1, hb⟩
 have HB := Lib.hid (HB0.out.trans (hb.mono HB0.out.size))
 clear hb
 by_cases hn : q < 0
 ·obtain rfl : q = -1 := by omega
  go_wp2_with fail
  go_ret
  exact ⟨-1, rfl, by omega, by omega, HB.out⟩
 ·go_wp2_with fail
  go_ret
  exact ⟨q, rfl, by omega, by omega, HB.out⟩
theorem eqReqW_same (r : RQ) (w : World) : Calls Tryz.prog 94 #[rqV r, rqV r] w (Ret (.bool true) w) := by
 unfold rqV
 go_enter Tryz.func94, Tryz.ntmps94
 go_wp2_with fail
 go_ret
 exact ⟨rfl, by go_grown⟩
theorem eqRespW_same (r : RS) (w : World) : Calls Tryz.prog 185 #[rsV r, rsV r] w (Ret (.bool true) w) := by
 unfold rsV
 go_enter Tryz.func185, Tryz.ntmps185
 go_wp2_with fail
 go_ret
 exact ⟨rfl, by go_grown⟩
set_option maxHeartbeats 1000000 in
theorem eqThreadW_same (t : TH) (w : World) : Calls Tryz.prog 148 #[thV t, thV t] w (Ret (.bool true) w) := by
 obtain ⟨W, hW⟩ : ∃ W, W = (w.alloc (.cells #[.int .i64 t.req.no, .int .i64 t.req.kind, .int .i64 t.req.client, .int .i64 t.req.code, .int .i64 t.req.token, .string t.req.proof, .int .i64 t.req.upTo, .int .i64 t.pc, .int .i64 t.ver, .int .i64 t.till, .int .i64 t.resp.code, .int .i64 t.resp.token, .int .i64 t.resp.next, .bool t.resp.yes, .bool t.done] 147)).alloc (.cells #[.int .i64 t.req.no, .int .i64 t.req.kind, .int .i64 t.req.client, .int .i64 t.req.code, .int .i64 t.req.token, .string t.req.proof, .int .i64 t.req.upTo, .int .i64 t.pc, .int .i64 t.ver, .int .i64 t.till, .int .i64 t.resp.code, .int .i64 t.resp.token, .int .i64 t.resp.next, .bool t.resp.yes, .bool t.done] 147) := ⟨_, rfl⟩
 have hb0 : Below w.heap.size w W := by rw [hW]; go_grown
 have r0 : Row W w.heap.size 147 (thL t) := by
  rw [hW]
  exact Row.below (heap_alloc_new w _) ((Below.refl _ _).alloc (Nat.le_refl _) _) (by simp)
 have r1 : Row W (w.heap.size + 1) 147 (thL t) := by
  rw [hW]
  have h := heap_alloc_new (w.alloc (.cells #[.int .i64 t.req.no, .int .i64 t.req.kind, .int .i64 t.req.client, .int .i64 t.req.code, .int .i64 t.req.token, .string t.req.proof, .int .i64 t.req.upTo, .int .i64 t.pc, .int .i64 t.ver, .int .i64 t.till, .int .i64 t.resp.code, .int .i64 t.resp.token, .int .i64 t.resp.next, .bool t.resp.yes, .bool t.done] 147)) (.cells #[.int .i64 t.req.no, .int .i64 t.req.kind, .int .i64 t.req.client, .int .i64 t.req.code, .int .i64 t.req.token, .string t.req.proof, .int .i64 t.req.upTo, .int .i64 t.pc, .int .i64 t.ver, .int .i64 t.till, .int .i64 t.resp.code, .int .i64 t.resp.token, .int .i64 t.resp.next, .bool t.resp.yes, .bool t.done] 147)
  rw [World.size_alloc] at h
  exact h
 have HW := Lib.hid hW
 have HB := Lib.hid hb0
 have R0 := Lib.hid r0
 have R1 := Lib.hid r1
 have hz := hb0.size
 have HV := Lib.hid (show thV t = .agg #[.int .i64 t.req.no, .int .i64 t.req.kind, .int .i64 t.req.client, .int .i64 t.req.code, .int .i64 t.req.token, .string t.req.proof, .int .i64 t.req.upTo, .int .i64 t.pc, .int .i64 t.ver, .int .i64 t.till, .int .i64 t.resp.code, .int .i64 t.resp.token, .int .i64 t.resp.next, .bool t.resp.yes, .bool t.done] from rfl)
 have HE := Lib.hid (show rqV t.req = .agg #[.int .i64 t.req.no, .int .i64 t.req.kind, .int .i64 t.req.client, .int .i64 t.req.code, .int .i64 t.req.token, .string t.req.proof, .int .i64 t.req.upTo] from rfl)
 have HY := Lib.hid (show rsV t.resp = .agg #[.int .i64 t.resp.code, .int .i64 t.resp.token, .int .i64 t.resp.next, .bool t.resp.yes] from rfl)
 clear hW hb0 r0 r1
 rw [HV.out]
 go_enter Tryz.func148, Tryz.ntmps148
 go_wp2_with fail
 rw [← HE.out, ← HW.out]
 refine (eqReqW_same t.req _).mono ?_
 rintro e w1 ⟨rfl, hb1⟩
 have S0 := Lib.hid (R0.out.below hb1 R0.out.lt)
 have S1 := Lib.hid (R1.out.below hb1 R1.out.lt)
 have HB1 := Lib.hid (HB.out.trans (hb1.mono hz))
 clear hb1
 have c7 : w1.cell? ⟨w.heap.size, 7, none⟩ = some (.int .i64 t.pc) := S0.out.cell 7
 have c8 : w1.cell? ⟨w.heap.size, 8, none⟩ = some (.int .i64 t.ver) := S0.out.cell 8
 have c9 : w1.cell? ⟨w.heap.size, 9, none⟩ = some (.int .i64 t.till) := S0.out.cell 9
 have c10 : w1.cell? ⟨w.heap.size, 10, none⟩ = some (.int .i64 t.resp.code) := S0.out.cell 10
 have c11 : w1.cell? ⟨w.heap.size, 11, none⟩ = some (.int .i64 t.resp.token) := S0.out.cell 11
 have c12 : w1.cell? ⟨w.heap.size, 12, none⟩ = some (.int .i64 t.resp.next) := S0.out.cell 12
 have c13 : w1.cell? ⟨w.heap.size, 13, none⟩ = some (.bool t.resp.yes) := S0.out.cell 13
 have c14 : w1.cell? ⟨w.heap.size, 14, none⟩ = some (.bool t.done) := S0.out.cell 14
 have d7 : w1.cell? ⟨w.heap.size + 1, 7, none⟩ = some (.int .i64 t.pc) := S1.out.cell 7
 have d8 : w1.cell? ⟨w.heap.size + 1, 8, none⟩ = some (.int .i64 t.ver) := S1.out.cell 8
 have d9 : w1.cell? ⟨w.heap.size + 1, 9, none⟩ = some (.int .i64 t.till) := S1.out.cell 9
 have d10 : w1.cell? ⟨w.heap.size + 1, 10, none⟩ = some (.int .i64 t.resp.code) := S1.out.cell 10
 have d11 : w1.cell? ⟨w.heap.size + 1, 11, none⟩ = some (.int .i64 t.resp.token) := S1.out.cell 11
 have d12 : w1.cell? ⟨w.heap.size + 1, 12, none⟩ = some (.int .i64 t.resp.next) := S1.out.cell 12
 have d13 : w1.cell? ⟨w.heap.size + 1, 13, none⟩ = some (.bool t.resp.yes) := S1.out.cell 13
 have d14 : w1.cell? ⟨w.heap.size + 1, 14, none⟩ = some (.bool t.done) := S1.out.cell 14
 go_wp2_with fail
 rw [← HY.out]
 refine (eqRespW_same t.resp _).mono ?_
 rintro e w2 ⟨rfl, hb2⟩
 have HB2 := Lib.hid (HB1.out.trans (hb2.mono HB1.out.size))
 clear d14
 have d14 : w2.cell? ⟨w.heap.size, 14, none⟩ = some (.bool t.done) := (S0.out.below hb2 S0.out.lt).cell 14
 have e14 : w2.cell? ⟨w.heap.size + 1, 14, none⟩ = some (.bool t.done) := (S1.out.below hb2 S1.out.lt).cell 14
 clear hb2 c7 d7 c8 d8 c9 d9 c10 d10 c11 d11 c12 d12 c13 d13 c14
 go_wp2_with fail
 go_ret
 exact ⟨rfl, HB2.out⟩
set_option maxHeartbeats 800000 in
theorem szThreadS_any (p : Option Addr) (cap : Nat) (l : List TH) (left : Int) (w : World) (hl : LIn thL w p l) (hs : ∀ x ∈ l, x.req.proof.size ≤ maxLen) (hc : l.length ≤ maxLen) (h0 : 0 ≤ left) (h1 : left ≤ 1048576) :
  Calls Tryz.prog 75 #[.slice p l.length cap, .int .i64 left] w (SzOut l.length w) := by
 have HL := Lib.hid hl
 have HS := Lib.hid hs
 unfold maxLen at hc
 obtain ⟨n, hn⟩ : ∃ n, n = l.length := ⟨_, rfl⟩
 rw [← hn] at hc ⊢
 have HN := Lib.hid hn
 clear hl hs hn
 by_cases hlt : left < n
 ·go_enter Tryz.func75, Tryz.ntmps75
  go_wp2_with fail
  go_ret
  exact ⟨-1, rfl, by omega, by omega, fun h => by omega, Below.refl _ _⟩
 ·have hn : n ≤ 1048576 := by omega
  go_enter Tryz.func75, Tryz.ntmps75
  go_wp2_with fail
  go_loopw [1, 5] (SzRel n w) (fun _ i _ => n - (RowKit.intOf i).toNat)
  case atStart => exact ⟨0, left - n, by omega, rfl, rfl, by omega, by omega, Below.refl _ _⟩
  case round =>
   obtain ⟨k, r, hk, rfl, rfl, hr0, hr1, hbel⟩ := hrel
   by_cases hlt : k < n
   ·obtain ⟨x, hx⟩ : ∃ x, l[k]? = some x := ⟨_, List.getElem?_eq_getElem (by rw [← HN.out]; exact hlt)⟩
    obtain ⟨b, o, rfl, hat⟩ := HL.out.some hx
    obtain ⟨a0, a1, a2, a3, a4, a5, a6, a7, a8, a9, a10, a11, a12, a13, a14⟩ := th_cells hat hx
    have s0 := HS.out x (List.mem_of_getElem? hx)
    have hb : b < w.heap.size := World.block_lt_of_cell? w _ a0
    have c0 := (hbel.cell (p := ⟨b, o + k * 15, none⟩) hb).trans a0
    have c1 := (hbel.cell (p := ⟨b, o + k * 15 + 1, none⟩) hb).trans a1
    have c2 := (hbel.cell (p := ⟨b, o + k * 15 + 2, none⟩) hb).trans a2
    have c3 := (hbel.cell (p := ⟨b, o + k * 15 + 3, none⟩) hb).trans a3
    have c4 := (hbel.cell (p := ⟨b, o + k * 15 + 4, none⟩) hb).trans a4
    have c5 := (hbel.cell (p := ⟨b, o + k * 15 + 5, none⟩) hb).trans a5
    have c6 := (hbel.cell (p := ⟨b, o + k * 15 + 6, none⟩) hb).trans a6
    have c7 := (hbel.cell (p := ⟨b, o + k * 15 + 7, none⟩) hb).trans a7
    have c8 := (hbel.cell (p := ⟨b, o + k * 15 + 8, none⟩) hb).trans a8
    have c9 := (hbel.cell (p := ⟨b, o + k * 15 + 9, none⟩) hb).trans a9
    have c10 := (hbel.cell (p := ⟨b, o + k * 15 + 10, none⟩) hb).trans a10
    have c11 := (hbel.cell (p := ⟨b, o + k * 15 + 11, none⟩) hb).trans a11
    have c12 := (hbel.cell (p := ⟨b, o + k * 15 + 12, none⟩) hb).trans a12
    have c13 := (hbel.cell (p := ⟨b, o + k * 15 + 13, none⟩) hb).trans a13
    have c14 := (hbel.cell (p := ⟨b, o + k * 15 + 14, none⟩) hb).trans a14
    have hz := hbel.size
    have HB := Lib.hid hbel
    clear a0 a1 a2 a3 a4 a5 a6 a7 a8 a9 a10 a11 a12 a13 a14 hx hat hbel
    go_wp2_with fail
    refine (szThreadW_any x r _ s0 hr0 hr1).mono ?_
    rintro e w1 ⟨q, rfl, q0, q1, hb1⟩
    have HB1 := Lib.hid (HB.out.trans (hb1.mono hz))
    clear hb1
    by_cases hq : q < 0
    ·obtain rfl : q = -1 := by omega
     go_wp2_with fail
     go_ret
     exact ⟨-1, rfl, by omega, by omega, fun h => by omega, HB1.out⟩
    ·go_wp2_with fail
     go_roundw
     case rel => exact ⟨k + 1, q, by omega, by go_num, rfl, by omega, by omega, HB1.out⟩
     case measure => simp [RowKit.intOf]; omega
   ·go_wp2_with fail
    go_ret
    exact ⟨r, rfl, by omega, by omega, fun _ => hn, hbel⟩

theorem oneThreadX (x : TH) : (#[.int .i64 x.req.no, .int .i64 x.req.kind, .int .i64 x.req.client, .int .i64 x.req.code, .int .i64 x.req.token, .string x.req.proof, .int .i64 x.req.upTo, .int .i64 x.pc, .int .i64 x.ver, .int .i64 x.till, .int .i64 x.resp.code, .int .i64 x.resp.token, .int .i64 x.resp.next, .bool x.resp.yes, .bool x.done] : Array Value).all (·.oneCell') = true := all_oneCell_toArray (cs := [.int .i64 x.req.no, .int .i64 x.req.kind, .int .i64 x.req.client, .int .i64 x.req.code, .int .i64 x.req.token, .string x.req.proof, .int .i64 x.req.upTo, .int .i64 x.pc, .int .i64 x.ver, .int .i64 x.till, .int .i64 x.resp.code, .int .i64 x.resp.token, .int .i64 x.resp.next, .bool x.resp.yes, .bool x.done]) (by
 intro v hv
 simp at hv
 rcases hv with rfl | rfl | rfl | rfl | rfl | rfl | rfl | rfl | rfl | rfl | rfl | rfl | rfl | rfl | rfl <;> rfl)
set_option maxHeartbeats 800000 in
theorem toThreadS_any (p : Option Addr) (cap : Nat) (l : List TH) (w : World) (hl : LIn thL w p l) (hc : l.length ≤ 1048576) : Calls Tryz.prog 79 #[.slice p l.length cap] w (LOut thL 147 15 l w) := by
 obtain ⟨i5, hi, hz0, hz1, hz2⟩ := info_parts infoThread
 have HL := Lib.hid hl
 obtain ⟨n, hn⟩ : ∃ n, n = l.length := ⟨_, rfl⟩
 unfold LOut
 rw [← hn] at hc ⊢
 have HN := Lib.hid hn
 clear hl hn
 go_enter Tryz.func79, Tryz.ntmps79
 go_wp2_with (refine wpList_make_full _ rfl (.tmp 6) (.tmp 6) 61 rfl w.heap.size 147 i5 _ 15 Tryz.underlying61 hi hz0 hz1 .i64 .i64 _ _ n rfl rfl rfl rfl (by rw [hz2]; omega) (by unfold maxLen; omega) (Nat.le_refl _) ?_)
 intro w1 hown hgr
 have hR := Row.of_owns hown rfl
 have hlt := hR.lt
 have HR := Lib.hid hR
 have HM := Lib.hid (show (madeCells (Value.cells (.agg #[.int .i64 0, .int .i64 0, .int .i64 0, .int .i64 0, .int .i64 0, .string ByteArray.empty, .int .i64 0, .int .i64 0, .int .i64 0, .int .i64 0, .int .i64 0, .int .i64 0, .int .i64 0, .bool false, .bool false])) (n * 15)).toList.length = (n - 0) * 15 by rw [Array.length_toList, size_madeCells]; omega)
 have HB := Lib.hid ((Below.refl w.heap.size w).grown hgr (Nat.le_refl _) (fun k hk => by cases hk))
 obtain ⟨g, hg⟩ : ∃ g, g = w.heap.size := ⟨_, rfl⟩
 rw [← hg] at HR hlt
 clear hown hgr hR
 go_wp2_with fail
 rw [← hg]
 have hg' : w.heap.size ≤ g := by omega
 clear hg
 go_loopw [4] (CopyRel thL 147 15 g n l w) (fun i _ => n - (RowKit.intOf i).toNat)
 case atStart => exact ⟨0, _, by omega, rfl, HM.out, HR.out, HB.out⟩
 case round =>
  obtain ⟨k, rest, hk, rfl, hr, hrow, hbel⟩ := hrel
  by_cases hlt : k < n
  ·obtain ⟨x, hx⟩ : ∃ x, l[k]? = some x := ⟨_, List.getElem?_eq_getElem (by rw [← HN.out]; exact hlt)⟩
   obtain ⟨b, o, rfl, hat⟩ := HL.out.some hx
   obtain ⟨a0, a1, a2, a3, a4, a5, a6, a7, a8, a9, a10, a11, a12, a13, a14⟩ := th_cells hat hx
   have hb : b < w.heap.size := World.block_lt_of_cell? w _ a0
   have c0 := (hbel.cell (p := ⟨b, o + k * 15, none⟩) hb).trans a0
   have c1 := (hbel.cell (p := ⟨b, o + k * 15 + 1, none⟩) hb).trans a1
   have c2 := (hbel.cell (p := ⟨b, o + k * 15 + 2, none⟩) hb).trans a2
   have c3 := (hbel.cell (p := ⟨b, o + k * 15 + 3, none⟩) hb).trans a3
   have c4 := (hbel.cell (p := ⟨b, o + k * 15 + 4, none⟩) hb).trans a4
   have c5 := (hbel.cell (p := ⟨b, o + k * 15 + 5, none⟩) hb).trans a5
   have c6 := (hbel.cell (p := ⟨b, o + k * 15 + 6, none⟩) hb).trans a6
   have c7 := (hbel.cell (p := ⟨b, o + k * 15 + 7, none⟩) hb).trans a7
   have c8 := (hbel.cell (p := ⟨b, o + k * 15 + 8, none⟩) hb).trans a8
   have c9 := (hbel.cell (p := ⟨b, o + k * 15 + 9, none⟩) hb).trans a9
   have c10 := (hbel.cell (p := ⟨b, o + k * 15 + 10, none⟩) hb).trans a10
   have c11 := (hbel.cell (p := ⟨b, o + k * 15 + 11, none⟩) hb).trans a11
   have c12 := (hbel.cell (p := ⟨b, o + k * 15 + 12, none⟩) hb).trans a12
   have c13 := (hbel.cell (p := ⟨b, o + k * 15 + 13, none⟩) hb).trans a13
   have c14 := (hbel.cell (p := ⟨b, o + k * 15 + 14, none⟩) hb).trans a14
   have hz := hbel.size
   have hgl := hrow.lt
   have HRo := Lib.hid hrow
   have HB1 := Lib.hid hbel
   have HX := Lib.hid hx
   have HRl := Lib.hid hr
   clear a0 a1 a2 a3 a4 a5 a6 a7 a8 a9 a10 a11 a12 a13 a14 hx hat hbel hrow hr
   go_wp2_with fail
   refine (toThread_any x _).mono ?_
   rintro e w2 ⟨rfl, hb1⟩
   have hst := copy_step thL_len HN.out HX.out HRl.out (HRo.out.below hb1 hgl) (HB1.out.trans (hb1.mono hz)) hg'
   have hth : w2.there g (k * 15) (#[.int .i64 x.req.no, .int .i64 x.req.kind, .int .i64 x.req.client, .int .i64 x.req.code, .int .i64 x.req.token, .string x.req.proof, .int .i64 x.req.upTo, .int .i64 x.pc, .int .i64 x.ver, .int .i64 x.till, .int .i64 x.resp.code, .int .i64 x.resp.token, .int .i64 x.resp.next, .bool x.resp.yes, .bool x.done] : Array Value).size := by have h := hst.1; simpa using h
   have HT := Lib.hid hth
   have HR1 := Lib.hid hst.2
   clear hb1 hst hth
   unfold thV
   go_wp2_with (refine wpList_store_mid rfl 147 (.tmp 21) (.tmp 20) rfl g (k * 15) #[.int .i64 x.req.no, .int .i64 x.req.kind, .int .i64 x.req.client, .int .i64 x.req.code, .int .i64 x.req.token, .string x.req.proof, .int .i64 x.req.upTo, .int .i64 x.pc, .int .i64 x.ver, .int .i64 x.till, .int .i64 x.resp.code, .int .i64 x.resp.token, .int .i64 x.resp.next, .bool x.resp.yes, .bool x.done] rfl rfl ?hh sizeThread (oneThreadX x) ?_)
   case hh => exact HT.out
   go_roundw
   case rel => exact HR1.out
   case measure => simp [RowKit.intOf]; omega
  ·have HRa := Lib.hid (show Row wr g 147 (l.flatMap thL) by
    obtain rfl : k = n := by omega
    have h := hrow
    rw [List.take_of_length_le (by rw [← HN.out]; exact Nat.le_refl _), List.eq_nil_of_length_eq_zero (l := rest) (by omega), List.append_nil] at h
    exact h)
   clear hrow
   go_wp2_with fail
   go_ret
   exact ⟨g, rfl, hg', HRa.out, hbel⟩

set_option maxHeartbeats 400000 in
theorem eqThreadS_same (p p' : Option Addr) (cap cap' : Nat) (l : List TH) (w : World) (hl : LIn thL w p l) (hl' : LIn thL w p' l) (hc : l.length ≤ 1048576) : Calls Tryz.prog 85 #[.slice p l.length cap, .slice p' l.length cap'] w (Ret (.bool true) w) := by
 have HL := Lib.hid hl
 have HL' := Lib.hid hl'
 obtain ⟨n, hn⟩ : ∃ n, n = l.length := ⟨_, rfl⟩
 rw [← hn] at hc ⊢
 have HN := Lib.hid hn
 clear hl hl' hn
 go_enter Tryz.func85, Tryz.ntmps85
 go_wp2_with fail
 go_loopw [5] (EqRel n w) (fun i _ => n - (RowKit.intOf i).toNat)
 case atStart => exact ⟨0, by omega, rfl, Below.refl _ _⟩
 case round =>
  obtain ⟨k, hk, rfl, hbel⟩ := hrel
  by_cases hlt : k < n
  ·obtain ⟨x, hx⟩ : ∃ x, l[k]? = some x := ⟨_, List.getElem?_eq_getElem (by rw [← HN.out]; exact hlt)⟩
   obtain ⟨b, o, rfl, hat⟩ := HL.out.some hx
   obtain ⟨b', o', rfl, hat'⟩ := HL'.out.some hx
   obtain ⟨a0, a1, a2, a3, a4, a5, a6, a7, a8, a9, a10, a11, a12, a13, a14⟩ := th_cells hat hx
   obtain ⟨e0, e1, e2, e3, e4, e5, e6, e7, e8, e9, e10, e11, e12, e13, e14⟩ := th_cells hat' hx
   have hb : b < w.heap.size := World.block_lt_of_cell? w _ a0
   have hb' : b' < w.heap.size := World.block_lt_of_cell? w _ e0
   have c0 := (hbel.cell (p := ⟨b, o + k * 15, none⟩) hb).trans a0
   have d0 := (hbel.cell (p := ⟨b', o' + k * 15, none⟩) hb').trans e0
   have c1 := (hbel.cell (p := ⟨b, o + k * 15 + 1, none⟩) hb).trans a1
   have d1 := (hbel.cell (p := ⟨b', o' + k * 15 + 1, none⟩) hb').trans e1
   have c2 := (hbel.cell (p := ⟨b, o + k * 15 + 2, none⟩) hb).trans a2
   have d2 := (hbel.cell (p := ⟨b', o' + k * 15 + 2, none⟩) hb').trans e2
   have c3 := (hbel.cell (p := ⟨b, o + k * 15 + 3, none⟩) hb).trans a3
   have d3 := (hbel.cell (p := ⟨b', o' + k * 15 + 3, none⟩) hb').trans e3
   have c4 := (hbel.cell (p := ⟨b, o + k * 15 + 4, none⟩) hb).trans a4
   have d4 := (hbel.cell (p := ⟨b', o' + k * 15 + 4, none⟩) hb').trans e4
   have c5 := (hbel.cell (p := ⟨b, o + k * 15 + 5, none⟩) hb).trans a5
   have d5 := (hbel.cell (p := ⟨b', o' + k * 15 + 5, none⟩) hb').trans e5
   have c6 := (hbel.cell (p := ⟨b, o + k * 15 + 6, none⟩) hb).trans a6
   have d6 := (hbel.cell (p := ⟨b', o' + k * 15 + 6, none⟩) hb').trans e6
   have c7 := (hbel.cell (p := ⟨b, o + k * 15 + 7, none⟩) hb).trans a7
   have d7 := (hbel.cell (p := ⟨b', o' + k * 15 + 7, none⟩) hb').trans e7
   have c8 := (hbel.cell (p := ⟨b, o + k * 15 + 8, none⟩) hb).trans a8
   have d8 := (hbel.cell (p := ⟨b', o' + k * 15 + 8, none⟩) hb').trans e8
   have c9 := (hbel.cell (p := ⟨b, o + k * 15 + 9, none⟩) hb).trans a9
   have d9 := (hbel.cell (p := ⟨b', o' + k * 15 + 9, none⟩) hb').trans e9
   have c10 := (hbel.cell (p := ⟨b, o + k * 15 + 10, none⟩) hb).trans a10
   have d10 := (hbel.cell (p := ⟨b', o' + k * 15 + 10, none⟩) hb').trans e10
   have c11 := (hbel.cell (p := ⟨b, o + k * 15 + 11, none⟩) hb).trans a11
   have d11 := (hbel.cell (p := ⟨b', o' + k * 15 + 11, none⟩) hb').trans e11
   have c12 := (hbel.cell (p := ⟨b, o + k * 15 + 12, none⟩) hb).trans a12
   have d12 := (hbel.cell (p := ⟨b', o' + k * 15 + 12, none⟩) hb').trans e12
   have c13 := (hbel.cell (p := ⟨b, o + k * 15 + 13, none⟩) hb).trans a13
   have d13 := (hbel.cell (p := ⟨b', o' + k * 15 + 13, none⟩) hb').trans e13
   have c14 := (hbel.cell (p := ⟨b, o + k * 15 + 14, none⟩) hb).trans a14
   have d14 := (hbel.cell (p := ⟨b', o' + k * 15 + 14, none⟩) hb').trans e14
   have hz := hbel.size
   have HB := Lib.hid hbel
   clear a0 a1 a2 a3 a4 a5 a6 a7 a8 a9 a10 a11 a12 a13 a14 e0 e1 e2 e3 e4 e5 e6 e7 e8 e9 e10 e11 e12 e13 e14 hx hat hat' hbel
   go_wp2_with fail
   have f0 : ∀ u : Ext wr, u.w.cell? ⟨b, o + k * 15, none⟩ = some (.int .i64 x.req.no) := fun u => u.cell c0
   have i0 : ∀ u : Ext wr, u.w.cell? ⟨b', o' + k * 15, none⟩ = some (.int .i64 x.req.no) := fun u => u.cell d0
   have f1 : ∀ u : Ext wr, u.w.cell? ⟨b, o + k * 15 + 1, none⟩ = some (.int .i64 x.req.kind) := fun u => u.cell c1
   have i1 : ∀ u : Ext wr, u.w.cell? ⟨b', o' + k * 15 + 1, none⟩ = some (.int .i64 x.req.kind) := fun u => u.cell d1
   have f2 : ∀ u : Ext wr, u.w.cell? ⟨b, o + k * 15 + 2, none⟩ = some (.int .i64 x.req.client) := fun u => u.cell c2
   have i2 : ∀ u : Ext wr, u.w.cell? ⟨b', o' + k * 15 + 2, none⟩ = some (.int .i64 x.req.client) := fun u => u.cell d2
   have f3 : ∀ u : Ext wr, u.w.cell? ⟨b, o + k * 15 + 3, none⟩ = some (.int .i64 x.req.code) := fun u => u.cell c3
   have i3 : ∀ u : Ext wr, u.w.cell? ⟨b', o' + k * 15 + 3, none⟩ = some (.int .i64 x.req.code) := fun u => u.cell d3
   have f4 : ∀ u : Ext wr, u.w.cell? ⟨b, o + k * 15 + 4, none⟩ = some (.int .i64 x.req.token) := fun u => u.cell c4
   have i4 : ∀ u : Ext wr, u.w.cell? ⟨b', o' + k * 15 + 4, none⟩ = some (.int .i64 x.req.token) := fun u => u.cell d4
   have f5 : ∀ u : Ext wr, u.w.cell? ⟨b, o + k * 15 + 5, none⟩ = some (.string x.req.proof) := fun u => u.cell c5
   have i5 : ∀ u : Ext wr, u.w.cell? ⟨b', o' + k * 15 + 5, none⟩ = some (.string x.req.proof) := fun u => u.cell d5
   have f6 : ∀ u : Ext wr, u.w.cell? ⟨b, o + k * 15 + 6, none⟩ = some (.int .i64 x.req.upTo) := fun u => u.cell c6
   have i6 : ∀ u : Ext wr, u.w.cell? ⟨b', o' + k * 15 + 6, none⟩ = some (.int .i64 x.req.upTo) := fun u => u.cell d6
   have f7 : ∀ u : Ext wr, u.w.cell? ⟨b, o + k * 15 + 7, none⟩ = some (.int .i64 x.pc) := fun u => u.cell c7
   have i7 : ∀ u : Ext wr, u.w.cell? ⟨b', o' + k * 15 + 7, none⟩ = some (.int .i64 x.pc) := fun u => u.cell d7
   have f8 : ∀ u : Ext wr, u.w.cell? ⟨b, o + k * 15 + 8, none⟩ = some (.int .i64 x.ver) := fun u => u.cell c8
   have i8 : ∀ u : Ext wr, u.w.cell? ⟨b', o' + k * 15 + 8, none⟩ = some (.int .i64 x.ver) := fun u => u.cell d8
   have f9 : ∀ u : Ext wr, u.w.cell? ⟨b, o + k * 15 + 9, none⟩ = some (.int .i64 x.till) := fun u => u.cell c9
   have i9 : ∀ u : Ext wr, u.w.cell? ⟨b', o' + k * 15 + 9, none⟩ = some (.int .i64 x.till) := fun u => u.cell d9
   have f10 : ∀ u : Ext wr, u.w.cell? ⟨b, o + k * 15 + 10, none⟩ = some (.int .i64 x.resp.code) := fun u => u.cell c10
   have i10 : ∀ u : Ext wr, u.w.cell? ⟨b', o' + k * 15 + 10, none⟩ = some (.int .i64 x.resp.code) := fun u => u.cell d10
   have f11 : ∀ u : Ext wr, u.w.cell? ⟨b, o + k * 15 + 11, none⟩ = some (.int .i64 x.resp.token) := fun u => u.cell c11
   have i11 : ∀ u : Ext wr, u.w.cell? ⟨b', o' + k * 15 + 11, none⟩ = some (.int .i64 x.resp.token) := fun u => u.cell d11
   have f12 : ∀ u : Ext wr, u.w.cell? ⟨b, o + k * 15 + 12, none⟩ = some (.int .i64 x.resp.next) := fun u => u.cell c12
   have i12 : ∀ u : Ext wr, u.w.cell? ⟨b', o' + k * 15 + 12, none⟩ = some (.int .i64 x.resp.next) := fun u => u.cell d12
   have f13 : ∀ u : Ext wr, u.w.cell? ⟨b, o + k * 15 + 13, none⟩ = some (.bool x.resp.yes) := fun u => u.cell c13
   have i13 : ∀ u : Ext wr, u.w.cell? ⟨b', o' + k * 15 + 13, none⟩ = some (.bool x.resp.yes) := fun u => u.cell d13
   have f14 : ∀ u : Ext wr, u.w.cell? ⟨b, o + k * 15 + 14, none⟩ = some (.bool x.done) := fun u => u.cell c14
   have i14 : ∀ u : Ext wr, u.w.cell? ⟨b', o' + k * 15 + 14, none⟩ = some (.bool x.done) := fun u => u.cell d14
   refine ext_region wr (by kernel_rfl) (by kernel_rfl) (Below.refl _ _) ?_
   repeat (go_big_quiet_step ((go_at_call 148; exact calls_ext (eqThreadW_same x _))))
   refine wpQuiet_nil ?_
   intro w2 hb2
   have HB2 := Lib.hid hb2
   clear hb2
   go_wp2_with fail
   go_roundw
   case rel => exact ⟨k + 1, by omega, by go_num, HB.out.trans (HB2.out.mono hz)⟩
   case measure => simp [RowKit.intOf]; omega
  ·go_wp2_with fail
   go_ret
   exact ⟨rfl, hbel⟩

end Go.Proofs.YtjccnjfdeedneaaGreat
