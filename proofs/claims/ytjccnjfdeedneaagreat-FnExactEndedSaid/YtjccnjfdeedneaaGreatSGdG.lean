/- The laws' helpers on grants: measured, copied, compared. The laws' helpers on whole grants: measured, copied, compared. Stores as data: entries, a store; where they lie; which are right. The laws' helpers on lists of entries: measured, copied, compared. -/
import Derived.Test.YtjccnjfdeedneaaGreatSGdA
import Derived.Deep.RegionHeld3
import Derived.Deep.QuietTactic
namespace Go.Proofs.YtjccnjfdeedneaaGreat
open Go Go.RowKit Go.Lib
set_option linter.unusedVariables false

/-- New memory that holds the items l. -/
def LOut {α : Type} (cf : α → List Value) (T : TypeId) (K : Nat) (l : List α) (w : World) (e : Ending) (w' : World) : Prop := ∃ g, e = .returned (.slice (some ⟨g, 0, none⟩) l.length l.length) ∧ w.heap.size ≤ g ∧ Row w' g T (l.flatMap cf) ∧ Below w.heap.size w w'
theorem Row.lat {α : Type} {cf : α → List Value} {w : World} {g : Nat} {T : TypeId} {l : List α} (h : Row w g T (l.flatMap cf)) : LAt cf w g 0 l := h.range
def CopyRel {α : Type} (cf : α → List Value) (T : TypeId) (K : Nat) (g n : Nat) (l : List α) (w : World) (i : Value) (wr : World) : Prop := ∃ (k : Nat) (rest : List Value), k ≤ n ∧ i = .int .i64 k ∧ rest.length = (n - k) * K ∧ Row wr g T ((l.take k).flatMap cf ++ rest) ∧ Below w.heap.size w wr
theorem copy_step {α : Type} {cf : α → List Value} {T : TypeId} {K : Nat} (hK : ∀ x, (cf x).length = K) {g n k : Nat} {l : List α} {p : α} {rest : List Value} {w wr : World} (hn : n = l.length) (hp : l[k]? = some p) (hr : rest.length = (n - k) * K) (hrow : Row wr g T ((l.take k).flatMap cf ++ rest)) (hb : Below w.heap.size w wr) (hg : w.heap.size ≤ g) :
  wr.there g (k * K) K ∧ CopyRel cf T K g n l w (.int .i64 (k + 1 : Nat)) (wr.setCells g (k * K) (cf p)) := by
 obtain ⟨hk, he⟩ := List.getElem?_eq_some_iff.1 hp
 have hlen : ((l.take k).flatMap cf).length = k * K := by rw [flat_len hK, List.length_take, Nat.min_eq_left (by omega)]
 have hnk : n - k = (n - (k + 1)) + 1 := by omega
 rw [hnk, Nat.succ_mul] at hr
 obtain ⟨old, post, rfl, ho⟩ : ∃ old post, rest = old ++ post ∧ old.length = K := ⟨rest.take K, rest.drop K, (List.take_append_drop K rest).symm, by rw [List.length_take]; omega⟩
 refine ⟨hrow.there _ _ (by rw [List.length_append, List.length_append, hlen]; omega), k + 1, post, by omega, rfl, by rw [List.length_append] at hr; omega, ?_, below_setCells hg _ _ hb⟩
 have h := hrow.setCells (cf p) (k * K)
 rw [← hlen, putCells_mid _ _ _ _ (by rw [ho, hK]), hlen] at h
 rw [List.take_add_one, hp, Option.toList_some, List.flatMap_append, List.append_assoc, List.flatMap_singleton]
 exact h
def SzOut (n : Nat) (w : World) (e : Ending) (w' : World) : Prop := ∃ r : Int, e = .returned (.int .i64 r) ∧ -1 ≤ r ∧ r ≤ 1048576 ∧ (0 ≤ r → n ≤ 1048576) ∧ Below w.heap.size w w'
def Sz1 (left : Int) (w : World) (e : Ending) (w' : World) : Prop := ∃ r : Int, e = .returned (.int .i64 r) ∧ -1 ≤ r ∧ r ≤ left ∧ Below w.heap.size w w'
def SzRel (n : Nat) (w : World) (x i : Value) (wr : World) : Prop := ∃ (k : Nat) (r : Int), k ≤ n ∧ i = .int .i64 k ∧ x = .int .i64 r ∧ 0 ≤ r ∧ r ≤ 1048576 ∧ Below w.heap.size w wr
def EqRel (n : Nat) (w : World) (i : Value) (wr : World) : Prop := ∃ k : Nat, k ≤ n ∧ i = .int .i64 k ∧ Below w.heap.size w wr
theorem szWord_any (x : Wd) (left : Int) (w : World) (hs : x.shade.size ≤ maxLen) (h0 : 0 ≤ left) (h1 : left ≤ 1048576) : Calls Tryz.prog 100 #[wdV x, .int .i64 left] w (Sz1 left w) := by
 unfold maxLen at hs
 unfold wdV
 by_cases g1 : left - x.shade.size < 0
 ·go_enter Tryz.func100, Tryz.ntmps100
  go_wp2_with fail
  go_ret
  exact ⟨-1, rfl, by omega, by omega, by go_grown⟩
 ·go_enter Tryz.func100, Tryz.ntmps100
  go_wp2_with fail
  go_ret
  exact ⟨_, rfl, by omega, by omega, by go_grown⟩

theorem szKeyS_any (p : Option Addr) (n cap : Nat) (left : Int) (w : World) (h0 : 0 ≤ left) (h1 : left ≤ 1048576) (hc : n ≤ maxLen) : Calls Tryz.prog 42 #[.slice p n cap, .int .i64 left] w (SzOut n w) := by
 unfold maxLen at hc
 by_cases g1 : left - n < 0
 ·go_enter Tryz.func42, Tryz.ntmps42
  go_wp2_with fail
  go_ret
  exact ⟨-1, rfl, by omega, by omega, fun h => by omega, by go_grown⟩
 ·go_enter Tryz.func42, Tryz.ntmps42
  go_wp2_with fail
  go_ret
  exact ⟨_, rfl, by omega, by omega, fun _ => by omega, by go_grown⟩

theorem szInt64S_any (p : Option Addr) (n cap : Nat) (left : Int) (w : World) (h0 : 0 ≤ left) (h1 : left ≤ 1048576) (hc : n ≤ maxLen) : Calls Tryz.prog 43 #[.slice p n cap, .int .i64 left] w (SzOut n w) := by
 unfold maxLen at hc
 by_cases g1 : left - n < 0
 ·go_enter Tryz.func43, Tryz.ntmps43
  go_wp2_with fail
  go_ret
  exact ⟨-1, rfl, by omega, by omega, fun h => by omega, by go_grown⟩
 ·go_enter Tryz.func43, Tryz.ntmps43
  go_wp2_with fail
  go_ret
  exact ⟨_, rfl, by omega, by omega, fun _ => by omega, by go_grown⟩

set_option maxHeartbeats 400000 in
theorem szWordS_any (p : Option Addr) (cap : Nat) (l : List Wd) (left : Int) (w : World) (hl : LIn wdCf w p l) (hs : ∀ x ∈ l, x.shade.size ≤ maxLen) (hc : l.length ≤ maxLen) (h0 : 0 ≤ left) (h1 : left ≤ 1048576) :
  Calls Tryz.prog 41 #[.slice p l.length cap, .int .i64 left] w (SzOut l.length w) := by
 have HL := Lib.hid hl
 have HS := Lib.hid hs
 unfold maxLen at hc
 obtain ⟨n, hn⟩ : ∃ n, n = l.length := ⟨_, rfl⟩
 rw [← hn] at hc ⊢
 have HN := Lib.hid hn
 clear hl hs hn
 by_cases hlt : left < n
 ·go_enter Tryz.func41, Tryz.ntmps41
  go_wp2_with fail
  go_ret
  exact ⟨-1, rfl, by omega, by omega, fun h => by omega, Below.refl _ _⟩
 ·have hn : n ≤ 1048576 := by omega
  go_enter Tryz.func41, Tryz.ntmps41
  go_wp2_with fail
  go_loopw [1, 5] (SzRel n w) (fun _ i _ => n - (RowKit.intOf i).toNat)
  case atStart => exact ⟨0, left - n, by omega, rfl, rfl, by omega, by omega, Below.refl _ _⟩
  case round =>
   obtain ⟨k, r, hk, rfl, rfl, hr0, hr1, hbel⟩ := hrel
   by_cases hlt : k < n
   ·obtain ⟨x, hx⟩ : ∃ x, l[k]? = some x := ⟨_, List.getElem?_eq_getElem (by rw [← HN.out]; exact hlt)⟩
    obtain ⟨b, o, rfl, hat⟩ := HL.out.some hx
    obtain ⟨a0, a1, a2, a3, a4⟩ := wd_cells hat hx
    have s0 := HS.out x (List.mem_of_getElem? hx)
    have hb : b < w.heap.size := World.block_lt_of_cell? w _ a0
    have c0 := (hbel.cell (p := ⟨b, o + k * 5, none⟩) hb).trans a0
    have c1 := (hbel.cell (p := ⟨b, o + k * 5 + 1, none⟩) hb).trans a1
    have c2 := (hbel.cell (p := ⟨b, o + k * 5 + 2, none⟩) hb).trans a2
    have c3 := (hbel.cell (p := ⟨b, o + k * 5 + 3, none⟩) hb).trans a3
    have c4 := (hbel.cell (p := ⟨b, o + k * 5 + 4, none⟩) hb).trans a4
    have hz := hbel.size
    have HB := Lib.hid hbel
    clear a0 a1 a2 a3 a4 hx hat hbel
    go_wp2_with fail
    refine (szWord_any x r _ s0 hr0 hr1).mono ?_
    rintro e w1 ⟨q, rfl, q0, q1, hb1⟩
    have HB1 := Lib.hid (HB.out.trans (hb1.mono hz))
    clear hb1
    by_cases hq : q < 0
    ·obtain rfl : q = -1 := by omega
     go_wp2_with fail
     go_ret
     exact ⟨-1, rfl, by omega, by omega, fun h => by omega, HB1.out⟩
    ·go_wp2_with fail
     go_roundw
     case rel => exact ⟨k + 1, q, by omega, by go_num, rfl, by omega, by omega, HB1.out⟩
     case measure => simp [RowKit.intOf]; omega
   ·go_wp2_with fail
    go_ret
    exact ⟨r, rfl, by omega, by omega, fun _ => hn, hbel⟩

theorem toWord_any (x : Wd) (w : World) : Calls Tryz.prog 105 #[wdV x] w (Ret (wdV x) w) := by
 unfold wdV
 go_enter Tryz.func105, Tryz.ntmps105
 go_wp2_with fail
 refine bodyPost_ret (v := wdV x) (by simp [results, Tryz.results105, go_sem, wdV]) rfl ⟨rfl, ?_⟩
 go_grown
theorem eqWord_same (x : Wd) (w : World) : Calls Tryz.prog 120 #[wdV x, wdV x] w (Ret (.bool true) w) := by
 unfold wdV
 have hb : ∀ b : Bool, (b != b) = false := fun b => by cases b <;> rfl
 go_enter Tryz.func120, Tryz.ntmps120
 go_wp2_with fail
 go_ret
 exact ⟨rfl, by go_grown⟩

theorem toKey_any (x : Ky) (w : World) : Calls Tryz.prog 106 #[kyV x] w (Ret (kyV x) w) := by
 unfold kyV
 go_enter Tryz.func106, Tryz.ntmps106
 go_wp2_with fail
 refine bodyPost_ret (v := kyV x) (by simp [results, Tryz.results106, go_sem, kyV]) rfl ⟨rfl, ?_⟩
 go_grown
theorem eqKey_same (x : Ky) (w : World) : Calls Tryz.prog 121 #[kyV x, kyV x] w (Ret (.bool true) w) := by
 unfold kyV
 have hb : ∀ b : Bool, (b != b) = false := fun b => by cases b <;> rfl
 go_enter Tryz.func121, Tryz.ntmps121
 go_wp2_with fail
 go_ret
 exact ⟨rfl, by go_grown⟩

set_option maxHeartbeats 800000 in
theorem toWordS_any (p : Option Addr) (cap : Nat) (l : List Wd) (w : World) (hl : LIn wdCf w p l) (hc : l.length ≤ 1048576) : Calls Tryz.prog 46 #[.slice p l.length cap] w (LOut wdCf 163 5 l w) := by
 obtain ⟨i5, hi, hz0, hz1, hz2⟩ := info_parts infoWord
 have HL := Lib.hid hl
 obtain ⟨n, hn⟩ : ∃ n, n = l.length := ⟨_, rfl⟩
 unfold LOut
 rw [← hn] at hc ⊢
 have HN := Lib.hid hn
 clear hl hn
 go_enter Tryz.func46, Tryz.ntmps46
 go_wp2_with (refine wpList_make_full _ rfl (.tmp 6) (.tmp 6) 28 rfl w.heap.size 163 i5 _ 5 Tryz.underlying28 hi hz0 hz1 .i64 .i64 _ _ n rfl rfl rfl rfl (by rw [hz2]; omega) (by unfold maxLen; omega) (Nat.le_refl _) ?_)
 intro w1 hown hgr
 have hR := Row.of_owns hown rfl
 have hlt := hR.lt
 have HR := Lib.hid hR
 have HM := Lib.hid (show (madeCells (Value.cells (.agg #[.int .i64 0, .int .i64 0, .string ByteArray.empty, .int .i64 0, .bool false])) (n * 5)).toList.length = (n - 0) * 5 by rw [Array.length_toList, size_madeCells]; omega)
 have HB := Lib.hid ((Below.refl w.heap.size w).grown hgr (Nat.le_refl _) (fun k hk => by cases hk))
 obtain ⟨g, hg⟩ : ∃ g, g = w.heap.size := ⟨_, rfl⟩
 rw [← hg] at HR hlt
 clear hown hgr hR
 go_wp2_with fail
 rw [← hg]
 have hg' : w.heap.size ≤ g := by omega
 clear hg
 go_loopw [4] (CopyRel wdCf 163 5 g n l w) (fun i _ => n - (RowKit.intOf i).toNat)
 case atStart => exact ⟨0, _, by omega, rfl, HM.out, HR.out, HB.out⟩
 case round =>
  obtain ⟨k, rest, hk, rfl, hr, hrow, hbel⟩ := hrel
  by_cases hlt : k < n
  ·obtain ⟨x, hx⟩ : ∃ x, l[k]? = some x := ⟨_, List.getElem?_eq_getElem (by rw [← HN.out]; exact hlt)⟩
   obtain ⟨b, o, rfl, hat⟩ := HL.out.some hx
   obtain ⟨a0, a1, a2, a3, a4⟩ := wd_cells hat hx
   have hb : b < w.heap.size := World.block_lt_of_cell? w _ a0
   have c0 := (hbel.cell (p := ⟨b, o + k * 5, none⟩) hb).trans a0
   have c1 := (hbel.cell (p := ⟨b, o + k * 5 + 1, none⟩) hb).trans a1
   have c2 := (hbel.cell (p := ⟨b, o + k * 5 + 2, none⟩) hb).trans a2
   have c3 := (hbel.cell (p := ⟨b, o + k * 5 + 3, none⟩) hb).trans a3
   have c4 := (hbel.cell (p := ⟨b, o + k * 5 + 4, none⟩) hb).trans a4
   have hz := hbel.size
   have hgl := hrow.lt
   have HRo := Lib.hid hrow
   have HB1 := Lib.hid hbel
   have HX := Lib.hid hx
   have HRl := Lib.hid hr
   clear a0 a1 a2 a3 a4 hx hat hbel hrow hr
   go_wp2_with fail
   refine (toWord_any x _).mono ?_
   rintro e w2 ⟨rfl, hb1⟩
   have hst := copy_step wdCf_len HN.out HX.out HRl.out (HRo.out.below hb1 hgl) (HB1.out.trans (hb1.mono hz)) hg'
   have hth : w2.there g (k * 5) (#[.int .i64 x.no, .int .i64 x.client, .string x.shade, .int .i64 x.till, .bool x.used] : Array Value).size := by have h := hst.1; simpa using h
   have HT := Lib.hid hth
   have HR1 := Lib.hid hst.2
   clear hb1 hst hth
   unfold wdV
   go_wp2_with (refine wpList_store_mid rfl 163 (.tmp 21) (.tmp 20) rfl g (k * 5) #[.int .i64 x.no, .int .i64 x.client, .string x.shade, .int .i64 x.till, .bool x.used] rfl rfl ?hh sizeWord (oneWord x) ?_)
   case hh => exact HT.out
   go_roundw
   case rel => exact HR1.out
   case measure => simp [RowKit.intOf]; omega
  ·have HRa := Lib.hid (show Row wr g 163 (l.flatMap wdCf) by
    obtain rfl : k = n := by omega
    have h := hrow
    rw [List.take_of_length_le (by rw [← HN.out]; exact Nat.le_refl _), List.eq_nil_of_length_eq_zero (l := rest) (by omega), List.append_nil] at h
    exact h)
   clear hrow
   go_wp2_with fail
   go_ret
   exact ⟨g, rfl, hg', HRa.out, hbel⟩

set_option maxHeartbeats 400000 in
theorem eqWordS_same (p p' : Option Addr) (cap cap' : Nat) (l : List Wd) (w : World) (hl : LIn wdCf w p l) (hl' : LIn wdCf w p' l) (hc : l.length ≤ 1048576) : Calls Tryz.prog 53 #[.slice p l.length cap, .slice p' l.length cap'] w (Ret (.bool true) w) := by
 have HL := Lib.hid hl
 have HL' := Lib.hid hl'
 obtain ⟨n, hn⟩ : ∃ n, n = l.length := ⟨_, rfl⟩
 rw [← hn] at hc ⊢
 have HN := Lib.hid hn
 clear hl hl' hn
 go_enter Tryz.func53, Tryz.ntmps53
 go_wp2_with fail
 go_loopw [5] (EqRel n w) (fun i _ => n - (RowKit.intOf i).toNat)
 case atStart => exact ⟨0, by omega, rfl, Below.refl _ _⟩
 case round =>
  obtain ⟨k, hk, rfl, hbel⟩ := hrel
  by_cases hlt : k < n
  ·obtain ⟨x, hx⟩ : ∃ x, l[k]? = some x := ⟨_, List.getElem?_eq_getElem (by rw [← HN.out]; exact hlt)⟩
   obtain ⟨b, o, rfl, hat⟩ := HL.out.some hx
   obtain ⟨b', o', rfl, hat'⟩ := HL'.out.some hx
   obtain ⟨a0, a1, a2, a3, a4⟩ := wd_cells hat hx
   obtain ⟨e0, e1, e2, e3, e4⟩ := wd_cells hat' hx
   have hb : b < w.heap.size := World.block_lt_of_cell? w _ a0
   have hb' : b' < w.heap.size := World.block_lt_of_cell? w _ e0
   have c0 := (hbel.cell (p := ⟨b, o + k * 5, none⟩) hb).trans a0
   have d0 := (hbel.cell (p := ⟨b', o' + k * 5, none⟩) hb').trans e0
   have c1 := (hbel.cell (p := ⟨b, o + k * 5 + 1, none⟩) hb).trans a1
   have d1 := (hbel.cell (p := ⟨b', o' + k * 5 + 1, none⟩) hb').trans e1
   have c2 := (hbel.cell (p := ⟨b, o + k * 5 + 2, none⟩) hb).trans a2
   have d2 := (hbel.cell (p := ⟨b', o' + k * 5 + 2, none⟩) hb').trans e2
   have c3 := (hbel.cell (p := ⟨b, o + k * 5 + 3, none⟩) hb).trans a3
   have d3 := (hbel.cell (p := ⟨b', o' + k * 5 + 3, none⟩) hb').trans e3
   have c4 := (hbel.cell (p := ⟨b, o + k * 5 + 4, none⟩) hb).trans a4
   have d4 := (hbel.cell (p := ⟨b', o' + k * 5 + 4, none⟩) hb').trans e4
   have hz := hbel.size
   have HB := Lib.hid hbel
   clear a0 a1 a2 a3 a4 e0 e1 e2 e3 e4 hx hat hat' hbel
   go_wp2_with fail
   have f0 : ∀ u : Ext wr, u.w.cell? ⟨b, o + k * 5, none⟩ = some (.int .i64 x.no) := fun u => u.cell c0
   have i0 : ∀ u : Ext wr, u.w.cell? ⟨b', o' + k * 5, none⟩ = some (.int .i64 x.no) := fun u => u.cell d0
   have f1 : ∀ u : Ext wr, u.w.cell? ⟨b, o + k * 5 + 1, none⟩ = some (.int .i64 x.client) := fun u => u.cell c1
   have i1 : ∀ u : Ext wr, u.w.cell? ⟨b', o' + k * 5 + 1, none⟩ = some (.int .i64 x.client) := fun u => u.cell d1
   have f2 : ∀ u : Ext wr, u.w.cell? ⟨b, o + k * 5 + 2, none⟩ = some (.string x.shade) := fun u => u.cell c2
   have i2 : ∀ u : Ext wr, u.w.cell? ⟨b', o' + k * 5 + 2, none⟩ = some (.string x.shade) := fun u => u.cell d2
   have f3 : ∀ u : Ext wr, u.w.cell? ⟨b, o + k * 5 + 3, none⟩ = some (.int .i64 x.till) := fun u => u.cell c3
   have i3 : ∀ u : Ext wr, u.w.cell? ⟨b', o' + k * 5 + 3, none⟩ = some (.int .i64 x.till) := fun u => u.cell d3
   have f4 : ∀ u : Ext wr, u.w.cell? ⟨b, o + k * 5 + 4, none⟩ = some (.bool x.used) := fun u => u.cell c4
   have i4 : ∀ u : Ext wr, u.w.cell? ⟨b', o' + k * 5 + 4, none⟩ = some (.bool x.used) := fun u => u.cell d4
   refine ext_region wr (by kernel_rfl) (by kernel_rfl) (Below.refl _ _) ?_
   repeat (go_big_quiet_step ((go_at_call 120; exact calls_ext (eqWord_same x _))))
   refine wpQuiet_nil ?_
   intro w2 hb2
   have HB2 := Lib.hid hb2
   clear hb2
   go_wp2_with fail
   go_roundw
   case rel => exact ⟨k + 1, by omega, by go_num, HB.out.trans (HB2.out.mono hz)⟩
   case measure => simp [RowKit.intOf]; omega
  ·go_wp2_with fail
   go_ret
   exact ⟨rfl, hbel⟩

set_option maxHeartbeats 800000 in
theorem toKeyS_any (p : Option Addr) (cap : Nat) (l : List Ky) (w : World) (hl : LIn kyCf w p l) (hc : l.length ≤ 1048576) : Calls Tryz.prog 47 #[.slice p l.length cap] w (LOut kyCf 127 6 l w) := by
 obtain ⟨i5, hi, hz0, hz1, hz2⟩ := info_parts infoKey
 have HL := Lib.hid hl
 obtain ⟨n, hn⟩ : ∃ n, n = l.length := ⟨_, rfl⟩
 unfold LOut
 rw [← hn] at hc ⊢
 have HN := Lib.hid hn
 clear hl hn
 go_enter Tryz.func47, Tryz.ntmps47
 go_wp2_with (refine wpList_make_full _ rfl (.tmp 6) (.tmp 6) 29 rfl w.heap.size 127 i5 _ 6 Tryz.underlying29 hi hz0 hz1 .i64 .i64 _ _ n rfl rfl rfl rfl (by rw [hz2]; omega) (by unfold maxLen; omega) (Nat.le_refl _) ?_)
 intro w1 hown hgr
 have hR := Row.of_owns hown rfl
 have hlt := hR.lt
 have HR := Lib.hid hR
 have HM := Lib.hid (show (madeCells (Value.cells (.agg #[.int .i64 0, .int .i64 0, .int .i64 0, .bool false, .int .i64 0, .int .i64 0])) (n * 6)).toList.length = (n - 0) * 6 by rw [Array.length_toList, size_madeCells]; omega)
 have HB := Lib.hid ((Below.refl w.heap.size w).grown hgr (Nat.le_refl _) (fun k hk => by cases hk))
 obtain ⟨g, hg⟩ : ∃ g, g = w.heap.size := ⟨_, rfl⟩
 rw [← hg] at HR hlt
 clear hown hgr hR
 go_wp2_with fail
 rw [← hg]
 have hg' : w.heap.size ≤ g := by omega
 clear hg
 go_loopw [4] (CopyRel kyCf 127 6 g n l w) (fun i _ => n - (RowKit.intOf i).toNat)
 case atStart => exact ⟨0, _, by omega, rfl, HM.out, HR.out, HB.out⟩
 case round =>
  obtain ⟨k, rest, hk, rfl, hr, hrow, hbel⟩ := hrel
  by_cases hlt : k < n
  ·obtain ⟨x, hx⟩ : ∃ x, l[k]? = some x := ⟨_, List.getElem?_eq_getElem (by rw [← HN.out]; exact hlt)⟩
   obtain ⟨b, o, rfl, hat⟩ := HL.out.some hx
   obtain ⟨a0, a1, a2, a3, a4, a5⟩ := ky_cells hat hx
   have hb : b < w.heap.size := World.block_lt_of_cell? w _ a0
   have c0 := (hbel.cell (p := ⟨b, o + k * 6, none⟩) hb).trans a0
   have c1 := (hbel.cell (p := ⟨b, o + k * 6 + 1, none⟩) hb).trans a1
   have c2 := (hbel.cell (p := ⟨b, o + k * 6 + 2, none⟩) hb).trans a2
   have c3 := (hbel.cell (p := ⟨b, o + k * 6 + 3, none⟩) hb).trans a3
   have c4 := (hbel.cell (p := ⟨b, o + k * 6 + 4, none⟩) hb).trans a4
   have c5 := (hbel.cell (p := ⟨b, o + k * 6 + 5, none⟩) hb).trans a5
   have hz := hbel.size
   have hgl := hrow.lt
   have HRo := Lib.hid hrow
   have HB1 := Lib.hid hbel
   have HX := Lib.hid hx
   have HRl := Lib.hid hr
   clear a0 a1 a2 a3 a4 a5 hx hat hbel hrow hr
   go_wp2_with fail
   refine (toKey_any x _).mono ?_
   rintro e w2 ⟨rfl, hb1⟩
   have hst := copy_step kyCf_len HN.out HX.out HRl.out (HRo.out.below hb1 hgl) (HB1.out.trans (hb1.mono hz)) hg'
   have hth : w2.there g (k * 6) (#[.int .i64 x.no, .int .i64 x.client, .int .i64 x.fam, .bool x.refresh, .int .i64 x.till, .int .i64 x.state] : Array Value).size := by have h := hst.1; simpa using h
   have HT := Lib.hid hth
   have HR1 := Lib.hid hst.2
   clear hb1 hst hth
   unfold kyV
   go_wp2_with (refine wpList_store_mid rfl 127 (.tmp 21) (.tmp 20) rfl g (k * 6) #[.int .i64 x.no, .int .i64 x.client, .int .i64 x.fam, .bool x.refresh, .int .i64 x.till, .int .i64 x.state] rfl rfl ?hh sizeKey (oneKey x) ?_)
   case hh => exact HT.out
   go_roundw
   case rel => exact HR1.out
   case measure => simp [RowKit.intOf]; omega
  ·have HRa := Lib.hid (show Row wr g 127 (l.flatMap kyCf) by
    obtain rfl : k = n := by omega
    have h := hrow
    rw [List.take_of_length_le (by rw [← HN.out]; exact Nat.le_refl _), List.eq_nil_of_length_eq_zero (l := rest) (by omega), List.append_nil] at h
    exact h)
   clear hrow
   go_wp2_with fail
   go_ret
   exact ⟨g, rfl, hg', HRa.out, hbel⟩

set_option maxHeartbeats 400000 in
theorem eqKeyS_same (p p' : Option Addr) (cap cap' : Nat) (l : List Ky) (w : World) (hl : LIn kyCf w p l) (hl' : LIn kyCf w p' l) (hc : l.length ≤ 1048576) : Calls Tryz.prog 54 #[.slice p l.length cap, .slice p' l.length cap'] w (Ret (.bool true) w) := by
 have HL := Lib.hid hl
 have HL' := Lib.hid hl'
 obtain ⟨n, hn⟩ : ∃ n, n = l.length := ⟨_, rfl⟩
 rw [← hn] at hc ⊢
 have HN := Lib.hid hn
 clear hl hl' hn
 go_enter Tryz.func54, Tryz.ntmps54
 go_wp2_with fail
 go_loopw [5] (EqRel n w) (fun i _ => n - (RowKit.intOf i).toNat)
 case atStart => exact ⟨0, by omega, rfl, Below.refl _ _⟩
 case round =>
  obtain ⟨k, hk, rfl, hbel⟩ := hrel
  by_cases hlt : k < n
  ·obtain ⟨x, hx⟩ : ∃ x, l[k]? = some x := ⟨_, List.getElem?_eq_getElem (by rw [← HN.out]; exact hlt)⟩
   obtain ⟨b, o, rfl, hat⟩ := HL.out.some hx
   obtain ⟨b', o', rfl, hat'⟩ := HL'.out.some hx
   obtain ⟨a0, a1, a2, a3, a4, a5⟩ := ky_cells hat hx
   obtain ⟨e0, e1, e2, e3, e4, e5⟩ := ky_cells hat' hx
   have hb : b < w.heap.size := World.block_lt_of_cell? w _ a0
   have hb' : b' < w.heap.size := World.block_lt_of_cell? w _ e0
   have c0 := (hbel.cell (p := ⟨b, o + k * 6, none⟩) hb).trans a0
   have d0 := (hbel.cell (p := ⟨b', o' + k * 6, none⟩) hb').trans e0
   have c1 := (hbel.cell (p := ⟨b, o + k * 6 + 1, none⟩) hb).trans a1
   have d1 := (hbel.cell (p := ⟨b', o' + k * 6 + 1, none⟩) hb').trans e1
   have c2 := (hbel.cell (p := ⟨b, o + k * 6 + 2, none⟩) hb).trans a2
   have d2 := (hbel.cell (p := ⟨b', o' + k * 6 + 2, none⟩) hb').trans e2
   have c3 := (hbel.cell (p := ⟨b, o + k * 6 + 3, none⟩) hb).trans a3
   have d3 := (hbel.cell (p := ⟨b', o' + k * 6 + 3, none⟩) hb').trans e3
   have c4 := (hbel.cell (p := ⟨b, o + k * 6 + 4, none⟩) hb).trans a4
   have d4 := (hbel.cell (p := ⟨b', o' + k * 6 + 4, none⟩) hb').trans e4
   have c5 := (hbel.cell (p := ⟨b, o + k * 6 + 5, none⟩) hb).trans a5
   have d5 := (hbel.cell (p := ⟨b', o' + k * 6 + 5, none⟩) hb').trans e5
   have hz := hbel.size
   have HB := Lib.hid hbel
   clear a0 a1 a2 a3 a4 a5 e0 e1 e2 e3 e4 e5 hx hat hat' hbel
   go_wp2_with fail
   have f0 : ∀ u : Ext wr, u.w.cell? ⟨b, o + k * 6, none⟩ = some (.int .i64 x.no) := fun u => u.cell c0
   have i0 : ∀ u : Ext wr, u.w.cell? ⟨b', o' + k * 6, none⟩ = some (.int .i64 x.no) := fun u => u.cell d0
   have f1 : ∀ u : Ext wr, u.w.cell? ⟨b, o + k * 6 + 1, none⟩ = some (.int .i64 x.client) := fun u => u.cell c1
   have i1 : ∀ u : Ext wr, u.w.cell? ⟨b', o' + k * 6 + 1, none⟩ = some (.int .i64 x.client) := fun u => u.cell d1
   have f2 : ∀ u : Ext wr, u.w.cell? ⟨b, o + k * 6 + 2, none⟩ = some (.int .i64 x.fam) := fun u => u.cell c2
   have i2 : ∀ u : Ext wr, u.w.cell? ⟨b', o' + k * 6 + 2, none⟩ = some (.int .i64 x.fam) := fun u => u.cell d2
   have f3 : ∀ u : Ext wr, u.w.cell? ⟨b, o + k * 6 + 3, none⟩ = some (.bool x.refresh) := fun u => u.cell c3
   have i3 : ∀ u : Ext wr, u.w.cell? ⟨b', o' + k * 6 + 3, none⟩ = some (.bool x.refresh) := fun u => u.cell d3
   have f4 : ∀ u : Ext wr, u.w.cell? ⟨b, o + k * 6 + 4, none⟩ = some (.int .i64 x.till) := fun u => u.cell c4
   have i4 : ∀ u : Ext wr, u.w.cell? ⟨b', o' + k * 6 + 4, none⟩ = some (.int .i64 x.till) := fun u => u.cell d4
   have f5 : ∀ u : Ext wr, u.w.cell? ⟨b, o + k * 6 + 5, none⟩ = some (.int .i64 x.state) := fun u => u.cell c5
   have i5 : ∀ u : Ext wr, u.w.cell? ⟨b', o' + k * 6 + 5, none⟩ = some (.int .i64 x.state) := fun u => u.cell d5
   refine ext_region wr (by kernel_rfl) (by kernel_rfl) (Below.refl _ _) ?_
   repeat (go_big_quiet_step ((go_at_call 121; exact calls_ext (eqKey_same x _))))
   refine wpQuiet_nil ?_
   intro w2 hb2
   have HB2 := Lib.hid hb2
   clear hb2
   go_wp2_with fail
   go_roundw
   case rel => exact ⟨k + 1, by omega, by go_num, HB.out.trans (HB2.out.mono hz)⟩
   case measure => simp [RowKit.intOf]; omega
  ·go_wp2_with fail
   go_ret
   exact ⟨rfl, hbel⟩

set_option maxHeartbeats 800000 in
theorem toInt64S_any (p : Option Addr) (cap : Nat) (l : List Int) (w : World) (hl : LIn inCf w p l) (hc : l.length ≤ 1048576) : Calls Tryz.prog 48 #[.slice p l.length cap] w (LOut inCf 2 1 l w) := by
 obtain ⟨i5, hi, hz0, hz1, hz2⟩ := info_parts infoInt64
 have HL := Lib.hid hl
 obtain ⟨n, hn⟩ : ∃ n, n = l.length := ⟨_, rfl⟩
 unfold LOut
 rw [← hn] at hc ⊢
 have HN := Lib.hid hn
 clear hl hn
 go_enter Tryz.func48, Tryz.ntmps48
 go_wp2_with (refine wpList_make_full _ rfl (.tmp 6) (.tmp 6) 24 rfl w.heap.size 2 i5 _ 1 Tryz.underlying24 hi hz0 hz1 .i64 .i64 _ _ n rfl rfl rfl rfl (by rw [hz2]; omega) (by unfold maxLen; omega) (Nat.le_refl _) ?_)
 intro w1 hown hgr
 have hR := Row.of_owns hown rfl
 have hlt := hR.lt
 have HR := Lib.hid hR
 have HM := Lib.hid (show (madeCells #[Value.int .i64 0] n).toList.length = (n - 0) * 1 by rw [Array.length_toList, size_madeCells]; omega)
 have HB := Lib.hid ((Below.refl w.heap.size w).grown hgr (Nat.le_refl _) (fun k hk => by cases hk))
 obtain ⟨g, hg⟩ : ∃ g, g = w.heap.size := ⟨_, rfl⟩
 rw [← hg] at HR hlt
 clear hown hgr hR
 go_wp2_with fail
 rw [← hg]
 have hg' : w.heap.size ≤ g := by omega
 clear hg
 go_loopw [4] (CopyRel inCf 2 1 g n l w) (fun i _ => n - (RowKit.intOf i).toNat)
 case atStart => exact ⟨0, _, by omega, rfl, HM.out, HR.out, HB.out⟩
 case round =>
  obtain ⟨k, rest, hk, rfl, hr, hrow, hbel⟩ := hrel
  by_cases hlt : k < n
  ·obtain ⟨x, hx⟩ : ∃ x, l[k]? = some x := ⟨_, List.getElem?_eq_getElem (by rw [← HN.out]; exact hlt)⟩
   obtain ⟨b, o, rfl, hat⟩ := HL.out.some hx
   have a0 := in_cells hat hx
   have hb : b < w.heap.size := World.block_lt_of_cell? w _ a0
   have c0 := (hbel.cell (p := ⟨b, o + k, none⟩) hb).trans a0
   have hz := hbel.size
   have hgl := hrow.lt
   have HRo := Lib.hid hrow
   have HB1 := Lib.hid hbel
   have HX := Lib.hid hx
   have HRl := Lib.hid hr
   clear a0 hx hat hbel hrow hr
   have hst := copy_step inCf_len HN.out HX.out HRl.out HRo.out HB1.out hg'
   have hth := (hst.1 0 (by omega)).1
   have hfr := (hst.1 0 (by omega)).2
   rw [Nat.mul_one, Nat.add_zero] at hth hfr
   obtain ⟨v0, hv0⟩ := Option.isSome_iff_exists.1 hth
   have HR1 := Lib.hid hst.2
   rw [Nat.mul_one] at HR1
   clear hst hth
   go_wp2_with fail
   go_roundw
   case rel => exact HR1.out
   case measure => simp [RowKit.intOf]; omega
  ·have HRa := Lib.hid (show Row wr g 2 (l.flatMap inCf) by
    obtain rfl : k = n := by omega
    have h := hrow
    rw [List.take_of_length_le (by rw [← HN.out]; exact Nat.le_refl _), List.eq_nil_of_length_eq_zero (l := rest) (by omega), List.append_nil] at h
    exact h)
   clear hrow
   go_wp2_with fail
   go_ret
   exact ⟨g, rfl, hg', HRa.out, hbel⟩

set_option maxHeartbeats 400000 in
theorem eqInt64S_same (p p' : Option Addr) (cap cap' : Nat) (l : List Int) (w : World) (hl : LIn inCf w p l) (hl' : LIn inCf w p' l) (hc : l.length ≤ 1048576) : Calls Tryz.prog 55 #[.slice p l.length cap, .slice p' l.length cap'] w (Ret (.bool true) w) := by
 have HL := Lib.hid hl
 have HL' := Lib.hid hl'
 obtain ⟨n, hn⟩ : ∃ n, n = l.length := ⟨_, rfl⟩
 rw [← hn] at hc ⊢
 have HN := Lib.hid hn
 clear hl hl' hn
 go_enter Tryz.func55, Tryz.ntmps55
 go_wp2_with fail
 go_loopw [5] (EqRel n w) (fun i _ => n - (RowKit.intOf i).toNat)
 case atStart => exact ⟨0, by omega, rfl, Below.refl _ _⟩
 case round =>
  obtain ⟨k, hk, rfl, hbel⟩ := hrel
  by_cases hlt : k < n
  ·obtain ⟨x, hx⟩ : ∃ x, l[k]? = some x := ⟨_, List.getElem?_eq_getElem (by rw [← HN.out]; exact hlt)⟩
   obtain ⟨b, o, rfl, hat⟩ := HL.out.some hx
   obtain ⟨b', o', rfl, hat'⟩ := HL'.out.some hx
   have a0 := in_cells hat hx
   have e0 := in_cells hat' hx
   have hb : b < w.heap.size := World.block_lt_of_cell? w _ a0
   have hb' : b' < w.heap.size := World.block_lt_of_cell? w _ e0
   have c0 := (hbel.cell (p := ⟨b, o + k, none⟩) hb).trans a0
   have d0 := (hbel.cell (p := ⟨b', o' + k, none⟩) hb').trans e0
   have hz := hbel.size
   have HB := Lib.hid hbel
   clear a0 e0 hx hat hat' hbel
   have hne : (x != x) = false := by simp
   go_wp2_with fail
   go_quiet (fail)
   go_wp2_with fail
   go_roundw
   case rel => exact ⟨k + 1, by omega, by go_num, below_drewN HB.out _⟩
   case measure => simp [RowKit.intOf]; omega
  ·go_wp2_with fail
   go_ret
   exact ⟨rfl, hbel⟩

end Go.Proofs.YtjccnjfdeedneaaGreat
/- The laws' helpers on whole grants: measured, copied, compared. -/
namespace Go.Proofs.YtjccnjfdeedneaaGreat
open Go Go.RowKit Go.Lib
set_option linter.unusedVariables false

/-- What the form of claims gives of a grant. -/
def GrArg (w : World) (h : GH) (g : Gr) : Prop := GrIn w h g ∧ (∀ x ∈ g.words, x.shade.size ≤ maxLen) ∧ g.words.length ≤ maxLen ∧ g.keys.length ≤ maxLen ∧ g.dead.length ≤ maxLen
def SzG (g : Gr) (w : World) (e : Ending) (w' : World) : Prop := ∃ r : Int, e = .returned (.int .i64 r) ∧ (0 ≤ r → GrSmall g) ∧ r ≤ 1048576 ∧ Below w.heap.size w w'
theorem grSmall_of {g : Gr} (h1 : g.words.length ≤ 1048576) (h2 : g.keys.length ≤ 1048576) (h3 : g.dead.length ≤ 1048576) (h : ∀ x ∈ g.words, x.shade.size ≤ maxLen) : GrSmall g := ⟨h1, h2, h3, h⟩
set_option maxHeartbeats 400000 in
theorem szGrant_any (h : GH) (g : Gr) (w : World) (hin : GrArg w h g) : Calls Tryz.prog 9 #[grV g.now h, .int .i64 1048576] w (SzG g w) := by
 obtain ⟨wp, wn, wc, kp, kn, kc, dp, dn, dc⟩ := h
 obtain ⟨now, ws, ks, ds⟩ := g
 obtain ⟨⟨⟨hn1, hn2, hn3⟩, hl1, hl2, hl3⟩, hs, hm1, hm2, hm3⟩ := hin
 simp only at hn1 hn2 hn3 hl1 hl2 hl3 hs hm1 hm2 hm3 ⊢
 subst hn1 hn2 hn3
 unfold grV
 simp only
 have hb0 := (Below.refl w.heap.size w).alloc (Nat.le_refl _) (.cells #[.int .i64 now, .slice wp ws.length wc, .slice kp ks.length kc, .slice dp ds.length dc] 26)
 have hrow : Row (w.alloc (.cells #[.int .i64 now, .slice wp ws.length wc, .slice kp ks.length kc, .slice dp ds.length dc] 26)) w.heap.size 26 [.int .i64 now, .slice wp ws.length wc, .slice kp ks.length kc, .slice dp ds.length dc] := heap_alloc_new w _
 have HL1 := Lib.hid (hl1.later hb0)
 have HR := Lib.hid hrow
 have HB := Lib.hid hb0
 have hz := hb0.size
 have hgl := hrow.lt
 have HS := Lib.hid hs
 clear hl1 hl2 hl3 hrow hb0 hs
 go_enter Tryz.func9, Tryz.ntmps9
 go_wp2_with fail
 refine (szWordS_any wp wc ws 1048576 _ HL1.out HS.out hm1 (by omega) (by omega)).mono ?_
 rintro e w1 ⟨r1, rfl, ra, rb, rc, hb1⟩
 have HR1 := Lib.hid (HR.out.below hb1 hgl)
 have HB1 := Lib.hid (HB.out.trans (hb1.mono hz))
 have hz1 := HB1.out.size
 have hgl1 := HR1.out.lt
 have q2 : w1.cell? ⟨w.heap.size, 2, none⟩ = some (.slice kp ks.length kc) := HR1.out.cell 2
 have q3 : w1.cell? ⟨w.heap.size, 3, none⟩ = some (.slice dp ds.length dc) := HR1.out.cell 3
 clear hb1
 by_cases g1 : r1 < 0
 ·clear rc
  go_wp2_with fail
  go_ret
  exact ⟨-1, rfl, fun h => by omega, by omega, HB1.out⟩
 have c1 := rc (by omega)
 clear rc
 go_wp2_with fail
 refine (szKeyS_any kp ks.length kc r1 _ (by omega) rb hm2).mono ?_
 rintro e w2 ⟨r2, rfl, sa, sb, sc, hb2⟩
 have HB2 := Lib.hid (HB1.out.trans (hb2.mono hz1))
 have p3 : w2.cell? ⟨w.heap.size, 3, none⟩ = some (.slice dp ds.length dc) := (HR1.out.below hb2 hgl1).cell 3
 have hz2 := HB2.out.size
 clear hb2 q2 q3
 by_cases g2 : r2 < 0
 ·clear sc
  go_wp2_with fail
  go_ret
  exact ⟨-1, rfl, fun h => by omega, by omega, HB2.out⟩
 have c2 := sc (by omega)
 clear sc
 go_wp2_with fail
 refine (szInt64S_any dp ds.length dc r2 _ (by omega) sb hm3).mono ?_
 rintro e w3 ⟨r3, rfl, ta, tb, tc, hb3⟩
 have HB3 := Lib.hid (HB2.out.trans (hb3.mono hz2))
 clear hb3
 by_cases g3 : r3 < 0
 ·clear tc
  go_wp2_with fail
  go_ret
  exact ⟨-1, rfl, fun h => by omega, by omega, HB3.out⟩
 have c3 := tc (by omega)
 clear tc
 have HC := Lib.hid (grSmall_of (g := ⟨now, ws, ks, ds⟩) c1 c2 c3 HS.out)
 go_wp2_with fail
 go_ret
 exact ⟨r3, rfl, fun _ => HC.out, by omega, HB3.out⟩

/-- A grant in new memory, whose lists lie apart. -/
def GrNew (w0 w : World) (h : GH) (g : Gr) : Prop := ∃ g1 g2 g3, h = ⟨some ⟨g1, 0, none⟩, g.words.length, g.words.length, some ⟨g2, 0, none⟩, g.keys.length, g.keys.length, some ⟨g3, 0, none⟩, g.dead.length, g.dead.length⟩ ∧
 w0.heap.size ≤ g1 ∧ g1 < g2 ∧ g2 < g3 ∧ Row w g1 163 (g.words.flatMap wdCf) ∧ Row w g2 127 (g.keys.flatMap kyCf) ∧ Row w g3 2 (g.dead.flatMap inCf)
theorem GrNew.isIn {w0 w : World} {h : GH} {g : Gr} (hn : GrNew w0 w h g) : GrIn w h g := by
 obtain ⟨g1, g2, g3, rfl, _, _, _, r1, r2, r3⟩ := hn
 exact ⟨⟨rfl, rfl, rfl⟩, LIn.of r1.lat, LIn.of r2.lat, LIn.of r3.lat⟩
theorem GrNew.later {w0 w w1 : World} {h : GH} {g : Gr} (hn : GrNew w0 w h g) (hb : Below w.heap.size w w1) : GrNew w0 w1 h g := by
 obtain ⟨g1, g2, g3, rfl, a, b, c, r1, r2, r3⟩ := hn
 exact ⟨g1, g2, g3, rfl, a, b, c, r1.below hb r1.lt, r2.below hb r2.lt, r3.below hb r3.lt⟩
def ToG (g : Gr) (w : World) (e : Ending) (w' : World) : Prop := ∃ h, e = .returned (grV g.now h) ∧ GrNew w w' h g ∧ Below w.heap.size w w'
theorem Row.setOth2 {w : World} {q : Nat} {E : TypeId} {l : List Value} (h : Row w q E l) {g j : Nat} (hne : q ≠ g) (v : Value) : Row (w.setCell ⟨g, j, none⟩ v) q E l := by
 unfold Row at h ⊢
 rw [Below.heap_setCell w ⟨g, j, none⟩ v q hne]
 exact h
set_option maxRecDepth 100000 in
set_option maxHeartbeats 2000000 in
theorem toGrant_any (h : GH) (g : Gr) (w : World) (hin : GrIn w h g) (hs : GrSmall g) : Calls Tryz.prog 11 #[grV g.now h] w (ToG g w) := by
 obtain ⟨wp, wn, wc, kp, kn, kc, dp, dn, dc⟩ := h
 obtain ⟨now, ws, ks, ds⟩ := g
 obtain ⟨⟨hn1, hn2, hn3⟩, hl1, hl2, hl3⟩ := hin
 obtain ⟨hm1, hm2, hm3, _⟩ := hs
 simp only at hn1 hn2 hn3 hl1 hl2 hl3 hm1 hm2 hm3 ⊢
 subst hn1 hn2 hn3
 unfold grV
 simp only
 have HL1 := Lib.hid hl1
 have HL2 := Lib.hid hl2
 have HL3 := Lib.hid hl3
 clear hl1 hl2 hl3
 obtain ⟨W, hW⟩ : ∃ W, W = ((w.alloc (.cells #[.int .i64 now, .slice wp ws.length wc, .slice kp ks.length kc, .slice dp ds.length dc] 26)).alloc (.cells #[.int .i64 0, .slice none 0 0, .slice none 0 0, .slice none 0 0] 31)).alloc (.cells #[.int .i64 now, .slice none 0 0, .slice none 0 0, .slice none 0 0] 31) := ⟨_, rfl⟩
 have hb0 : Below w.heap.size w W := by rw [hW]; go_grown
 have r0 : Row W w.heap.size 26 [.int .i64 now, .slice wp ws.length wc, .slice kp ks.length kc, .slice dp ds.length dc] := by
  rw [hW]
  exact Row.below (heap_alloc_new w _) (((Below.refl _ _).alloc (Nat.le_refl _) _).alloc (by simp) _) (by simp)
 have r1 : Row W (w.heap.size + 1) 31 [.int .i64 0, .slice none 0 0, .slice none 0 0, .slice none 0 0] := by
  rw [hW]
  have h := heap_alloc_new (w.alloc (.cells #[.int .i64 now, .slice wp ws.length wc, .slice kp ks.length kc, .slice dp ds.length dc] 26)) (.cells #[.int .i64 0, .slice none 0 0, .slice none 0 0, .slice none 0 0] 31)
  rw [World.size_alloc] at h
  exact Row.below h ((Below.refl _ _).alloc (Nat.le_refl _) _) (by simp)
 have r2 : Row W (w.heap.size + 2) 31 [.int .i64 now, .slice none 0 0, .slice none 0 0, .slice none 0 0] := by
  rw [hW]
  have h := heap_alloc_new ((w.alloc (.cells #[.int .i64 now, .slice wp ws.length wc, .slice kp ks.length kc, .slice dp ds.length dc] 26)).alloc (.cells #[.int .i64 0, .slice none 0 0, .slice none 0 0, .slice none 0 0] 31)) (.cells #[.int .i64 now, .slice none 0 0, .slice none 0 0, .slice none 0 0] 31)
  rw [World.size_alloc, World.size_alloc] at h
  exact h
 have HW := Lib.hid hW
 have hz := hb0.size
 have HB := Lib.hid hb0
 have R0 := Lib.hid r0
 have R1 := Lib.hid r1
 have R2 := Lib.hid r2
 have hl0 := r2.lt
 clear hW hb0 r0 r1 r2
 go_enter Tryz.func11, Tryz.ntmps11
 go_wp2_with fail
 rw [← HW.out]
 refine (toWordS_any wp wc ws _ (HL1.out.later HB.out) hm1).mono ?_
 rintro e w1 ⟨g1, rfl, hg1, hr1, hb1⟩
 have S10 := Lib.hid (R0.out.below hb1 R0.out.lt)
 have S11 := Lib.hid (R1.out.below hb1 R1.out.lt)
 have S12 := Lib.hid (R2.out.below hb1 R2.out.lt)
 have B1 := Lib.hid (HB.out.trans (hb1.mono hz))
 have N11r := Lib.hid hr1
 have hlo1 : w.heap.size + 2 < g1 := by omega
 have z1 : w1.cell? ⟨w.heap.size + 2, 1, none⟩ = some (.slice none 0 0) := S12.out.cell 1
 have f1 : w1.frozen? ⟨w.heap.size + 2, 1, none⟩ = false := S12.out.free 1
 have T10 := Lib.hid (S10.out.setOth2 (g := w.heap.size + 2) (j := 1) (by omega) (.slice (some ⟨g1, 0, none⟩) ws.length ws.length))
 have T11 := Lib.hid (S11.out.setOth2 (g := w.heap.size + 2) (j := 1) (by omega) (.slice (some ⟨g1, 0, none⟩) ws.length ws.length))
 have T12 : Hid (Row (w1.setCell ⟨w.heap.size + 2, 1, none⟩ (.slice (some ⟨g1, 0, none⟩) ws.length ws.length)) (w.heap.size + 2) 31 [.int .i64 now, .slice (some ⟨g1, 0, none⟩) ws.length ws.length, .slice none 0 0, .slice none 0 0]) := Lib.hid (S12.out.set 1 (.slice (some ⟨g1, 0, none⟩) ws.length ws.length))
 have C1 := Lib.hid (B1.out.setCell (p := ⟨w.heap.size + 2, 1, none⟩) (by simp) (.slice (some ⟨g1, 0, none⟩) ws.length ws.length))
 have N11 := Lib.hid (N11r.out.setOth2 (g := w.heap.size + 2) (j := 1) (by omega) (.slice (some ⟨g1, 0, none⟩) ws.length ws.length))
 have hz1 := C1.out.size
 have hzz1 := T12.out.lt
 have q1 : (w1.setCell ⟨w.heap.size + 2, 1, none⟩ (.slice (some ⟨g1, 0, none⟩) ws.length ws.length)).cell? ⟨w.heap.size, 2, none⟩ = some (.slice kp ks.length kc) := T10.out.cell 2
 clear hb1 hr1
 go_wp2_with fail
 refine (toKeyS_any kp kc ks _ (HL2.out.later C1.out) hm2).mono ?_
 rintro e w2 ⟨g2, rfl, hg2, hr2, hb2⟩
 have S20 := Lib.hid (T10.out.below hb2 T10.out.lt)
 have S21 := Lib.hid (T11.out.below hb2 T11.out.lt)
 have S22 := Lib.hid (T12.out.below hb2 T12.out.lt)
 have B2 := Lib.hid (C1.out.trans (hb2.mono hz1))
 have N21 := Lib.hid (N11.out.below hb2 N11.out.lt)
 have hgg12 : g1 < g2 := Nat.lt_of_lt_of_le N11.out.lt hg2
 have N22r := Lib.hid hr2
 have hlo2 : w.heap.size + 2 < g2 := by omega
 have z2 : w2.cell? ⟨w.heap.size + 2, 2, none⟩ = some (.slice none 0 0) := S22.out.cell 2
 have f2 : w2.frozen? ⟨w.heap.size + 2, 2, none⟩ = false := S22.out.free 2
 have T20 := Lib.hid (S20.out.setOth2 (g := w.heap.size + 2) (j := 2) (by omega) (.slice (some ⟨g2, 0, none⟩) ks.length ks.length))
 have T21 := Lib.hid (S21.out.setOth2 (g := w.heap.size + 2) (j := 2) (by omega) (.slice (some ⟨g2, 0, none⟩) ks.length ks.length))
 have T22 : Hid (Row (w2.setCell ⟨w.heap.size + 2, 2, none⟩ (.slice (some ⟨g2, 0, none⟩) ks.length ks.length)) (w.heap.size + 2) 31 [.int .i64 now, .slice (some ⟨g1, 0, none⟩) ws.length ws.length, .slice (some ⟨g2, 0, none⟩) ks.length ks.length, .slice none 0 0]) := Lib.hid (S22.out.set 2 (.slice (some ⟨g2, 0, none⟩) ks.length ks.length))
 have C2 := Lib.hid (B2.out.setCell (p := ⟨w.heap.size + 2, 2, none⟩) (by simp) (.slice (some ⟨g2, 0, none⟩) ks.length ks.length))
 have N21 := Lib.hid (N21.out.setOth2 (g := w.heap.size + 2) (j := 2) (by omega) (.slice (some ⟨g2, 0, none⟩) ks.length ks.length))
 have N22 := Lib.hid (N22r.out.setOth2 (g := w.heap.size + 2) (j := 2) (by omega) (.slice (some ⟨g2, 0, none⟩) ks.length ks.length))
 have hz2 := C2.out.size
 have hzz2 := T22.out.lt
 have q2 : (w2.setCell ⟨w.heap.size + 2, 2, none⟩ (.slice (some ⟨g2, 0, none⟩) ks.length ks.length)).cell? ⟨w.heap.size, 3, none⟩ = some (.slice dp ds.length dc) := T20.out.cell 3
 clear hb2 hr2
 go_wp2_with fail
 refine (toInt64S_any dp dc ds _ (HL3.out.later C2.out) hm3).mono ?_
 rintro e w3 ⟨g3, rfl, hg3, hr3, hb3⟩
 have S30 := Lib.hid (T20.out.below hb3 T20.out.lt)
 have S31 := Lib.hid (T21.out.below hb3 T21.out.lt)
 have S32 := Lib.hid (T22.out.below hb3 T22.out.lt)
 have B3 := Lib.hid (C2.out.trans (hb3.mono hz2))
 have N31 := Lib.hid (N21.out.below hb3 N21.out.lt)
 have hgg13 : g1 < g3 := Nat.lt_of_lt_of_le N21.out.lt hg3
 have N32 := Lib.hid (N22.out.below hb3 N22.out.lt)
 have hgg23 : g2 < g3 := Nat.lt_of_lt_of_le N22.out.lt hg3
 have N33r := Lib.hid hr3
 have hlo3 : w.heap.size + 2 < g3 := by omega
 have z3 : w3.cell? ⟨w.heap.size + 2, 3, none⟩ = some (.slice none 0 0) := S32.out.cell 3
 have f3 : w3.frozen? ⟨w.heap.size + 2, 3, none⟩ = false := S32.out.free 3
 have T30 := Lib.hid (S30.out.setOth2 (g := w.heap.size + 2) (j := 3) (by omega) (.slice (some ⟨g3, 0, none⟩) ds.length ds.length))
 have T31 := Lib.hid (S31.out.setOth2 (g := w.heap.size + 2) (j := 3) (by omega) (.slice (some ⟨g3, 0, none⟩) ds.length ds.length))
 have T32 : Hid (Row (w3.setCell ⟨w.heap.size + 2, 3, none⟩ (.slice (some ⟨g3, 0, none⟩) ds.length ds.length)) (w.heap.size + 2) 31 [.int .i64 now, .slice (some ⟨g1, 0, none⟩) ws.length ws.length, .slice (some ⟨g2, 0, none⟩) ks.length ks.length, .slice (some ⟨g3, 0, none⟩) ds.length ds.length]) := Lib.hid (S32.out.set 3 (.slice (some ⟨g3, 0, none⟩) ds.length ds.length))
 have C3 := Lib.hid (B3.out.setCell (p := ⟨w.heap.size + 2, 3, none⟩) (by simp) (.slice (some ⟨g3, 0, none⟩) ds.length ds.length))
 have N31 := Lib.hid (N31.out.setOth2 (g := w.heap.size + 2) (j := 3) (by omega) (.slice (some ⟨g3, 0, none⟩) ds.length ds.length))
 have N32 := Lib.hid (N32.out.setOth2 (g := w.heap.size + 2) (j := 3) (by omega) (.slice (some ⟨g3, 0, none⟩) ds.length ds.length))
 have N33 := Lib.hid (N33r.out.setOth2 (g := w.heap.size + 2) (j := 3) (by omega) (.slice (some ⟨g3, 0, none⟩) ds.length ds.length))
 have hz3 := C3.out.size
 have hzz3 := T32.out.lt
 have y0 : (w3.setCell ⟨w.heap.size + 2, 3, none⟩ (.slice (some ⟨g3, 0, none⟩) ds.length ds.length)).cell? ⟨w.heap.size + 2, 0, none⟩ = some (.int .i64 now) := T32.out.cell 0
 have y1 : (w3.setCell ⟨w.heap.size + 2, 3, none⟩ (.slice (some ⟨g3, 0, none⟩) ds.length ds.length)).cell? ⟨w.heap.size + 2, 1, none⟩ = some (.slice (some ⟨g1, 0, none⟩) ws.length ws.length) := T32.out.cell 1
 have y2 : (w3.setCell ⟨w.heap.size + 2, 3, none⟩ (.slice (some ⟨g3, 0, none⟩) ds.length ds.length)).cell? ⟨w.heap.size + 2, 2, none⟩ = some (.slice (some ⟨g2, 0, none⟩) ks.length ks.length) := T32.out.cell 2
 have y3 : (w3.setCell ⟨w.heap.size + 2, 3, none⟩ (.slice (some ⟨g3, 0, none⟩) ds.length ds.length)).cell? ⟨w.heap.size + 2, 3, none⟩ = some (.slice (some ⟨g3, 0, none⟩) ds.length ds.length) := T32.out.cell 3
 have xz0 : (w3.setCell ⟨w.heap.size + 2, 3, none⟩ (.slice (some ⟨g3, 0, none⟩) ds.length ds.length)).cell? ⟨w.heap.size + 1, 0, none⟩ = some (.int .i64 0) := T31.out.cell 0
 have xf0 := T31.out.free 0
 have xz1 : (w3.setCell ⟨w.heap.size + 2, 3, none⟩ (.slice (some ⟨g3, 0, none⟩) ds.length ds.length)).cell? ⟨w.heap.size + 1, 1, none⟩ = some (.slice none 0 0) := T31.out.cell 1
 have xf1 := T31.out.free 1
 have xz2 : (w3.setCell ⟨w.heap.size + 2, 3, none⟩ (.slice (some ⟨g3, 0, none⟩) ds.length ds.length)).cell? ⟨w.heap.size + 1, 2, none⟩ = some (.slice none 0 0) := T31.out.cell 2
 have xf2 := T31.out.free 2
 have xz3 : (w3.setCell ⟨w.heap.size + 2, 3, none⟩ (.slice (some ⟨g3, 0, none⟩) ds.length ds.length)).cell? ⟨w.heap.size + 1, 3, none⟩ = some (.slice none 0 0) := T31.out.cell 3
 have xf3 := T31.out.free 3
 have xR : Row (((((w3.setCell ⟨w.heap.size + 2, 3, none⟩ (.slice (some ⟨g3, 0, none⟩) ds.length ds.length)).setCell ⟨w.heap.size + 1, 0, none⟩ (.int .i64 now)).setCell ⟨w.heap.size + 1, 1, none⟩ (.slice (some ⟨g1, 0, none⟩) ws.length ws.length)).setCell ⟨w.heap.size + 1, 2, none⟩ (.slice (some ⟨g2, 0, none⟩) ks.length ks.length)).setCell ⟨w.heap.size + 1, 3, none⟩ (.slice (some ⟨g3, 0, none⟩) ds.length ds.length)) (w.heap.size + 1) 31 ([.int .i64 now, .slice (some ⟨g1, 0, none⟩) ws.length ws.length, .slice (some ⟨g2, 0, none⟩) ks.length ks.length, .slice (some ⟨g3, 0, none⟩) ds.length ds.length]) := ((((T31.out.set 0 (.int .i64 now)).set 1 (.slice (some ⟨g1, 0, none⟩) ws.length ws.length)).set 2 (.slice (some ⟨g2, 0, none⟩) ks.length ks.length)).set 3 (.slice (some ⟨g3, 0, none⟩) ds.length ds.length))
 have xd0 : (((((w3.setCell ⟨w.heap.size + 2, 3, none⟩ (.slice (some ⟨g3, 0, none⟩) ds.length ds.length)).setCell ⟨w.heap.size + 1, 0, none⟩ (.int .i64 now)).setCell ⟨w.heap.size + 1, 1, none⟩ (.slice (some ⟨g1, 0, none⟩) ws.length ws.length)).setCell ⟨w.heap.size + 1, 2, none⟩ (.slice (some ⟨g2, 0, none⟩) ks.length ks.length)).setCell ⟨w.heap.size + 1, 3, none⟩ (.slice (some ⟨g3, 0, none⟩) ds.length ds.length)).cell? ⟨w.heap.size + 1, 0, none⟩ = some (.int .i64 now) := xR.cell 0
 have xd1 : (((((w3.setCell ⟨w.heap.size + 2, 3, none⟩ (.slice (some ⟨g3, 0, none⟩) ds.length ds.length)).setCell ⟨w.heap.size + 1, 0, none⟩ (.int .i64 now)).setCell ⟨w.heap.size + 1, 1, none⟩ (.slice (some ⟨g1, 0, none⟩) ws.length ws.length)).setCell ⟨w.heap.size + 1, 2, none⟩ (.slice (some ⟨g2, 0, none⟩) ks.length ks.length)).setCell ⟨w.heap.size + 1, 3, none⟩ (.slice (some ⟨g3, 0, none⟩) ds.length ds.length)).cell? ⟨w.heap.size + 1, 1, none⟩ = some (.slice (some ⟨g1, 0, none⟩) ws.length ws.length) := xR.cell 1
 have xd2 : (((((w3.setCell ⟨w.heap.size + 2, 3, none⟩ (.slice (some ⟨g3, 0, none⟩) ds.length ds.length)).setCell ⟨w.heap.size + 1, 0, none⟩ (.int .i64 now)).setCell ⟨w.heap.size + 1, 1, none⟩ (.slice (some ⟨g1, 0, none⟩) ws.length ws.length)).setCell ⟨w.heap.size + 1, 2, none⟩ (.slice (some ⟨g2, 0, none⟩) ks.length ks.length)).setCell ⟨w.heap.size + 1, 3, none⟩ (.slice (some ⟨g3, 0, none⟩) ds.length ds.length)).cell? ⟨w.heap.size + 1, 2, none⟩ = some (.slice (some ⟨g2, 0, none⟩) ks.length ks.length) := xR.cell 2
 have xd3 : (((((w3.setCell ⟨w.heap.size + 2, 3, none⟩ (.slice (some ⟨g3, 0, none⟩) ds.length ds.length)).setCell ⟨w.heap.size + 1, 0, none⟩ (.int .i64 now)).setCell ⟨w.heap.size + 1, 1, none⟩ (.slice (some ⟨g1, 0, none⟩) ws.length ws.length)).setCell ⟨w.heap.size + 1, 2, none⟩ (.slice (some ⟨g2, 0, none⟩) ks.length ks.length)).setCell ⟨w.heap.size + 1, 3, none⟩ (.slice (some ⟨g3, 0, none⟩) ds.length ds.length)).cell? ⟨w.heap.size + 1, 3, none⟩ = some (.slice (some ⟨g3, 0, none⟩) ds.length ds.length) := xR.cell 3
 have XR := Lib.hid xR
 have XB := Lib.hid ((((C3.out.setCell (p := ⟨w.heap.size + 1, 0, none⟩) (by simp) (.int .i64 now)).setCell (p := ⟨w.heap.size + 1, 1, none⟩) (by simp) (.slice (some ⟨g1, 0, none⟩) ws.length ws.length)).setCell (p := ⟨w.heap.size + 1, 2, none⟩) (by simp) (.slice (some ⟨g2, 0, none⟩) ks.length ks.length)).setCell (p := ⟨w.heap.size + 1, 3, none⟩) (by simp) (.slice (some ⟨g3, 0, none⟩) ds.length ds.length))
 have M1 := Lib.hid ((((N31.out.setOth2 (g := w.heap.size + 1) (j := 0) (by omega) (.int .i64 now)).setOth2 (g := w.heap.size + 1) (j := 1) (by omega) (.slice (some ⟨g1, 0, none⟩) ws.length ws.length)).setOth2 (g := w.heap.size + 1) (j := 2) (by omega) (.slice (some ⟨g2, 0, none⟩) ks.length ks.length)).setOth2 (g := w.heap.size + 1) (j := 3) (by omega) (.slice (some ⟨g3, 0, none⟩) ds.length ds.length))
 have M2 := Lib.hid ((((N32.out.setOth2 (g := w.heap.size + 1) (j := 0) (by omega) (.int .i64 now)).setOth2 (g := w.heap.size + 1) (j := 1) (by omega) (.slice (some ⟨g1, 0, none⟩) ws.length ws.length)).setOth2 (g := w.heap.size + 1) (j := 2) (by omega) (.slice (some ⟨g2, 0, none⟩) ks.length ks.length)).setOth2 (g := w.heap.size + 1) (j := 3) (by omega) (.slice (some ⟨g3, 0, none⟩) ds.length ds.length))
 have M3 := Lib.hid ((((N33.out.setOth2 (g := w.heap.size + 1) (j := 0) (by omega) (.int .i64 now)).setOth2 (g := w.heap.size + 1) (j := 1) (by omega) (.slice (some ⟨g1, 0, none⟩) ws.length ws.length)).setOth2 (g := w.heap.size + 1) (j := 2) (by omega) (.slice (some ⟨g2, 0, none⟩) ks.length ks.length)).setOth2 (g := w.heap.size + 1) (j := 3) (by omega) (.slice (some ⟨g3, 0, none⟩) ds.length ds.length))
 clear xR
 clear hb3 hr3
 go_wp2_with fail
 refine bodyPost_ret (v := .agg #[.int .i64 now, .slice (some ⟨g1, 0, none⟩) ws.length ws.length, .slice (some ⟨g2, 0, none⟩) ks.length ks.length, .slice (some ⟨g3, 0, none⟩) ds.length ds.length]) (by simp [results, Tryz.results11, go_sem, xd0, xd1, xd2, xd3]; try rfl) rfl ?_
 exact ⟨_, rfl, ⟨g1, g2, g3, rfl, by omega, by omega, by omega, M1.out, M2.out, M3.out⟩, XB.out⟩
theorem eqGrant_same (h h' : GH) (g : Gr) (w : World) (hi : GrIn w h g) (hi' : GrIn w h' g) (hs : GrSmall g) : Calls Tryz.prog 14 #[grV g.now h, grV g.now h'] w (Ret (.bool true) w) := by
 obtain ⟨wp, wn, wc, kp, kn, kc, dp, dn, dc⟩ := h
 obtain ⟨wp', wn', wc', kp', kn', kc', dp', dn', dc'⟩ := h'
 obtain ⟨now, ws, ks, ds⟩ := g
 obtain ⟨⟨hn1, hn2, hn3⟩, hl1, hl2, hl3⟩ := hi
 obtain ⟨⟨hn1', hn2', hn3'⟩, hl1', hl2', hl3'⟩ := hi'
 obtain ⟨hm1, hm2, hm3, _⟩ := hs
 simp only at hn1 hn2 hn3 hl1 hl2 hl3 hn1' hn2' hn3' hl1' hl2' hl3' hm1 hm2 hm3 ⊢
 subst hn1 hn2 hn3 hn1' hn2' hn3'
 unfold grV
 simp only
 have hb0 := ((Below.refl w.heap.size w).alloc (Nat.le_refl _) (.cells #[.int .i64 now, .slice wp ws.length wc, .slice kp ks.length kc, .slice dp ds.length dc] 31)).alloc (by simp) (.cells #[.int .i64 now, .slice wp' ws.length wc', .slice kp' ks.length kc', .slice dp' ds.length dc'] 31)
 obtain ⟨W, hW⟩ : ∃ W, W = (w.alloc (.cells #[.int .i64 now, .slice wp ws.length wc, .slice kp ks.length kc, .slice dp ds.length dc] 31)).alloc (.cells #[.int .i64 now, .slice wp' ws.length wc', .slice kp' ks.length kc', .slice dp' ds.length dc'] 31) := ⟨_, rfl⟩
 have hr1 : Row W w.heap.size 31 [.int .i64 now, .slice wp ws.length wc, .slice kp ks.length kc, .slice dp ds.length dc] := by
  rw [hW]
  exact Row.below (heap_alloc_new w _) ((Below.refl _ _).alloc (Nat.le_refl _) _) (by simp)
 have hr2 : Row W (w.heap.size + 1) 31 [.int .i64 now, .slice wp' ws.length wc', .slice kp' ks.length kc', .slice dp' ds.length dc'] := by
  rw [hW]
  have := heap_alloc_new (w.alloc (.cells #[.int .i64 now, .slice wp ws.length wc, .slice kp ks.length kc, .slice dp ds.length dc] 31)) (.cells #[.int .i64 now, .slice wp' ws.length wc', .slice kp' ks.length kc', .slice dp' ds.length dc'] 31)
  rw [World.size_alloc] at this
  exact this
 rw [← hW] at hb0
 have HW := Lib.hid hW
 have HR1 := Lib.hid hr1
 have HR2 := Lib.hid hr2
 have HL1 := Lib.hid (hl1.later hb0)
 have HL2 := Lib.hid (hl2.later hb0)
 have HL3 := Lib.hid (hl3.later hb0)
 have HL1' := Lib.hid (hl1'.later hb0)
 have HL2' := Lib.hid (hl2'.later hb0)
 have HL3' := Lib.hid (hl3'.later hb0)
 have HB := Lib.hid hb0
 have hz := hb0.size
 have hg1 := hr1.lt
 have hg2 := hr2.lt
 have hne : (now != now) = false := by simp
 clear hl1 hl2 hl3 hl1' hl2' hl3' hr1 hr2 hb0 hW
 go_enter Tryz.func14, Tryz.ntmps14
 go_wp2_with fail
 rw [← HW.out]
 refine (eqWordS_same wp wp' wc wc' ws _ HL1.out HL1'.out hm1).mono ?_
 rintro e w1 ⟨rfl, hb1⟩
 have HB1 := Lib.hid (HB.out.trans (hb1.mono hz))
 have a2 : w1.cell? ⟨w.heap.size, 2, none⟩ = some (.slice kp ks.length kc) := (HR1.out.below hb1 hg1).cell 2
 have a2' : w1.cell? ⟨w.heap.size + 1, 2, none⟩ = some (.slice kp' ks.length kc') := (HR2.out.below hb1 hg2).cell 2
 have HS1 := Lib.hid (HR1.out.below hb1 hg1)
 have HS2 := Lib.hid (HR2.out.below hb1 hg2)
 have HK := Lib.hid (HL2.out.later hb1)
 have HK' := Lib.hid (HL2'.out.later hb1)
 have HD := Lib.hid (HL3.out.later hb1)
 have HD' := Lib.hid (HL3'.out.later hb1)
 have hz1 := HB1.out.size
 have hg3 := HS1.out.lt
 have hg4 := HS2.out.lt
 clear hb1
 go_wp2_with fail
 refine (eqKeyS_same kp kp' kc kc' ks _ HK.out HK'.out hm2).mono ?_
 rintro e w2 ⟨rfl, hb2⟩
 have HB2 := Lib.hid (HB1.out.trans (hb2.mono hz1))
 have b3 : w2.cell? ⟨w.heap.size, 3, none⟩ = some (.slice dp ds.length dc) := (HS1.out.below hb2 hg3).cell 3
 have b3' : w2.cell? ⟨w.heap.size + 1, 3, none⟩ = some (.slice dp' ds.length dc') := (HS2.out.below hb2 hg4).cell 3
 have HE := Lib.hid (HD.out.later hb2)
 have HE' := Lib.hid (HD'.out.later hb2)
 have hz2 := HB2.out.size
 clear hb2 a2 a2'
 go_wp2_with fail
 refine (eqInt64S_same dp dp' dc dc' ds _ HE.out HE'.out hm3).mono ?_
 rintro e w3 ⟨rfl, hb3⟩
 have HB3 := Lib.hid (HB2.out.trans (hb3.mono hz2))
 clear hb3
 go_wp2_with fail
 go_ret
 exact ⟨rfl, HB3.out⟩
end Go.Proofs.YtjccnjfdeedneaaGreat
/- Stores as data: entries, a store; where they lie; which are right. -/
namespace Go.Proofs.YtjccnjfdeedneaaGreat
open Go Go.RowKit Go.Lib
set_option linter.unusedVariables false

structure En where
 token : Int
 client : Int
 till : Int
 ver : Int
def enCf (x : En) : List Value := [.int .i64 x.token, .int .i64 x.client, .int .i64 x.till, .int .i64 x.ver]
def enV (x : En) : Value := .agg #[.int .i64 x.token, .int .i64 x.client, .int .i64 x.till, .int .i64 x.ver]
theorem enCf_len (x : En) : (enCf x).length = 4 := rfl
theorem en_cells {w : World} {b o : Nat} {l : List En} (h : LAt enCf w b o l) {i : Nat} {x : En} (hi : l[i]? = some x) :
  w.cell? ⟨b, o + i * 4, none⟩ = some (.int .i64 x.token) ∧ w.cell? ⟨b, o + i * 4 + 1, none⟩ = some (.int .i64 x.client) ∧ w.cell? ⟨b, o + i * 4 + 2, none⟩ = some (.int .i64 x.till) ∧ w.cell? ⟨b, o + i * 4 + 3, none⟩ = some (.int .i64 x.ver) :=
 have hr := rangeAt_elem enCf_len h hi
 ⟨hr 0 _ rfl, hr 1 _ rfl, hr 2 _ rfl, hr 3 _ rfl⟩
structure St where
 gr : Gr
 ver : Int
 lock : Int
 cache : List En
structure SH where
 gh : GH
 cp : Option Addr
 cn : Nat
 cc : Nat
def stL (s : St) (h : SH) : List Value := [.int .i64 s.gr.now, .slice h.gh.wp h.gh.wn h.gh.wc, .slice h.gh.kp h.gh.kn h.gh.kc, .slice h.gh.dp h.gh.dn h.gh.dc, .int .i64 s.ver, .int .i64 s.lock, .slice h.cp h.cn h.cc]
def stV (s : St) (h : SH) : Value := .agg #[.int .i64 s.gr.now, .slice h.gh.wp h.gh.wn h.gh.wc, .slice h.gh.kp h.gh.kn h.gh.kc, .slice h.gh.dp h.gh.dn h.gh.dc, .int .i64 s.ver, .int .i64 s.lock, .slice h.cp h.cn h.cc]
def StIn (w : World) (h : SH) (s : St) : Prop := GrIn w h.gh s.gr ∧ h.cn = s.cache.length ∧ LIn enCf w h.cp s.cache
theorem StIn.later {w w1 : World} {h : SH} {s : St} (hg : StIn w h s) (hb : Below w.heap.size w w1) : StIn w1 h s := ⟨GrIn.later hg.1 hb, hg.2.1, hg.2.2.later hb⟩
def StSmall (s : St) : Prop := GrSmall s.gr ∧ s.cache.length ≤ 1048576
/-- Which stores are right. -/
def entryB (x : En) : Bool := isB x.token 1 999 && isB x.client 1 3 && isB x.till 0 1000000 && isB x.ver 0 1000000
def hasTok (l : List En) (t : Int) : Bool := l.any fun x => x.token == t
def cacheOk : List En → List En → Bool
 | _, [] => true
 | seen, x :: r => entryB x && !hasTok seen x.token && cacheOk (seen ++ [x]) r
def storeB (s : St) : Bool := grantB s.gr && isB s.ver 0 1000000 && isB s.lock 0 99 && decide (s.cache.length ≤ 4) && cacheOk [] s.cache
theorem cacheOk_at {l : List En} {k : Nat} {x : En} (hx : l[k]? = some x) : cacheOk (l.take k) (l.drop k) = (entryB x && !hasTok (l.take k) x.token && cacheOk (l.take (k + 1)) (l.drop (k + 1))) := by
 rw [drop_cons hx, cacheOk, List.take_add_one, hx, Option.toList_some]
theorem cacheOk_end {l : List En} {k : Nat} (hk : l.length ≤ k) : cacheOk (l.take k) (l.drop k) = true := by
 rw [List.drop_of_length_le hk]; rfl
/-- The place of a token, or -1. -/
def enIx (l : List En) (t : Int) : Int := if hasTok l t then ((l.findIdx fun x => x.token == t : Nat) : Int) else -1
theorem hasTok_no {l : List En} {t : Int} (h : ∀ (j : Nat) (y : En), l[j]? = some y → y.token ≠ t) : hasTok l t = false := by
 unfold hasTok
 rw [List.any_eq_false]
 intro x hx
 obtain ⟨j, hj⟩ := List.getElem?_of_mem hx
 simpa using h j x hj
theorem hasTok_yes {l : List En} {t : Int} {k : Nat} {x : En} (hx : l[k]? = some x) (h : x.token = t) : hasTok l t = true := by
 unfold hasTok
 rw [List.any_eq_true]
 exact ⟨x, List.mem_of_getElem? hx, by simpa using h⟩
theorem enIx_none {l : List En} {t : Int} (h : ∀ (j : Nat) (y : En), l[j]? = some y → y.token ≠ t) : enIx l t = -1 := by simp [enIx, hasTok_no h]
theorem enIx_at {l : List En} {t : Int} {k : Nat} {x : En} (hx : l[k]? = some x) (hn : x.token = t) (h : ∀ (j : Nat) (y : En), j < k → l[j]? = some y → y.token ≠ t) : enIx l t = (k : Nat) := by
 obtain ⟨hk, he⟩ := List.getElem?_eq_some_iff.1 hx
 have hi : (l.findIdx fun x => x.token == t) = k := (List.findIdx_eq hk).2 ⟨by rw [he]; simpa using hn, fun j hjk => by
  have hjl : j < l.length := by omega
  simpa using h j l[j] hjk (List.getElem?_eq_getElem hjl)⟩
 simp [enIx, hasTok_yes hx hn, hi]
theorem enIx_some {l : List En} {t : Int} (h : hasTok l t = true) : ∃ (k : Nat) (x : En), enIx l t = (k : Nat) ∧ l[k]? = some x ∧ x.token = t ∧ ∀ (j : Nat) (y : En), j < k → l[j]? = some y → y.token ≠ t := by
 obtain ⟨x, hx, hn⟩ := List.any_eq_true.1 h
 have hlt : (l.findIdx fun x => x.token == t) < l.length := List.findIdx_lt_length_of_exists ⟨x, hx, hn⟩
 refine ⟨l.findIdx fun x => x.token == t, l[l.findIdx fun x => x.token == t], by simp [enIx, h], List.getElem?_eq_getElem hlt, by simpa using List.findIdx_getElem (w := hlt), fun j y hj hy => ?_⟩
 obtain ⟨h1, h2⟩ := List.getElem?_eq_some_iff.1 hy
 have := List.not_of_lt_findIdx hj
 rw [h2] at this
 simpa using this
theorem enIx_nonneg {l : List En} {t : Int} : decide (0 ≤ enIx l t) = hasTok l t := by
 unfold enIx
 cases h : hasTok l t
 ·simp
 ·simp
/-- The first place of a token that stands at place k is k, if it does not stand ahead of it. -/
theorem enIx_first {l : List En} {k : Nat} {x : En} (hx : l[k]? = some x) : (enIx l x.token != (k : Nat)) = hasTok (l.take k) x.token := by
 cases h : hasTok (l.take k) x.token with
 | false =>
  rw [enIx_at hx rfl fun j y hj hy he => ?_]
  ·simp
  ·have : hasTok (l.take k) x.token = true := hasTok_yes (k := j) (x := y) (by rw [List.getElem?_take_of_lt hj]; exact hy) he
   rw [h] at this; cases this
 | true =>
  obtain ⟨j, y, _, h2, h3, _⟩ := enIx_some h
  have hj : j < k := by have := (List.getElem?_eq_some_iff.1 h2).1; rw [List.length_take] at this; omega
  rw [List.getElem?_take_of_lt hj] at h2
  obtain ⟨i, z, g1, g2, g3, g4⟩ := enIx_some (hasTok_yes h2 h3)
  rw [g1]
  have : i ≤ j := by
   rcases Nat.lt_or_ge j i with h | h
   ·exact absurd h3 (g4 j y h h2)
   ·exact h
  have e : (i : Int) ≠ (k : Int) := by omega
  simpa using e
end Go.Proofs.YtjccnjfdeedneaaGreat
/- The laws' helpers on lists of entries: measured, copied, compared. -/
namespace Go.Proofs.YtjccnjfdeedneaaGreat
open Go Go.RowKit Go.Lib
set_option linter.unusedVariables false

theorem szEntryS_any (p : Option Addr) (n cap : Nat) (left : Int) (w : World) (h0 : 0 ≤ left) (h1 : left ≤ 1048576) (hc : n ≤ maxLen) : Calls Tryz.prog 62 #[.slice p n cap, .int .i64 left] w (SzOut n w) := by
 unfold maxLen at hc
 by_cases g1 : left - n < 0
 ·go_enter Tryz.func62, Tryz.ntmps62
  go_wp2_with fail
  go_ret
  exact ⟨-1, rfl, by omega, by omega, fun h => by omega, by go_grown⟩
 ·go_enter Tryz.func62, Tryz.ntmps62
  go_wp2_with fail
  go_ret
  exact ⟨_, rfl, by omega, by omega, fun _ => by omega, by go_grown⟩

theorem toEntry_any (x : En) (w : World) : Calls Tryz.prog 21 #[enV x] w (Ret (enV x) w) := by
 unfold enV
 go_enter Tryz.func21, Tryz.ntmps21
 go_wp2_with fail
 refine bodyPost_ret (v := enV x) (by simp [results, Tryz.results21, go_sem, enV]) rfl ⟨rfl, ?_⟩
 go_grown
theorem eqEntry_same (x : En) (w : World) : Calls Tryz.prog 119 #[enV x, enV x] w (Ret (.bool true) w) := by
 unfold enV
 have hb : ∀ b : Bool, (b != b) = false := fun b => by cases b <;> rfl
 go_enter Tryz.func119, Tryz.ntmps119
 go_wp2_with fail
 go_ret
 exact ⟨rfl, by go_grown⟩

theorem infoEntry : (Tryz.prog.info? 50).map (fun i => (i.zero, i.size, i.bytes)) = some (some (.agg #[.int .i64 0, .int .i64 0, .int .i64 0, .int .i64 0]), 4, 32) := by kernel_rfl
theorem sizeEntry : (Tryz.prog.info? 50).map (·.size) = some 4 := by kernel_rfl
theorem oneEntry (x : En) : (#[.int .i64 x.token, .int .i64 x.client, .int .i64 x.till, .int .i64 x.ver] : Array Value).all (·.oneCell') = true := all_oneCell_toArray (cs := [.int .i64 x.token, .int .i64 x.client, .int .i64 x.till, .int .i64 x.ver]) (by
 intro v hv
 simp at hv
 rcases hv with rfl | rfl | rfl | rfl <;> rfl)
set_option maxHeartbeats 800000 in
theorem toEntryS_any (p : Option Addr) (cap : Nat) (l : List En) (w : World) (hl : LIn enCf w p l) (hc : l.length ≤ 1048576) : Calls Tryz.prog 67 #[.slice p l.length cap] w (LOut enCf 50 4 l w) := by
 obtain ⟨i5, hi, hz0, hz1, hz2⟩ := info_parts infoEntry
 have HL := Lib.hid hl
 obtain ⟨n, hn⟩ : ∃ n, n = l.length := ⟨_, rfl⟩
 unfold LOut
 rw [← hn] at hc ⊢
 have HN := Lib.hid hn
 clear hl hn
 go_enter Tryz.func67, Tryz.ntmps67
 go_wp2_with (refine wpList_make_full _ rfl (.tmp 6) (.tmp 6) 32 rfl w.heap.size 50 i5 _ 4 Tryz.underlying32 hi hz0 hz1 .i64 .i64 _ _ n rfl rfl rfl rfl (by rw [hz2]; omega) (by unfold maxLen; omega) (Nat.le_refl _) ?_)
 intro w1 hown hgr
 have hR := Row.of_owns hown rfl
 have hlt := hR.lt
 have HR := Lib.hid hR
 have HM := Lib.hid (show (madeCells (Value.cells (.agg #[.int .i64 0, .int .i64 0, .int .i64 0, .int .i64 0])) (n * 4)).toList.length = (n - 0) * 4 by rw [Array.length_toList, size_madeCells]; omega)
 have HB := Lib.hid ((Below.refl w.heap.size w).grown hgr (Nat.le_refl _) (fun k hk => by cases hk))
 obtain ⟨g, hg⟩ : ∃ g, g = w.heap.size := ⟨_, rfl⟩
 rw [← hg] at HR hlt
 clear hown hgr hR
 go_wp2_with fail
 rw [← hg]
 have hg' : w.heap.size ≤ g := by omega
 clear hg
 go_loopw [4] (CopyRel enCf 50 4 g n l w) (fun i _ => n - (RowKit.intOf i).toNat)
 case atStart => exact ⟨0, _, by omega, rfl, HM.out, HR.out, HB.out⟩
 case round =>
  obtain ⟨k, rest, hk, rfl, hr, hrow, hbel⟩ := hrel
  by_cases hlt : k < n
  ·obtain ⟨x, hx⟩ : ∃ x, l[k]? = some x := ⟨_, List.getElem?_eq_getElem (by rw [← HN.out]; exact hlt)⟩
   obtain ⟨b, o, rfl, hat⟩ := HL.out.some hx
   obtain ⟨a0, a1, a2, a3⟩ := en_cells hat hx
   have hb : b < w.heap.size := World.block_lt_of_cell? w _ a0
   have c0 := (hbel.cell (p := ⟨b, o + k * 4, none⟩) hb).trans a0
   have c1 := (hbel.cell (p := ⟨b, o + k * 4 + 1, none⟩) hb).trans a1
   have c2 := (hbel.cell (p := ⟨b, o + k * 4 + 2, none⟩) hb).trans a2
   have c3 := (hbel.cell (p := ⟨b, o + k * 4 + 3, none⟩) hb).trans a3
   have hz := hbel.size
   have hgl := hrow.lt
   have HRo := Lib.hid hrow
   have HB1 := Lib.hid hbel
   have HX := Lib.hid hx
   have HRl := Lib.hid hr
   clear a0 a1 a2 a3 hx hat hbel hrow hr
   go_wp2_with fail
   refine (toEntry_any x _).mono ?_
   rintro e w2 ⟨rfl, hb1⟩
   have hst := copy_step enCf_len HN.out HX.out HRl.out (HRo.out.below hb1 hgl) (HB1.out.trans (hb1.mono hz)) hg'
   have hth : w2.there g (k * 4) (#[.int .i64 x.token, .int .i64 x.client, .int .i64 x.till, .int .i64 x.ver] : Array Value).size := by have h := hst.1; simpa using h
   have HT := Lib.hid hth
   have HR1 := Lib.hid hst.2
   clear hb1 hst hth
   unfold enV
   go_wp2_with (refine wpList_store_mid rfl 50 (.tmp 21) (.tmp 20) rfl g (k * 4) #[.int .i64 x.token, .int .i64 x.client, .int .i64 x.till, .int .i64 x.ver] rfl rfl ?hh sizeEntry (oneEntry x) ?_)
   case hh => exact HT.out
   go_roundw
   case rel => exact HR1.out
   case measure => simp [RowKit.intOf]; omega
  ·have HRa := Lib.hid (show Row wr g 50 (l.flatMap enCf) by
    obtain rfl : k = n := by omega
    have h := hrow
    rw [List.take_of_length_le (by rw [← HN.out]; exact Nat.le_refl _), List.eq_nil_of_length_eq_zero (l := rest) (by omega), List.append_nil] at h
    exact h)
   clear hrow
   go_wp2_with fail
   go_ret
   exact ⟨g, rfl, hg', HRa.out, hbel⟩

set_option maxHeartbeats 400000 in
theorem eqEntryS_same (p p' : Option Addr) (cap cap' : Nat) (l : List En) (w : World) (hl : LIn enCf w p l) (hl' : LIn enCf w p' l) (hc : l.length ≤ 1048576) : Calls Tryz.prog 52 #[.slice p l.length cap, .slice p' l.length cap'] w (Ret (.bool true) w) := by
 have HL := Lib.hid hl
 have HL' := Lib.hid hl'
 obtain ⟨n, hn⟩ : ∃ n, n = l.length := ⟨_, rfl⟩
 rw [← hn] at hc ⊢
 have HN := Lib.hid hn
 clear hl hl' hn
 go_enter Tryz.func52, Tryz.ntmps52
 go_wp2_with fail
 go_loopw [5] (EqRel n w) (fun i _ => n - (RowKit.intOf i).toNat)
 case atStart => exact ⟨0, by omega, rfl, Below.refl _ _⟩
 case round =>
  obtain ⟨k, hk, rfl, hbel⟩ := hrel
  by_cases hlt : k < n
  ·obtain ⟨x, hx⟩ : ∃ x, l[k]? = some x := ⟨_, List.getElem?_eq_getElem (by rw [← HN.out]; exact hlt)⟩
   obtain ⟨b, o, rfl, hat⟩ := HL.out.some hx
   obtain ⟨b', o', rfl, hat'⟩ := HL'.out.some hx
   obtain ⟨a0, a1, a2, a3⟩ := en_cells hat hx
   obtain ⟨e0, e1, e2, e3⟩ := en_cells hat' hx
   have hb : b < w.heap.size := World.block_lt_of_cell? w _ a0
   have hb' : b' < w.heap.size := World.block_lt_of_cell? w _ e0
   have c0 := (hbel.cell (p := ⟨b, o + k * 4, none⟩) hb).trans a0
   have d0 := (hbel.cell (p := ⟨b', o' + k * 4, none⟩) hb').trans e0
   have c1 := (hbel.cell (p := ⟨b, o + k * 4 + 1, none⟩) hb).trans a1
   have d1 := (hbel.cell (p := ⟨b', o' + k * 4 + 1, none⟩) hb').trans e1
   have c2 := (hbel.cell (p := ⟨b, o + k * 4 + 2, none⟩) hb).trans a2
   have d2 := (hbel.cell (p := ⟨b', o' + k * 4 + 2, none⟩) hb').trans e2
   have c3 := (hbel.cell (p := ⟨b, o + k * 4 + 3, none⟩) hb).trans a3
   have d3 := (hbel.cell (p := ⟨b', o' + k * 4 + 3, none⟩) hb').trans e3
   have hz := hbel.size
   have HB := Lib.hid hbel
   clear a0 a1 a2 a3 e0 e1 e2 e3 hx hat hat' hbel
   go_wp2_with fail
   have f0 : ∀ u : Ext wr, u.w.cell? ⟨b, o + k * 4, none⟩ = some (.int .i64 x.token) := fun u => u.cell c0
   have i0 : ∀ u : Ext wr, u.w.cell? ⟨b', o' + k * 4, none⟩ = some (.int .i64 x.token) := fun u => u.cell d0
   have f1 : ∀ u : Ext wr, u.w.cell? ⟨b, o + k * 4 + 1, none⟩ = some (.int .i64 x.client) := fun u => u.cell c1
   have i1 : ∀ u : Ext wr, u.w.cell? ⟨b', o' + k * 4 + 1, none⟩ = some (.int .i64 x.client) := fun u => u.cell d1
   have f2 : ∀ u : Ext wr, u.w.cell? ⟨b, o + k * 4 + 2, none⟩ = some (.int .i64 x.till) := fun u => u.cell c2
   have i2 : ∀ u : Ext wr, u.w.cell? ⟨b', o' + k * 4 + 2, none⟩ = some (.int .i64 x.till) := fun u => u.cell d2
   have f3 : ∀ u : Ext wr, u.w.cell? ⟨b, o + k * 4 + 3, none⟩ = some (.int .i64 x.ver) := fun u => u.cell c3
   have i3 : ∀ u : Ext wr, u.w.cell? ⟨b', o' + k * 4 + 3, none⟩ = some (.int .i64 x.ver) := fun u => u.cell d3
   refine ext_region wr (by kernel_rfl) (by kernel_rfl) (Below.refl _ _) ?_
   repeat (go_big_quiet_step ((go_at_call 119; exact calls_ext (eqEntry_same x _))))
   refine wpQuiet_nil ?_
   intro w2 hb2
   have HB2 := Lib.hid hb2
   clear hb2
   go_wp2_with fail
   go_roundw
   case rel => exact ⟨k + 1, by omega, by go_num, HB.out.trans (HB2.out.mono hz)⟩
   case measure => simp [RowKit.intOf]; omega
  ·go_wp2_with fail
   go_ret
   exact ⟨rfl, hbel⟩

end Go.Proofs.YtjccnjfdeedneaaGreat
