/- The laws' helpers on lists of entries: measured, copied, compared. -/
import Derived.Test.YtchfgdiipjbgoaaSt
import Derived.Test.YtchfgdiipjbgoaaGrS
namespace Go.Proofs.Ytchfgdiipjbgoaa
open Go Go.RowKit Go.Lib
set_option linter.unusedVariables false

theorem szEntryS_any (p : Option Addr) (n cap : Nat) (left : Int) (w : World) (h0 : 0 ≤ left) (h1 : left ≤ 1048576) (hc : n ≤ maxLen) : Calls Try.prog 11 #[.slice p n cap, .int .i64 left] w (SzOut n w) := by
  unfold maxLen at hc
  by_cases g1 : left - n < 0
  · go_enter Try.func11, Try.ntmps11
    go_wp2_with fail
    go_ret
    exact ⟨-1, rfl, by omega, by omega, fun h => by omega, by go_grown⟩
  · go_enter Try.func11, Try.ntmps11
    go_wp2_with fail
    go_ret
    exact ⟨_, rfl, by omega, by omega, fun _ => by omega, by go_grown⟩

theorem toEntry_any (x : En) (w : World) : Calls Try.prog 32 #[enV x] w (Ret (enV x) w) := by
  unfold enV
  go_enter Try.func32, Try.ntmps32
  go_wp2_with fail
  refine bodyPost_ret (v := enV x) (by simp [results, Try.results32, go_sem, enV]) rfl ⟨rfl, ?_⟩
  go_grown
theorem eqEntry_same (x : En) (w : World) : Calls Try.prog 8 #[enV x, enV x] w (Ret (.bool true) w) := by
  unfold enV
  have hb : ∀ b : Bool, (b != b) = false := fun b => by cases b <;> rfl
  go_enter Try.func8, Try.ntmps8
  go_wp2_with fail
  go_ret
  exact ⟨rfl, by go_grown⟩

theorem infoEntry : (Try.prog.info? 32).map (fun i => (i.zero, i.size, i.bytes)) = some (some (.agg #[.int .i64 0, .int .i64 0, .int .i64 0, .int .i64 0]), 4, 32) := by kernel_rfl
theorem sizeEntry : (Try.prog.info? 32).map (·.size) = some 4 := by kernel_rfl
theorem oneEntry (x : En) : (#[.int .i64 x.token, .int .i64 x.client, .int .i64 x.till, .int .i64 x.ver] : Array Value).all (·.oneCell') = true := all_oneCell_toArray (cs := [.int .i64 x.token, .int .i64 x.client, .int .i64 x.till, .int .i64 x.ver]) (by
  intro v hv
  simp at hv
  rcases hv with rfl | rfl | rfl | rfl <;> rfl)
set_option maxHeartbeats 800000 in
theorem toEntryS_any (p : Option Addr) (cap : Nat) (l : List En) (w : World) (hl : LIn enCf w p l) (hc : l.length ≤ 1048576) : Calls Try.prog 15 #[.slice p l.length cap] w (LOut enCf 32 4 l w) := by
  obtain ⟨i5, hi, hz0, hz1, hz2⟩ := info_parts infoEntry
  have HL := Lib.hid hl
  obtain ⟨n, hn⟩ : ∃ n, n = l.length := ⟨_, rfl⟩
  unfold LOut
  rw [← hn] at hc ⊢
  have HN := Lib.hid hn
  clear hl hn
  go_enter Try.func15, Try.ntmps15
  go_wp2_with (refine wpList_make_full _ rfl (.tmp 6) (.tmp 6) 38 rfl w.heap.size 32 i5 _ 4 Try.underlying38 hi hz0 hz1 .i64 .i64 _ _ n rfl rfl rfl rfl (by rw [hz2]; omega) (by unfold maxLen; omega) (Nat.le_refl _) ?_)
  intro w1 hown hgr
  have hR := Row.of_owns hown rfl
  have hlt := hR.lt
  have HR := Lib.hid hR
  have HM := Lib.hid (show (madeCells (Value.cells (.agg #[.int .i64 0, .int .i64 0, .int .i64 0, .int .i64 0])) (n * 4)).toList.length = (n - 0) * 4 by rw [Array.length_toList, size_madeCells]; omega)
  have HB := Lib.hid ((Below.refl w.heap.size w).grown hgr (Nat.le_refl _) (fun k hk => by cases hk))
  obtain ⟨g, hg⟩ : ∃ g, g = w.heap.size := ⟨_, rfl⟩
  rw [← hg] at HR hlt
  clear hown hgr hR
  go_wp2_with fail
  rw [← hg]
  have hg' : w.heap.size ≤ g := by omega
  clear hg
  go_loopw [4] (CopyRel enCf 32 4 g n l w) (fun i _ => n - (RowKit.intOf i).toNat)
  case atStart => exact ⟨0, _, by omega, rfl, HM.out, HR.out, HB.out⟩
  case round =>
    obtain ⟨k, rest, hk, rfl, hr, hrow, hbel⟩ := hrel
    by_cases hlt : k < n
    · obtain ⟨x, hx⟩ : ∃ x, l[k]? = some x := ⟨_, List.getElem?_eq_getElem (by rw [← HN.out]; exact hlt)⟩
      obtain ⟨b, o, rfl, hat⟩ := HL.out.some hx
      obtain ⟨a0, a1, a2, a3⟩ := en_cells hat hx
      have hb : b < w.heap.size := World.block_lt_of_cell? w _ a0
      have c0 := (hbel.cell (p := ⟨b, o + k * 4, none⟩) hb).trans a0
      have c1 := (hbel.cell (p := ⟨b, o + k * 4 + 1, none⟩) hb).trans a1
      have c2 := (hbel.cell (p := ⟨b, o + k * 4 + 2, none⟩) hb).trans a2
      have c3 := (hbel.cell (p := ⟨b, o + k * 4 + 3, none⟩) hb).trans a3
      have hz := hbel.size
      have hgl := hrow.lt
      have HRo := Lib.hid hrow
      have HB1 := Lib.hid hbel
      have HX := Lib.hid hx
      have HRl := Lib.hid hr
      clear a0 a1 a2 a3 hx hat hbel hrow hr
      go_wp2_with fail
      refine (toEntry_any x _).mono ?_
      rintro e w2 ⟨rfl, hb1⟩
      have hst := copy_step enCf_len HN.out HX.out HRl.out (HRo.out.below hb1 hgl) (HB1.out.trans (hb1.mono hz)) hg'
      have hth : w2.there g (k * 4) (#[.int .i64 x.token, .int .i64 x.client, .int .i64 x.till, .int .i64 x.ver] : Array Value).size := by have h := hst.1; simpa using h
      have HT := Lib.hid hth
      have HR1 := Lib.hid hst.2
      clear hb1 hst hth
      unfold enV
      go_wp2_with (refine wpList_store_mid rfl 32 (.tmp 21) (.tmp 20) rfl g (k * 4) #[.int .i64 x.token, .int .i64 x.client, .int .i64 x.till, .int .i64 x.ver] rfl rfl ?hh sizeEntry (oneEntry x) ?_)
      case hh => exact HT.out
      go_roundw
      case rel => exact HR1.out
      case measure => simp [RowKit.intOf]; omega
    · have HRa := Lib.hid (show Row wr g 32 (l.flatMap enCf) by
        obtain rfl : k = n := by omega
        have h := hrow
        rw [List.take_of_length_le (by rw [← HN.out]; exact Nat.le_refl _), List.eq_nil_of_length_eq_zero (l := rest) (by omega), List.append_nil] at h
        exact h)
      clear hrow
      go_wp2_with fail
      go_ret
      exact ⟨g, rfl, hg', HRa.out, hbel⟩

set_option maxHeartbeats 400000 in
theorem eqEntryS_same (p p' : Option Addr) (cap cap' : Nat) (l : List En) (w : World) (hl : LIn enCf w p l) (hl' : LIn enCf w p' l) (hc : l.length ≤ 1048576) : Calls Try.prog 20 #[.slice p l.length cap, .slice p' l.length cap'] w (Ret (.bool true) w) := by
  have HL := Lib.hid hl
  have HL' := Lib.hid hl'
  obtain ⟨n, hn⟩ : ∃ n, n = l.length := ⟨_, rfl⟩
  rw [← hn] at hc ⊢
  have HN := Lib.hid hn
  clear hl hl' hn
  go_enter Try.func20, Try.ntmps20
  go_wp2_with fail
  go_loopw [5] (EqRel n w) (fun i _ => n - (RowKit.intOf i).toNat)
  case atStart => exact ⟨0, by omega, rfl, Below.refl _ _⟩
  case round =>
    obtain ⟨k, hk, rfl, hbel⟩ := hrel
    by_cases hlt : k < n
    · obtain ⟨x, hx⟩ : ∃ x, l[k]? = some x := ⟨_, List.getElem?_eq_getElem (by rw [← HN.out]; exact hlt)⟩
      obtain ⟨b, o, rfl, hat⟩ := HL.out.some hx
      obtain ⟨b', o', rfl, hat'⟩ := HL'.out.some hx
      obtain ⟨a0, a1, a2, a3⟩ := en_cells hat hx
      obtain ⟨e0, e1, e2, e3⟩ := en_cells hat' hx
      have hb : b < w.heap.size := World.block_lt_of_cell? w _ a0
      have hb' : b' < w.heap.size := World.block_lt_of_cell? w _ e0
      have c0 := (hbel.cell (p := ⟨b, o + k * 4, none⟩) hb).trans a0
      have d0 := (hbel.cell (p := ⟨b', o' + k * 4, none⟩) hb').trans e0
      have c1 := (hbel.cell (p := ⟨b, o + k * 4 + 1, none⟩) hb).trans a1
      have d1 := (hbel.cell (p := ⟨b', o' + k * 4 + 1, none⟩) hb').trans e1
      have c2 := (hbel.cell (p := ⟨b, o + k * 4 + 2, none⟩) hb).trans a2
      have d2 := (hbel.cell (p := ⟨b', o' + k * 4 + 2, none⟩) hb').trans e2
      have c3 := (hbel.cell (p := ⟨b, o + k * 4 + 3, none⟩) hb).trans a3
      have d3 := (hbel.cell (p := ⟨b', o' + k * 4 + 3, none⟩) hb').trans e3
      have hz := hbel.size
      have HB := Lib.hid hbel
      clear a0 a1 a2 a3 e0 e1 e2 e3 hx hat hat' hbel
      go_wp2_with fail
      have f0 : ∀ u : Ext wr, u.w.cell? ⟨b, o + k * 4, none⟩ = some (.int .i64 x.token) := fun u => u.cell c0
      have i0 : ∀ u : Ext wr, u.w.cell? ⟨b', o' + k * 4, none⟩ = some (.int .i64 x.token) := fun u => u.cell d0
      have f1 : ∀ u : Ext wr, u.w.cell? ⟨b, o + k * 4 + 1, none⟩ = some (.int .i64 x.client) := fun u => u.cell c1
      have i1 : ∀ u : Ext wr, u.w.cell? ⟨b', o' + k * 4 + 1, none⟩ = some (.int .i64 x.client) := fun u => u.cell d1
      have f2 : ∀ u : Ext wr, u.w.cell? ⟨b, o + k * 4 + 2, none⟩ = some (.int .i64 x.till) := fun u => u.cell c2
      have i2 : ∀ u : Ext wr, u.w.cell? ⟨b', o' + k * 4 + 2, none⟩ = some (.int .i64 x.till) := fun u => u.cell d2
      have f3 : ∀ u : Ext wr, u.w.cell? ⟨b, o + k * 4 + 3, none⟩ = some (.int .i64 x.ver) := fun u => u.cell c3
      have i3 : ∀ u : Ext wr, u.w.cell? ⟨b', o' + k * 4 + 3, none⟩ = some (.int .i64 x.ver) := fun u => u.cell d3
      refine ext_region wr (by kernel_rfl) (by kernel_rfl) (Below.refl _ _) ?_
      repeat (go_big_quiet_step ((go_at_call 8; exact calls_ext (eqEntry_same x _))))
      refine wpQuiet_nil ?_
      intro w2 hb2
      have HB2 := Lib.hid hb2
      clear hb2
      go_wp2_with fail
      go_roundw
      case rel => exact ⟨k + 1, by omega, by go_num, HB.out.trans (HB2.out.mono hz)⟩
      case measure => simp [RowKit.intOf]; omega
    · go_wp2_with fail
      go_ret
      exact ⟨rfl, hbel⟩

end Go.Proofs.Ytchfgdiipjbgoaa
