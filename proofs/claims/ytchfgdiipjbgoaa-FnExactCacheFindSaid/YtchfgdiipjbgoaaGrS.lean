/- The laws' helpers on grants: measured, copied, compared. -/
import Derived.Test.YtchfgdiipjbgoaaGr
import Derived.Test.YtchfgdiipjbgoaaExt
import Derived.Deep.RegionHeld3
import Derived.Deep.QuietTactic
import Derived.Test.YtchfgdiipjbgoaaGrS0
namespace Go.Proofs.Ytchfgdiipjbgoaa
open Go Go.RowKit Go.Lib
set_option linter.unusedVariables false

/-- New memory that holds the items l. -/
def LOut {α : Type} (cf : α → List Value) (T : TypeId) (K : Nat) (l : List α) (w : World) (e : Ending) (w' : World) : Prop := ∃ g, e = .returned (.slice (some ⟨g, 0, none⟩) l.length l.length) ∧ w.heap.size ≤ g ∧ Row w' g T (l.flatMap cf) ∧ Below w.heap.size w w'
theorem Row.lat {α : Type} {cf : α → List Value} {w : World} {g : Nat} {T : TypeId} {l : List α} (h : Row w g T (l.flatMap cf)) : LAt cf w g 0 l := h.range
def CopyRel {α : Type} (cf : α → List Value) (T : TypeId) (K : Nat) (g n : Nat) (l : List α) (w : World) (i : Value) (wr : World) : Prop := ∃ (k : Nat) (rest : List Value), k ≤ n ∧ i = .int .i64 k ∧ rest.length = (n - k) * K ∧ Row wr g T ((l.take k).flatMap cf ++ rest) ∧ Below w.heap.size w wr
theorem copy_step {α : Type} {cf : α → List Value} {T : TypeId} {K : Nat} (hK : ∀ x, (cf x).length = K) {g n k : Nat} {l : List α} {p : α} {rest : List Value} {w wr : World} (hn : n = l.length) (hp : l[k]? = some p) (hr : rest.length = (n - k) * K) (hrow : Row wr g T ((l.take k).flatMap cf ++ rest)) (hb : Below w.heap.size w wr) (hg : w.heap.size ≤ g) :
    wr.there g (k * K) K ∧ CopyRel cf T K g n l w (.int .i64 (k + 1 : Nat)) (wr.setCells g (k * K) (cf p)) := by
  obtain ⟨hk, he⟩ := List.getElem?_eq_some_iff.1 hp
  have hlen : ((l.take k).flatMap cf).length = k * K := by rw [flat_len hK, List.length_take, Nat.min_eq_left (by omega)]
  have hnk : n - k = (n - (k + 1)) + 1 := by omega
  rw [hnk, Nat.succ_mul] at hr
  obtain ⟨old, post, rfl, ho⟩ : ∃ old post, rest = old ++ post ∧ old.length = K := ⟨rest.take K, rest.drop K, (List.take_append_drop K rest).symm, by rw [List.length_take]; omega⟩
  refine ⟨hrow.there _ _ (by rw [List.length_append, List.length_append, hlen]; omega), k + 1, post, by omega, rfl, by rw [List.length_append] at hr; omega, ?_, below_setCells hg _ _ hb⟩
  have h := hrow.setCells (cf p) (k * K)
  rw [← hlen, putCells_mid _ _ _ _ (by rw [ho, hK]), hlen] at h
  rw [List.take_add_one, hp, Option.toList_some, List.flatMap_append, List.append_assoc, List.flatMap_singleton]
  exact h
def SzOut (n : Nat) (w : World) (e : Ending) (w' : World) : Prop := ∃ r : Int, e = .returned (.int .i64 r) ∧ -1 ≤ r ∧ r ≤ 1048576 ∧ (0 ≤ r → n ≤ 1048576) ∧ Below w.heap.size w w'
def Sz1 (left : Int) (w : World) (e : Ending) (w' : World) : Prop := ∃ r : Int, e = .returned (.int .i64 r) ∧ -1 ≤ r ∧ r ≤ left ∧ Below w.heap.size w w'
def SzRel (n : Nat) (w : World) (x i : Value) (wr : World) : Prop := ∃ (k : Nat) (r : Int), k ≤ n ∧ i = .int .i64 k ∧ x = .int .i64 r ∧ 0 ≤ r ∧ r ≤ 1048576 ∧ Below w.heap.size w wr
def EqRel (n : Nat) (w : World) (i : Value) (wr : World) : Prop := ∃ k : Nat, k ≤ n ∧ i = .int .i64 k ∧ Below w.heap.size w wr
theorem szWord_any (x : Wd) (left : Int) (w : World) (hs : x.shade.size ≤ maxLen) (h0 : 0 ≤ left) (h1 : left ≤ 1048576) : Calls Try.prog 47 #[wdV x, .int .i64 left] w (Sz1 left w) := by
  unfold maxLen at hs
  unfold wdV
  by_cases g1 : left - x.shade.size < 0
  · go_enter Try.func47, Try.ntmps47
    go_wp2_with fail
    go_ret
    exact ⟨-1, rfl, by omega, by omega, by go_grown⟩
  · go_enter Try.func47, Try.ntmps47
    go_wp2_with fail
    go_ret
    exact ⟨_, rfl, by omega, by omega, by go_grown⟩

theorem szKeyS_any (p : Option Addr) (n cap : Nat) (left : Int) (w : World) (h0 : 0 ≤ left) (h1 : left ≤ 1048576) (hc : n ≤ maxLen) : Calls Try.prog 22 #[.slice p n cap, .int .i64 left] w (SzOut n w) := by
  unfold maxLen at hc
  by_cases g1 : left - n < 0
  · go_enter Try.func22, Try.ntmps22
    go_wp2_with fail
    go_ret
    exact ⟨-1, rfl, by omega, by omega, fun h => by omega, by go_grown⟩
  · go_enter Try.func22, Try.ntmps22
    go_wp2_with fail
    go_ret
    exact ⟨_, rfl, by omega, by omega, fun _ => by omega, by go_grown⟩

theorem szInt64S_any (p : Option Addr) (n cap : Nat) (left : Int) (w : World) (h0 : 0 ≤ left) (h1 : left ≤ 1048576) (hc : n ≤ maxLen) : Calls Try.prog 23 #[.slice p n cap, .int .i64 left] w (SzOut n w) := by
  unfold maxLen at hc
  by_cases g1 : left - n < 0
  · go_enter Try.func23, Try.ntmps23
    go_wp2_with fail
    go_ret
    exact ⟨-1, rfl, by omega, by omega, fun h => by omega, by go_grown⟩
  · go_enter Try.func23, Try.ntmps23
    go_wp2_with fail
    go_ret
    exact ⟨_, rfl, by omega, by omega, fun _ => by omega, by go_grown⟩

set_option maxHeartbeats 400000 in
theorem szWordS_any (p : Option Addr) (cap : Nat) (l : List Wd) (left : Int) (w : World) (hl : LIn wdCf w p l) (hs : ∀ x ∈ l, x.shade.size ≤ maxLen) (hc : l.length ≤ maxLen) (h0 : 0 ≤ left) (h1 : left ≤ 1048576) :
    Calls Try.prog 21 #[.slice p l.length cap, .int .i64 left] w (SzOut l.length w) := by
  have HL := Lib.hid hl
  have HS := Lib.hid hs
  unfold maxLen at hc
  obtain ⟨n, hn⟩ : ∃ n, n = l.length := ⟨_, rfl⟩
  rw [← hn] at hc ⊢
  have HN := Lib.hid hn
  clear hl hs hn
  by_cases hlt : left < n
  · go_enter Try.func21, Try.ntmps21
    go_wp2_with fail
    go_ret
    exact ⟨-1, rfl, by omega, by omega, fun h => by omega, Below.refl _ _⟩
  · have hn : n ≤ 1048576 := by omega
    go_enter Try.func21, Try.ntmps21
    go_wp2_with fail
    go_loopw [1, 5] (SzRel n w) (fun _ i _ => n - (RowKit.intOf i).toNat)
    case atStart => exact ⟨0, left - n, by omega, rfl, rfl, by omega, by omega, Below.refl _ _⟩
    case round =>
      obtain ⟨k, r, hk, rfl, rfl, hr0, hr1, hbel⟩ := hrel
      by_cases hlt : k < n
      · obtain ⟨x, hx⟩ : ∃ x, l[k]? = some x := ⟨_, List.getElem?_eq_getElem (by rw [← HN.out]; exact hlt)⟩
        obtain ⟨b, o, rfl, hat⟩ := HL.out.some hx
        obtain ⟨a0, a1, a2, a3, a4⟩ := wd_cells hat hx
        have s0 := HS.out x (List.mem_of_getElem? hx)
        have hb : b < w.heap.size := World.block_lt_of_cell? w _ a0
        have c0 := (hbel.cell (p := ⟨b, o + k * 5, none⟩) hb).trans a0
        have c1 := (hbel.cell (p := ⟨b, o + k * 5 + 1, none⟩) hb).trans a1
        have c2 := (hbel.cell (p := ⟨b, o + k * 5 + 2, none⟩) hb).trans a2
        have c3 := (hbel.cell (p := ⟨b, o + k * 5 + 3, none⟩) hb).trans a3
        have c4 := (hbel.cell (p := ⟨b, o + k * 5 + 4, none⟩) hb).trans a4
        have hz := hbel.size
        have HB := Lib.hid hbel
        clear a0 a1 a2 a3 a4 hx hat hbel
        go_wp2_with fail
        refine (szWord_any x r _ s0 hr0 hr1).mono ?_
        rintro e w1 ⟨q, rfl, q0, q1, hb1⟩
        have HB1 := Lib.hid (HB.out.trans (hb1.mono hz))
        clear hb1
        by_cases hq : q < 0
        · obtain rfl : q = -1 := by omega
          go_wp2_with fail
          go_ret
          exact ⟨-1, rfl, by omega, by omega, fun h => by omega, HB1.out⟩
        · go_wp2_with fail
          go_roundw
          case rel => exact ⟨k + 1, q, by omega, by go_num, rfl, by omega, by omega, HB1.out⟩
          case measure => simp [RowKit.intOf]; omega
      · go_wp2_with fail
        go_ret
        exact ⟨r, rfl, by omega, by omega, fun _ => hn, hbel⟩

theorem toWord_any (x : Wd) (w : World) : Calls Try.prog 50 #[wdV x] w (Ret (wdV x) w) := by
  unfold wdV
  go_enter Try.func50, Try.ntmps50
  go_wp2_with fail
  refine bodyPost_ret (v := wdV x) (by simp [results, Try.results50, go_sem, wdV]) rfl ⟨rfl, ?_⟩
  go_grown
theorem eqWord_same (x : Wd) (w : World) : Calls Try.prog 68 #[wdV x, wdV x] w (Ret (.bool true) w) := by
  unfold wdV
  have hb : ∀ b : Bool, (b != b) = false := fun b => by cases b <;> rfl
  go_enter Try.func68, Try.ntmps68
  go_wp2_with fail
  go_ret
  exact ⟨rfl, by go_grown⟩

theorem toKey_any (x : Ky) (w : World) : Calls Try.prog 51 #[kyV x] w (Ret (kyV x) w) := by
  unfold kyV
  go_enter Try.func51, Try.ntmps51
  go_wp2_with fail
  refine bodyPost_ret (v := kyV x) (by simp [results, Try.results51, go_sem, kyV]) rfl ⟨rfl, ?_⟩
  go_grown
theorem eqKey_same (x : Ky) (w : World) : Calls Try.prog 69 #[kyV x, kyV x] w (Ret (.bool true) w) := by
  unfold kyV
  have hb : ∀ b : Bool, (b != b) = false := fun b => by cases b <;> rfl
  go_enter Try.func69, Try.ntmps69
  go_wp2_with fail
  go_ret
  exact ⟨rfl, by go_grown⟩

set_option maxHeartbeats 800000 in
theorem toWordS_any (p : Option Addr) (cap : Nat) (l : List Wd) (w : World) (hl : LIn wdCf w p l) (hc : l.length ≤ 1048576) : Calls Try.prog 29 #[.slice p l.length cap] w (LOut wdCf 101 5 l w) := by
  obtain ⟨i5, hi, hz0, hz1, hz2⟩ := info_parts infoWord
  have HL := Lib.hid hl
  obtain ⟨n, hn⟩ : ∃ n, n = l.length := ⟨_, rfl⟩
  unfold LOut
  rw [← hn] at hc ⊢
  have HN := Lib.hid hn
  clear hl hn
  go_enter Try.func29, Try.ntmps29
  go_wp2_with (refine wpList_make_full _ rfl (.tmp 6) (.tmp 6) 34 rfl w.heap.size 101 i5 _ 5 Try.underlying34 hi hz0 hz1 .i64 .i64 _ _ n rfl rfl rfl rfl (by rw [hz2]; omega) (by unfold maxLen; omega) (Nat.le_refl _) ?_)
  intro w1 hown hgr
  have hR := Row.of_owns hown rfl
  have hlt := hR.lt
  have HR := Lib.hid hR
  have HM := Lib.hid (show (madeCells (Value.cells (.agg #[.int .i64 0, .int .i64 0, .string ByteArray.empty, .int .i64 0, .bool false])) (n * 5)).toList.length = (n - 0) * 5 by rw [Array.length_toList, size_madeCells]; omega)
  have HB := Lib.hid ((Below.refl w.heap.size w).grown hgr (Nat.le_refl _) (fun k hk => by cases hk))
  obtain ⟨g, hg⟩ : ∃ g, g = w.heap.size := ⟨_, rfl⟩
  rw [← hg] at HR hlt
  clear hown hgr hR
  go_wp2_with fail
  rw [← hg]
  have hg' : w.heap.size ≤ g := by omega
  clear hg
  go_loopw [4] (CopyRel wdCf 101 5 g n l w) (fun i _ => n - (RowKit.intOf i).toNat)
  case atStart => exact ⟨0, _, by omega, rfl, HM.out, HR.out, HB.out⟩
  case round =>
    obtain ⟨k, rest, hk, rfl, hr, hrow, hbel⟩ := hrel
    by_cases hlt : k < n
    · obtain ⟨x, hx⟩ : ∃ x, l[k]? = some x := ⟨_, List.getElem?_eq_getElem (by rw [← HN.out]; exact hlt)⟩
      obtain ⟨b, o, rfl, hat⟩ := HL.out.some hx
      obtain ⟨a0, a1, a2, a3, a4⟩ := wd_cells hat hx
      have hb : b < w.heap.size := World.block_lt_of_cell? w _ a0
      have c0 := (hbel.cell (p := ⟨b, o + k * 5, none⟩) hb).trans a0
      have c1 := (hbel.cell (p := ⟨b, o + k * 5 + 1, none⟩) hb).trans a1
      have c2 := (hbel.cell (p := ⟨b, o + k * 5 + 2, none⟩) hb).trans a2
      have c3 := (hbel.cell (p := ⟨b, o + k * 5 + 3, none⟩) hb).trans a3
      have c4 := (hbel.cell (p := ⟨b, o + k * 5 + 4, none⟩) hb).trans a4
      have hz := hbel.size
      have hgl := hrow.lt
      have HRo := Lib.hid hrow
      have HB1 := Lib.hid hbel
      have HX := Lib.hid hx
      have HRl := Lib.hid hr
      clear a0 a1 a2 a3 a4 hx hat hbel hrow hr
      go_wp2_with fail
      refine (toWord_any x _).mono ?_
      rintro e w2 ⟨rfl, hb1⟩
      have hst := copy_step wdCf_len HN.out HX.out HRl.out (HRo.out.below hb1 hgl) (HB1.out.trans (hb1.mono hz)) hg'
      have hth : w2.there g (k * 5) (#[.int .i64 x.no, .int .i64 x.client, .string x.shade, .int .i64 x.till, .bool x.used] : Array Value).size := by have h := hst.1; simpa using h
      have HT := Lib.hid hth
      have HR1 := Lib.hid hst.2
      clear hb1 hst hth
      unfold wdV
      go_wp2_with (refine wpList_store_mid rfl 101 (.tmp 21) (.tmp 20) rfl g (k * 5) #[.int .i64 x.no, .int .i64 x.client, .string x.shade, .int .i64 x.till, .bool x.used] rfl rfl ?hh sizeWord (oneWord x) ?_)
      case hh => exact HT.out
      go_roundw
      case rel => exact HR1.out
      case measure => simp [RowKit.intOf]; omega
    · have HRa := Lib.hid (show Row wr g 101 (l.flatMap wdCf) by
        obtain rfl : k = n := by omega
        have h := hrow
        rw [List.take_of_length_le (by rw [← HN.out]; exact Nat.le_refl _), List.eq_nil_of_length_eq_zero (l := rest) (by omega), List.append_nil] at h
        exact h)
      clear hrow
      go_wp2_with fail
      go_ret
      exact ⟨g, rfl, hg', HRa.out, hbel⟩

set_option maxHeartbeats 400000 in
theorem eqWordS_same (p p' : Option Addr) (cap cap' : Nat) (l : List Wd) (w : World) (hl : LIn wdCf w p l) (hl' : LIn wdCf w p' l) (hc : l.length ≤ 1048576) : Calls Try.prog 44 #[.slice p l.length cap, .slice p' l.length cap'] w (Ret (.bool true) w) := by
  have HL := Lib.hid hl
  have HL' := Lib.hid hl'
  obtain ⟨n, hn⟩ : ∃ n, n = l.length := ⟨_, rfl⟩
  rw [← hn] at hc ⊢
  have HN := Lib.hid hn
  clear hl hl' hn
  go_enter Try.func44, Try.ntmps44
  go_wp2_with fail
  go_loopw [5] (EqRel n w) (fun i _ => n - (RowKit.intOf i).toNat)
  case atStart => exact ⟨0, by omega, rfl, Below.refl _ _⟩
  case round =>
    obtain ⟨k, hk, rfl, hbel⟩ := hrel
    by_cases hlt : k < n
    · obtain ⟨x, hx⟩ : ∃ x, l[k]? = some x := ⟨_, List.getElem?_eq_getElem (by rw [← HN.out]; exact hlt)⟩
      obtain ⟨b, o, rfl, hat⟩ := HL.out.some hx
      obtain ⟨b', o', rfl, hat'⟩ := HL'.out.some hx
      obtain ⟨a0, a1, a2, a3, a4⟩ := wd_cells hat hx
      obtain ⟨e0, e1, e2, e3, e4⟩ := wd_cells hat' hx
      have hb : b < w.heap.size := World.block_lt_of_cell? w _ a0
      have hb' : b' < w.heap.size := World.block_lt_of_cell? w _ e0
      have c0 := (hbel.cell (p := ⟨b, o + k * 5, none⟩) hb).trans a0
      have d0 := (hbel.cell (p := ⟨b', o' + k * 5, none⟩) hb').trans e0
      have c1 := (hbel.cell (p := ⟨b, o + k * 5 + 1, none⟩) hb).trans a1
      have d1 := (hbel.cell (p := ⟨b', o' + k * 5 + 1, none⟩) hb').trans e1
      have c2 := (hbel.cell (p := ⟨b, o + k * 5 + 2, none⟩) hb).trans a2
      have d2 := (hbel.cell (p := ⟨b', o' + k * 5 + 2, none⟩) hb').trans e2
      have c3 := (hbel.cell (p := ⟨b, o + k * 5 + 3, none⟩) hb).trans a3
      have d3 := (hbel.cell (p := ⟨b', o' + k * 5 + 3, none⟩) hb').trans e3
      have c4 := (hbel.cell (p := ⟨b, o + k * 5 + 4, none⟩) hb).trans a4
      have d4 := (hbel.cell (p := ⟨b', o' + k * 5 + 4, none⟩) hb').trans e4
      have hz := hbel.size
      have HB := Lib.hid hbel
      clear a0 a1 a2 a3 a4 e0 e1 e2 e3 e4 hx hat hat' hbel
      go_wp2_with fail
      have f0 : ∀ u : Ext wr, u.w.cell? ⟨b, o + k * 5, none⟩ = some (.int .i64 x.no) := fun u => u.cell c0
      have i0 : ∀ u : Ext wr, u.w.cell? ⟨b', o' + k * 5, none⟩ = some (.int .i64 x.no) := fun u => u.cell d0
      have f1 : ∀ u : Ext wr, u.w.cell? ⟨b, o + k * 5 + 1, none⟩ = some (.int .i64 x.client) := fun u => u.cell c1
      have i1 : ∀ u : Ext wr, u.w.cell? ⟨b', o' + k * 5 + 1, none⟩ = some (.int .i64 x.client) := fun u => u.cell d1
      have f2 : ∀ u : Ext wr, u.w.cell? ⟨b, o + k * 5 + 2, none⟩ = some (.string x.shade) := fun u => u.cell c2
      have i2 : ∀ u : Ext wr, u.w.cell? ⟨b', o' + k * 5 + 2, none⟩ = some (.string x.shade) := fun u => u.cell d2
      have f3 : ∀ u : Ext wr, u.w.cell? ⟨b, o + k * 5 + 3, none⟩ = some (.int .i64 x.till) := fun u => u.cell c3
      have i3 : ∀ u : Ext wr, u.w.cell? ⟨b', o' + k * 5 + 3, none⟩ = some (.int .i64 x.till) := fun u => u.cell d3
      have f4 : ∀ u : Ext wr, u.w.cell? ⟨b, o + k * 5 + 4, none⟩ = some (.bool x.used) := fun u => u.cell c4
      have i4 : ∀ u : Ext wr, u.w.cell? ⟨b', o' + k * 5 + 4, none⟩ = some (.bool x.used) := fun u => u.cell d4
      refine ext_region wr (by kernel_rfl) (by kernel_rfl) (Below.refl _ _) ?_
      repeat (go_big_quiet_step ((go_at_call 68; exact calls_ext (eqWord_same x _))))
      refine wpQuiet_nil ?_
      intro w2 hb2
      have HB2 := Lib.hid hb2
      clear hb2
      go_wp2_with fail
      go_roundw
      case rel => exact ⟨k + 1, by omega, by go_num, HB.out.trans (HB2.out.mono hz)⟩
      case measure => simp [RowKit.intOf]; omega
    · go_wp2_with fail
      go_ret
      exact ⟨rfl, hbel⟩

set_option maxHeartbeats 800000 in
theorem toKeyS_any (p : Option Addr) (cap : Nat) (l : List Ky) (w : World) (hl : LIn kyCf w p l) (hc : l.length ≤ 1048576) : Calls Try.prog 30 #[.slice p l.length cap] w (LOut kyCf 104 6 l w) := by
  obtain ⟨i5, hi, hz0, hz1, hz2⟩ := info_parts infoKey
  have HL := Lib.hid hl
  obtain ⟨n, hn⟩ : ∃ n, n = l.length := ⟨_, rfl⟩
  unfold LOut
  rw [← hn] at hc ⊢
  have HN := Lib.hid hn
  clear hl hn
  go_enter Try.func30, Try.ntmps30
  go_wp2_with (refine wpList_make_full _ rfl (.tmp 6) (.tmp 6) 35 rfl w.heap.size 104 i5 _ 6 Try.underlying35 hi hz0 hz1 .i64 .i64 _ _ n rfl rfl rfl rfl (by rw [hz2]; omega) (by unfold maxLen; omega) (Nat.le_refl _) ?_)
  intro w1 hown hgr
  have hR := Row.of_owns hown rfl
  have hlt := hR.lt
  have HR := Lib.hid hR
  have HM := Lib.hid (show (madeCells (Value.cells (.agg #[.int .i64 0, .int .i64 0, .int .i64 0, .bool false, .int .i64 0, .int .i64 0])) (n * 6)).toList.length = (n - 0) * 6 by rw [Array.length_toList, size_madeCells]; omega)
  have HB := Lib.hid ((Below.refl w.heap.size w).grown hgr (Nat.le_refl _) (fun k hk => by cases hk))
  obtain ⟨g, hg⟩ : ∃ g, g = w.heap.size := ⟨_, rfl⟩
  rw [← hg] at HR hlt
  clear hown hgr hR
  go_wp2_with fail
  rw [← hg]
  have hg' : w.heap.size ≤ g := by omega
  clear hg
  go_loopw [4] (CopyRel kyCf 104 6 g n l w) (fun i _ => n - (RowKit.intOf i).toNat)
  case atStart => exact ⟨0, _, by omega, rfl, HM.out, HR.out, HB.out⟩
  case round =>
    obtain ⟨k, rest, hk, rfl, hr, hrow, hbel⟩ := hrel
    by_cases hlt : k < n
    · obtain ⟨x, hx⟩ : ∃ x, l[k]? = some x := ⟨_, List.getElem?_eq_getElem (by rw [← HN.out]; exact hlt)⟩
      obtain ⟨b, o, rfl, hat⟩ := HL.out.some hx
      obtain ⟨a0, a1, a2, a3, a4, a5⟩ := ky_cells hat hx
      have hb : b < w.heap.size := World.block_lt_of_cell? w _ a0
      have c0 := (hbel.cell (p := ⟨b, o + k * 6, none⟩) hb).trans a0
      have c1 := (hbel.cell (p := ⟨b, o + k * 6 + 1, none⟩) hb).trans a1
      have c2 := (hbel.cell (p := ⟨b, o + k * 6 + 2, none⟩) hb).trans a2
      have c3 := (hbel.cell (p := ⟨b, o + k * 6 + 3, none⟩) hb).trans a3
      have c4 := (hbel.cell (p := ⟨b, o + k * 6 + 4, none⟩) hb).trans a4
      have c5 := (hbel.cell (p := ⟨b, o + k * 6 + 5, none⟩) hb).trans a5
      have hz := hbel.size
      have hgl := hrow.lt
      have HRo := Lib.hid hrow
      have HB1 := Lib.hid hbel
      have HX := Lib.hid hx
      have HRl := Lib.hid hr
      clear a0 a1 a2 a3 a4 a5 hx hat hbel hrow hr
      go_wp2_with fail
      refine (toKey_any x _).mono ?_
      rintro e w2 ⟨rfl, hb1⟩
      have hst := copy_step kyCf_len HN.out HX.out HRl.out (HRo.out.below hb1 hgl) (HB1.out.trans (hb1.mono hz)) hg'
      have hth : w2.there g (k * 6) (#[.int .i64 x.no, .int .i64 x.client, .int .i64 x.fam, .bool x.refresh, .int .i64 x.till, .int .i64 x.state] : Array Value).size := by have h := hst.1; simpa using h
      have HT := Lib.hid hth
      have HR1 := Lib.hid hst.2
      clear hb1 hst hth
      unfold kyV
      go_wp2_with (refine wpList_store_mid rfl 104 (.tmp 21) (.tmp 20) rfl g (k * 6) #[.int .i64 x.no, .int .i64 x.client, .int .i64 x.fam, .bool x.refresh, .int .i64 x.till, .int .i64 x.state] rfl rfl ?hh sizeKey (oneKey x) ?_)
      case hh => exact HT.out
      go_roundw
      case rel => exact HR1.out
      case measure => simp [RowKit.intOf]; omega
    · have HRa := Lib.hid (show Row wr g 104 (l.flatMap kyCf) by
        obtain rfl : k = n := by omega
        have h := hrow
        rw [List.take_of_length_le (by rw [← HN.out]; exact Nat.le_refl _), List.eq_nil_of_length_eq_zero (l := rest) (by omega), List.append_nil] at h
        exact h)
      clear hrow
      go_wp2_with fail
      go_ret
      exact ⟨g, rfl, hg', HRa.out, hbel⟩

set_option maxHeartbeats 400000 in
theorem eqKeyS_same (p p' : Option Addr) (cap cap' : Nat) (l : List Ky) (w : World) (hl : LIn kyCf w p l) (hl' : LIn kyCf w p' l) (hc : l.length ≤ 1048576) : Calls Try.prog 45 #[.slice p l.length cap, .slice p' l.length cap'] w (Ret (.bool true) w) := by
  have HL := Lib.hid hl
  have HL' := Lib.hid hl'
  obtain ⟨n, hn⟩ : ∃ n, n = l.length := ⟨_, rfl⟩
  rw [← hn] at hc ⊢
  have HN := Lib.hid hn
  clear hl hl' hn
  go_enter Try.func45, Try.ntmps45
  go_wp2_with fail
  go_loopw [5] (EqRel n w) (fun i _ => n - (RowKit.intOf i).toNat)
  case atStart => exact ⟨0, by omega, rfl, Below.refl _ _⟩
  case round =>
    obtain ⟨k, hk, rfl, hbel⟩ := hrel
    by_cases hlt : k < n
    · obtain ⟨x, hx⟩ : ∃ x, l[k]? = some x := ⟨_, List.getElem?_eq_getElem (by rw [← HN.out]; exact hlt)⟩
      obtain ⟨b, o, rfl, hat⟩ := HL.out.some hx
      obtain ⟨b', o', rfl, hat'⟩ := HL'.out.some hx
      obtain ⟨a0, a1, a2, a3, a4, a5⟩ := ky_cells hat hx
      obtain ⟨e0, e1, e2, e3, e4, e5⟩ := ky_cells hat' hx
      have hb : b < w.heap.size := World.block_lt_of_cell? w _ a0
      have hb' : b' < w.heap.size := World.block_lt_of_cell? w _ e0
      have c0 := (hbel.cell (p := ⟨b, o + k * 6, none⟩) hb).trans a0
      have d0 := (hbel.cell (p := ⟨b', o' + k * 6, none⟩) hb').trans e0
      have c1 := (hbel.cell (p := ⟨b, o + k * 6 + 1, none⟩) hb).trans a1
      have d1 := (hbel.cell (p := ⟨b', o' + k * 6 + 1, none⟩) hb').trans e1
      have c2 := (hbel.cell (p := ⟨b, o + k * 6 + 2, none⟩) hb).trans a2
      have d2 := (hbel.cell (p := ⟨b', o' + k * 6 + 2, none⟩) hb').trans e2
      have c3 := (hbel.cell (p := ⟨b, o + k * 6 + 3, none⟩) hb).trans a3
      have d3 := (hbel.cell (p := ⟨b', o' + k * 6 + 3, none⟩) hb').trans e3
      have c4 := (hbel.cell (p := ⟨b, o + k * 6 + 4, none⟩) hb).trans a4
      have d4 := (hbel.cell (p := ⟨b', o' + k * 6 + 4, none⟩) hb').trans e4
      have c5 := (hbel.cell (p := ⟨b, o + k * 6 + 5, none⟩) hb).trans a5
      have d5 := (hbel.cell (p := ⟨b', o' + k * 6 + 5, none⟩) hb').trans e5
      have hz := hbel.size
      have HB := Lib.hid hbel
      clear a0 a1 a2 a3 a4 a5 e0 e1 e2 e3 e4 e5 hx hat hat' hbel
      go_wp2_with fail
      have f0 : ∀ u : Ext wr, u.w.cell? ⟨b, o + k * 6, none⟩ = some (.int .i64 x.no) := fun u => u.cell c0
      have i0 : ∀ u : Ext wr, u.w.cell? ⟨b', o' + k * 6, none⟩ = some (.int .i64 x.no) := fun u => u.cell d0
      have f1 : ∀ u : Ext wr, u.w.cell? ⟨b, o + k * 6 + 1, none⟩ = some (.int .i64 x.client) := fun u => u.cell c1
      have i1 : ∀ u : Ext wr, u.w.cell? ⟨b', o' + k * 6 + 1, none⟩ = some (.int .i64 x.client) := fun u => u.cell d1
      have f2 : ∀ u : Ext wr, u.w.cell? ⟨b, o + k * 6 + 2, none⟩ = some (.int .i64 x.fam) := fun u => u.cell c2
      have i2 : ∀ u : Ext wr, u.w.cell? ⟨b', o' + k * 6 + 2, none⟩ = some (.int .i64 x.fam) := fun u => u.cell d2
      have f3 : ∀ u : Ext wr, u.w.cell? ⟨b, o + k * 6 + 3, none⟩ = some (.bool x.refresh) := fun u => u.cell c3
      have i3 : ∀ u : Ext wr, u.w.cell? ⟨b', o' + k * 6 + 3, none⟩ = some (.bool x.refresh) := fun u => u.cell d3
      have f4 : ∀ u : Ext wr, u.w.cell? ⟨b, o + k * 6 + 4, none⟩ = some (.int .i64 x.till) := fun u => u.cell c4
      have i4 : ∀ u : Ext wr, u.w.cell? ⟨b', o' + k * 6 + 4, none⟩ = some (.int .i64 x.till) := fun u => u.cell d4
      have f5 : ∀ u : Ext wr, u.w.cell? ⟨b, o + k * 6 + 5, none⟩ = some (.int .i64 x.state) := fun u => u.cell c5
      have i5 : ∀ u : Ext wr, u.w.cell? ⟨b', o' + k * 6 + 5, none⟩ = some (.int .i64 x.state) := fun u => u.cell d5
      refine ext_region wr (by kernel_rfl) (by kernel_rfl) (Below.refl _ _) ?_
      repeat (go_big_quiet_step ((go_at_call 69; exact calls_ext (eqKey_same x _))))
      refine wpQuiet_nil ?_
      intro w2 hb2
      have HB2 := Lib.hid hb2
      clear hb2
      go_wp2_with fail
      go_roundw
      case rel => exact ⟨k + 1, by omega, by go_num, HB.out.trans (HB2.out.mono hz)⟩
      case measure => simp [RowKit.intOf]; omega
    · go_wp2_with fail
      go_ret
      exact ⟨rfl, hbel⟩

set_option maxHeartbeats 800000 in
theorem toInt64S_any (p : Option Addr) (cap : Nat) (l : List Int) (w : World) (hl : LIn inCf w p l) (hc : l.length ≤ 1048576) : Calls Try.prog 31 #[.slice p l.length cap] w (LOut inCf 2 1 l w) := by
  obtain ⟨i5, hi, hz0, hz1, hz2⟩ := info_parts infoInt64
  have HL := Lib.hid hl
  obtain ⟨n, hn⟩ : ∃ n, n = l.length := ⟨_, rfl⟩
  unfold LOut
  rw [← hn] at hc ⊢
  have HN := Lib.hid hn
  clear hl hn
  go_enter Try.func31, Try.ntmps31
  go_wp2_with (refine wpList_make_full _ rfl (.tmp 6) (.tmp 6) 24 rfl w.heap.size 2 i5 _ 1 Try.underlying24 hi hz0 hz1 .i64 .i64 _ _ n rfl rfl rfl rfl (by rw [hz2]; omega) (by unfold maxLen; omega) (Nat.le_refl _) ?_)
  intro w1 hown hgr
  have hR := Row.of_owns hown rfl
  have hlt := hR.lt
  have HR := Lib.hid hR
  have HM := Lib.hid (show (madeCells #[Value.int .i64 0] n).toList.length = (n - 0) * 1 by rw [Array.length_toList, size_madeCells]; omega)
  have HB := Lib.hid ((Below.refl w.heap.size w).grown hgr (Nat.le_refl _) (fun k hk => by cases hk))
  obtain ⟨g, hg⟩ : ∃ g, g = w.heap.size := ⟨_, rfl⟩
  rw [← hg] at HR hlt
  clear hown hgr hR
  go_wp2_with fail
  rw [← hg]
  have hg' : w.heap.size ≤ g := by omega
  clear hg
  go_loopw [4] (CopyRel inCf 2 1 g n l w) (fun i _ => n - (RowKit.intOf i).toNat)
  case atStart => exact ⟨0, _, by omega, rfl, HM.out, HR.out, HB.out⟩
  case round =>
    obtain ⟨k, rest, hk, rfl, hr, hrow, hbel⟩ := hrel
    by_cases hlt : k < n
    · obtain ⟨x, hx⟩ : ∃ x, l[k]? = some x := ⟨_, List.getElem?_eq_getElem (by rw [← HN.out]; exact hlt)⟩
      obtain ⟨b, o, rfl, hat⟩ := HL.out.some hx
      have a0 := in_cells hat hx
      have hb : b < w.heap.size := World.block_lt_of_cell? w _ a0
      have c0 := (hbel.cell (p := ⟨b, o + k, none⟩) hb).trans a0
      have hz := hbel.size
      have hgl := hrow.lt
      have HRo := Lib.hid hrow
      have HB1 := Lib.hid hbel
      have HX := Lib.hid hx
      have HRl := Lib.hid hr
      clear a0 hx hat hbel hrow hr
      have hst := copy_step inCf_len HN.out HX.out HRl.out HRo.out HB1.out hg'
      have hth := (hst.1 0 (by omega)).1
      have hfr := (hst.1 0 (by omega)).2
      rw [Nat.mul_one, Nat.add_zero] at hth hfr
      obtain ⟨v0, hv0⟩ := Option.isSome_iff_exists.1 hth
      have HR1 := Lib.hid hst.2
      rw [Nat.mul_one] at HR1
      clear hst hth
      go_wp2_with fail
      go_roundw
      case rel => exact HR1.out
      case measure => simp [RowKit.intOf]; omega
    · have HRa := Lib.hid (show Row wr g 2 (l.flatMap inCf) by
        obtain rfl : k = n := by omega
        have h := hrow
        rw [List.take_of_length_le (by rw [← HN.out]; exact Nat.le_refl _), List.eq_nil_of_length_eq_zero (l := rest) (by omega), List.append_nil] at h
        exact h)
      clear hrow
      go_wp2_with fail
      go_ret
      exact ⟨g, rfl, hg', HRa.out, hbel⟩

set_option maxHeartbeats 400000 in
theorem eqInt64S_same (p p' : Option Addr) (cap cap' : Nat) (l : List Int) (w : World) (hl : LIn inCf w p l) (hl' : LIn inCf w p' l) (hc : l.length ≤ 1048576) : Calls Try.prog 46 #[.slice p l.length cap, .slice p' l.length cap'] w (Ret (.bool true) w) := by
  have HL := Lib.hid hl
  have HL' := Lib.hid hl'
  obtain ⟨n, hn⟩ : ∃ n, n = l.length := ⟨_, rfl⟩
  rw [← hn] at hc ⊢
  have HN := Lib.hid hn
  clear hl hl' hn
  go_enter Try.func46, Try.ntmps46
  go_wp2_with fail
  go_loopw [5] (EqRel n w) (fun i _ => n - (RowKit.intOf i).toNat)
  case atStart => exact ⟨0, by omega, rfl, Below.refl _ _⟩
  case round =>
    obtain ⟨k, hk, rfl, hbel⟩ := hrel
    by_cases hlt : k < n
    · obtain ⟨x, hx⟩ : ∃ x, l[k]? = some x := ⟨_, List.getElem?_eq_getElem (by rw [← HN.out]; exact hlt)⟩
      obtain ⟨b, o, rfl, hat⟩ := HL.out.some hx
      obtain ⟨b', o', rfl, hat'⟩ := HL'.out.some hx
      have a0 := in_cells hat hx
      have e0 := in_cells hat' hx
      have hb : b < w.heap.size := World.block_lt_of_cell? w _ a0
      have hb' : b' < w.heap.size := World.block_lt_of_cell? w _ e0
      have c0 := (hbel.cell (p := ⟨b, o + k, none⟩) hb).trans a0
      have d0 := (hbel.cell (p := ⟨b', o' + k, none⟩) hb').trans e0
      have hz := hbel.size
      have HB := Lib.hid hbel
      clear a0 e0 hx hat hat' hbel
      have hne : (x != x) = false := by simp
      go_wp2_with fail
      go_quiet (fail)
      go_wp2_with fail
      go_roundw
      case rel => exact ⟨k + 1, by omega, by go_num, below_drewN HB.out _⟩
      case measure => simp [RowKit.intOf]; omega
    · go_wp2_with fail
      go_ret
      exact ⟨rfl, hbel⟩

end Go.Proofs.Ytchfgdiipjbgoaa
