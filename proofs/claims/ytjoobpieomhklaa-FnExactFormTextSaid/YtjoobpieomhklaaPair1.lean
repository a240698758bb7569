/- Slices of pairs: how they are read, measured, copied and compared. -/
import Derived.Test.YtjoobpieomhklaaRow
import Derived.Test.YtjoobpieomhklaaRows
import Derived.Outline
import Derived.Deep.RegionHeld3
import Derived.Deep.QuietTactic
import Derived.BigQuiet
namespace Go.Proofs.Ytjoobpieomhklaa
open Go Go.RowKit Go.Lib
set_option linter.unusedVariables false

abbrev Pr := ByteArray × ByteArray
def pairCf (p : Pr) : List Value := [.string p.1, .string p.2]
theorem pairCf_len (p : Pr) : (pairCf p).length = 2 := rfl
/-- In block b from o on lie the pairs l. -/
def PairsAt (w : World) (b o : Nat) (l : List Pr) : Prop := w.rangeAt b o (l.flatMap pairCf)
theorem PairsAt.elem {w : World} {b o : Nat} {l : List Pr} (h : PairsAt w b o l) {i : Nat} {p : Pr} (hi : l[i]? = some p) : w.rangeAt b (o + i * 2) [.string p.1, .string p.2] := rangeAt_elem pairCf_len h hi
theorem PairsAt.cells {w : World} {b o : Nat} {l : List Pr} (h : PairsAt w b o l) {i : Nat} {p : Pr} (hi : l[i]? = some p) : w.cell? ⟨b, o + i * 2, none⟩ = some (.string p.1) ∧ w.cell? ⟨b, o + i * 2 + 1, none⟩ = some (.string p.2) :=
  ⟨h.elem hi 0 _ rfl, h.elem hi 1 _ rfl⟩
def SmallPr (p : Pr) : Prop := p.1.size ≤ maxLen ∧ p.2.size ≤ maxLen
theorem PairsAt.later {w w1 : World} {b o : Nat} {l : List Pr} (h : PairsAt w b o l) (hb : Below w.heap.size w w1) : PairsAt w1 b o l := rangeAt_later h hb
theorem PairsAt.below {w w' : World} {B b o : Nat} {l : List Pr} (h : PairsAt w b o l) (hb : Below B w w') (hB : b < B) : PairsAt w' b o l := rangeAt_below h hb hB

def SzP (n : Nat) (w : World) (e : Ending) (w' : World) : Prop := ∃ r : Int, e = .returned (.int .i64 r) ∧ -1 ≤ r ∧ r ≤ 1048576 ∧ (0 ≤ r → n ≤ 1048576) ∧ Below w.heap.size w w'
def Sz1 (left : Int) (w : World) (e : Ending) (w' : World) : Prop := ∃ r : Int, e = .returned (.int .i64 r) ∧ -1 ≤ r ∧ r ≤ left ∧ Below w.heap.size w w'

theorem szPair_any (s t : ByteArray) (left : Int) (w : World) (hs : s.size ≤ maxLen) (ht : t.size ≤ maxLen) (h0 : 0 ≤ left) (h1 : left ≤ 1048576) :
    Calls Try.prog 18 #[.agg #[.string s, .string t], .int .i64 left] w (Sz1 left w) := by
  unfold maxLen at hs ht
  by_cases g1 : left - s.size < 0
  · go_enter Try.func18, Try.ntmps18
    go_wp2_with fail
    go_ret
    exact ⟨-1, rfl, by omega, by omega, (Below.refl _ _).alloc (Nat.le_refl _) _⟩
  · by_cases g2 : left - s.size - t.size < 0
    · go_enter Try.func18, Try.ntmps18
      go_wp2_with fail
      go_ret
      exact ⟨-1, rfl, by omega, by omega, (Below.refl _ _).alloc (Nat.le_refl _) _⟩
    · go_enter Try.func18, Try.ntmps18
      go_wp2_with fail
      go_ret
      exact ⟨_, rfl, by omega, by omega, (Below.refl _ _).alloc (Nat.le_refl _) _⟩

theorem szPairS_nil (p : Option Addr) (cap : Nat) (left : Int) (w : World) (h0 : left ≤ 1048576) (h1 : 0 ≤ left) :
    Calls Try.prog 7 #[.slice p 0 cap, .int .i64 left] w (SzP 0 w) := by
  go_enter Try.func7, Try.ntmps7
  go_wp2_with fail
  go_loopw [1, 5] (fun x i wr => x = .int .i64 left ∧ i = .int .i64 0 ∧ wr = w) (fun _ _ _ => 0)
  case atStart => exact ⟨rfl, rfl, rfl⟩
  case round =>
    obtain ⟨rfl, rfl, rfl⟩ := hrel
    go_wp2_with fail
    go_ret
    exact ⟨left, rfl, by omega, by omega, fun _ => by omega, Below.refl _ _⟩

def SzRel (n : Nat) (w : World) (x i : Value) (wr : World) : Prop := ∃ (k : Nat) (r : Int), k ≤ n ∧ i = .int .i64 k ∧ x = .int .i64 r ∧ 0 ≤ r ∧ r ≤ 1048576 ∧ Below w.heap.size w wr
theorem szPairS_some (b o n cap : Nat) (l : List Pr) (left : Int) (w : World) (hn : n = l.length) (hl : PairsAt w b o l) (hs : ∀ p ∈ l, SmallPr p) (hc : n ≤ maxLen) (h0 : left ≤ 1048576) (h1 : 0 ≤ left) :
    Calls Try.prog 7 #[.slice (some ⟨b, o, none⟩) n cap, .int .i64 left] w (SzP n w) := by
  have HL := Lib.hid hl
  have HS := Lib.hid hs
  have HN := Lib.hid hn
  unfold maxLen at hc
  clear hl hs hn
  by_cases hlt : left < n
  · go_enter Try.func7, Try.ntmps7
    go_wp2_with fail
    go_ret
    exact ⟨-1, rfl, by omega, by omega, fun h => by omega, Below.refl _ _⟩
  · have hn : n ≤ 1048576 := by omega
    go_enter Try.func7, Try.ntmps7
    go_wp2_with fail
    go_loopw [1, 5] (SzRel n w) (fun _ i _ => n - (RowKit.intOf i).toNat)
    case atStart => exact ⟨0, left - n, by omega, rfl, rfl, by omega, by omega, Below.refl _ _⟩
    case round =>
      obtain ⟨k, r, hk, rfl, rfl, hr0, hr1, hbel⟩ := hrel
      by_cases hlt : k < n
      · obtain ⟨p, hp⟩ : ∃ p, l[k]? = some p := ⟨_, List.getElem?_eq_getElem (by rw [← HN.out]; exact hlt)⟩
        obtain ⟨a0, a1⟩ := HL.out.cells hp
        obtain ⟨s0, s1⟩ := HS.out p (List.mem_of_getElem? hp)
        obtain ⟨s, t⟩ := p
        have hb : b < w.heap.size := World.block_lt_of_cell? w _ a0
        have c0 := (hbel.cell (p := ⟨b, o + k * 2, none⟩) hb).trans a0
        have c1 := (hbel.cell (p := ⟨b, o + k * 2 + 1, none⟩) hb).trans a1
        have hz := hbel.size
        have HB := Lib.hid hbel
        clear a0 a1 hp hbel
        go_wp2_with fail
        refine (szPair_any s t r _ s0 s1 hr0 hr1).mono ?_
        rintro e w1 ⟨q, rfl, q0, q1, hb1⟩
        have HB1 := Lib.hid (HB.out.trans (hb1.mono hz))
        clear hb1
        by_cases hq : q < 0
        · obtain rfl : q = -1 := by omega
          go_wp2_with fail
          go_ret
          exact ⟨-1, rfl, by omega, by omega, fun h => by omega, HB1.out⟩
        · go_wp2_with fail
          go_roundw
          case rel => exact ⟨k + 1, q, by omega, by go_num, rfl, by omega, by omega, HB1.out⟩
          case measure => simp [RowKit.intOf]; omega
      · go_wp2_with fail
        go_ret
        exact ⟨r, rfl, by omega, by omega, fun _ => hn, hbel⟩

theorem toPair_any (s t : ByteArray) (w : World) :
    Calls Try.prog 21 #[.agg #[.string s, .string t]] w fun e w' => e = .returned (.agg #[.string s, .string t]) ∧ Below w.heap.size w w' := by
  go_enter Try.func21, Try.ntmps21
  go_wp2_with fail
  refine bodyPost_ret (v := .agg #[.string s, .string t]) (by simp [results, Try.results21, go_sem]) rfl ⟨rfl, ?_⟩
  exact (((((Below.refl _ _).alloc (Nat.le_refl _) _).alloc (by simp) _).alloc (by simp; omega) _))

theorem eqPair_same (s t : ByteArray) (w : World) :
    Calls Try.prog 24 #[.agg #[.string s, .string t], .agg #[.string s, .string t]] w fun e w' => e = .returned (.bool true) ∧ Below w.heap.size w w' := by
  go_enter Try.func24, Try.ntmps24
  go_wp2_with fail
  go_ret
  exact ⟨rfl, ((Below.refl _ _).alloc (Nat.le_refl _) _).alloc (by simp) _⟩

theorem pairInfo : (Try.prog.info? 37).map (fun i => (i.zero, i.size, i.bytes)) = some (some (.agg #[.string ByteArray.empty, .string ByteArray.empty]), 2, 32) := by kernel_rfl
theorem pairOne (p : Pr) : (#[.string p.1, .string p.2] : Array Value).all (·.oneCell') = true := all_oneCell_toArray (cs := [.string p.1, .string p.2]) (by
  intro v hv
  simp at hv
  rcases hv with rfl | rfl <;> rfl)
theorem pairInfo1 : (Try.prog.info? 37).map (·.size) = some 2 := by kernel_rfl
def PairsOut (n : Nat) (l : List Pr) (w : World) (e : Ending) (w' : World) : Prop := ∃ g, e = .returned (.slice (some ⟨g, 0, none⟩) n n) ∧ w.heap.size ≤ g ∧ g < w'.heap.size ∧ PairsAt w' g 0 l ∧ Below w.heap.size w w'
def ToRel (g n : Nat) (l : List Pr) (w : World) (i : Value) (wr : World) : Prop := ∃ (k : Nat) (rest : List Value), k ≤ n ∧ i = .int .i64 k ∧ rest.length = (n - k) * 2 ∧ Row wr g 37 ((l.take k).flatMap pairCf ++ rest) ∧ Below w.heap.size w wr
theorem toRel_step {g n k : Nat} {l : List Pr} {p : Pr} {rest : List Value} {w wr : World} (hn : n = l.length) (hp : l[k]? = some p) (hr : rest.length = (n - k) * 2) (hrow : Row wr g 37 ((l.take k).flatMap pairCf ++ rest)) (hb : Below w.heap.size w wr) (hg : w.heap.size ≤ g) :
    wr.there g (k * 2) 2 ∧ ToRel g n l w (.int .i64 (k + 1 : Nat)) (wr.setCells g (k * 2) [.string p.1, .string p.2]) := by
  obtain ⟨hk, he⟩ := List.getElem?_eq_some_iff.1 hp
  have hlen : ((l.take k).flatMap pairCf).length = k * 2 := by rw [flat_len pairCf_len, List.length_take, Nat.min_eq_left (by omega)]
  obtain ⟨old, post, rfl, ho⟩ : ∃ old post, rest = old ++ post ∧ old.length = 2 := ⟨rest.take 2, rest.drop 2, (List.take_append_drop 2 rest).symm, by rw [List.length_take]; omega⟩
  refine ⟨hrow.there _ _ (by rw [List.length_append, List.length_append, hlen]; omega), k + 1, post, by omega, rfl, by rw [List.length_append] at hr; omega, ?_, below_setCells hg _ _ hb⟩
  have h := hrow.setCells [.string p.1, .string p.2] (k * 2)
  rw [← hlen, putCells_mid _ _ _ _ ho, hlen] at h
  rw [List.take_add_one, hp, Option.toList_some, List.flatMap_append, List.append_assoc]
  exact h

theorem toPairS_nil (p : Option Addr) (cap : Nat) (w : World) : Calls Try.prog 9 #[.slice p 0 cap] w (PairsOut 0 [] w) := by
  obtain ⟨i5, hi, hz0, hz1, hz2⟩ := info_parts pairInfo
  go_enter Try.func9, Try.ntmps9
  go_wp2_with (refine wpList_make_full _ rfl (.tmp 6) (.tmp 6) 25 rfl w.heap.size 37 i5 _ 2 Try.underlying25 hi hz0 hz1 .i64 .i64 _ _ 0 rfl rfl rfl rfl (by omega) (by unfold maxLen; omega) (Nat.le_refl _) ?_)
  intro w1 hown hgr
  have hR := Row.of_owns hown rfl
  have hlt := hR.lt
  have HR := Lib.hid hR
  have HB := Lib.hid ((Below.refl w.heap.size w).grown hgr (Nat.le_refl _) (fun k hk => by cases hk))
  clear hown hgr hR
  go_wp2_with fail
  go_loopw [4] (fun i wr => i = .int .i64 0 ∧ wr = w1) (fun _ _ => 0)
  case atStart => exact ⟨rfl, rfl⟩
  case round =>
    obtain ⟨rfl, rfl⟩ := hrel
    go_wp2_with fail
    go_ret
    exact ⟨_, rfl, Nat.le_refl _, hlt, fun j v hv => by simp at hv, HB.out⟩

theorem toPairS_some (b o n cap : Nat) (l : List Pr) (w : World) (hn : n = l.length) (hl : PairsAt w b o l) (hc : n ≤ 1048576) :
    Calls Try.prog 9 #[.slice (some ⟨b, o, none⟩) n cap] w (PairsOut n l w) := by
  obtain ⟨i5, hi, hz0, hz1, hz2⟩ := info_parts pairInfo
  have HL := Lib.hid hl
  have HN := Lib.hid hn
  clear hl hn
  go_enter Try.func9, Try.ntmps9
  go_wp2_with (refine wpList_make_full _ rfl (.tmp 6) (.tmp 6) 25 rfl w.heap.size 37 i5 _ 2 Try.underlying25 hi hz0 hz1 .i64 .i64 _ _ n rfl rfl rfl rfl (by rw [hz2]; omega) (by unfold maxLen; omega) (Nat.le_refl _) ?_)
  intro w1 hown hgr
  have hR := Row.of_owns hown rfl
  have hlt := hR.lt
  have HR := Lib.hid hR
  have HM := Lib.hid (show (madeCells (Value.agg #[Value.string ByteArray.empty, Value.string ByteArray.empty]).cells (n * 2)).toList.length = (n - 0) * 2 by rw [Array.length_toList, size_madeCells]; omega)
  have HB := Lib.hid ((Below.refl w.heap.size w).grown hgr (Nat.le_refl _) (fun k hk => by cases hk))
  obtain ⟨g, hg⟩ : ∃ g, g = w.heap.size := ⟨_, rfl⟩
  rw [← hg] at HR hlt
  clear hown hgr hR
  go_wp2_with fail
  rw [← hg]
  have hg' : w.heap.size ≤ g := by omega
  clear hg
  go_loopw [4] (ToRel g n l w) (fun i _ => n - (RowKit.intOf i).toNat)
  case atStart => exact ⟨0, _, by omega, rfl, HM.out, HR.out, HB.out⟩
  case round =>
    obtain ⟨k, rest, hk, rfl, hr, hrow, hbel⟩ := hrel
    by_cases hlt : k < n
    · obtain ⟨p, hp⟩ : ∃ p, l[k]? = some p := ⟨_, List.getElem?_eq_getElem (by rw [← HN.out]; exact hlt)⟩
      obtain ⟨a0, a1⟩ := HL.out.cells hp
      have hb : b < w.heap.size := World.block_lt_of_cell? w _ a0
      have c0 := (hbel.cell (p := ⟨b, o + k * 2, none⟩) hb).trans a0
      have c1 := (hbel.cell (p := ⟨b, o + k * 2 + 1, none⟩) hb).trans a1
      have hz := hbel.size
      have hgl := hrow.lt
      have HRo := Lib.hid hrow
      have HB1 := Lib.hid hbel
      have HP := Lib.hid hp
      have HRl := Lib.hid hr
      clear a0 a1 hp hbel hrow hr
      go_wp2_with fail
      refine (toPair_any p.1 p.2 _).mono ?_
      rintro e w2 ⟨rfl, hb1⟩
      have hst := toRel_step HN.out HP.out HRl.out (HRo.out.below hb1 hgl) (HB1.out.trans (hb1.mono hz)) hg'
      have HT := Lib.hid hst.1
      have HR1 := Lib.hid hst.2
      clear hb1 hst
      go_wp2_with (refine wpList_store_mid rfl 37 (.tmp 21) (.tmp 20) rfl g (k * 2) #[.string p.1, .string p.2] rfl rfl HT.out pairInfo1 (pairOne p) ?_)
      go_wp2_with fail
      go_roundw
      case rel => exact HR1.out
      case measure => simp [RowKit.intOf]; omega
    · have HRa := Lib.hid (show PairsAt wr g 0 l by
        obtain rfl : k = n := by omega
        have h := hrow.range
        rw [List.take_of_length_le (by rw [← HN.out]; exact Nat.le_refl _), List.eq_nil_of_length_eq_zero (l := rest) (by omega), List.append_nil] at h
        exact h)
      have hgl := hrow.lt
      clear hrow
      go_wp2_with fail
      go_ret
      exact ⟨g, rfl, hg', hgl, HRa.out, hbel⟩

def EqRel (n : Nat) (w : World) (i : Value) (wr : World) : Prop := ∃ k : Nat, k ≤ n ∧ i = .int .i64 k ∧ Below w.heap.size w wr
theorem eqPairS_same (b o b' o' n cap n' cap' : Nat) (l : List Pr) (w : World) (hn : n = l.length) (hn' : n' = l.length) (hl : PairsAt w b o l) (hl' : PairsAt w b' o' l) (hc : n ≤ 1048576) :
    Calls Try.prog 11 #[.slice (some ⟨b, o, none⟩) n cap, .slice (some ⟨b', o', none⟩) n' cap'] w fun e w' => e = .returned (.bool true) ∧ Below w.heap.size w w' := by
  obtain rfl : n = n' := by omega
  have HL := Lib.hid hl
  have HL' := Lib.hid hl'
  have HN := Lib.hid hn
  clear hl hl' hn hn'
  go_enter Try.func11, Try.ntmps11
  go_wp2_with fail
  go_loopw [5] (EqRel n w) (fun i _ => n - (RowKit.intOf i).toNat)
  case atStart => exact ⟨0, by omega, rfl, Below.refl _ _⟩
  case round =>
    obtain ⟨k, hk, rfl, hbel⟩ := hrel
    by_cases hlt : k < n
    · obtain ⟨p, hp⟩ : ∃ p, l[k]? = some p := ⟨_, List.getElem?_eq_getElem (by rw [← HN.out]; exact hlt)⟩
      have hq := HL.out.cells hp
      have hq' := HL'.out.cells hp
      have hb : b < w.heap.size := World.block_lt_of_cell? w _ hq.1
      have hb' : b' < w.heap.size := World.block_lt_of_cell? w _ hq'.1
      have c0 := (hbel.cell (p := ⟨b, o + k * 2, none⟩) hb).trans hq.1
      have c1 := (hbel.cell (p := ⟨b, o + k * 2 + 1, none⟩) hb).trans hq.2
      have c2 := (hbel.cell (p := ⟨b', o' + k * 2, none⟩) hb').trans hq'.1
      have c3 := (hbel.cell (p := ⟨b', o' + k * 2 + 1, none⟩) hb').trans hq'.2
      have hz := hbel.size
      have HB := Lib.hid hbel
      clear hq hq' hp hbel
      go_wp2_with fail
      go_region_with (go_at_call 24; refine (eqPair_same p.1 p.2 _).mono ?_; rintro e w2 ⟨rfl, hb1⟩)
      all_goals
        have HB1 := Lib.hid (HB.out.drew.trans (hb1.mono hz))
        clear hb1
        go_wp2_with fail
        go_roundw
        case rel => exact ⟨k + 1, by omega, by go_num, HB1.out⟩
        case measure => simp [RowKit.intOf]; omega
    · go_wp2_with fail
      go_ret
      exact ⟨rfl, hbel⟩
end Go.Proofs.Ytjoobpieomhklaa
