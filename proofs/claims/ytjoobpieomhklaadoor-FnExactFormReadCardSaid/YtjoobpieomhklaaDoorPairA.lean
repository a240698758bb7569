/- Slices of pairs: how they are read, measured, copied and compared. -/
import Derived.Test.YtjoobpieomhklaaDoorRow
import Derived.Test.YtjoobpieomhklaaDoorRows
import Derived.Outline
import Derived.Deep.RegionHeld3
import Derived.Deep.QuietTactic
import Derived.BigQuiet
namespace Go.Proofs.YtjoobpieomhklaaDoor
open Go Go.RowKit Go.Lib
set_option linter.unusedVariables false

abbrev Pr := ByteArray × ByteArray
def pairCf (p : Pr) : List Value := [.string p.1, .string p.2]
theorem pairCf_len (p : Pr) : (pairCf p).length = 2 := rfl
/-- In block b from o on lie the pairs l. -/
def PairsAt (w : World) (b o : Nat) (l : List Pr) : Prop := w.rangeAt b o (l.flatMap pairCf)
theorem PairsAt.elem {w : World} {b o : Nat} {l : List Pr} (h : PairsAt w b o l) {i : Nat} {p : Pr} (hi : l[i]? = some p) : w.rangeAt b (o + i * 2) [.string p.1, .string p.2] := rangeAt_elem pairCf_len h hi
theorem PairsAt.cells {w : World} {b o : Nat} {l : List Pr} (h : PairsAt w b o l) {i : Nat} {p : Pr} (hi : l[i]? = some p) : w.cell? ⟨b, o + i * 2, none⟩ = some (.string p.1) ∧ w.cell? ⟨b, o + i * 2 + 1, none⟩ = some (.string p.2) :=
  ⟨h.elem hi 0 _ rfl, h.elem hi 1 _ rfl⟩
def SmallPr (p : Pr) : Prop := p.1.size ≤ maxLen ∧ p.2.size ≤ maxLen
theorem PairsAt.later {w w1 : World} {b o : Nat} {l : List Pr} (h : PairsAt w b o l) (hb : Below w.heap.size w w1) : PairsAt w1 b o l := rangeAt_later h hb
theorem PairsAt.below {w w' : World} {B b o : Nat} {l : List Pr} (h : PairsAt w b o l) (hb : Below B w w') (hB : b < B) : PairsAt w' b o l := rangeAt_below h hb hB

theorem eqPair_same (s t : ByteArray) (w : World) :
    Calls Tryd.prog 28 #[.agg #[.string s, .string t], .agg #[.string s, .string t]] w fun e w' => e = .returned (.bool true) ∧ Below w.heap.size w w' := by
  go_enter Tryd.func28, Tryd.ntmps28
  go_wp2_with fail
  go_ret
  exact ⟨rfl, ((Below.refl _ _).alloc (Nat.le_refl _) _).alloc (by simp) _⟩

theorem pairInfo : (Tryd.prog.info? 32).map (fun i => (i.zero, i.size, i.bytes)) = some (some (.agg #[.string ByteArray.empty, .string ByteArray.empty]), 2, 32) := by kernel_rfl
theorem pairOne (p : Pr) : (#[.string p.1, .string p.2] : Array Value).all (·.oneCell') = true := all_oneCell_toArray (cs := [.string p.1, .string p.2]) (by
  intro v hv
  simp at hv
  rcases hv with rfl | rfl <;> rfl)
theorem pairInfo1 : (Tryd.prog.info? 32).map (·.size) = some 2 := by kernel_rfl
def EqRel (n : Nat) (w : World) (i : Value) (wr : World) : Prop := ∃ k : Nat, k ≤ n ∧ i = .int .i64 k ∧ Below w.heap.size w wr
theorem eqPairS_same (b o b' o' n cap n' cap' : Nat) (l : List Pr) (w : World) (hn : n = l.length) (hn' : n' = l.length) (hl : PairsAt w b o l) (hl' : PairsAt w b' o' l) (hc : n ≤ 1048576) :
    Calls Tryd.prog 15 #[.slice (some ⟨b, o, none⟩) n cap, .slice (some ⟨b', o', none⟩) n' cap'] w fun e w' => e = .returned (.bool true) ∧ Below w.heap.size w w' := by
  obtain rfl : n = n' := by omega
  have HL := Lib.hid hl
  have HL' := Lib.hid hl'
  have HN := Lib.hid hn
  clear hl hl' hn hn'
  go_enter Tryd.func15, Tryd.ntmps15
  go_wp2_with fail
  go_loopw [5] (EqRel n w) (fun i _ => n - (RowKit.intOf i).toNat)
  case atStart => exact ⟨0, by omega, rfl, Below.refl _ _⟩
  case round =>
    obtain ⟨k, hk, rfl, hbel⟩ := hrel
    by_cases hlt : k < n
    · obtain ⟨p, hp⟩ : ∃ p, l[k]? = some p := ⟨_, List.getElem?_eq_getElem (by rw [← HN.out]; exact hlt)⟩
      have hq := HL.out.cells hp
      have hq' := HL'.out.cells hp
      have hb : b < w.heap.size := World.block_lt_of_cell? w _ hq.1
      have hb' : b' < w.heap.size := World.block_lt_of_cell? w _ hq'.1
      have c0 := (hbel.cell (p := ⟨b, o + k * 2, none⟩) hb).trans hq.1
      have c1 := (hbel.cell (p := ⟨b, o + k * 2 + 1, none⟩) hb).trans hq.2
      have c2 := (hbel.cell (p := ⟨b', o' + k * 2, none⟩) hb').trans hq'.1
      have c3 := (hbel.cell (p := ⟨b', o' + k * 2 + 1, none⟩) hb').trans hq'.2
      have hz := hbel.size
      have HB := Lib.hid hbel
      clear hq hq' hp hbel
      go_wp2_with fail
      go_region_with (go_at_call 28; refine (eqPair_same p.1 p.2 _).mono ?_; rintro e w2 ⟨rfl, hb1⟩)
      all_goals
        have HB1 := Lib.hid (HB.out.drew.trans (hb1.mono hz))
        clear hb1
        go_wp2_with fail
        go_roundw
        case rel => exact ⟨k + 1, by omega, by go_num, HB1.out⟩
        case measure => simp [RowKit.intOf]; omega
    · go_wp2_with fail
      go_ret
      exact ⟨rfl, hbel⟩
end Go.Proofs.YtjoobpieomhklaaDoor
