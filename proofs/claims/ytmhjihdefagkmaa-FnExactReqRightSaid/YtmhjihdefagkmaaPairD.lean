/- Slices of pairs as data: what lies in them. -/
import Derived.Test.YtmhjihdefagkmaaRow
import Derived.Test.YtmhjihdefagkmaaRows
import Derived.Outline
import Derived.Deep.RegionHeld3
import Derived.Deep.QuietTactic
import Derived.BigQuiet
namespace Go.Proofs.Ytmhjihdefagkmaa
open Go Go.RowKit Go.Lib
set_option linter.unusedVariables false

abbrev Pr := ByteArray × ByteArray
def pairCf (p : Pr) : List Value := [.string p.1, .string p.2]
theorem pairCf_len (p : Pr) : (pairCf p).length = 2 := rfl
/-- In block b from o on lie the pairs l. -/
def PairsAt (w : World) (b o : Nat) (l : List Pr) : Prop := w.rangeAt b o (l.flatMap pairCf)
theorem PairsAt.elem {w : World} {b o : Nat} {l : List Pr} (h : PairsAt w b o l) {i : Nat} {p : Pr} (hi : l[i]? = some p) : w.rangeAt b (o + i * 2) [.string p.1, .string p.2] := rangeAt_elem pairCf_len h hi
theorem PairsAt.cells {w : World} {b o : Nat} {l : List Pr} (h : PairsAt w b o l) {i : Nat} {p : Pr} (hi : l[i]? = some p) : w.cell? ⟨b, o + i * 2, none⟩ = some (.string p.1) ∧ w.cell? ⟨b, o + i * 2 + 1, none⟩ = some (.string p.2) :=
  ⟨h.elem hi 0 _ rfl, h.elem hi 1 _ rfl⟩
def SmallPr (p : Pr) : Prop := p.1.size ≤ maxLen ∧ p.2.size ≤ maxLen
theorem PairsAt.later {w w1 : World} {b o : Nat} {l : List Pr} (h : PairsAt w b o l) (hb : Below w.heap.size w w1) : PairsAt w1 b o l := rangeAt_later h hb
theorem PairsAt.below {w w' : World} {B b o : Nat} {l : List Pr} (h : PairsAt w b o l) (hb : Below B w w') (hB : b < B) : PairsAt w' b o l := rangeAt_below h hb hB

theorem pairInfo : (Try.prog.info? 45).map (fun i => (i.zero, i.size, i.bytes)) = some (some (.agg #[.string ByteArray.empty, .string ByteArray.empty]), 2, 32) := by kernel_rfl
theorem pairOne (p : Pr) : (#[.string p.1, .string p.2] : Array Value).all (·.oneCell') = true := all_oneCell_toArray (cs := [.string p.1, .string p.2]) (by
  intro v hv
  simp at hv
  rcases hv with rfl | rfl <;> rfl)
theorem pairInfo1 : (Try.prog.info? 45).map (·.size) = some 2 := by kernel_rfl
end Go.Proofs.Ytmhjihdefagkmaa
