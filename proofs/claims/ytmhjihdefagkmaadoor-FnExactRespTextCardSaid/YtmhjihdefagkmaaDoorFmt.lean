/- A number in digits by Go's library: the same text as the model's. -/
import Derived.Test.YtmhjihdefagkmaaDoorRet
import Derived.Test.YtmhjihdefagkmaaDoorReqResp
import Derived.Test.YtmhjihdefagkmaaDoorShelf
import Derived.Lib.SmallJoins
import Derived.Lib.QuietBelow
namespace Go.Proofs.YtmhjihdefagkmaaDoor
open Go Go.RowKit Go.Lib
set_option linter.unusedVariables false

theorem decL_eq : ∀ (u : Nat), u ≠ 0 → decL u = Lib.decDigits u := by
  intro u
  induction u using Nat.strongRecOn with
  | ind u ih =>
    intro h0
    rw [decL_pos h0, Lib.decDigits]
    by_cases h : u < 10
    · rw [dif_pos h, show u / 10 = 0 by omega, decL_zero, show u % 10 = u by omega]
      rfl
    · rw [dif_neg h, ih (u / 10) (by omega) (by omega)]
theorem decB_eq (n : Int) : decB n = ⟨(Lib.itoa n).toArray⟩ := by
  unfold decB Lib.itoa
  split
  · rename_i h
    subst h
    rw [if_neg (by decide), Lib.decDigits]
    rfl
  · rename_i h0
    split
    · rw [decL_eq _ (by omega)]
      apply Go.WideShapes.bytes_inj
      simp
    · rename_i h1
      rw [decL_eq _ (by omega), show n.natAbs = n.toNat by omega]
/-- The table that Go's library reads. -/
def Tab (w : World) : Prop := Lib.TabIs Tryd.prog w "internal/strconv.uint64pow10" .u64 Lib.pow10Tab
theorem tabG : Tryd.prog.globalNamed "internal/strconv.uint64pow10" = some 0 := by kernel_rfl
theorem Tab.keep {w w' : World} (h : Tab w) (hb : Below w.heap.size w w') : Tab w' := Joins.tab_stays tabG h hb (Nat.le_refl _)
theorem fmt_spec (n : Int) (w : World) (hn : I64 n) (ht : Tab w) : Calls Tryd.prog 8 #[.int .i64 n, .int .i64 10] w (Ret (.string (decB n)) w) := by
  refine (Tryd.strconv_FormatInt_10 n hn.1 hn.2 w ht).mono ?_
  rintro e w' ⟨rfl, k, os, rfl⟩
  refine ⟨by rw [decB_eq], ?_⟩
  have h := below_drewN (Below.refl w.heap.size w) k
  refine ⟨h.os, h.tape, h.output, ?_, fun j hj => ?_⟩
  · simp [Sort.grow]
  · show (w.heap ++ os)[j]? = w.heap[j]?
    rw [Array.getElem?_append_left hj]
end Go.Proofs.YtmhjihdefagkmaaDoor
