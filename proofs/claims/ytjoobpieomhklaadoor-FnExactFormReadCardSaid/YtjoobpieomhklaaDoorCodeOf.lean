/- impl.codeOf: the code that an error stands for, by errors.As. -/
import Derived.Test.YtjoobpieomhklaaDoorAs
import Derived.Test.YtjoobpieomhklaaDoorAid
import Derived.Outline
import Derived.Handy
namespace Go.Proofs.YtjoobpieomhklaaDoor
open Go Go.RowKit

/-- What the variable errors.errorType holds. -/
def Glob (w : World) : Prop := 0 < w.heap.size ∧ w.cell? ⟨0, 0, none⟩ = some (.iface 78 (.agg #[.pointer (some ⟨4, 37, none⟩)]))
theorem Glob.below {w w' : World} {B : Nat} (h : Glob w) (hb : Below B w w') (hB : 0 < B) : Glob w' :=
  ⟨Nat.lt_of_lt_of_le h.1 hb.size, by rw [hb.cell (p := ⟨0, 0, none⟩) hB]; exact h.2⟩
theorem Glob.grow {w w' : World} (h : Glob w) (hb : Below w.heap.size w w') : Glob w' := h.below hb h.1

theorem code_nil (w : World) : Calls Tryd.prog 14 #[.nilIface] w fun e w' => e = .returned (.int .i64 0) ∧ Below w.heap.size w w' := by
  go_enter Tryd.func14, Tryd.ntmps14
  go_wp2_with (go_at_call 27; refine (as_nil _ _).mono ?_; rintro e w' ⟨rfl, rfl⟩)
  go_ret
  exact ⟨rfl, (Below.refl _ _).alloc (Nat.le_refl _) _⟩

set_option maxHeartbeats 1000000 in
theorem code_fault (c : Int) (w : World) (hg : Glob w) :
    Calls Tryd.prog 14 #[.iface 47 (.agg #[.int .i64 c])] w fun e w' => e = .returned (.int .i64 c) ∧ Below w.heap.size w w' := by
  have hg1 := hg.below ((Below.refl w.heap.size w).alloc (Nat.le_refl _) (.cells #[.int .i64 0] 47)) hg.1
  have HG := Lib.hid hg1.2
  have HT : Hid ((w.alloc (.cells #[.int .i64 0] 47)).cell? ⟨w.heap.size, 0, none⟩ = some (.int .i64 0)) := Lib.hid (by simp)
  have HF : Hid ((w.alloc (.cells #[.int .i64 0] 47)).frozen? ⟨w.heap.size, 0, none⟩ = false) := Lib.hid (by simp)
  clear hg hg1
  go_enter Tryd.func14, Tryd.ntmps14
  go_wp2_with (go_at_call 27; refine (as_hit c ⟨w.heap.size, 0, none⟩ (.int .i64 0) _ HG.out HT.out HF.out).mono ?_; rintro e w' ⟨rfl, rfl⟩)
  go_ret
  exact ⟨rfl, by go_grown⟩
end Go.Proofs.YtjoobpieomhklaaDoor
