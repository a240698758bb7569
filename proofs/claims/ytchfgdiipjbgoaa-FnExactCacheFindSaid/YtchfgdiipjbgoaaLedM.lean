/- What comes to be one of the dead. -/
import Derived.Test.YtchfgdiipjbgoaaLed
namespace Go.Proofs.Ytchfgdiipjbgoaa
open Go Go.RowKit Go.Lib
set_option linter.unusedVariables false

def insD : List Int → Int → List Int
  | [], f => [f]
  | d :: r, f => if d < f then d :: insD r f else if d = f then d :: r else f :: d :: r
def killG (g : Gr) (f : Int) : Gr := ⟨g.now, g.words, g.keys, insD g.dead f⟩
theorem isDead_ins (i f : Int) : ∀ l : List Int, isDeadB (insD l f) i = (f == i || isDeadB l i)
  | [] => by simp [insD, isDeadB]
  | d :: r => by
    have ih := isDead_ins i f r
    unfold isDeadB at ih ⊢
    unfold insD
    split
    · rw [List.any_cons, ih, List.any_cons, ← Bool.or_assoc, ← Bool.or_assoc, Bool.or_comm (d == i)]
    · split
      · rename_i _ h
        subst h
        rw [List.any_cons, ← Bool.or_assoc, Bool.or_self]
      · rw [List.any_cons, List.any_cons]
theorem wdF_kill {ws : List Wd} {dead : List Int} {td : Int → Int} {no now : Int} {x : Wd} (hx : findW ws no = some x) (i : Int) :
    setAt (wdF ws dead td) no (hwV x (floatOfInt .f64 now)) i = wdF ws (insD dead no) (fun j => if j = no then now else td j) i := by
  by_cases h : i = no
  · subst h
    rw [setAt_same]
    have hd : isDeadB (insD dead i) i = true := by rw [isDead_ins]; simp
    simp [wdF, hx, ddB, hd]
  · rw [setAt_other h]
    have hd : isDeadB (insD dead no) i = isDeadB dead i := by
      rw [isDead_ins, show (no == i) = false from beq_eq_false_iff_ne.2 (fun e => h e.symm), Bool.false_or]
    simp [wdF, ddB, hd, h]
theorem LedAt.killed {w' : World} {B lb mw mk : Nat} {g : Gr} {no : Int} {td : Int → Int} {x : Wd} (htd : ∀ i, 0 ≤ td i ∧ td i ≤ g.now) (h0 : 0 ≤ g.now) (hx : findW g.words no = some x)
    (hr : Row w' lb 121 [.float .f64 (floatOfInt .f64 g.now), .map (some mw), .map (some mk)]) (hm : IMap Try.prog 2 w' mw (grow g.words.length (wdF g.words g.dead td no)) (setAt (wdF g.words g.dead td) no (hwV x (floatOfInt .f64 g.now))))
    (hk : IMap Try.prog 2 w' mk g.keys.length (kyF g.keys)) (hd : B ≤ lb ∧ B ≤ mw ∧ B ≤ mk ∧ lb ≠ mw ∧ lb ≠ mk ∧ mw ≠ mk) : LedAt w' B lb mw mk (killG g no) := by
  refine ⟨fun j => if j = no then g.now else td j, fun i => ?_, hr, ?_, hk, hd⟩
  · show 0 ≤ (if i = no then g.now else td i) ∧ (if i = no then g.now else td i) ≤ g.now
    split
    · exact ⟨h0, Int.le_refl _⟩
    · exact htd i
  · have hg : grow g.words.length (wdF g.words g.dead td no) = g.words.length := by simp [grow, wdF, hx]
    rw [hg] at hm
    exact hm.same (wdF_kill hx)
end Go.Proofs.Ytchfgdiipjbgoaa
