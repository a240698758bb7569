/- GrantAll, as mathematics. -/
import Derived.Test.YtgkdajlkajmdiaaGreatRGoD
import Derived.Test.YtgkdajlkajmdiaaGreatRRqS
namespace Go.Proofs.YtgkdajlkajmdiaaGreat
open Go Go.RowKit Go.Lib
set_option linter.unusedVariables false
set_option maxRecDepth 100000

/-- One request more. -/
def oneD (a : Gr × RS) (r : RQ) : Gr × RS := if rightB r then doD a.1 r else (a.1, codeR 1)
def allD (g : Gr) (l : List RQ) : Gr × RS := l.foldl oneD (g, codeR 0)
theorem allD_right {g : Gr} (h : grantB g = true) (l : List RQ) : grantB (allD g l).1 = true := by
  unfold allD
  suffices hh : ∀ (l : List RQ) (a : Gr × RS), grantB a.1 = true → grantB (l.foldl oneD a).1 = true from hh l _ h
  intro l
  induction l with
  | nil => intro a ha; exact ha
  | cons r t ih =>
    intro a ha
    rw [List.foldl_cons]
    refine ih _ ?_
    unfold oneD
    split
    · rename_i hr
      exact done_right ha hr
    · exact ha
theorem allD_snoc {g : Gr} {l : List RQ} {k : Nat} {r : RQ} (h : l[k]? = some r) : allD g (l.take (k + 1)) = oneD (allD g (l.take k)) r := by
  unfold allD
  rw [List.take_add_one, h, Option.toList_some, List.foldl_append]
  rfl
def gaD (g : Gr) (l : List RQ) : Gr × RS × Int := if 400 < l.length then (zG, codeR 0, 2) else if grantB g then ((allD g l).1, (allD g l).2, 0) else (zG, codeR 0, 1)
/-- A grant that lies first in an answer. -/
def tailO (s : RS) (c : Int) : Tail := ⟨35, [.int .i64 s.code, .int .i64 s.token, .int .i64 s.next, .bool s.yes, .int .i64 c], by decide, by decide, by decide⟩
end Go.Proofs.YtgkdajlkajmdiaaGreat
