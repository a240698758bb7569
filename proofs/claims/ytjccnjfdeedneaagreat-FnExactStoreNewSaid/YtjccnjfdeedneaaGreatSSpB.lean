/- The model: a word comes to be one of the dead. -/
import Derived.Test.YtjccnjfdeedneaaGreatSSpA
namespace Go.Proofs.YtjccnjfdeedneaaGreat
open Go Go.RowKit Go.Lib
set_option linter.unusedVariables false
set_option maxRecDepth 100000

theorem own_cast {w : World} {b e s n n' : Nat} {v : Value} {x x' : List Value} (h : w.ownsRow b e s v n x) (hn : n = n') (hx : x = x') : w.ownsRow b e s v n' x' := by
 subst hn hx
 exact h
theorem own_lat {α : Type} {cf : α → List Value} {w : World} {b e s n gN m c : Nat} {l : List α} (h : w.ownsRow b e s (.slice (some ⟨gN, 0, none⟩) m c) n (l.flatMap cf)) : LAt cf w gN 0 l := fun j u hj => by
 have := h.cells (g := gN) rfl j u hj
 rwa [Addr.add_mid] at this
theorem Src.mkAt {α : Type} {cf : α → List Value} {w : World} {b o o' n c : Nat} {l : List α} (h : LAt cf w b o' l) (ho : o = o') (hn : n = l.length) : Src cf w (.slice (some ⟨b, o, none⟩) n c) l := by
 subst ho hn
 exact .inr ⟨b, o, c, rfl, h⟩
theorem Src.zero {α : Type} {cf : α → List Value} {w : World} {b o n c : Nat} {l : List α} (hl : l = []) (hn : n = 0) : Src cf w (.slice (some ⟨b, o, none⟩) n c) l := by
 subst hl hn
 exact .inr ⟨b, o, c, rfl, fun j v hj => by simp at hj⟩
theorem Src.nil {α : Type} {cf : α → List Value} {w : World} {l : List α} (hl : l = []) : Src cf w (.slice none 0 0) l := .inl ⟨rfl, hl⟩
/-- Where the place is looked for. -/
def PlRel {α : Type} (lt : α → Bool) (l : List α) (i : Value) : Prop := ∃ k : Nat, k ≤ l.length ∧ i = .int .i64 k ∧ ∀ (j : Nat) (y : α), j < k → l[j]? = some y → lt y = true
def KillS (tl : Tail) (N p : Nat) (h : GH) (g : Gr) (fam : Int) (w : World) (e : Ending) (w' : World) : Prop := e = .returned (.tuple #[]) ∧ ∃ dp dn dc, GrAt tl N w' p ⟨h.wp, h.wn, h.wc, h.kp, h.kn, h.kc, dp, dn, dc⟩ (killG g fam) ∧ Kept w.heap.size p p p w w'
end Go.Proofs.YtjccnjfdeedneaaGreat
