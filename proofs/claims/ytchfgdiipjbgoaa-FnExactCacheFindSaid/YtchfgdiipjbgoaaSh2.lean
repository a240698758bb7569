/- What all share: a map laid over another one. -/
import Derived.Test.YtchfgdiipjbgoaaSh0
namespace Go.Proofs.Ytchfgdiipjbgoaa
open Go Go.RowKit Go.Lib Go.MuLone
set_option linter.unusedVariables false
set_option maxRecDepth 100000

theorem gb_below {w w' : World} {r : Option Nat} (h : Below w.heap.size w w') : w.grownBy w' r := ⟨h.os, h.tape, h.output, h.size, fun k hk _ => h.block k hk⟩
theorem gb_skip {w w1 w2 : World} {d r : Nat} (h : w.grownBy w1 (some d)) (hg : w1.grownBy w2 (some r)) (hr : w.heap.size ≤ r ∨ r = d) : w.grownBy w2 (some d) :=
  ⟨hg.os.trans h.os, hg.tape.trans h.tape, hg.output.trans h.output, Nat.le_trans h.size hg.size, fun k hk hne => (hg.block k (by have := h.size; omega) (fun e => by
    have := Option.some.inj e
    have h2 : k ≠ d := fun e2 => hne (by rw [e2])
    omega)).trans (h.block k hk hne)⟩
theorem gb_later {w w1 w2 : World} {d : Nat} (h : w.grownBy w1 (some d)) (hb : Below w1.heap.size w1 w2) : w.grownBy w2 (some d) :=
  ⟨hb.os.trans h.os, hb.tape.trans h.tape, hb.output.trans h.output, Nat.le_trans h.size hb.size, fun k hk hne => (hb.block k (by have := h.size; omega)).trans (h.block k hk hne)⟩
theorem gb_none {w w1 : World} {d : Nat} (h : w.grownBy w1 none) : w.grownBy w1 (some d) := ⟨h.os, h.tape, h.output, h.size, fun k hk _ => h.block k hk (by simp)⟩
/-- What the elements of a map of words look like, of a map of keys. -/
def WSh (F : Int → Option Value) : Prop := ∀ i v, F i = some v → ∃ c s t u d, v = .agg #[.int .i64 c, .string s, .float .f64 t, .bool u, .float .f64 d]
def KSh (F : Int → Option Value) : Prop := ∀ i v, F i = some v → ∃ c f b t s, v = .agg #[.int .i64 c, .int .i64 f, .bool b, .float .f64 t, .int .i64 s]
end Go.Proofs.Ytchfgdiipjbgoaa
