/- What is kept, but for the blocks of a ledger. -/
import Derived.Test.YtchfgdiipjbgoaaRow
namespace Go.Proofs.Ytchfgdiipjbgoaa
open Go Go.RowKit Go.Lib
set_option linter.unusedVariables false

/-- Below N nothing has changed but blocks lb, mw, mk. -/
structure Kept (N lb mw mk : Nat) (w w' : World) : Prop where
  os : w'.os = w.os
  tape : w'.tape = w.tape
  output : w'.output = w.output
  size : w.heap.size ≤ w'.heap.size
  block : ∀ k, k < N → k ≠ lb → k ≠ mw → k ≠ mk → w'.heap[k]? = w.heap[k]?
section
variable {N lb mw mk : Nat} {w w1 w2 : World}
theorem Kept.refl (N lb mw mk : Nat) (w : World) : Kept N lb mw mk w w := ⟨rfl, rfl, rfl, Nat.le_refl _, fun _ _ _ _ _ => rfl⟩
theorem Kept.trans (h : Kept N lb mw mk w w1) (k : Kept N lb mw mk w1 w2) : Kept N lb mw mk w w2 :=
  ⟨k.os.trans h.os, k.tape.trans h.tape, k.output.trans h.output, Nat.le_trans h.size k.size, fun i h1 h2 h3 h4 => (k.block i h1 h2 h3 h4).trans (h.block i h1 h2 h3 h4)⟩
theorem Kept.mono {M : Nat} (h : Kept N lb mw mk w w1) (hM : M ≤ N) : Kept M lb mw mk w w1 := ⟨h.os, h.tape, h.output, h.size, fun i h1 h2 h3 h4 => h.block i (by omega) h2 h3 h4⟩
theorem Kept.of_below (h : Below N w w1) : Kept N lb mw mk w w1 := ⟨h.os, h.tape, h.output, h.size, fun i h1 _ _ _ => h.block i h1⟩
theorem Kept.later {M : Nat} (h : Kept N lb mw mk w w1) (hb : Below M w1 w2) (hM : N ≤ M) : Kept N lb mw mk w w2 := h.trans (Kept.of_below (hb.mono hM))
theorem Kept.grown {j : Nat} (h : Kept N lb mw mk w w1) (hg : w1.grownBy w2 (some j)) (hN : N ≤ w1.heap.size) (hj : j = lb ∨ j = mw ∨ j = mk ∨ N ≤ j) : Kept N lb mw mk w w2 :=
  h.trans ⟨hg.os, hg.tape, hg.output, hg.size, fun i h1 h2 h3 h4 => hg.block i (by omega) (fun e => by have := Option.some.inj e; omega)⟩
theorem Kept.setCell {a : Addr} (h : Kept N lb mw mk w w1) (u : Value) (hj : a.block = lb ∨ a.block = mw ∨ a.block = mk ∨ N ≤ a.block) : Kept N lb mw mk w (w1.setCell a u) :=
  h.trans ⟨rfl, rfl, rfl, by simp, fun i h1 h2 h3 h4 => Below.heap_setCell _ _ _ _ (by omega)⟩
theorem Kept.setCells {p : Nat} (hp : p = lb ∨ p = mw ∨ p = mk ∨ N ≤ p) : ∀ (vs : List Value) {w1 : World} (o : Nat), Kept N lb mw mk w w1 → Kept N lb mw mk w (w1.setCells p o vs)
  | [], _, _, h => h
  | v :: r, _, o, h => Kept.setCells hp r (o + 1) (h.setCell (a := ⟨p, o, none⟩) v hp)
theorem Kept.below {B : Nat} (h : Kept N lb mw mk w w1) (hN : B ≤ N) (h1 : B ≤ lb) (h2 : B ≤ mw) (h3 : B ≤ mk) : Below B w w1 := ⟨h.os, h.tape, h.output, h.size, fun i hi => h.block i (by omega) (by omega) (by omega) (by omega)⟩
theorem Row.kept {g : Nat} {E : TypeId} {l : List Value} (h : Row w g E l) (hk : Kept N lb mw mk w w1) (hg : g < N) (h1 : g ≠ lb) (h2 : g ≠ mw) (h3 : g ≠ mk) : Row w1 g E l := by
  unfold Row at h ⊢
  rw [hk.block g hg h1 h2 h3]
  exact h
end
end Go.Proofs.Ytchfgdiipjbgoaa
