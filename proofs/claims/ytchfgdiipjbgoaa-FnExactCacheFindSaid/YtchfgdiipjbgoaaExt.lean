/- A region that draws its order, whose callees make new memory and write nothing old: one walk in the text's order, over all worlds that extend one. Over any program. -/
import Derived.BigQuiet
import Derived.Handy
import Derived.Below
namespace Go.Proofs.Ytchfgdiipjbgoaa
open Go Go.RowKit
set_option linter.unusedVariables false

/-- A world that extends W: what is in W is as it was. -/
structure Ext (W : World) where
  w : World
  below : Below W.heap.size W w
instance (W : World) : Nonempty (Ext W) := ⟨⟨W, Below.refl _ _⟩⟩
theorem Ext.cell {W : World} (u : Ext W) {b o : Nat} {v : Value} (h : W.cell? ⟨b, o, none⟩ = some v) : u.w.cell? ⟨b, o, none⟩ = some v :=
  (u.below.cell (p := ⟨b, o, none⟩) (World.block_lt_of_cell? W _ h)).trans h
theorem ext_is (W : World) (w : World) : (∃ u : Ext W, w = u.w) ↔ Below W.heap.size W w := ⟨fun ⟨u, h⟩ => h ▸ u.below, fun h => ⟨⟨w, h⟩, rfl⟩⟩
theorem ext_region {P : Program} (W : World) {id : Nat} {Q : Exit → Act → World → Prop} {a : Act} {w : World} {l : List Oper} (hm : P.follows .mixedOrders = true) (hB : Region.lexB .any l.toArray = true) (hC : Below W.heap.size W w)
    (h : wpQuiet P l.toArray (fun w' => ∃ u : Ext W, w' = u.w) (fun a' => ∀ w', Below W.heap.size W w' → Q .normal a' w') l a) : (Code.region id l.toArray true).wp P Q a w := by
  refine wp_region_quiet (C := fun w' => ∃ u : Ext W, w' = u.w) hm hB ⟨⟨w.drew, hC.drew⟩, rfl⟩ ?_
  have e : (fun a' => ∀ w', (∃ u : Ext W, w' = u.w) → Q .normal a' w') = (fun a' => ∀ w', Below W.heap.size W w' → Q .normal a' w') := by
    funext a'
    exact propext ⟨fun h w' hb => h w' ((ext_is W w').2 hb), fun h w' hb => h w' ((ext_is W w').1 hb)⟩
  simp only [e]
  simpa using h
theorem calls_ext {P : Program} {W : World} {u : Ext W} {f : FuncId} {args : Array Value} {v : Value} (h : Calls P f args u.w fun e w' => e = .returned v ∧ Below u.w.heap.size u.w w') : Calls P f args u.w fun e w' => e = .returned v ∧ ∃ u' : Ext W, w' = u'.w :=
  h.mono fun _ w' ⟨he, hb⟩ => ⟨he, ⟨w', u.below.trans (hb.mono u.below.size)⟩, rfl⟩
theorem calls_ext_same {P : Program} {W : World} {u : Ext W} {f : FuncId} {args : Array Value} {v : Value} (h : Calls P f args u.w fun e w' => e = .returned v ∧ w' = u.w) : Calls P f args u.w fun e w' => e = .returned v ∧ ∃ u' : Ext W, w' = u'.w :=
  h.mono fun _ w' ⟨he, hb⟩ => ⟨he, u, hb⟩
end Go.Proofs.Ytchfgdiipjbgoaa
