/- A map from numbers (int64) to values of whatever type, that the call makes: what stands at which number. Over any program. -/
import Derived.WalkKit
import Derived.Lib.Hide
import Derived.Below
import Derived.Maps.OwnSet
import Derived.Maps.Views
namespace Go.Proofs.Ytchfgdiipjbgoaa
open Go Go.RowKit Go.Lib Go.Maps
set_option linter.unusedVariables false

/-- Each element is told by itself. -/
def heldE (v : Value) : Option (DataW Value × List MemPlace) := some (.held v, [])
/-- Block b is a map of N entries; F tells what stands at which number. -/
def IMap (P : Program) (k : TypeId) (w : World) (b N : Nat) (F : Int → Option Value) : Prop :=
  ∃ D : DataW Value, w.ownsMap P k heldE b N D ∧ Maps.size D = N ∧ ∀ i : Int, Maps.has D (.int .i64 i) = (F i).isSome ∧ ∀ z : Value, D.atKey (.int .i64 i) (.held z) = .held ((F i).getD z)
def setAt (F : Int → Option Value) (i : Int) (v : Value) : Int → Option Value := fun j => if j = i then some v else F j
theorem setAt_same (F : Int → Option Value) (i : Int) (v : Value) : setAt F i v i = some v := by simp [setAt]
theorem setAt_other {F : Int → Option Value} {i j : Int} (h : j ≠ i) (v : Value) : setAt F i v j = F j := by simp [setAt, h]
def grow (N : Nat) (o : Option Value) : Nat := if o.isSome then N else N + 1
theorem wf_i64 {i : Int} (h : (Lit.int .i64 i).wf = true) : WideAt.IsKeyLit (.int .i64 i) := by simp [WideAt.IsKeyLit]

section
variable {P : Program} {k e : TypeId} {w : World} {b N : Nat} {F : Int → Option Value}
theorem IMap.made (w : World) (P : Program) (k : TypeId) : IMap P k (w.alloc (.map #[] 0)) w.heap.size 0 (fun _ => none) :=
  ⟨.map [], World.ownsMap_made _ _ _ _, rfl, fun i => ⟨rfl, fun z => rfl⟩⟩
theorem IMap.alloc (h : IMap P k w b N F) (o : Obj) : IMap P k (w.alloc o) b N F := by
  obtain ⟨D, h1, h2⟩ := h
  exact ⟨D, h1.alloc o, h2⟩
theorem IMap.setCell (h : IMap P k w b N F) {a : Addr} (ha : b ≠ a.block) (u : Value) : IMap P k (w.setCell a u) b N F := by
  obtain ⟨D, h1, h2⟩ := h
  exact ⟨D, h1.setCell ha u, h2⟩
theorem IMap.lt (h : IMap P k w b N F) : b < w.heap.size := by
  obtain ⟨D, h1, h2⟩ := h
  exact h1.lt
theorem IMap.below {w' : World} {B : Nat} (h : IMap P k w b N F) (hb : Below B w w') (hB : b < B) : IMap P k w' b N F := by
  obtain ⟨D, h1, h2⟩ := h
  obtain ⟨es, clock, hb1, r⟩ := h1
  exact ⟨D, ⟨es, clock, (hb.block b hB).trans hb1, r⟩, h2⟩
theorem IMap.later {w' : World} (h : IMap P k w b N F) (hb : Below w.heap.size w w') : IMap P k w' b N F := h.below hb h.lt
theorem IMap.grown {w' : World} {r : Option Nat} (h : IMap P k w b N F) (hg : w.grownBy w' r) (hr : some b ≠ r) : IMap P k w' b N F := by
  obtain ⟨D, h1, h2⟩ := h
  exact ⟨D, h1.kept hg hr, h2⟩
theorem IMap.same {F' : Int → Option Value} (h : IMap P k w b N F) (hF : ∀ i, F i = F' i) : IMap P k w b N F' := by
  obtain rfl : F = F' := funext hF
  exact h

variable {ops : Array Oper} {rest : List Oper} {o : Oper} {a : Act} {Q : Exit → Act → World → Prop}
theorem IMap.look {t : TypeId} (h : IMap P k w b N F) (hk : P.underlying k = some (.int .i64)) (ht : P.underlying t = some (.map k e)) {z : Value} (hz : (zeroValue e).run P w = .ok z w) {i : Int} (hi : (Lit.int .i64 i).wf = true) :
    (Instr.lookup t (.map (some b)) (.int .i64 i) false).run P w = .ok ((F i).getD z) w := by
  obtain ⟨D, h1, _, h2⟩ := h
  obtain ⟨v, ps, hrun, hv⟩ := h1.lookup (int_keyed hk) ht hz (show heldE z = some (.held z, []) from rfl) (keyOf_int_mk hk hi)
  rw [(h2 i).2 z] at hv
  simp only [heldE, Option.some.injEq, Prod.mk.injEq, DataW.held.injEq] at hv
  rw [hrun, hv.1]
theorem IMap.look_ok {t : TypeId} (h : IMap P k w b N F) (hk : P.underlying k = some (.int .i64)) (ht : P.underlying t = some (.map k e)) {z : Value} (hz : (zeroValue e).run P w = .ok z w) {i : Int} (hi : (Lit.int .i64 i).wf = true) :
    (Instr.lookup t (.map (some b)) (.int .i64 i) true).run P w = .ok (.tuple #[(F i).getD z, .bool (F i).isSome]) w := by
  obtain ⟨D, h1, _, h2⟩ := h
  obtain ⟨v, ps, hrun, hv⟩ := h1.look_ok (int_keyed hk) ht hz (show heldE z = some (.held z, []) from rfl) (keyOf_int_mk hk hi)
  rw [(h2 i).2 z] at hv
  simp only [heldE, Option.some.injEq, Prod.mk.injEq, DataW.held.injEq] at hv
  rw [hrun, hv.1, (h2 i).1]
theorem IMap.put {t : TypeId} (h : IMap P k w b N F) (hk : P.underlying k = some (.int .i64)) (ht : P.underlying t = some (.map k e)) (hN : N < maxLen) {i : Int} (hi : (Lit.int .i64 i).wf = true) (v : Value) :
    ∃ w', (Instr.mapUpdate t (.map (some b)) (.int .i64 i) v).run P w = .ok () w' ∧ IMap P k w' b (grow N (F i)) (setAt F i v) ∧ w.grownBy w' (some b) := by
  obtain ⟨D, h1, hs, h2⟩ := h
  obtain ⟨w', hrun, h3, h4⟩ := h1.update (int_keyed hk) ht hN (keyOf_int_mk hk hi) (show heldE v = some (.held v, []) from rfl)
  have hsz : Maps.size (D.put (.int .i64 i) (.held v)) = grow N (F i) := by
    rw [size_put (h1.tidy (int_keyed hk)), (h2 i).1, hs]
    unfold grow
    cases (F i).isSome <;> rfl
  refine ⟨w', hrun, ⟨D.put (.int .i64 i) (.held v), ?_, hsz, fun j => ?_⟩, h4⟩
  · obtain ⟨es, clock, hb, Ft, hle, hD⟩ := h3
    refine ⟨es, clock, hb, Ft, ?_, hD⟩
    rw [← hsz, hD]
    simp [Maps.size, length_sorted]
  · by_cases e1 : j = i
    · subst e1
      exact ⟨by rw [has_put_same h1.isMap (wf_i64 hi), setAt_same]; rfl, fun z => by rw [atKey_put_same h1.isMap (wf_i64 hi), setAt_same]; rfl⟩
    · have hne : (Lit.int .i64 j) ≠ .int .i64 i := fun h => e1 (by injection h)
      exact ⟨by rw [has_put_other hne, setAt_other e1]; exact (h2 j).1, fun z => by rw [atKey_put_other hne, setAt_other e1]; exact (h2 j).2 z⟩
theorem IMap.len {t : TypeId} (h : IMap P k w b N F) (ht : P.underlying t = some (.map k e)) (ty : TypeId) : (Builtin.len_ #[t] ty #[.map (some b)]).run P w = .ok (.int .i64 N) w := by
  obtain ⟨D, h1, hs, h2⟩ := h
  rw [h1.len ht ty, hs]

theorem wpList_lookup_I (hg : o.guard = none) (m x : Operand) (t : TypeId) (hop : o.op = Op.lookup t m x false) (ht : P.underlying t = some (.map k e)) (hk : P.underlying k = some (.int .i64)) {z : Value} (hz : ∀ w, (zeroValue e).run P w = .ok z w)
    (hm : a.eval m = .map (some b)) (hown : IMap P k w b N F) (i : Int) (hx : a.eval x = .int .i64 i) (hi : (Lit.int .i64 i).wf = true)
    (hK : wpList P ops Q rest (a.put o.dst ((F i).getD z)) w) : wpList P ops Q (o :: rest) a w := by
  refine wpList_plain hg fun K' hK' => ?_
  have hrun := hown.look hk ht (hz w) hi
  unfold Oper.wp
  simp [execOp, hop, hm, hx, hrun, Result.andThen]
  exact hK' _ _ hK
theorem wpList_lookup_I_ok (hg : o.guard = none) (m x : Operand) (t : TypeId) (hop : o.op = Op.lookup t m x true) (ht : P.underlying t = some (.map k e)) (hk : P.underlying k = some (.int .i64)) {z : Value} (hz : ∀ w, (zeroValue e).run P w = .ok z w)
    (hm : a.eval m = .map (some b)) (hown : IMap P k w b N F) (i : Int) (hx : a.eval x = .int .i64 i) (hi : (Lit.int .i64 i).wf = true)
    (hK : wpList P ops Q rest (a.put o.dst (.tuple #[(F i).getD z, .bool (F i).isSome])) w) : wpList P ops Q (o :: rest) a w := by
  refine wpList_plain hg fun K' hK' => ?_
  have hrun := hown.look_ok hk ht (hz w) hi
  unfold Oper.wp
  simp [execOp, hop, hm, hx, hrun, Result.andThen]
  exact hK' _ _ hK
theorem wpList_put_I (hg : o.guard = none) (m x v : Operand) (t : TypeId) (hop : o.op = Op.mapUpdate t m x v) (ht : P.underlying t = some (.map k e)) (hk : P.underlying k = some (.int .i64))
    (hm : a.eval m = .map (some b)) (hown : IMap P k w b N F) (hN : N < maxLen) (i : Int) (hx : a.eval x = .int .i64 i) (hi : (Lit.int .i64 i).wf = true) (val : Value) (hv : a.eval v = val)
    (hK : ∀ w', IMap P k w' b (grow N (F i)) (setAt F i val) → w.grownBy w' (some b) → wpList P ops Q rest (a.put o.dst undef) w') : wpList P ops Q (o :: rest) a w := by
  refine wpList_plain hg fun K' hK' => ?_
  obtain ⟨w', hrun, h3, h4⟩ := hown.put hk ht hN hi val
  unfold Oper.wp
  simp [execOp, hop, hm, hx, hv, hrun, Result.andThen]
  exact hK' _ _ (hK w' h3 h4)
theorem run_makeMap_hintI {t k e : TypeId} (ht : P.underlying t = some (.map k e)) (q : IntKind) (h : Int) (w : World) : (Instr.makeMap t (some (.int q h))).run P w = .ok (.map (some w.heap.size)) (w.alloc (.map #[] 0)) := by
  simp [Instr.makeMap, run_underlying ht, asInt, asIntOf, Result.andThen]
end
end Go.Proofs.Ytchfgdiipjbgoaa
