/- A map from texts to bools that the call makes: which texts are in it. Over any program. -/
import Derived.Test.YtjoobpieomhklaaDoorAid
import Derived.Maps.OwnSet
import Derived.Maps.Views
import Derived.StringKeys
namespace Go.Proofs.YtjoobpieomhklaaDoor
open Go Go.RowKit Go.Lib Go.Maps
set_option linter.unusedVariables false

theorem plainElem_bool_inv {H : Type} {P : Program} {e : TypeId} (he : P.underlying e = some .bool) {v : Value} {z : DataW H × List MemPlace} (h : plainElem P e v = some z) : ∃ c : Bool, v = .bool c ∧ z = (.lit (.bool c), []) := by
  unfold plainElem at h
  rw [he] at h
  cases v <;> simp at h
  exact ⟨_, rfl, h.symm⟩

/-- Block b is a map from texts (type k) to bools (type e) of at most n entries; true stands at those texts of which F holds. -/
def MapB (P : Program) (k e : TypeId) (w : World) (b n : Nat) (F : ByteArray → Prop) : Prop :=
  ∃ D : DataW Unit, w.ownsMap P k (plainElem P e) b n D ∧ ∀ s : ByteArray, ∃ c : Bool, D.atKey (.string s.data.toList) (.lit (.bool false)) = .lit (.bool c) ∧ (c = true ↔ F s)

section
variable {P : Program} {k e : TypeId} {w : World} {b n : Nat} {F : ByteArray → Prop}
theorem MapB.made (w : World) (P : Program) (k e : TypeId) : MapB P k e (w.alloc (.map #[] 0)) w.heap.size 0 (fun _ => False) :=
  ⟨.map [], World.ownsMap_made _ _ _ _, fun s => ⟨false, rfl, by simp⟩⟩
theorem MapB.alloc (h : MapB P k e w b n F) (o : Obj) : MapB P k e (w.alloc o) b n F := by
  obtain ⟨D, h1, h2⟩ := h
  exact ⟨D, h1.alloc o, h2⟩
theorem MapB.setCell (h : MapB P k e w b n F) {a : Addr} (ha : b ≠ a.block) (u : Value) : MapB P k e (w.setCell a u) b n F := by
  obtain ⟨D, h1, h2⟩ := h
  exact ⟨D, h1.setCell ha u, h2⟩
theorem MapB.later {w' : World} (h : MapB P k e w b n F) (hb : Below w.heap.size w w') : MapB P k e w' b n F := by
  obtain ⟨D, h1, h2⟩ := h
  have hlt := h1.lt
  obtain ⟨es, clock, hb1, r⟩ := h1
  exact ⟨D, ⟨es, clock, (hb.block b hlt).trans hb1, r⟩, h2⟩
theorem MapB.lt (h : MapB P k e w b n F) : b < w.heap.size := by
  obtain ⟨D, h1, h2⟩ := h
  exact h1.lt

theorem run_makeMap_hint {t k e : TypeId} (ht : P.underlying t = some (.map k e)) (q : IntKind) (h : Int) (w : World) : (Instr.makeMap t (some (.int q h))).run P w = .ok (.map (some w.heap.size)) (w.alloc (.map #[] 0)) := by
  simp [Instr.makeMap, run_underlying ht, asInt, asIntOf, Result.andThen]

theorem wpList_lookup_B {ops : Array Oper} {rest : List Oper} {o : Oper} {a : Act} {Q : Exit → Act → World → Prop}
    (hg : o.guard = none) (m x : Operand) (t : TypeId) (hop : o.op = Op.lookup t m x false) (ht : P.underlying t = some (.map k e)) (hk : P.underlying k = some .string) (he : P.underlying e = some .bool) (hz : (zeroValue e).run P w = .ok (.bool false) w)
    (hm : a.eval m = .map (some b)) (hown : MapB P k e w b n F) (s : ByteArray) (hx : a.eval x = .string s) (hs : s.size ≤ maxLen)
    (hK : ∀ c : Bool, (c = true ↔ F s) → wpList P ops Q rest (a.put o.dst (.bool c)) w) : wpList P ops Q (o :: rest) a w := by
  refine wpList_plain hg fun K' hK' => ?_
  obtain ⟨D, h1, h2⟩ := hown
  obtain ⟨c, hc, hF⟩ := h2 s
  obtain ⟨v, ps, hrun, hv⟩ := h1.lookup (string_keyed hk) ht hz (plainElem_bool he false) (Go.WideMaps.keyOf_string_mk hk hs)
  obtain ⟨c', rfl, hc'⟩ := plainElem_bool_inv he hv
  simp only [Prod.mk.injEq] at hc'
  rw [hc] at hc'
  obtain rfl : c = c' := by simpa using hc'.1
  unfold Oper.wp
  simp [execOp, hop, hm, hx, hrun, Result.andThen]
  exact hK' _ _ (hK c hF)

theorem wpList_mapUpdate_B {ops : Array Oper} {rest : List Oper} {o : Oper} {a : Act} {Q : Exit → Act → World → Prop}
    (hg : o.guard = none) (m x v : Operand) (t : TypeId) (hop : o.op = Op.mapUpdate t m x v) (ht : P.underlying t = some (.map k e)) (hk : P.underlying k = some .string) (he : P.underlying e = some .bool)
    (hm : a.eval m = .map (some b)) (hown : MapB P k e w b n F) (hn : n < maxLen) (s : ByteArray) (hx : a.eval x = .string s) (hs : s.size ≤ maxLen) (hv : a.eval v = .bool true)
    (hK : ∀ w', MapB P k e w' b (n + 1) (fun t => F t ∨ t = s) → w.grownBy w' (some b) → wpList P ops Q rest (a.put o.dst undef) w') : wpList P ops Q (o :: rest) a w := by
  obtain ⟨D, h1, h2⟩ := hown
  refine wpList_mapUpdate_own w hg m x v t hop k e (string_keyed hk) ht (plainElem P e) b n D hm h1 hn _ _ _ hx hv (Go.WideMaps.keyOf_string_mk hk hs) _ [] (plainElem_bool he true) fun w' h3 h4 => hK w' ⟨_, h3, fun t => ?_⟩ h4
  by_cases e1 : t = s
  · subst e1
    exact ⟨true, atKey_put_same h1.isMap (by simp [WideAt.IsKeyLit]) _ _, by simp⟩
  · have hne : (Lit.string t.data.toList) ≠ .string s.data.toList := fun h => e1 (Go.WideShapes.bytes_inj (by injection h))
    obtain ⟨c, hc, hF⟩ := h2 t
    exact ⟨c, by rw [atKey_put_other hne]; exact hc, by rw [hF]; simp [e1]⟩
end
end Go.Proofs.YtjoobpieomhklaaDoor
