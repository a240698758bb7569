/- Rows of structs: what lies in them, what a store of one struct does, a row that make laid. Over any program. -/
import Derived.Test.YtchfgdiipjbgoaaAid
import Derived.Deep.MidRow
import Derived.OwnWalk
namespace Go.Proofs.Ytchfgdiipjbgoaa
open Go Go.RowKit Go.Lib
set_option linter.unusedVariables false

section
variable {α : Type} {cf : α → List Value} {K : Nat}
theorem flat_len (hK : ∀ x, (cf x).length = K) : ∀ l : List α, (l.flatMap cf).length = l.length * K
  | [] => by simp
  | x :: r => by rw [List.flatMap_cons, List.length_append, flat_len hK r, hK, List.length_cons, Nat.succ_mul, Nat.add_comm]
theorem flat_get (hK : ∀ x, (cf x).length = K) : ∀ (l : List α) (i : Nat) (x : α), l[i]? = some x → ∀ j v, (cf x)[j]? = some v → (l.flatMap cf)[i * K + j]? = some v
  | [], i, x, h, _, _, _ => by simp at h
  | y :: r, 0, x, h, j, v, hv => by
    obtain rfl : y = x := by simpa using h
    rw [List.flatMap_cons, Nat.zero_mul, Nat.zero_add, List.getElem?_append_left (List.getElem?_eq_some_iff.1 hv).1]
    exact hv
  | y :: r, i + 1, x, h, j, v, hv => by
    rw [List.flatMap_cons, Nat.succ_mul, List.getElem?_append_right (by rw [hK]; omega), hK, show i * K + K + j - K = i * K + j by omega]
    exact flat_get hK r i x (by simpa using h) j v hv
theorem rangeAt_elem (hK : ∀ x, (cf x).length = K) {w : World} {b o : Nat} {l : List α} (h : w.rangeAt b o (l.flatMap cf)) {i : Nat} {x : α} (hi : l[i]? = some x) : w.rangeAt b (o + i * K) (cf x) := fun j v hv => by
  rw [Nat.add_assoc]
  exact h _ _ (flat_get hK l i x hi j v hv)
end
theorem rangeAt_append {w : World} {b o : Nat} {cs ds : List Value} (h1 : w.rangeAt b o cs) (h2 : w.rangeAt b (o + cs.length) ds) : w.rangeAt b o (cs ++ ds) := fun j v hv => by
  by_cases hj : j < cs.length
  · rw [List.getElem?_append_left hj] at hv
    exact h1 j v hv
  · rw [List.getElem?_append_right (by omega)] at hv
    have h := h2 _ v hv
    rwa [show o + cs.length + (j - cs.length) = o + j by omega] at h
theorem rangeAt_of_elems {α : Type} {cf : α → List Value} {K : Nat} (hK : ∀ x, (cf x).length = K) {w : World} {b : Nat} : ∀ (l : List α) (o : Nat), (∀ (i : Nat) (x : α), l[i]? = some x → w.rangeAt b (o + i * K) (cf x)) → w.rangeAt b o (l.flatMap cf)
  | [], _, _ => fun j v hv => by simp at hv
  | x :: r, o, h => by
    rw [List.flatMap_cons]
    refine rangeAt_append (by simpa using h 0 x rfl) ?_
    rw [hK]
    refine rangeAt_of_elems hK r (o + K) fun i y hi => ?_
    have h1 := h (i + 1) y (by simpa using hi)
    rwa [show o + (i + 1) * K = o + K + i * K by rw [Nat.succ_mul]; omega] at h1
theorem rangeAt_below {w w' : World} {B b o : Nat} {cs : List Value} (h : w.rangeAt b o cs) (hb : Below B w w') (hB : b < B) : w'.rangeAt b o cs := fun j v hv =>
  (hb.cell (p := ⟨b, o + j, none⟩) hB).trans (h j v hv)
theorem rangeAt_lt {w : World} {b o : Nat} {cs : List Value} (h : w.rangeAt b o cs) (hc : 0 < cs.length) : b < w.heap.size :=
  World.block_lt_of_cell? w _ (h 0 cs[0] (List.getElem?_eq_getElem hc))
theorem rangeAt_later {w w' : World} {b o : Nat} {cs : List Value} (h : w.rangeAt b o cs) (hb : Below w.heap.size w w') : w'.rangeAt b o cs := fun j v hv => by
  have h1 := h j v hv
  exact (hb.cell (p := ⟨b, o + j, none⟩) (World.block_lt_of_cell? w _ h1)).trans h1

/-- Some cells of a list are written anew. -/
def putCells (l : List Value) (o : Nat) : List Value → List Value
  | [] => l
  | v :: r => putCells (l.set o v) (o + 1) r
theorem putCells_length : ∀ (vs : List Value) (l : List Value) (o : Nat), (putCells l o vs).length = l.length
  | [], _, _ => rfl
  | v :: r, l, o => by rw [putCells, putCells_length r, List.length_set]
theorem putCells_mid : ∀ (vs : List Value) (pre old post : List Value), old.length = vs.length → putCells (pre ++ (old ++ post)) pre.length vs = pre ++ (vs ++ post)
  | [], pre, old, post, h => by
    obtain rfl : old = [] := List.eq_nil_of_length_eq_zero h
    rfl
  | v :: r, pre, [], post, h => by simp at h
  | v :: r, pre, x :: old, post, h => by
    have h1 := putCells_mid r (pre ++ [v]) old post (by simpa using h)
    rw [putCells, List.set_append_right _ _ (Nat.le_refl _), Nat.sub_self]
    simp only [List.cons_append, List.set_cons_zero, List.length_append, List.append_assoc, List.nil_append] at h1 ⊢
    exact h1
theorem Row.setCells {g : Nat} {E : TypeId} : ∀ (vs : List Value) {w : World} {l : List Value} (o : Nat), Row w g E l → Row (w.setCells g o vs) g E (putCells l o vs)
  | [], _, _, _, h => h
  | v :: r, _, _, o, h => Row.setCells r (o + 1) (h.set o v)
theorem below_setCells {B g : Nat} {w0 : World} (hB : B ≤ g) : ∀ (vs : List Value) {w : World} (o : Nat), Below B w0 w → Below B w0 (w.setCells g o vs)
  | [], _, _, h => h
  | v :: r, _, o, h => below_setCells hB r (o + 1) (h.setCell (p := ⟨g, o, none⟩) hB v)
theorem Row.there {w : World} {g : Nat} {E : TypeId} {l : List Value} (h : Row w g E l) (o n : Nat) (hn : o + n ≤ l.length) : w.there g o n := fun j hj =>
  ⟨by rw [h.cell, List.getElem?_eq_getElem (by omega)]; rfl, h.free _⟩
theorem Row.range {w : World} {g : Nat} {E : TypeId} {l : List Value} (h : Row w g E l) : w.rangeAt g 0 l := fun j v hv => by
  rw [h.cell, Nat.zero_add]
  exact hv
theorem Row.of_owns {w : World} {base g n cap size : Nat} {E : TypeId} {xs : List Value} (h : w.ownsRow base E size (.slice (some ⟨g, 0, none⟩) n cap) n xs) (hc : cap = n) : Row w g E xs := by
  subst hc
  obtain ⟨h1, ⟨h2, _⟩ | ⟨g', cap', cur, h2, _, h3, _, _, h6, h7⟩⟩ := h
  · cases h2
  · simp only [Value.slice.injEq, Option.some.injEq, Addr.mk.injEq] at h2
    obtain ⟨⟨rfl, _, _⟩, _, rfl⟩ := h2
    have e : cur.toList = xs := by rw [← h7, List.take_of_length_le (by simp; omega)]
    unfold Row
    rw [h3, ← e]
end Go.Proofs.Ytchfgdiipjbgoaa
