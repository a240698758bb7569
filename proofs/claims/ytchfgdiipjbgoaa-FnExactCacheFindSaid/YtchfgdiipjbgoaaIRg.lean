/- A map from numbers (int64) that is ranged over, in whatever order: what is still to come. Over any program. -/
import Derived.Test.YtchfgdiipjbgoaaIMap
import Derived.Maps.RangeWalk
import Derived.Lib.SlKeysI
namespace Go.Proofs.Ytchfgdiipjbgoaa
open Go Go.RowKit Go.Lib Go.Maps
set_option linter.unusedVariables false

/-- Block b is a map (as IMap), block r goes through it; left tells which numbers are still to come, cnt how many. -/
def IRanges (P : Program) (k : TypeId) (w : World) (b r N : Nat) (F : Int → Option Value) (left : Int → Bool) (cnt : Nat) : Prop :=
  ∃ (D : DataW Value) (lf : Lit → Bool), w.ranges P k heldE b r N D lf cnt ∧ (Maps.size D = N ∧ ∀ i : Int, Maps.has D (.int .i64 i) = (F i).isSome ∧ ∀ z : Value, D.atKey (.int .i64 i) (.held z) = .held ((F i).getD z)) ∧ (∀ i, lf (.int .i64 i) = left i) ∧ (∀ i, left i = true → (F i).isSome = true)
section
variable {P : Program} {k e : TypeId} {w : World} {b r N : Nat} {F : Int → Option Value} {left : Int → Bool} {cnt : Nat}
theorem IRanges.map (h : IRanges P k w b r N F left cnt) : IMap P k w b N F := by
  obtain ⟨D, lf, h1, h2, _⟩ := h
  exact ⟨D, h1.owns, h2⟩
theorem IRanges.left_eq (h : IRanges P k w b r N F left cnt) : w.rangeLeft b r = cnt := by
  obtain ⟨D, lf, h1, _⟩ := h
  exact h1.left_eq
theorem IRanges.ne (h : IRanges P k w b r N F left cnt) : r ≠ b := by
  obtain ⟨D, lf, h1, _⟩ := h
  exact h1.ne
theorem IRanges.lt (h : IRanges P k w b r N F left cnt) : r < w.heap.size := by
  obtain ⟨D, lf, h1, _⟩ := h
  exact h1.lt
theorem IRanges.kept {w' : World} {row : Option Nat} (h : IRanges P k w b r N F left cnt) (hg : w.grownBy w' row) (hb : some b ≠ row) (hr : some r ≠ row) : IRanges P k w' b r N F left cnt := by
  obtain ⟨D, lf, h1, h2⟩ := h
  exact ⟨D, lf, h1.kept hg hb hr, h2⟩
variable {ops : Array Oper} {rest : List Oper} {o : Oper} {a : Act} {Q : Exit → Act → World → Prop}
theorem wpList_range_I (hg : o.guard = none) (m : Operand) (t : TypeId) (hop : o.op = Op.range t m) (ht : P.underlying t = some (.map k e)) (hk : P.underlying k = some (.int .i64)) (hm : a.eval m = .map (some b)) (hown : IMap P k w b N F)
    (hK : ∀ w', IRanges P k w' b w.heap.size N F (fun i => (F i).isSome) N → w.grownBy w' none → w'.heap.size = w.heap.size + 1 → wpList P ops Q rest (a.put o.dst (.pointer (some ⟨w.heap.size, 0, none⟩))) w') : wpList P ops Q (o :: rest) a w := by
  obtain ⟨D, h1, h2, h3⟩ := hown
  refine wpList_range_own w hg m t hop k e (int_keyed hk) ht heldE b N D hm h1 fun w' hr hgr hsz => hK w' ⟨D, Maps.has D, ?_, ⟨h2, h3⟩, fun i => (h3 i).1, fun i h => h⟩ hgr hsz
  rw [← h2]
  rw [h2] at hr ⊢
  exact hr
theorem wpList_next_I (hg : o.guard = none) (it : Operand) (hop : o.op = Op.next it false) (hk : P.underlying k = some (.int .i64)) (hit : a.eval it = .pointer (some ⟨r, 0, none⟩)) (h : IRanges P k w b r N F left cnt)
    (hDone : cnt = 0 → (∀ i, left i = false) → wpList P ops Q rest (a.put o.dst (.tuple #[.bool false])) w)
    (hMore : ∀ (x : Int) (v : Value) (w' : World) (cnt' : Nat), (Lit.int .i64 x).wf = true → left x = true → F x = some v → IRanges P k w' b r N F (fun z => left z && !(z == x)) cnt' → cnt' < cnt → w.grownBy w' (some r) → w'.heap.size = w.heap.size →
      (Instr.entry (.pointer (some ⟨r, 0, none⟩))).run P w' = .ok (.tuple #[.int .i64 x, v]) w' → wpList P ops Q rest (a.put o.dst (.tuple #[.bool true, .int .i64 x, v])) w') : wpList P ops Q (o :: rest) a w := by
  obtain ⟨D, lf, h1, ⟨h2, h3⟩, h4, h5⟩ := h
  refine wpList_next_ranges w hg it hop k (int_keyed hk) heldE (Value.int .i64) id (fun key kl hkey => by obtain ⟨x, rfl, _⟩ := Maps.keyOf_int_inv hk hkey; exact ⟨x, rfl⟩) (fun v y _ => ⟨v, rfl⟩) b r N D lf cnt hit h1 (fun hc hl => hDone hc fun i => by rw [← h4]; exact hl _) ?_
  intro x c kl y w' cnt' hkey hlk hv hat hrg hlt hgr hsz hen
  obtain ⟨x', ex, rfl, hwx⟩ := Maps.keyOf_int_inv hk hkey
  cases ex
  simp only [heldE, id, Option.some.injEq] at hv
  subst hv
  have hl : left x = true := by rw [← h4]; exact hlk
  have hs := h5 x hl
  have hF : F x = some c := by
    obtain ⟨c', hc'⟩ := Option.isSome_iff_exists.1 hs
    have h6 := (h3 x).2 c
    rw [hat] at h6
    rw [hc'] at h6 ⊢
    simp only [Option.getD_some, DataW.held.injEq] at h6
    rw [← h6]
  refine hMore x c w' cnt' hwx hl hF ⟨D, _, hrg, ⟨h2, h3⟩, fun i => ?_, fun i hi => ?_⟩ hlt hgr hsz hen
  · show (lf (.int .i64 i) && !(Lit.int .i64 i).sameKey (.int .i64 x)) = _
    rw [h4]
    congr 1
    by_cases e : i = x
    · subst e
      simp [WideAt.sameKey_self (wf_i64 hwx)]
    · have : ¬ (Lit.int .i64 i).sameKey (.int .i64 x) = true := fun hh => e (by have := WideAt.sameKey_eq hh; injection this)
      simp [e, this]
  · simp only [Bool.and_eq_true] at hi
    exact h5 i hi.1
/-- How many entries: as many as the list that names them. -/
theorem IMap.count {l : List Int} (h : IMap P k w b N F) (hk : P.underlying k = some (.int .i64)) (hnd : l.Nodup) (hm : ∀ i, i ∈ l ↔ (F i).isSome = true) : N = l.length := by
  obtain ⟨D, h1, h2, h3⟩ := h
  have hp : l.Perm (intKeys D) := CollectedI.perm (left := fun _ => false) ⟨hnd, fun x => by rw [hm, (h3 x).1]; simp⟩ h1 (int_keyed hk) hk (fun _ => rfl)
  obtain ⟨es, rfl, _, _⟩ := h1.entries (int_keyed hk)
  rw [← h2, hp.length_eq]
  simp [intKeys, Maps.size]
/-- What has been laid over: what has come of F, else what was there. -/
def overL (F G : Int → Option Value) (left : Int → Bool) (i : Int) : Option Value := if (F i).isSome && !left i then F i else G i
theorem overL_start (F G : Int → Option Value) : overL F G (fun i => (F i).isSome) = G := by
  funext i
  show (if (F i).isSome && !(F i).isSome then F i else G i) = G i
  cases (F i).isSome <;> rfl
theorem overL_step {F G : Int → Option Value} {left : Int → Bool} {x : Int} {v : Value} (h : F x = some v) (i : Int) : setAt (overL F G left) x v i = overL F G (fun z => left z && !(z == x)) i := by
  unfold setAt overL
  by_cases e : i = x
  · subst e
    simp [h]
  · simp [e]
def over (F G : Int → Option Value) (i : Int) : Option Value := match F i with | some v => some v | none => G i
theorem overL_end {F G : Int → Option Value} {left : Int → Bool} (h : ∀ i, left i = false) : overL F G left = over F G := by
  funext i
  unfold overL over
  rw [h]
  cases F i <;> rfl
/-- The share of a stripe. -/
def stF (F : Int → Option Value) (s : Nat) (i : Int) : Option Value := if i % 4 = s then F i else none
theorem stF_set_here {H : Int → Option Value} {s : Nat} {x : Int} {v : Value} (hx : x % 4 = s) (i : Int) : setAt (stF H s) x v i = stF (setAt H x v) s i := by
  unfold setAt stF
  by_cases e : i = x
  · subst e; simp [hx]
  · simp [e]
theorem stF_set_else {H : Int → Option Value} {s : Nat} {x : Int} {v : Value} (hx : x % 4 ≠ s) (i : Int) : stF H s i = stF (setAt H x v) s i := by
  unfold setAt stF
  by_cases e : i = x
  · subst e; simp [hx]
  · simp [e]
end
end Go.Proofs.Ytchfgdiipjbgoaa
