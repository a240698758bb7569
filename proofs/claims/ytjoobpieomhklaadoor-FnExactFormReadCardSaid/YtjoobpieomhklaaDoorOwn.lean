/- A row of structs (or strings) that the call itself makes by append. Over any program. -/
import Derived.Test.YtjoobpieomhklaaDoorRow
import Derived.OwnWalk
namespace Go.Proofs.YtjoobpieomhklaaDoor
open Go Go.RowKit Go.Lib
set_option linter.unusedVariables false

/-- v is a slice of n elements of type E (K cells each) of the call's own, its cells are xs; below W0's heap nothing has changed. -/
def Own (E : TypeId) (K : Nat) (W0 w : World) (v : Value) (n : Nat) (xs : List Value) : Prop := w.ownsRow W0.heap.size E K v n xs ∧ Below W0.heap.size W0 w
theorem Own.nil (E : TypeId) (K : Nat) {W0 w : World} (h : Below W0.heap.size W0 w) : Own E K W0 w (.slice none 0 0) 0 [] := ⟨World.ownsRow_nil _ _ _ _, h⟩
theorem Own.lit (E : TypeId) (K : Nat) {W0 w : World} (h : Below W0.heap.size W0 w) : Own E K W0 (w.alloc (.cells #[] E)) (.slice (some ⟨w.heap.size, 0, none⟩) 0 0) 0 [] :=
  ⟨⟨by simp, .inr ⟨w.heap.size, 0, #[], rfl, h.size, heap_alloc_new w _, Nat.le_refl _, by unfold maxLen; omega, by simp, by simp⟩⟩, h.alloc h.size _⟩
theorem Own.alloc {E : TypeId} {K : Nat} {W0 w : World} {v : Value} {n : Nat} {xs : List Value} (h : Own E K W0 w v n xs) (o : Obj) : Own E K W0 (w.alloc o) v n xs := ⟨h.1.alloc o, h.2.alloc h.2.size o⟩
theorem Own.drew {E : TypeId} {K : Nat} {W0 w : World} {v : Value} {n : Nat} {xs : List Value} (h : Own E K W0 w v n xs) : Own E K W0 w.drew v n xs := ⟨h.1, h.2.drew⟩
theorem Own.later {E : TypeId} {K : Nat} {W0 w w1 : World} {v : Value} {n : Nat} {xs : List Value} (h : Own E K W0 w v n xs) (hb : Below w.heap.size w w1) : Own E K W0 w1 v n xs := by
  refine ⟨?_, h.2.trans (hb.mono h.2.size)⟩
  obtain ⟨h1, h2⟩ := h.1
  refine ⟨h1, ?_⟩
  rcases h2 with h2 | ⟨g, cap, cur, hv, hg, hc, hr⟩
  · exact .inl h2
  · exact .inr ⟨g, cap, cur, hv, hg, by rw [hb.block g (Array.getElem?_eq_some_iff.1 hc).1]; exact hc, hr⟩
theorem Own.weaken {E : TypeId} {K : Nat} {W0 W1 w : World} {v : Value} {n : Nat} {xs : List Value} (h : Own E K W1 w v n xs) (hb : Below W0.heap.size W0 W1) : Own E K W0 w v n xs := by
  refine ⟨?_, hb.trans (h.2.mono hb.size)⟩
  obtain ⟨h1, h2⟩ := h.1
  refine ⟨h1, ?_⟩
  rcases h2 with h2 | ⟨g, cap, cur, hv, hg, hc, hr⟩
  · exact .inl h2
  · exact .inr ⟨g, cap, cur, hv, Nat.le_trans hb.size hg, hc, hr⟩
/-- What lies in it. -/
theorem Own.open {E : TypeId} {K : Nat} {W0 w : World} {v : Value} {n : Nat} {xs : List Value} (h : Own E K W0 w v n xs) : (v = .slice none 0 0 ∧ n = 0) ∨ ∃ g cap, v = .slice (some ⟨g, 0, none⟩) n cap ∧ W0.heap.size ≤ g ∧ g < w.heap.size ∧ n ≤ cap ∧ cap ≤ maxLen ∧ w.rangeAt g 0 xs ∧ ∀ j, j < xs.length → w.frozen? ⟨g, j, none⟩ = false := by
  obtain ⟨h1, h2 | ⟨g, cap, cur, hv, hg, hc, hn, hm, hs, ht⟩⟩ := h.1
  · exact .inl h2
  · refine .inr ⟨g, cap, hv, hg, (Array.getElem?_eq_some_iff.1 hc).1, hn, hm, fun j u hu => ?_, fun j _ => ?_⟩
    · rw [Nat.zero_add]
      have hj : j < n * K := by rw [← h1]; exact (List.getElem?_eq_some_iff.1 hu).1
      rw [← ht, List.getElem?_take_of_lt hj] at hu
      simpa [World.cell?, hc] using hu
    · simp [World.frozen?, hc]

section
variable {P : Program} {ops : Array Oper} {rest : List Oper} {o : Oper} {a : Act} {Q : Exit → Act → World → Prop}
/-- 'l = append(l, x)'. -/
theorem wpList_app {w0 : World} (hgd : o.guard = none) (s x : Operand) (t E : TypeId) (ho : o.op = .call { callee := .builtin .append, args := #[s, x], argTypes := #[t, t] })
    (i : TypeInfo) (z : Value) (K by_ : Nat) (ht : P.underlying t = some (.slice E)) (hi : P.info? E = some i) (hz : i.zero = some z) (hsize : i.size = K) (hby : i.bytes = by_) (hzs : z.cells.size = K) (hK : 0 < K) (hb32 : by_ ≤ 64)
    (W0 : World) (v : Value) (n : Nat) (xs vs : List Value) (hs : a.eval s = v) (hown : Own E K W0 w0 v n xs) (A : Array Value) (hA : A = vs.toArray) (hx : a.eval x = .slice (some ⟨w0.heap.size, 0, none⟩) 1 1) (hvs : vs.length = K) (h1 : ∀ u ∈ vs, u.oneCell' = true) (hlen : n ≤ 1048576)
    (h : ∀ v' w', Own E K W0 w' v' (n + 1) (xs ++ vs) → (w0.alloc (.cells A E)).grownBy w' v.ownBlock → v' ≠ .slice none 0 0 → wpList P ops Q rest (a.put o.dst v') w') : wpList P ops Q (o :: rest) a (w0.alloc (.cells A E)) := by
  subst hA
  have hR : Row (w0.alloc (.cells vs.toArray E)) w0.heap.size E vs := heap_alloc_new w0 _
  have hm : (n + 1) * by_ ≤ 140737488355328 := by
    have := Nat.mul_le_mul_left (n + 1) hb32
    omega
  refine wpList_append_own _ hgd s x t ho W0.heap.size E i z K by_ ht hi hz hsize hby hzs hK v n xs hs (hown.1.alloc _) ⟨w0.heap.size, 0, none⟩ 1 1 vs hx (by rw [Nat.one_mul]; exact hvs)
    (fun j u hj => by rw [Addr.add_mid, Nat.zero_add, hR.cell]; exact hj) h1 (by unfold maxLen; omega) hm (Nat.le_trans hown.2.size (by simp)) fun v' w' h2 h3 h4 => h v' w' ⟨h2, (hown.2.alloc hown.2.size _).grown h3 (Nat.le_trans hown.2.size (by simp)) fun k hk => (hown.1.lt k hk).1⟩ h3 fun e => ?_
  have := h4.1 e
  omega
theorem wpList_app_at {w0 : World} (hgd : o.guard = none) (s x : Operand) (t E : TypeId) (ho : o.op = .call { callee := .builtin .append, args := #[s, x], argTypes := #[t, t] })
    (i : TypeInfo) (z : Value) (K by_ : Nat) (ht : P.underlying t = some (.slice E)) (hi : P.info? E = some i) (hz : i.zero = some z) (hsize : i.size = K) (hby : i.bytes = by_) (hzs : z.cells.size = K) (hK : 0 < K) (hb32 : by_ ≤ 64)
    (W0 : World) (v : Value) (n : Nat) (xs vs : List Value) (hs : a.eval s = v) (hown : Own E K W0 w0 v n xs) (A : Array Value) (hA : A = vs.toArray) (h0 : Nat) (hx : a.eval x = .slice (some ⟨h0, 0, none⟩) 1 1) (hh0 : h0 = w0.heap.size) (hvs : vs.length = K) (h1 : ∀ u ∈ vs, u.oneCell' = true) (hlen : n ≤ 1048576)
    (h : ∀ v' w', Own E K W0 w' v' (n + 1) (xs ++ vs) → (w0.alloc (.cells A E)).grownBy w' v.ownBlock → v' ≠ .slice none 0 0 → wpList P ops Q rest (a.put o.dst v') w') : wpList P ops Q (o :: rest) a (w0.alloc (.cells A E)) := by
  subst hh0
  exact wpList_app hgd s x t E ho i z K by_ ht hi hz hsize hby hzs hK hb32 W0 v n xs vs hs hown A hA hx hvs h1 hlen h
/-- .. as a step of a region that draws its order. -/
theorem step_app {w : World} {KK : Act → World → Prop} {F : Prop} (hgd : o.guard = none) (s x : Operand) (t E : TypeId) (ho : o.op = .call { callee := .builtin .append, args := #[s, x], argTypes := #[t, t] })
    (i : TypeInfo) (z : Value) (K by_ : Nat) (ht : P.underlying t = some (.slice E)) (hi : P.info? E = some i) (hz : i.zero = some z) (hsize : i.size = K) (hby : i.bytes = by_) (hzs : z.cells.size = K) (hK : 0 < K) (hb32 : by_ ≤ 64)
    (W0 : World) (v : Value) (n : Nat) (xs vs : List Value) (hs : a.eval s = v) (hown : Own E K W0 w v n xs) (ad : Addr) (hx : a.eval x = .slice (some ad) 1 1) (hnews : ∀ j u, vs[j]? = some u → w.cell? (ad.add j) = some u) (hvs : vs.length = K) (h1 : ∀ u ∈ vs, u.oneCell' = true) (hlen : n ≤ 1048576)
    (h : ∀ v' w', Own E K W0 w' v' (n + 1) (xs ++ vs) → v' ≠ .slice none 0 0 → KK (a.put o.dst v') w') : if Region.wanted o (yielded ops a.tmps) = true then Oper.wp P o a w KK Q else F := by
  have hw : Region.wanted o (yielded ops a.tmps) = true := by simp [Region.wanted, hgd]
  rw [if_pos hw]
  have hm : (n + 1) * by_ ≤ 140737488355328 := by
    have := Nat.mul_le_mul_left (n + 1) hb32
    omega
  refine wp_append_own w s x t ho W0.heap.size E i z K by_ ht hi hz hsize hby hzs hK v n xs hs hown.1 ad 1 1 vs hx (by rw [Nat.one_mul]; exact hvs) hnews h1 (by unfold maxLen; omega) hm hown.2.size fun v' w' h2 h3 h4 => h v' w' ⟨h2, hown.2.grown h3 hown.2.size fun k hk => (hown.1.lt k hk).1⟩ fun e => ?_
  have := h4.1 e
  omega
end
end Go.Proofs.YtjoobpieomhklaaDoor
