/- Slices of the call's own: where their elements come from, what is appended. -/
import Derived.Test.YtjccnjfdeedneaaGreatSGdA
import Derived.Laws.AppendOwnNone
import Derived.OwnWalk
namespace Go.Proofs.YtjccnjfdeedneaaGreat
open Go Go.RowKit Go.Lib
set_option linter.unusedVariables false
set_option maxRecDepth 100000

/-- What is appended: a list that lies somewhere. -/
def Src {α : Type} (cf : α → List Value) (w : World) (v : Value) (l : List α) : Prop := (v = .slice none 0 0 ∧ l = []) ∨ ∃ b o c, v = .slice (some ⟨b, o, none⟩) l.length c ∧ LAt cf w b o l
theorem Src.later {α : Type} {cf : α → List Value} {w w1 : World} {v : Value} {l : List α} (h : Src cf w v l) (hb : Below w.heap.size w w1) : Src cf w1 v l := by
 rcases h with h | ⟨b, o, c, h1, h2⟩
 ·exact .inl h
 ·exact .inr ⟨b, o, c, h1, h2.later hb⟩
theorem Src.of_own {α : Type} {cf : α → List Value} {w : World} {N E K : Nat} {v : Value} {l : List α} (h : w.ownsRow N E K v l.length (l.flatMap cf)) : Src cf w v l := by
 rcases h.2 with ⟨rfl, h0⟩ | ⟨g, cap, cur, rfl, hg, hc, hr⟩
 ·exact .inl ⟨rfl, List.eq_nil_of_length_eq_zero h0⟩
 ·refine .inr ⟨g, 0, cap, rfl, fun j u hj => ?_⟩
  have := h.cells (g := g) rfl j u hj
  rwa [Addr.add_mid] at this
theorem Src.of_in {α : Type} {cf : α → List Value} {w : World} {b o n c : Nat} {l : List α} (hn : n = l.length) (h : LIn cf w (some ⟨b, o, none⟩) l) : Src cf w (.slice (some ⟨b, o, none⟩) n c) l := by
 subst hn
 rcases h with rfl | ⟨b', o', h1, h2⟩
 ·exact .inr ⟨b, o, c, rfl, fun j v hj => by simp at hj⟩
 ·cases h1
  exact .inr ⟨b, o, c, rfl, h2⟩
theorem LAt.takeK {α : Type} {cf : α → List Value} {w : World} {b o : Nat} {l : List α} (h : LAt cf w b o l) (k : Nat) : LAt cf w b o (l.take k) := by
 intro j v hj
 refine h j v ?_
 conv => lhs; rw [← List.take_append_drop k l, List.flatMap_append]
 rw [List.getElem?_append_left (List.getElem?_eq_some_iff.1 hj).1]
 exact hj
theorem LAt.dropK {α : Type} {cf : α → List Value} {K : Nat} (hK : ∀ x, (cf x).length = K) {w : World} {b o : Nat} {l : List α} (h : LAt cf w b o l) {k : Nat} (hk : k ≤ l.length) : LAt cf w b (o + k * K) (l.drop k) := by
 intro j v hj
 have hl : ((l.take k).flatMap cf).length = k * K := by rw [flat_len hK, List.length_take, Nat.min_eq_left hk]
 have := h (k * K + j) v (by
  conv => lhs; rw [← List.take_append_drop k l, List.flatMap_append]
  rw [List.getElem?_append_right (by omega), hl, Nat.add_sub_cancel_left]
  exact hj)
 rwa [← Nat.add_assoc] at this
section
variable {P : Program} {w : World} {ops : Array Oper} {rest : List Oper} {o : Oper} {a : Act} {Q : Exit → Act → World → Prop}
theorem wpList_apps {α : Type} {cf : α → List Value} {l : List α} (hgd : o.guard = none) (s x : Operand) (t E : TypeId) (ho : o.op = .call { callee := .builtin .append, args := #[s, x], argTypes := #[t, t] })
  (i : TypeInfo) (z : Value) (K by_ : Nat) (ht : P.underlying t = some (.slice E)) (hi : P.info? E = some i) (hz : i.zero = some z) (hsize : i.size = K) (hby : i.bytes = by_) (hzs : z.cells.size = K) (hK : 0 < K) (hb32 : by_ ≤ 64)
  (hcf : ∀ x, (cf x).length = K) (h1 : ∀ x : α, ∀ u ∈ cf x, u.oneCell' = true)
  (base : Nat) (v : Value) (n : Nat) (xs : List Value) (hs : a.eval s = v) (hown : w.ownsRow base E K v n xs) (xv : Value) (hx : a.eval x = xv) (hsrc : Src cf w xv l) (hlen : n + l.length ≤ 1048576) (hbase : base ≤ w.heap.size)
  (h : ∀ v' w', w'.ownsRow base E K v' (n + l.length) (xs ++ l.flatMap cf) → w.grownBy w' v.ownBlock → wpList P ops Q rest (a.put o.dst v') w') : wpList P ops Q (o :: rest) a w := by
 rcases hsrc with ⟨rfl, rfl⟩ | ⟨b, q, c, rfl, hat⟩
 ·refine wpList_append_own_none hgd s x t ho base E i K ht hi v n xs hs hown hx (h v w ?_ ?_)
  ·simpa using hown
  ·exact ⟨rfl, rfl, rfl, Nat.le_refl _, fun _ _ _ => rfl⟩
 ·have hm : (n + l.length) * by_ ≤ 140737488355328 := by
   have := Nat.mul_le_mul_left (n + l.length) hb32
   omega
  exact wpList_append_own w hgd s x t ho base E i z K by_ ht hi hz hsize hby hzs hK v n xs hs hown ⟨b, q, none⟩ l.length c (l.flatMap cf) hx (flat_len hcf l)
   (fun j u hj => by rw [Addr.add_mid]; exact hat j u hj) (fun u hu => by obtain ⟨y, _, hy⟩ := List.mem_flatMap.1 hu; exact h1 y u hy) (by unfold maxLen; omega) hm hbase fun v' w' h2 h3 h4 => h v' w' h2 h3
theorem wpList_app1 {w0 : World} (hgd : o.guard = none) (s x : Operand) (t E : TypeId) (ho : o.op = .call { callee := .builtin .append, args := #[s, x], argTypes := #[t, t] })
  (i : TypeInfo) (z : Value) (K by_ : Nat) (ht : P.underlying t = some (.slice E)) (hi : P.info? E = some i) (hz : i.zero = some z) (hsize : i.size = K) (hby : i.bytes = by_) (hzs : z.cells.size = K) (hK : 0 < K) (hb32 : by_ ≤ 64)
  (base : Nat) (hbase : base ≤ w0.heap.size) (v : Value) (n : Nat) (xs vs : List Value) (hs : a.eval s = v) (hown : w0.ownsRow base E K v n xs) (A : Array Value) (hA : A = vs.toArray) (hx : a.eval x = .slice (some ⟨w0.heap.size, 0, none⟩) 1 1) (hvs : vs.length = K) (h1 : ∀ u ∈ vs, u.oneCell' = true) (hlen : n ≤ 1048576)
  (h : ∀ v' w', w'.ownsRow base E K v' (n + 1) (xs ++ vs) → (w0.alloc (.cells A E)).grownBy w' v.ownBlock → wpList P ops Q rest (a.put o.dst v') w') : wpList P ops Q (o :: rest) a (w0.alloc (.cells A E)) := by
 subst hA
 have hR : Row (w0.alloc (.cells vs.toArray E)) w0.heap.size E vs := heap_alloc_new w0 _
 have hm : (n + 1) * by_ ≤ 140737488355328 := by
  have := Nat.mul_le_mul_left (n + 1) hb32
  omega
 exact wpList_append_own _ hgd s x t ho base E i z K by_ ht hi hz hsize hby hzs hK v n xs hs (hown.alloc _) ⟨w0.heap.size, 0, none⟩ 1 1 vs hx (by rw [Nat.one_mul]; exact hvs)
  (fun j u hj => by rw [Addr.add_mid, Nat.zero_add, hR.cell]; exact hj) h1 (by unfold maxLen; omega) hm (Nat.le_trans hbase (by simp)) fun v' w' h2 h3 h4 => h v' w' h2 h3
end
theorem own_down {w : World} {b b' e s n : Nat} {v : Value} {x : List Value} (h : w.ownsRow b e s v n x) (hb : b' ≤ b) : w.ownsRow b' e s v n x := by
 refine ⟨h.1, ?_⟩
 rcases h.2 with h2 | ⟨g, cap, cur, hv, hg, hr⟩
 ·exact .inl h2
 ·exact .inr ⟨g, cap, cur, hv, Nat.le_trans hb hg, hr⟩
theorem own_late {w w' : World} {b e s n : Nat} {v : Value} {x : List Value} (h : w.ownsRow b e s v n x) (hb : Below w.heap.size w w') : w'.ownsRow b e s v n x := by
 refine ⟨h.1, ?_⟩
 rcases h.2 with h2 | ⟨g, cap, cur, hv, hg, hc, hr⟩
 ·exact .inl h2
 ·exact .inr ⟨g, cap, cur, hv, hg, by rw [hb.block g (Array.getElem?_eq_some_iff.1 hc).1]; exact hc, hr⟩
theorem own_set {w : World} {b e s n : Nat} {v : Value} {x : List Value} {a : Addr} (u : Value) (h : w.ownsRow b e s v n x) (hne : some a.block ≠ v.ownBlock) : (w.setCell a u).ownsRow b e s v n x := by
 refine ⟨h.1, ?_⟩
 rcases h.2 with h2 | ⟨g, cap, cur, rfl, hg, hc, hr⟩
 ·exact .inl h2
 ·refine .inr ⟨g, cap, cur, rfl, hg, ?_, hr⟩
  rw [Below.heap_setCell _ _ _ _ (fun e => hne (by simp [Value.ownBlock, e]))]
  exact hc
theorem row_own_ne {w : World} {g e1 b2 e2 s2 n2 : Nat} {v2 : Value} {l x2 : List Value} (h1 : Row w g e1 l) (h2 : w.ownsRow b2 e2 s2 v2 n2 x2) (hne : e1 ≠ e2) : some g ≠ v2.ownBlock := by
 rcases h2.2 with ⟨rfl, _⟩ | ⟨g2, cap2, cur2, rfl, _, hg2, _⟩
 ·simp [Value.ownBlock]
 ·simp only [Value.ownBlock, ne_eq, Option.some.injEq]
  rintro rfl
  unfold Row at h1
  rw [h1] at hg2
  simp only [Option.some.injEq, Obj.cells.injEq] at hg2
  exact hne hg2.2.1
theorem own_slc {w : World} {b e s n : Nat} {v : Value} {x : List Value} (h : w.ownsRow b e s v n x) : ∃ p c, v = .slice p n c := by
 rcases h.2 with ⟨rfl, rfl⟩ | ⟨g, cap, cur, rfl, _⟩
 ·exact ⟨_, _, rfl⟩
 ·exact ⟨_, _, rfl⟩
section
variable {w : World}
theorem own_len {b e s n m c : Nat} {q : Option Addr} {x : List Value} (h : w.ownsRow b e s (.slice q m c) n x) : m = n := by
 rcases h.2 with ⟨h1, h2⟩ | ⟨g, cap, cur, h1, _⟩
 ·cases h1; exact h2.symm
 ·cases h1; rfl
theorem own_some {b e s n m c : Nat} {q : Option Addr} {x : List Value} (h : w.ownsRow b e s (.slice q m c) n x) (hn : 0 < n) : ∃ gN, q = some ⟨gN, 0, none⟩ ∧ b ≤ gN ∧ gN < w.heap.size ∧ n ≤ c ∧ ∀ j u, x[j]? = some u → w.cell? ⟨gN, j, none⟩ = some u := by
 rcases h.2 with ⟨_, h2⟩ | ⟨g, cap, cur, h1, hb, hc, hl, _⟩
 ·omega
 ·cases h1
  refine ⟨g, rfl, hb, (Array.getElem?_eq_some_iff.1 hc).1, hl, fun j u hj => ?_⟩
  have h3 := h.cells (g := g) rfl j u hj
  rwa [Addr.add_mid, Nat.zero_add] at h3
theorem own_ways {b e s n m c : Nat} {q : Option Addr} {x : List Value} (h : w.ownsRow b e s (.slice q m c) n x) : (q = none ∧ m = 0 ∧ c = 0 ∧ n = 0) ∨ ∃ gN, q = some ⟨gN, 0, none⟩ ∧ b ≤ gN ∧ gN < w.heap.size ∧ m = n ∧ n ≤ c ∧ c ≤ maxLen := by
 rcases h.2 with ⟨h1, h2⟩ | ⟨g, cap, cur, h1, hb, hc, hl, hm, _⟩
 ·cases h1; exact .inl ⟨rfl, rfl, rfl, h2⟩
 ·cases h1
  exact .inr ⟨g, rfl, hb, (Array.getElem?_eq_some_iff.1 hc).1, rfl, hl, hm⟩
end
theorem oneIn (x : Int) : ∀ u ∈ inCf x, u.oneCell' = true := by intro u hu; simp [inCf] at hu; subst hu; rfl
theorem oneKy (x : Ky) : ∀ u ∈ kyCf x, u.oneCell' = true := by intro u hu; simp [kyCf] at hu; rcases hu with rfl | rfl | rfl | rfl | rfl | rfl <;> rfl
theorem oneWd (x : Wd) : ∀ u ∈ wdCf x, u.oneCell' = true := by intro u hu; simp [wdCf] at hu; rcases hu with rfl | rfl | rfl | rfl | rfl <;> rfl
/-- The one grown is the call's own: what is below is as it was. -/
theorem below_grown {B : Nat} {w w1 w2 : World} {E K n : Nat} {v : Value} {x : List Value} (hb : Below B w w1) (hB : B ≤ w1.heap.size) (ho : w1.ownsRow B E K v n x) (hg : w1.grownBy w2 v.ownBlock) : Below B w w2 :=
 hb.grown hg hB (fun k hk => (ho.lt k hk).1)
end Go.Proofs.YtjccnjfdeedneaaGreat
