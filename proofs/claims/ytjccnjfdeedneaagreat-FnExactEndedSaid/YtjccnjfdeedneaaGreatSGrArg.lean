/- A grant, as an argument. -/
import Derived.Test.YtjccnjfdeedneaaGreatSGdG
import Derived.Test.YtjccnjfdeedneaaGreatSGdB
import Derived.Test.YtjccnjfdeedneaaGreatSArgAid
import Derived.Deep.Slices
import Derived.Deep.Fields
import Derived.Lib.SmallJoins
namespace Go.Proofs.YtjccnjfdeedneaaGreat
open Go Go.RowKit Go.Lib Go.ChangeShapes Go.WideShapes Go.Deep
set_option linter.unusedVariables false

set_option maxRecDepth 100000
section
variable {H : Type} {enc : TypeId × Value → H} {w : World} {sp : Nat → Bool} {held : Bool}
def intOfV : Value → Int
 | .int _ n => n
 | _ => 0
def strOfV : Value → ByteArray
 | .string s => s
 | _ => ByteArray.empty
def boolOfV : Value → Bool
 | .bool b => b
 | _ => false
theorem addr_of_cell {x : Addr} {v : Value} (h : w.cell? (x.add 0) = some v) : x.spot = none := by
 unfold World.cell? at h
 split at h
 ·split at h
  ·cases h
  ·rename_i hs
   simpa [Addr.add] using hs
 ·cases h
theorem wordCells : Tryz.prog.cellsOf 161 = 5 := by kernel_rfl
theorem keyCells : Tryz.prog.cellsOf 168 = 6 := by kernel_rfl
theorem boolCells : Tryz.prog.cellsOf 4 = 1 := by kernel_rfl
theorem strCells1 : Tryz.prog.cellsOf 9 = 1 := by kernel_rfl
/-- One word out of its five cells. -/
theorem word_of {n : Nat} {cs : List Value} {x : DataW H × List MemPlace} (hl : cs.length = 5) (h : DataW.trod enc Tryz.prog w 0 sp held n 161 cs = some x) :
  ∃ q : Wd, cs = wdCf q ∧ q.shade.size ≤ maxLen := by
 obtain ⟨xs, m, _, _, _, hlen, hall⟩ := DataW.trod_struct Tryz.underlying161 h
 match cs, hl with
 | [c0, c1, c2, c3, c4], _ =>
  obtain ⟨x0, h0⟩ := some_of_len (i := 0) hlen (by decide)
  obtain ⟨x1, h1⟩ := some_of_len (i := 1) hlen (by decide)
  obtain ⟨x2, h2⟩ := some_of_len (i := 2) hlen (by decide)
  obtain ⟨x3, h3⟩ := some_of_len (i := 3) hlen (by decide)
  obtain ⟨x4, h4⟩ := some_of_len (i := 4) hlen (by decide)
  obtain ⟨n0, e0, _, _⟩ := DataW.trod_int Tryz.underlying2 ((hall 0 _ rfl).trans h0)
  obtain ⟨n1, e1, _, _⟩ := DataW.trod_int Tryz.underlying2 ((hall 1 _ rfl).trans h1)
  obtain ⟨s2, e2, _, w2⟩ := DataW.trod_string Tryz.underlying9 ((hall 2 _ rfl).trans h2)
  obtain ⟨n3, e3, _, _⟩ := DataW.trod_int Tryz.underlying2 ((hall 3 _ rfl).trans h3)
  obtain ⟨b4, e4, _⟩ := DataW.trod_bool Tryz.underlying4 ((hall 4 _ rfl).trans h4)
  simp [intCells, strCells1, boolCells] at e0 e1 e2 e3 e4
  subst e0 e1 e2 e3 e4
  exact ⟨⟨n0, n1, s2, n3, b4⟩, rfl, w2⟩
theorem key_of {n : Nat} {cs : List Value} {x : DataW H × List MemPlace} (hl : cs.length = 6) (h : DataW.trod enc Tryz.prog w 0 sp held n 168 cs = some x) :
  ∃ q : Ky, cs = kyCf q ∧ (Lit.int .i64 q.fam).wf = true := by
 obtain ⟨xs, m, _, _, _, hlen, hall⟩ := DataW.trod_struct Tryz.underlying168 h
 match cs, hl with
 | [c0, c1, c2, c3, c4, c5], _ =>
  obtain ⟨x0, h0⟩ := some_of_len (i := 0) hlen (by decide)
  obtain ⟨x1, h1⟩ := some_of_len (i := 1) hlen (by decide)
  obtain ⟨x2, h2⟩ := some_of_len (i := 2) hlen (by decide)
  obtain ⟨x3, h3⟩ := some_of_len (i := 3) hlen (by decide)
  obtain ⟨x4, h4⟩ := some_of_len (i := 4) hlen (by decide)
  obtain ⟨x5, h5⟩ := some_of_len (i := 5) hlen (by decide)
  obtain ⟨n0, e0, _, _⟩ := DataW.trod_int Tryz.underlying2 ((hall 0 _ rfl).trans h0)
  obtain ⟨n1, e1, _, _⟩ := DataW.trod_int Tryz.underlying2 ((hall 1 _ rfl).trans h1)
  obtain ⟨n2, e2, _, w2⟩ := DataW.trod_int Tryz.underlying2 ((hall 2 _ rfl).trans h2)
  obtain ⟨b3, e3, _⟩ := DataW.trod_bool Tryz.underlying4 ((hall 3 _ rfl).trans h3)
  obtain ⟨n4, e4, _, _⟩ := DataW.trod_int Tryz.underlying2 ((hall 4 _ rfl).trans h4)
  obtain ⟨n5, e5, _, _⟩ := DataW.trod_int Tryz.underlying2 ((hall 5 _ rfl).trans h5)
  simp [intCells, boolCells] at e0 e1 e2 e3 e4 e5
  subst e0 e1 e2 e3 e4 e5
  exact ⟨⟨n0, n1, n2, b3, n4, n5⟩, rfl, w2⟩
/-- A slice whose elements are known one by one. -/
theorem slice_of {α : Type} {cf : α → List Value} {K : Nat} {t e : TypeId} {n : Nat} {cs : List Value} {x : DataW H × List MemPlace} (Ok : α → Prop) (hK : ∀ x, (cf x).length = K) (hK0 : 0 < K) (ht : Tryz.prog.underlying t = some (.slice e)) (hC : Tryz.prog.cellsOf e = K)
  (hof : ∀ (m : Nat) (cs : List Value) (x : DataW H × List MemPlace), cs.length = K → DataW.trod enc Tryz.prog w 0 (fun _ => true) held m e cs = some x → ∃ q : α, cs = cf q ∧ Ok q)
  (h : DataW.trod enc Tryz.prog w 0 (fun _ => true) held n t cs = some x) : ∃ (p : Option Addr) (cap : Nat) (l : List α), cs = [.slice p l.length cap] ∧ LIn cf w p l ∧ (∀ q ∈ l, Ok q) ∧ l.length ≤ maxLen := by
 rcases open_slice ht h with ⟨rfl, _⟩ | ⟨a, len, cap, m, n', D, Pl, rfl, _, hl, hm, hmm, _, hx⟩
 ·exact ⟨none, 0, [], rfl, .inl rfl, by simp, by simp [maxLen]⟩
 ·have hlm : len ≤ m := by rw [hmm]; simpa using hl
  have each : ∀ k, k ≤ len → ∃ l : List α, l.length = k ∧ (∀ (i : Nat) (q : α), l[i]? = some q → ∀ j, j < K → w.cell? (a.add (i * K + j)) = (cf q)[j]?) ∧ ∀ q ∈ l, Ok q := by
   intro k
   induction k with
   | zero => exact fun _ => ⟨[], rfl, fun i q h => by simp at h, by simp⟩
   | succ k ih =>
    intro hk
    obtain ⟨l, h1, h2, h3⟩ := ih (by omega)
    obtain ⟨cs', g1, g2⟩ := hx k (by omega)
    rw [hC] at g1
    obtain ⟨_, hcl, hat⟩ := World.cells?_some g1
    obtain ⟨q, rfl, ho⟩ := hof _ _ _ hcl g2
    refine ⟨l ++ [q], by simp [h1], fun i q' hi j hj => ?_, fun q' hq => ?_⟩
    ·by_cases hik : i < k
     ·rw [List.getElem?_append_left (by omega)] at hi
      exact h2 i q' hi j hj
     ·have hik2 : i = k := by
       have := (List.getElem?_eq_some_iff.1 hi).1
       rw [List.length_append, h1] at this
       simp at this
       omega
      subst hik2
      rw [List.getElem?_append_right (by omega), h1, Nat.sub_self] at hi
      obtain rfl : q = q' := by simpa using hi
      rw [← Go.Deep.add_add]
      exact hat j hj
    ·rcases List.mem_append.1 hq with h | h
     ·exact h3 q' h
     ·obtain rfl : q' = q := by simpa using h
      exact ho
  obtain ⟨l, h1, h2, h3⟩ := each len (Nat.le_refl _)
  subst h1
  refine ⟨some a, cap, l, rfl, ?_, h3, Nat.le_trans hl hm⟩
  cases l with
  | nil => exact .inl rfl
  | cons y r =>
   right
   have hy := h2 0 y rfl 0 hK0
   rw [List.getElem?_eq_getElem (by rw [hK]; exact hK0)] at hy
   rw [Nat.zero_mul, Nat.add_zero] at hy
   have hsp := addr_of_cell hy
   obtain ⟨b, o, spt⟩ := a
   obtain rfl : spt = none := hsp
   refine ⟨b, o, rfl, rangeAt_of_elems hK _ _ fun i q hi j v hv => ?_⟩
   have hj : j < K := by have := (List.getElem?_eq_some_iff.1 hv).1; rw [hK] at this; exact this
   have h := h2 i q hi j hj
   rw [hv, Addr.add_mid] at h
   rw [Nat.add_assoc]
   exact h
theorem grantCells : Tryz.prog.cellsOf 26 = 4 := by kernel_rfl
def GrArgF (w : World) (h : GH) (g : Gr) : Prop := GrArg w h g ∧ GrWf g
theorem grantArg_of {r : Reach} {b0 : Nat} {v : Value} {d : DataW H} {p : List MemPlace} (hv : Value.okWide Tryz.prog w r b0 26 v) (h : DataW.Trod enc Tryz.prog w 0 (fun _ => true) held 26 v d p) : ∃ (h : GH) (g : Gr), v = grV g.now h ∧ GrArgF w h g := by
 obtain ⟨v0, v1, v2, v3, y0, y1, y2, y3, n, rfl, _, _, h0, h1, h2, h3⟩ := Go.Joins.open_agg4 Tryz.underlying26 (by kernel_rfl) grantCells hv h
 obtain ⟨now, e0, _, _⟩ := DataW.trod_int Tryz.underlying2 h0
 obtain ⟨p1, c1, ws, e1, l1, k1, m1⟩ := slice_of (cf := wdCf) (fun x => x.shade.size ≤ maxLen) wdCf_len (by decide) Tryz.underlying22 wordCells (fun m cs x hl h => word_of hl h) h1
 obtain ⟨p2, c2, ks, e2, l2, k2, m2⟩ := slice_of (cf := kyCf) (fun x => (Lit.int .i64 x.fam).wf = true) kyCf_len (by decide) Tryz.underlying23 keyCells (fun m cs x hl h => key_of hl h) h2
 obtain ⟨p3, c3, ds, e3, l3, k3, m3⟩ := slice_of (cf := inCf) (fun x => (Lit.int .i64 x).wf = true) inCf_len (by decide) Tryz.underlying24 intCells (fun m cs x hl h => by
  obtain ⟨n, e, _, wf⟩ := DataW.trod_int Tryz.underlying2 h
  exact ⟨n, e, wf⟩) h3
 simp only [List.cons.injEq, and_true] at e0 e1 e2 e3
 subst e0 e1 e2 e3
 exact ⟨⟨p1, ws.length, c1, p2, ks.length, c2, p3, ds.length, c3⟩, ⟨now, ws, ks, ds⟩, rfl, ⟨⟨⟨rfl, rfl, rfl⟩, l1, l2, l3⟩, k1, m1, m2, m3⟩, k2, k3⟩
end
end Go.Proofs.YtjccnjfdeedneaaGreat
