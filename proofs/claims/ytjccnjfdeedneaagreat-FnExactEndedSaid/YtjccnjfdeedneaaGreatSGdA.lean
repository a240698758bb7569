/- Laws for the walk on rows of bytes that the call itself made: make, copy from a string, back to a string, append. Over any program. Rows of structs: what lies in them, what a store of one struct does, a row that make laid. Over any program. Ranges and proofs, by the model. What came of a call that only made new memory. Grants as data: words, keys, the dead; where they lie; which are right. Which keys open; what is found in a grant. Whole numbers as floats: what they read as, how they compare, add, and go back. Over any program. A small letter, by the program. Ranges and proofs, by the program. A region that draws its order, whose callees make new memory and write nothing old: one walk in the text's order, over all worlds that extend one. Over any program. What is kept, but for the blocks of a ledger. Words, keys, numbers: what the loader says of them. -/
import Derived.WalkKit
import Derived.WalkSpells
import Derived.WalkLawsBesides
import Derived.Lib.Hide
import Derived.OwnWalk
import Derived.Below
import Derived.Laws.CopyOwn
import Derived.Lib.BufferWrite
import Derived.Lib.SlBytesRow
import Derived.Lib.BufferRead
import Derived.Deep.MidRow
import Derived.Test.YtjccnjfdeedneaaGreatRows
import Derived.BigQuiet
import Derived.Outline
import Derived.Handy
import Derived.Deep.Draws
import Derived.Deep.RegionHeld3
import Derived.Deep.QuietTactic
namespace Go.Proofs.YtjccnjfdeedneaaGreat
open Go Go.RowKit Go.Lib

/-- Block g is a row of type E whose cells are l. -/
def Row (w : World) (g : Nat) (E : TypeId) (l : List Value) : Prop := w.heap[g]? = some (.cells l.toArray E (0, 0))

theorem Row.below {w w' : World} {B g : Nat} {E : TypeId} {l : List Value} (h : Row w g E l) (hb : Below B w w') (hg : g < B) : Row w' g E l := by
 unfold Row at *
 rw [hb.block g hg]
 exact h
theorem Row.lt {w : World} {g : Nat} {E : TypeId} {l : List Value} (h : Row w g E l) : g < w.heap.size := (Array.getElem?_eq_some_iff.1 h).1
theorem Row.cell {w : World} {g : Nat} {E : TypeId} {l : List Value} (h : Row w g E l) (j : Nat) : w.cell? ⟨g, j, none⟩ = l[j]? := by
 unfold Row at h
 simp [World.cell?, h]
theorem Row.free {w : World} {g : Nat} {E : TypeId} {l : List Value} (h : Row w g E l) (j : Nat) : w.frozen? ⟨g, j, none⟩ = false := by
 unfold Row at h
 simp [World.frozen?, h]
theorem Row.set {w : World} {g : Nat} {E : TypeId} {l : List Value} (h : Row w g E l) (j : Nat) (v : Value) : Row (w.setCell ⟨g, j, none⟩ v) g E (l.set j v) := by
 have h1 := Lib.heap_setCell_same (i := j) h v
 unfold Row
 rw [h1]
 simp
theorem Row.bytes {w : World} {g : Nat} {E : TypeId} {s : ByteArray} {r : List Value} (h : Row w g E (byteCells s.data.toList ++ r)) : Bytes w g 0 s := fun i hi => by
 have h1 := h.cell (0 + i)
 rw [h1, Nat.zero_add, List.getElem?_append_left (by rw [byteCells_length]; simpa using hi)]
 simp [byteCells]
 exact ⟨s[i], by simp [ByteArray.getElem_eq_getElem_data], rfl⟩

section
variable {P : Program} {w : World} {ops : Array Oper} {rest : List Oper} {o : Oper} {a : Act} {Q : Exit → Act → World → Prop}

theorem wpList_make_bytes (hgd : o.guard = none) (l c : Operand) (t : TypeId) (ho : o.op = .makeSlice t l c) (E : TypeId) (i : TypeInfo) (z : Value)
  (h1 : P.underlying t = some (.slice E)) (h2 : P.info? E = some i) (h3 : i.zero = some z) (h4 : i.size = 1) (h5 : i.bytes = 1) (hz : z.cells = #[z])
  (kl kc : IntKind) (L C : Int) (n : Nat) (hl : a.eval l = .int kl L) (hc : a.eval c = .int kc C) (hL : L = (n : Int)) (hC : C = (n : Int)) (hn : n ≤ 140737488355328)
  (B : Nat) (w0 : World) (hb : Below B w0 w) (hB : B ≤ w.heap.size)
  (hK : ∀ w' g, B ≤ g → Row w' g E (List.replicate n z) → Below B w0 w' → g < w'.heap.size → wpList P ops Q rest (a.put o.dst (.slice (some ⟨g, 0, none⟩) n n)) w') :
  wpList P ops Q (o :: rest) a w := by
 refine wpList_plain hgd fun K hK' => ?_
 have hrun := run_make (P := P) w t E i z h1 h2 h3 kl kc (n : Int) (n : Int) (by omega) (by omega) (by rw [h5]; omega) (by omega)
 subst hL
 subst hC
 unfold Oper.wp
 simp [execOp, ho, hl, hc, hrun, Result.andThen]
 refine hK' _ _ (hK _ _ hB ?_ (hb.alloc hB _) (by simp))
 unfold Row
 rw [heap_alloc_new, h4, Nat.mul_one, hz]
 congr 2
 apply Array.toList_inj.1
 rw [toList_madeCells_one]

theorem wpList_copy_str (hgd : o.guard = none) (d s : Operand) (dT sT : TypeId) (ho : o.op = .call { callee := .builtin .copy, args := #[d, s], argTypes := #[dT, sT] })
  (E : TypeId) (hu : P.underlying dT = some (.slice E)) (hsz : (P.info? E).map (·.size) = some 1)
  (dp : Option Addr) (dLen dCap : Nat) (t : ByteArray) (hd : a.eval d = .slice dp dLen dCap) (hs : a.eval s = .string t)
  (g off : Nat) (cur : List Value) (hg : Row w g E cur) (hle : t.size ≤ dLen) (hpos : 0 < t.size → dp = some ⟨g, off, none⟩) (hfit : off + t.size ≤ cur.length)
  (B : Nat) (w0 : World) (hb : Below B w0 w) (hBg : B ≤ g)
  (hK : ∀ w', Row w' g E (splice cur off (byteCells t.data.toList)) → Below B w0 w' → g < w'.heap.size → wpList P ops Q rest (a.put o.dst (goInt t.size)) w') :
  wpList P ops Q (o :: rest) a w := by
 refine wpList_plain hgd fun K hK' => ?_
 have hlen : (byteCells t.data.toList).length = t.size := by rw [byteCells_length, ← size_eq]
 by_cases h0 : t.size = 0
 ·have hrun := run_copy_empty_string (P := P) w dT sT o.type E dp dLen dCap t hu (by cases hq : P.info? E <;> simp [hq] at hsz ⊢) h0
  have he : byteCells t.data.toList = [] := List.eq_nil_of_length_eq_zero (by omega)
  unfold Oper.wp
  simp [execOp, ho, resolve, invoke, builtin, hd, hs, hrun, Result.andThen]
  have h := hK w (by rw [he]; simpa [splice] using hg) hb hg.lt
  rw [h0] at h
  exact hK' _ _ h
 ·obtain rfl := hpos (by omega)
  have hrun := run_copy_row_string (P := P) w dT sT o.type E g off dLen dCap t cur.toArray E hu hsz hg hle (by simpa using hfit)
  unfold Oper.wp
  simp [execOp, ho, resolve, invoke, builtin, hd, hs, hrun, Result.andThen]
  refine hK' _ _ (hK _ ?_ (below_setRow hb hBg _) (by have := hg.lt; simp [World.setRow]; omega))
  unfold Row
  have := setRow_heap w g cur.toArray (cur.toArray.toList.take off ++ byteCells t.data.toList ++ cur.toArray.toList.drop (off + t.size)).toArray E _ hg
  simpa [splice, hlen] using this

theorem run_slice_tail (T E : TypeId) (hu : P.underlying T = some (.slice E)) (hsz : ∀ w, (Go.sizeOf E).run P w = .ok 1 w) (g k m : Nat) :
  ∃ dp, (0 < m → dp = some (⟨g, k, none⟩ : Addr)) ∧ ∀ w, (Instr.slice T (.slice (some ⟨g, 0, none⟩) (k + m) (k + m)) (some (.int .i64 (k : Int))) none none).run P w = .ok (.slice dp m m) w := by
 have he : P.elem T = E := by simp [Program.elem, hu]
 have hu' : P.underlying T = some (.slice (P.elem T)) := by rw [he]; exact hu
 have e1 : k + m - k = m := by omega
 refine ⟨if k + m = k then some ⟨g, 0, none⟩ else some ⟨g, k, none⟩, fun h => if_neg (by omega), fun w => ?_⟩
 rw [run_slice_l w T _ _ _ hu' .i64 k (by omega) (by omega), he, hsz]
 by_cases h : m = 0
 ·subst h
  simp [Result.andThen, sliced]
 ·simp [Result.andThen, sliced, e1, h, Addr.add]
  exact fun e => e.symm

theorem wpList_slice_tail (hgd : o.guard = none) (x l : Operand) (T E : TypeId) (ho : o.op = .slice T x (some l) none none) (hu : P.underlying T = some (.slice E)) (hsz : ∀ w, (Go.sizeOf E).run P w = .ok 1 w)
  (g k m n c : Nat) (K : Int) (hx : a.eval x = .slice (some ⟨g, 0, none⟩) n c) (hl : a.eval l = .int .i64 K) (hK0 : K = (k : Int)) (hn : n = k + m) (hc : c = k + m)
  (hK : ∀ dp, (0 < m → dp = some (⟨g, k, none⟩ : Addr)) → wpList P ops Q rest (a.put o.dst (.slice dp m m)) w) : wpList P ops Q (o :: rest) a w := by
 subst hn; subst hc; subst hK0
 obtain ⟨dp, hdp, hrun⟩ := run_slice_tail T E hu hsz g k m
 refine wpList_plain hgd fun K hK' => ?_
 unfold Oper.wp
 have hu' : P.underlying T = some (.slice (P.elem T)) := by simp [Program.elem, hu]
 simp [execOp, ho, hx, hl, run_sliceAt_slice w T _ _ _ _ hu', hrun, Result.andThen]
 exact hK' _ _ (hK dp hdp)

theorem wpList_bytes_str (hgd : o.guard = none) (x : Operand) (src dst E : TypeId) (ho : o.op = .convert src dst x) (hs : P.underlying src = some (.slice E)) (he : P.underlying E = some (.int .u8)) (hd : P.underlying dst = some .string)
  (g n cap : Nat) (s : ByteArray) (hx : a.eval x = .slice (some ⟨g, 0, none⟩) n cap) {E' : TypeId} (r : List Value) (hg : Row w g E' (byteCells s.data.toList ++ r)) (hn : n = s.size)
  (hK : wpList P ops Q rest (a.put o.dst (.string s)) w) : wpList P ops Q (o :: rest) a w := by
 refine wpList_plain hgd fun K hK' => ?_
 subst hn
 have hrun := run_convert_whole (P := P) w src E dst hs he hd g 0 s hg.bytes cap
 unfold Oper.wp
 simp [execOp, ho, hx, hrun, Result.andThen]
 exact hK' _ _ hK

theorem wpList_arr_head (hgd : o.guard = none) (x h : Operand) (T E : TypeId) (ho : o.op = .slice T x none (some h) none) (N : Nat) (hu : P.underlying T = some (.array N E)) (hsz : ∀ w, (Go.sizeOf E).run P w = .ok 1 w)
  (g m : Nat) (H : Int) (hx : a.eval x = .pointer (some ⟨g, 0, none⟩)) (hh : a.eval h = .int .i64 H) (hH : H = (m : Int)) (hm : m ≤ N)
  (hK : wpList P ops Q rest (a.put o.dst (.slice (some ⟨g, 0, none⟩) m N)) w) : wpList P ops Q (o :: rest) a w := by
 subst hH
 have he : P.elem T = E := by simp [Program.elem, hu]
 have hn : P.arrayLen T = N := by simp [Program.arrayLen, hu]
 refine wpList_plain hgd fun K hK' => ?_
 have hrun := run_sliceAt_array_h (P := P) w T ⟨g, 0, none⟩ (by rw [he, hn]; exact hu) .i64 m (by omega) (by rw [hn]; omega)
 rw [he, hsz, hn] at hrun
 unfold Oper.wp
 simp [execOp, ho, hx, hh, hrun, Result.andThen, slicedAt, Addr.add]
 exact hK' _ _ hK

theorem wpList_arr_all (hgd : o.guard = none) (x : Operand) (T E : TypeId) (ho : o.op = .slice T x none none none) (N : Nat) (hu : P.underlying T = some (.array N E)) (hsz : ∀ w, (Go.sizeOf E).run P w = .ok 1 w)
  (g : Nat) (hx : a.eval x = .pointer (some ⟨g, 0, none⟩))
  (hK : wpList P ops Q rest (a.put o.dst (.slice (some ⟨g, 0, none⟩) N N)) w) : wpList P ops Q (o :: rest) a w := by
 have he : P.elem T = E := by simp [Program.elem, hu]
 have hn : P.arrayLen T = N := by simp [Program.arrayLen, hu]
 refine wpList_plain hgd fun K hK' => ?_
 have hrun := run_sliceAt_array_all (P := P) w T ⟨g, 0, none⟩ (by rw [he, hn]; exact hu)
 rw [he, hsz, hn] at hrun
 unfold Oper.wp
 simp [execOp, ho, hx, hrun, Result.andThen, slicedAt, Addr.add]
 exact hK' _ _ hK

theorem wpList_own_str (hgd : o.guard = none) (x : Operand) (src dst E : TypeId) (ho : o.op = .convert src dst x) (hs : P.underlying src = some (.slice E)) (he : P.underlying E = some (.int .u8)) (hd : P.underlying dst = some .string)
  {base n : Nat} (v : Value) (l : List UInt8) (hx : a.eval x = v) (hown : w.ownsRow base E 1 v n (byteCells l))
  (hK : wpList P ops Q rest (a.put o.dst (.string ⟨l.toArray⟩)) w) : wpList P ops Q (o :: rest) a w := by
 refine wpList_plain hgd fun K hK' => ?_
 have hl : l.length = n := by have := hown.1; rw [byteCells_length] at this; omega
 rcases hown.2 with ⟨rfl, h0⟩ | ⟨g, cap, cur, rfl, hBg, hg, hnc, hcm, hcs, htk⟩
 ·subst h0
  obtain rfl : l = [] := List.eq_nil_of_length_eq_zero hl
  have hrun := run_convert_nil_bytes (P := P) w src dst E 0 hs he hd
  unfold Oper.wp
  simp [execOp, ho, hx, hrun, Result.andThen]
  exact hK' _ _ hK
 ·have hR : Row w g E (byteCells (⟨l.toArray⟩ : ByteArray).data.toList ++ cur.toList.drop n) := by
   unfold Row
   rw [hg]
   congr 2
   apply Array.toList_inj.1
   have e := List.take_append_drop n cur.toList
   rw [show n = n * 1 from (Nat.mul_one n).symm, htk] at e
   simpa using e.symm
  have hrun := run_convert_whole (P := P) w src E dst hs he hd g 0 ⟨l.toArray⟩ hR.bytes cap
  rw [show (⟨l.toArray⟩ : ByteArray).size = n from by rw [← hl]; rfl] at hrun
  unfold Oper.wp
  simp [execOp, ho, hx, hrun, Result.andThen]
  exact hK' _ _ hK
end

theorem splice_two (z : Value) (s t : ByteArray) :
  splice (splice (List.replicate (s.size + t.size) z) 0 (byteCells s.data.toList)) s.size (byteCells t.data.toList) = byteCells (s ++ t).data.toList ++ [] := by
 have h1 : (byteCells s.data.toList).length = s.size := by rw [byteCells_length, ← size_eq]
 have h2 : (byteCells t.data.toList).length = t.size := by rw [byteCells_length, ← size_eq]
 have e1 : splice (List.replicate (s.size + t.size) z) 0 (byteCells s.data.toList) = byteCells s.data.toList ++ List.replicate t.size z := by
  simp [splice, h1]
 rw [e1, splice, h2, ← h1, List.take_left, List.drop_eq_nil_of_le (by simp [h1])]
 simp [← byteCells_append]
end Go.Proofs.YtjccnjfdeedneaaGreat
/- Rows of structs: what lies in them, what a store of one struct does, a row that make laid. Over any program. -/
namespace Go.Proofs.YtjccnjfdeedneaaGreat
open Go Go.RowKit Go.Lib
set_option linter.unusedVariables false

section
variable {α : Type} {cf : α → List Value} {K : Nat}
theorem flat_len (hK : ∀ x, (cf x).length = K) : ∀ l : List α, (l.flatMap cf).length = l.length * K
 | [] => by simp
 | x :: r => by rw [List.flatMap_cons, List.length_append, flat_len hK r, hK, List.length_cons, Nat.succ_mul, Nat.add_comm]
theorem flat_get (hK : ∀ x, (cf x).length = K) : ∀ (l : List α) (i : Nat) (x : α), l[i]? = some x → ∀ j v, (cf x)[j]? = some v → (l.flatMap cf)[i * K + j]? = some v
 | [], i, x, h, _, _, _ => by simp at h
 | y :: r, 0, x, h, j, v, hv => by
  obtain rfl : y = x := by simpa using h
  rw [List.flatMap_cons, Nat.zero_mul, Nat.zero_add, List.getElem?_append_left (List.getElem?_eq_some_iff.1 hv).1]
  exact hv
 | y :: r, i + 1, x, h, j, v, hv => by
  rw [List.flatMap_cons, Nat.succ_mul, List.getElem?_append_right (by rw [hK]; omega), hK, show i * K + K + j - K = i * K + j by omega]
  exact flat_get hK r i x (by simpa using h) j v hv
theorem rangeAt_elem (hK : ∀ x, (cf x).length = K) {w : World} {b o : Nat} {l : List α} (h : w.rangeAt b o (l.flatMap cf)) {i : Nat} {x : α} (hi : l[i]? = some x) : w.rangeAt b (o + i * K) (cf x) := fun j v hv => by
 rw [Nat.add_assoc]
 exact h _ _ (flat_get hK l i x hi j v hv)
end
theorem rangeAt_append {w : World} {b o : Nat} {cs ds : List Value} (h1 : w.rangeAt b o cs) (h2 : w.rangeAt b (o + cs.length) ds) : w.rangeAt b o (cs ++ ds) := fun j v hv => by
 by_cases hj : j < cs.length
 ·rw [List.getElem?_append_left hj] at hv
  exact h1 j v hv
 ·rw [List.getElem?_append_right (by omega)] at hv
  have h := h2 _ v hv
  rwa [show o + cs.length + (j - cs.length) = o + j by omega] at h
theorem rangeAt_of_elems {α : Type} {cf : α → List Value} {K : Nat} (hK : ∀ x, (cf x).length = K) {w : World} {b : Nat} : ∀ (l : List α) (o : Nat), (∀ (i : Nat) (x : α), l[i]? = some x → w.rangeAt b (o + i * K) (cf x)) → w.rangeAt b o (l.flatMap cf)
 | [], _, _ => fun j v hv => by simp at hv
 | x :: r, o, h => by
  rw [List.flatMap_cons]
  refine rangeAt_append (by simpa using h 0 x rfl) ?_
  rw [hK]
  refine rangeAt_of_elems hK r (o + K) fun i y hi => ?_
  have h1 := h (i + 1) y (by simpa using hi)
  rwa [show o + (i + 1) * K = o + K + i * K by rw [Nat.succ_mul]; omega] at h1
theorem rangeAt_below {w w' : World} {B b o : Nat} {cs : List Value} (h : w.rangeAt b o cs) (hb : Below B w w') (hB : b < B) : w'.rangeAt b o cs := fun j v hv =>
 (hb.cell (p := ⟨b, o + j, none⟩) hB).trans (h j v hv)
theorem rangeAt_lt {w : World} {b o : Nat} {cs : List Value} (h : w.rangeAt b o cs) (hc : 0 < cs.length) : b < w.heap.size :=
 World.block_lt_of_cell? w _ (h 0 cs[0] (List.getElem?_eq_getElem hc))
theorem rangeAt_later {w w' : World} {b o : Nat} {cs : List Value} (h : w.rangeAt b o cs) (hb : Below w.heap.size w w') : w'.rangeAt b o cs := fun j v hv => by
 have h1 := h j v hv
 exact (hb.cell (p := ⟨b, o + j, none⟩) (World.block_lt_of_cell? w _ h1)).trans h1

/-- Some cells of a list are written anew. -/
def putCells (l : List Value) (o : Nat) : List Value → List Value
 | [] => l
 | v :: r => putCells (l.set o v) (o + 1) r
theorem putCells_length : ∀ (vs : List Value) (l : List Value) (o : Nat), (putCells l o vs).length = l.length
 | [], _, _ => rfl
 | v :: r, l, o => by rw [putCells, putCells_length r, List.length_set]
theorem putCells_mid : ∀ (vs : List Value) (pre old post : List Value), old.length = vs.length → putCells (pre ++ (old ++ post)) pre.length vs = pre ++ (vs ++ post)
 | [], pre, old, post, h => by
  obtain rfl : old = [] := List.eq_nil_of_length_eq_zero h
  rfl
 | v :: r, pre, [], post, h => by simp at h
 | v :: r, pre, x :: old, post, h => by
  have h1 := putCells_mid r (pre ++ [v]) old post (by simpa using h)
  rw [putCells, List.set_append_right _ _ (Nat.le_refl _), Nat.sub_self]
  simp only [List.cons_append, List.set_cons_zero, List.length_append, List.append_assoc, List.nil_append] at h1 ⊢
  exact h1
theorem Row.setCells {g : Nat} {E : TypeId} : ∀ (vs : List Value) {w : World} {l : List Value} (o : Nat), Row w g E l → Row (w.setCells g o vs) g E (putCells l o vs)
 | [], _, _, _, h => h
 | v :: r, _, _, o, h => Row.setCells r (o + 1) (h.set o v)
theorem below_setCells {B g : Nat} {w0 : World} (hB : B ≤ g) : ∀ (vs : List Value) {w : World} (o : Nat), Below B w0 w → Below B w0 (w.setCells g o vs)
 | [], _, _, h => h
 | v :: r, _, o, h => below_setCells hB r (o + 1) (h.setCell (p := ⟨g, o, none⟩) hB v)
theorem Row.there {w : World} {g : Nat} {E : TypeId} {l : List Value} (h : Row w g E l) (o n : Nat) (hn : o + n ≤ l.length) : w.there g o n := fun j hj =>
 ⟨by rw [h.cell, List.getElem?_eq_getElem (by omega)]; rfl, h.free _⟩
theorem Row.range {w : World} {g : Nat} {E : TypeId} {l : List Value} (h : Row w g E l) : w.rangeAt g 0 l := fun j v hv => by
 rw [h.cell, Nat.zero_add]
 exact hv
theorem Row.of_owns {w : World} {base g n cap size : Nat} {E : TypeId} {xs : List Value} (h : w.ownsRow base E size (.slice (some ⟨g, 0, none⟩) n cap) n xs) (hc : cap = n) : Row w g E xs := by
 subst hc
 obtain ⟨h1, ⟨h2, _⟩ | ⟨g', cap', cur, h2, _, h3, _, _, h6, h7⟩⟩ := h
 ·cases h2
 ·simp only [Value.slice.injEq, Option.some.injEq, Addr.mk.injEq] at h2
  obtain ⟨⟨rfl, _, _⟩, _, rfl⟩ := h2
  have e : cur.toList = xs := by rw [← h7, List.take_of_length_le (by simp; omega)]
  unfold Row
  rw [h3, ← e]
end Go.Proofs.YtjccnjfdeedneaaGreat
/- Ranges and proofs, by the model. -/
namespace Go.Proofs.YtjccnjfdeedneaaGreat
open Go Go.RowKit Go.Lib
set_option linter.unusedVariables false

def isB (n lo hi : Int) : Bool := decide (lo ≤ n) && decide (n ≤ hi)
theorem is_spec (n lo hi : Int) (w : World) : Calls Tryz.prog 102 #[.int .i64 n, .int .i64 lo, .int .i64 hi] w fun e w' => e = .returned (.bool (isB n lo hi)) ∧ w = w' := by
 by_cases h1 : lo ≤ n
 ·have d : decide (lo ≤ n) = true := decide_eq_true h1
  by_cases h2 : n ≤ hi
  ·have d2 : decide (n ≤ hi) = true := decide_eq_true h2
   go_enter Tryz.func102, Tryz.ntmps102
   go_wp2_with fail
   go_ret
   exact ⟨by unfold isB; rw [d, d2]; rfl, rfl⟩
  ·have d2 : decide (n ≤ hi) = false := decide_eq_false h2
   go_enter Tryz.func102, Tryz.ntmps102
   go_wp2_with fail
   go_ret
   exact ⟨by unfold isB; rw [d, d2]; rfl, rfl⟩
 ·have d : decide (lo ≤ n) = false := decide_eq_false h1
  go_enter Tryz.func102, Tryz.ntmps102
  go_wp2_with fail
  go_ret
  exact ⟨by unfold isB; rw [d]; rfl, rfl⟩

/-- May a text be a proof? -/
def proofB (t : ByteArray) : Bool := decide (1 ≤ t.size ∧ t.size ≤ 8 ∧ ∀ i, (h : i < t.size) → 97 ≤ t[i].toNat ∧ t[i].toNat ≤ 122)
def ProofRel (s : ByteArray) (i : Value) : Prop := ∃ k : Nat, k ≤ s.size ∧ i = .int .i64 k ∧ ∀ j, (h : j < s.size) → j < k → 97 ≤ s[j].toNat ∧ s[j].toNat ≤ 122
set_option maxHeartbeats 400000 in
theorem proof_spec (s : ByteArray) (w : World) (hs : s.size ≤ maxLen) : Calls Tryz.prog 103 #[.string s] w fun e w' => e = .returned (.bool (proofB s)) ∧ w = w' := by
 unfold maxLen at hs
 go_enter Tryz.func103, Tryz.ntmps103
 go_wp2_with fail
 go_loop [3] (ProofRel s) (fun i => s.size - (RowKit.intOf i).toNat)
 case atStart => exact ⟨0, by omega, rfl, fun j _ h => by omega⟩
 case round =>
  obtain ⟨k, hk, rfl, hr⟩ := hrel
  have HR := Lib.hid hr
  clear hr
  by_cases hlt : k < s.size
  ·by_cases h1 : s[k].toNat < 97
   ·go_wp2_with fail
    go_ret
    exact ⟨by rw [show proofB s = false from decide_eq_false fun h => by have := (h.2.2 k hlt).1; omega]; rfl, rfl⟩
   ·by_cases h2 : 122 < s[k].toNat
    ·go_wp2_with fail
     go_ret
     exact ⟨by rw [show proofB s = false from decide_eq_false fun h => by have := (h.2.2 k hlt).2; omega]; rfl, rfl⟩
    ·go_wp2_with fail
     go_round
     case rel =>
      refine ⟨k + 1, by omega, by go_num, fun j hj hjk => ?_⟩
      by_cases e : j = k
      ·subst e; exact ⟨by omega, by omega⟩
      ·exact HR.out j hj (by omega)
     case measure => simp [RowKit.intOf]; omega
  ·obtain rfl : k = s.size := by omega
   by_cases h1 : s.size < 1
   ·go_wp2_with fail
    go_ret
    exact ⟨by rw [show proofB s = false from decide_eq_false fun h => by have := h.1; omega]; rfl, rfl⟩
   ·by_cases h2 : 8 < s.size
    ·have h3 : decide ((s.size : Int) ≤ 8) = false := decide_eq_false (by omega)
     go_wp2_with fail
     go_ret
     exact ⟨by rw [show proofB s = false from decide_eq_false fun h => by have := h.2.1; omega]; rfl, rfl⟩
    ·have h3 : decide ((s.size : Int) ≤ 8) = true := decide_eq_true (by omega)
     have h4 : decide (1 ≤ (s.size : Int)) = true := decide_eq_true (by omega)
     go_wp2_with fail
     go_ret
     exact ⟨by rw [show proofB s = true from decide_eq_true ⟨by omega, by omega, fun i h => HR.out i h h⟩]; rfl, rfl⟩

theorem proof_at {t : ByteArray} {b : Bool} {w : World} (h : proofB t = b) (ht : t.size ≤ maxLen) : Calls Tryz.prog 103 #[.string t] w fun e w' => e = .returned (.bool b) ∧ w' = w := by
 subst h
 exact (proof_spec t w ht).mono fun _ _ h => ⟨h.1, h.2.symm⟩
theorem is_at {n lo hi : Int} {b : Bool} {w : World} (h : isB n lo hi = b) : Calls Tryz.prog 102 #[.int .i64 n, .int .i64 lo, .int .i64 hi] w fun e w' => e = .returned (.bool b) ∧ w' = w := by
 subst h
 exact (is_spec n lo hi w).mono fun _ _ h => ⟨h.1, h.2.symm⟩
end Go.Proofs.YtjccnjfdeedneaaGreat
/- What came of a call that only made new memory. -/
namespace Go.Proofs.YtjccnjfdeedneaaGreat
open Go Go.RowKit
def Ret (v : Value) (w : World) (e : Ending) (w' : World) : Prop := e = .returned v ∧ Below w.heap.size w w'
theorem below_drewN {B : Nat} {a w : World} (h : Below B a w) (n : Nat) : Below B a (w.drewN n) := ⟨h.os, h.tape, h.output, h.size, h.block⟩
end Go.Proofs.YtjccnjfdeedneaaGreat
/- Grants as data: words, keys, the dead; where they lie; which are right. -/
namespace Go.Proofs.YtjccnjfdeedneaaGreat
open Go Go.RowKit Go.Lib
set_option linter.unusedVariables false

/-- In block b from o on lie the items l; cf is what cells one has. -/
def LAt {α : Type} (cf : α → List Value) (w : World) (b o : Nat) (l : List α) : Prop := w.rangeAt b o (l.flatMap cf)
def LIn {α : Type} (cf : α → List Value) (w : World) (p : Option Addr) (l : List α) : Prop := l = [] ∨ ∃ b o, p = some ⟨b, o, none⟩ ∧ LAt cf w b o l
theorem LAt.later {α : Type} {cf : α → List Value} {w w1 : World} {b o : Nat} {l : List α} (h : LAt cf w b o l) (hb : Below w.heap.size w w1) : LAt cf w1 b o l := rangeAt_later h hb
theorem LAt.below {α : Type} {cf : α → List Value} {w w' : World} {B b o : Nat} {l : List α} (h : LAt cf w b o l) (hb : Below B w w') (hB : b < B) : LAt cf w' b o l := rangeAt_below h hb hB
theorem LIn.later {α : Type} {cf : α → List Value} {w w1 : World} {p : Option Addr} {l : List α} (h : LIn cf w p l) (hb : Below w.heap.size w w1) : LIn cf w1 p l := by
 rcases h with h | ⟨b, o, h1, h2⟩
 ·exact .inl h
 ·exact .inr ⟨b, o, h1, h2.later hb⟩
theorem LIn.some {α : Type} {cf : α → List Value} {w : World} {p : Option Addr} {l : List α} (h : LIn cf w p l) {k : Nat} {x : α} (hk : l[k]? = some x) : ∃ b o, p = some ⟨b, o, none⟩ ∧ LAt cf w b o l := by
 rcases h with rfl | h
 ·simp at hk
 ·exact h
theorem LIn.of {α : Type} {cf : α → List Value} {w : World} {b o : Nat} {l : List α} (h : LAt cf w b o l) : LIn cf w (.some ⟨b, o, none⟩) l := .inr ⟨b, o, rfl, h⟩

/-- A word; a key; a grant. -/
structure Wd where
 no : Int
 client : Int
 shade : ByteArray
 till : Int
 used : Bool
structure Ky where
 no : Int
 client : Int
 fam : Int
 refresh : Bool
 till : Int
 state : Int
structure Gr where
 now : Int
 words : List Wd
 keys : List Ky
 dead : List Int
def wdCf (x : Wd) : List Value := [.int .i64 x.no, .int .i64 x.client, .string x.shade, .int .i64 x.till, .bool x.used]
def kyCf (x : Ky) : List Value := [.int .i64 x.no, .int .i64 x.client, .int .i64 x.fam, .bool x.refresh, .int .i64 x.till, .int .i64 x.state]
def inCf (n : Int) : List Value := [.int .i64 n]
theorem wdCf_len (x : Wd) : (wdCf x).length = 5 := rfl
theorem kyCf_len (x : Ky) : (kyCf x).length = 6 := rfl
theorem inCf_len (n : Int) : (inCf n).length = 1 := rfl
def wdV (x : Wd) : Value := .agg #[.int .i64 x.no, .int .i64 x.client, .string x.shade, .int .i64 x.till, .bool x.used]
def kyV (x : Ky) : Value := .agg #[.int .i64 x.no, .int .i64 x.client, .int .i64 x.fam, .bool x.refresh, .int .i64 x.till, .int .i64 x.state]
theorem wd_cells {w : World} {b o : Nat} {l : List Wd} (h : LAt wdCf w b o l) {i : Nat} {x : Wd} (hi : l[i]? = some x) :
  w.cell? ⟨b, o + i * 5, none⟩ = some (.int .i64 x.no) ∧ w.cell? ⟨b, o + i * 5 + 1, none⟩ = some (.int .i64 x.client) ∧ w.cell? ⟨b, o + i * 5 + 2, none⟩ = some (.string x.shade) ∧ w.cell? ⟨b, o + i * 5 + 3, none⟩ = some (.int .i64 x.till) ∧ w.cell? ⟨b, o + i * 5 + 4, none⟩ = some (.bool x.used) :=
 have hr := rangeAt_elem wdCf_len h hi
 ⟨hr 0 _ rfl, hr 1 _ rfl, hr 2 _ rfl, hr 3 _ rfl, hr 4 _ rfl⟩
theorem ky_cells {w : World} {b o : Nat} {l : List Ky} (h : LAt kyCf w b o l) {i : Nat} {x : Ky} (hi : l[i]? = some x) :
  w.cell? ⟨b, o + i * 6, none⟩ = some (.int .i64 x.no) ∧ w.cell? ⟨b, o + i * 6 + 1, none⟩ = some (.int .i64 x.client) ∧ w.cell? ⟨b, o + i * 6 + 2, none⟩ = some (.int .i64 x.fam) ∧ w.cell? ⟨b, o + i * 6 + 3, none⟩ = some (.bool x.refresh) ∧ w.cell? ⟨b, o + i * 6 + 4, none⟩ = some (.int .i64 x.till) ∧ w.cell? ⟨b, o + i * 6 + 5, none⟩ = some (.int .i64 x.state) :=
 have hr := rangeAt_elem kyCf_len h hi
 ⟨hr 0 _ rfl, hr 1 _ rfl, hr 2 _ rfl, hr 3 _ rfl, hr 4 _ rfl, hr 5 _ rfl⟩
theorem in_cells {w : World} {b o : Nat} {l : List Int} (h : LAt inCf w b o l) {i : Nat} {x : Int} (hi : l[i]? = some x) : w.cell? ⟨b, o + i, none⟩ = some (.int .i64 x) := by
 have hr := rangeAt_elem inCf_len h hi 0 _ rfl
 simpa using hr

/-- Where the lists of a grant lie. -/
structure GH where
 wp : Option Addr
 wn : Nat
 wc : Nat
 kp : Option Addr
 kn : Nat
 kc : Nat
 dp : Option Addr
 dn : Nat
 dc : Nat
def grV (now : Int) (h : GH) : Value := .agg #[.int .i64 now, .slice h.wp h.wn h.wc, .slice h.kp h.kn h.kc, .slice h.dp h.dn h.dc]
def GrIn (w : World) (h : GH) (g : Gr) : Prop := (h.wn = g.words.length ∧ h.kn = g.keys.length ∧ h.dn = g.dead.length) ∧ LIn wdCf w h.wp g.words ∧ LIn kyCf w h.kp g.keys ∧ LIn inCf w h.dp g.dead
theorem GrIn.later {w w1 : World} {h : GH} {g : Gr} (hg : GrIn w h g) (hb : Below w.heap.size w w1) : GrIn w1 h g := ⟨hg.1, hg.2.1.later hb, hg.2.2.1.later hb, hg.2.2.2.later hb⟩
/-- The lists of a grant are short enough to be walked. -/
def GrSmall (g : Gr) : Prop := g.words.length ≤ 1048576 ∧ g.keys.length ≤ 1048576 ∧ g.dead.length ≤ 1048576 ∧ ∀ x ∈ g.words, x.shade.size ≤ maxLen

/-- Which grants are right. -/
def wordOk (b : Int) (x : Wd) : Bool := decide (b < x.no) && decide (x.no ≤ 99) && isB x.client 1 3 && proofB x.shade && isB x.till 0 1000000
def wordsOk : Int → List Wd → Bool
 | _, [] => true
 | b, x :: r => wordOk b x && wordsOk x.no r
def hasNo (l : List Wd) (n : Int) : Bool := l.any fun x => x.no == n
def stateB (x : Ky) : Bool := isB x.state 0 2 && !(x.refresh && x.state == 2)
def keyOk (l : List Wd) (b : Int) (x : Ky) : Bool := decide (b < x.no) && decide (x.no ≤ 999) && isB x.client 1 3 && hasNo l x.fam && isB x.till 0 1000000 && stateB x
def keysOk (l : List Wd) : Int → List Ky → Bool
 | _, [] => true
 | b, x :: r => keyOk l b x && keysOk l x.no r
def deadOk (l : List Wd) : Int → List Int → Bool
 | _, [] => true
 | b, x :: r => decide (b < x) && hasNo l x && deadOk l x r
def grantB (g : Gr) : Bool := isB g.now 0 1000000 && decide (g.words.length ≤ 20) && decide (g.keys.length ≤ 40) && wordsOk 0 g.words && keysOk g.words 0 g.keys && deadOk g.words 0 g.dead

theorem drop_cons {α : Type} {l : List α} {k : Nat} {x : α} (h : l[k]? = some x) : l.drop k = x :: l.drop (k + 1) := by
 obtain ⟨hk, he⟩ := List.getElem?_eq_some_iff.1 h
 rw [List.drop_eq_getElem_cons hk, he]
theorem wordsOk_up {l : List Wd} : ∀ {b : Int}, wordsOk b l = true → (∀ x ∈ l, b < x.no) := by
 induction l with
 | nil => intro b _ x hx; cases hx
 | cons y r ih =>
  intro b h
  unfold wordsOk wordOk at h
  simp only [Bool.and_eq_true, decide_eq_true_eq] at h
  intro x hx
  rcases List.mem_cons.1 hx with rfl | hx
  ·omega
  ·have := ih h.2 x hx
   omega
theorem deadOk_up {ws : List Wd} {l : List Int} : ∀ {b : Int}, deadOk ws b l = true → (∀ x ∈ l, b < x ∧ hasNo ws x = true) := by
 induction l with
 | nil => intro b _ x hx; cases hx
 | cons y r ih =>
  intro b h
  unfold deadOk at h
  simp only [Bool.and_eq_true, decide_eq_true_eq] at h
  intro x hx
  rcases List.mem_cons.1 hx with rfl | hx
  ·exact ⟨h.1.1, h.1.2⟩
  ·have := ih h.2 x hx
   exact ⟨by omega, this.2⟩
theorem deadOk_le {ws : List Wd} {l : List Int} {b : Int} : ∀ {a : Int} {us : List Wd}, wordsOk a us = true → deadOk ws b l = true → (∀ x ∈ l, hasNo us x = true) → l.length ≤ us.length := by
 intro a us
 induction us generalizing a b l with
 | nil =>
  intro _ _ h
  cases l with
  | nil => simp
  | cons y r => have := h y (by simp); simp [hasNo] at this
 | cons u r ih =>
  intro hw hd h
  have hu := hw
  unfold wordsOk wordOk at hu
  simp only [Bool.and_eq_true, decide_eq_true_eq] at hu
  cases l with
  | nil => simp
  | cons y t =>
   have hdt := hd
   unfold deadOk at hdt
   simp only [Bool.and_eq_true, decide_eq_true_eq] at hdt
   have hy := h y (by simp)
   have hup := deadOk_up hdt.2
   have hmem : ∀ x, u.no < x → hasNo (u :: r) x = true → hasNo r x = true := by
    intro x hx hh
    unfold hasNo at hh ⊢
    rw [List.any_cons, Bool.or_eq_true] at hh
    rcases hh with hh | hh
    ·have := eq_of_beq hh; omega
    ·exact hh
   have hle : u.no ≤ y := by
    unfold hasNo at hy
    rw [List.any_cons, Bool.or_eq_true] at hy
    rcases hy with hy | hy
    ·have := eq_of_beq hy; omega
    ·obtain ⟨z, hz, hzy⟩ := List.any_eq_true.1 hy
     have := wordsOk_up hu.2 z hz
     have := eq_of_beq hzy
     omega
   have h2 := ih hu.2 hdt.2 (fun x hx => hmem x (by have := (hup x hx).1; omega) (h x (List.mem_cons_of_mem _ hx)))
   simp only [List.length_cons]
   omega
end Go.Proofs.YtjccnjfdeedneaaGreat
/- Which keys open; what is found in a grant. -/
namespace Go.Proofs.YtjccnjfdeedneaaGreat
open Go Go.RowKit Go.Lib
set_option linter.unusedVariables false

def findW (l : List Wd) (i : Int) : Option Wd := l.find? fun x => x.no == i
def findK (l : List Ky) (i : Int) : Option Ky := l.find? fun x => x.no == i
def isDeadB (l : List Int) (f : Int) : Bool := l.any fun d => d == f
def keyOpenB (now : Int) (dead : List Int) (x : Ky) : Bool := x.state == 0 && decide (now ≤ x.till) && !isDeadB dead x.fam
def opensAt (g : Gr) (no client : Int) : Bool := match findK g.keys no with
 | none => false
 | some x => x.client == client && keyOpenB g.now g.dead x
def opensB (g : Gr) (no client : Int) : Bool := grantB g && opensAt g no client
theorem findK_none {l : List Ky} {n : Int} (h : ∀ (j : Nat) (y : Ky), l[j]? = some y → y.no ≠ n) : findK l n = none := by
 unfold findK
 rw [List.find?_eq_none]
 intro x hx
 obtain ⟨j, hj⟩ := List.getElem?_of_mem hx
 simpa using h j x hj
theorem findK_some {l : List Ky} {n : Int} {k : Nat} {x : Ky} (hx : l[k]? = some x) (hn : x.no = n) (h : ∀ (j : Nat) (y : Ky), j < k → l[j]? = some y → y.no ≠ n) : findK l n = some x := by
 induction l generalizing k with
 | nil => simp at hx
 | cons y r ih =>
  unfold findK
  rw [List.find?_cons]
  cases k with
  | zero =>
   obtain rfl : y = x := by simpa using hx
   have e : (y.no == n) = true := by simpa using hn
   rw [e]
  | succ k =>
   have e : (y.no == n) = false := by simpa using h 0 y (by omega) rfl
   rw [e]
   exact ih (by simpa using hx) fun j z hj hz => h (j + 1) z (by omega) (by simpa using hz)
theorem findW_none {l : List Wd} {n : Int} (h : ∀ (j : Nat) (y : Wd), l[j]? = some y → y.no ≠ n) : findW l n = none := by
 unfold findW
 rw [List.find?_eq_none]
 intro x hx
 obtain ⟨j, hj⟩ := List.getElem?_of_mem hx
 simpa using h j x hj
theorem findW_some {l : List Wd} {n : Int} {k : Nat} {x : Wd} (hx : l[k]? = some x) (hn : x.no = n) (h : ∀ (j : Nat) (y : Wd), j < k → l[j]? = some y → y.no ≠ n) : findW l n = some x := by
 induction l generalizing k with
 | nil => simp at hx
 | cons y r ih =>
  unfold findW
  rw [List.find?_cons]
  cases k with
  | zero =>
   obtain rfl : y = x := by simpa using hx
   have e : (y.no == n) = true := by simpa using hn
   rw [e]
  | succ k =>
   have e : (y.no == n) = false := by simpa using h 0 y (by omega) rfl
   rw [e]
   exact ih (by simpa using hx) fun j z hj hz => h (j + 1) z (by omega) (by simpa using hz)
theorem isDead_no {l : List Int} {n : Int} (h : ∀ (j : Nat) (y : Int), l[j]? = some y → y ≠ n) : isDeadB l n = false := by
 unfold isDeadB
 rw [List.any_eq_false]
 intro x hx
 obtain ⟨j, hj⟩ := List.getElem?_of_mem hx
 simpa using h j x hj
theorem isDead_yes {l : List Int} {n : Int} {k : Nat} {x : Int} (hx : l[k]? = some x) (h : x = n) : isDeadB l n = true := by
 unfold isDeadB
 rw [List.any_eq_true]
 exact ⟨x, List.mem_of_getElem? hx, by simpa using h⟩
/-- The place of a key, or -1. -/
def keyIx (l : List Ky) (n : Int) : Int := match findK l n with
 | none => -1
 | some _ => ((l.findIdx fun x => x.no == n : Nat) : Int)
theorem keyIx_none {l : List Ky} {n : Int} (h : findK l n = none) : keyIx l n = -1 := by simp [keyIx, h]
theorem keyIx_at {l : List Ky} {n : Int} {k : Nat} {x : Ky} (hx : l[k]? = some x) (hn : x.no = n) (h : ∀ (j : Nat) (y : Ky), j < k → l[j]? = some y → y.no ≠ n) : keyIx l n = (k : Nat) := by
 obtain ⟨hk, he⟩ := List.getElem?_eq_some_iff.1 hx
 have hi : (l.findIdx fun x => x.no == n) = k := (List.findIdx_eq hk).2 ⟨by rw [he]; simpa using hn, fun j hjk => by
  have hjl : j < l.length := by omega
  simpa using h j l[j] hjk (List.getElem?_eq_getElem hjl)⟩
 simp [keyIx, findK_some hx hn h, hi]
theorem keyIx_some {l : List Ky} {n : Int} {x : Ky} (h : findK l n = some x) : ∃ k : Nat, keyIx l n = (k : Nat) ∧ l[k]? = some x ∧ x.no = n := by
 have hn : x.no = n := by have := List.find?_some h; simpa using this
 have hlt : (l.findIdx fun x => x.no == n) < l.length := List.findIdx_lt_length_of_exists ⟨x, List.mem_of_find?_eq_some h, by simpa using hn⟩
 refine ⟨l.findIdx fun x => x.no == n, by simp [keyIx, h], ?_, hn⟩
 have h2 : l.find? (fun x => x.no == n) = l[l.findIdx fun x => x.no == n]? := List.find?_eq_getElem?_findIdx ..
 unfold findK at h
 rw [← h2, h]
end Go.Proofs.YtjccnjfdeedneaaGreat
/- Whole numbers as floats: what they read as, how they compare, add, and go back. Over any program. -/
namespace Go.Proofs.YtjccnjfdeedneaaGreat
open Go
set_option linter.unusedVariables false

theorem log2_scale {n : Nat} (h : n ≠ 0) (k : Nat) : (n * 2 ^ k).log2 = n.log2 + k := by
 have h1 : 2 ^ n.log2 ≤ n := Nat.log2_self_le h
 have h2 : n < 2 ^ (n.log2 + 1) := Nat.lt_log2_self
 have hp : 0 < 2 ^ k := Nat.two_pow_pos k
 refine (Nat.log2_eq_iff (Nat.mul_ne_zero h (by omega))).2 ⟨?_, ?_⟩
 ·rw [Nat.pow_add]; exact Nat.mul_le_mul_right _ h1
 ·rw [show n.log2 + k + 1 = (n.log2 + 1) + k by omega, Nat.pow_add]; exact Nat.mul_lt_mul_of_pos_right h2 hp

theorem cut_exact (neg : Bool) (n d q : Nat) (h : n = q * 2 ^ (min d (n.log2 + 2))) : Ieee.Toward.even.cut neg n d = q := by
 have hp := Nat.two_pow_pos (min d (n.log2 + 2))
 unfold Ieee.Toward.cut
 simp only [Nat.one_shiftLeft]
 generalize 2 ^ min d (n.log2 + 2) = G at *
 have h1 : n / G = q := by rw [h]; exact Nat.mul_div_cancel _ hp
 have h2 : n % G = 0 := by rw [h]; exact Nat.mul_mod_left _ _
 rw [h1, h2]
 have e1 : decide (G < 2 * 0) = false := decide_eq_false (by omega)
 have e2 : (G == 2 * 0) = false := beq_eq_false_iff_ne.2 (by omega)
 rw [e1, e2]
 simp

def flW (c : Nat) : Nat := (1022 + c.log2) * 4503599627370496 + c * 2 ^ (52 - c.log2)
theorem log2_le52 {c : Nat} (h0 : c ≠ 0) (h : c < 2 ^ 53) : c.log2 ≤ 52 := by
 have := (Nat.log2_lt h0).2 h
 omega
theorem mant {c : Nat} (h0 : c ≠ 0) (h : c < 2 ^ 53) : 4503599627370496 ≤ c * 2 ^ (52 - c.log2) ∧ c * 2 ^ (52 - c.log2) < 9007199254740992 := by
 have hl := log2_le52 h0 h
 have h1 : 2 ^ c.log2 ≤ c := Nat.log2_self_le h0
 have h2 : c < 2 ^ (c.log2 + 1) := Nat.lt_log2_self
 have e1 : 2 ^ c.log2 * 2 ^ (52 - c.log2) = 4503599627370496 := by rw [← Nat.pow_add, show c.log2 + (52 - c.log2) = 52 by omega]
 have e2 : 2 ^ (c.log2 + 1) * 2 ^ (52 - c.log2) = 9007199254740992 := by rw [← Nat.pow_add, show c.log2 + 1 + (52 - c.log2) = 53 by omega]
 exact ⟨by rw [← e1]; exact Nat.mul_le_mul_right _ h1, by rw [← e2]; exact Nat.mul_lt_mul_of_pos_right h2 (Nat.two_pow_pos _)⟩
theorem nearest_scaled (c k : Nat) (h0 : c ≠ 0) (h : c < 2 ^ 53) : Ieee.double.nearest false (c * 2 ^ k) (-(k : Int)) = flW c := by
 have hl := log2_le52 h0 h
 obtain ⟨m1, m2⟩ := mant h0 h
 have hm : c * 2 ^ k ≠ 0 := Nat.mul_ne_zero h0 (by have := Nat.two_pow_pos k; omega)
 have elp : Ieee.double.leastPlace = -1074 := by decide
 have efb : Ieee.double.fractionBits = 52 := rfl
 have ebi : Ieee.double.binade = 4503599627370496 := by decide
 have einf : Ieee.double.infRung = 9218868437227405312 := by decide
 have elast : max (-(k : Int) + ((c * 2 ^ k).log2 : Nat) - (Ieee.double.fractionBits : Nat)) Ieee.double.leastPlace = (c.log2 : Int) - 52 := by
  rw [log2_scale h0, elp, efb]; omega
 unfold Ieee.Format.nearest
 rw [if_neg hm]
 simp only [elast]
 have e1 : (-(k : Int) - ((c.log2 : Int) - 52)).toNat = (52 - c.log2) - k := by omega
 have e2 : ((c.log2 : Int) - 52 - -(k : Int)).toNat = k - (52 - c.log2) := by omega
 have e3 : ((c.log2 : Int) - 52 - Ieee.double.leastPlace).toNat = 1022 + c.log2 := by rw [elp]; omega
 rw [e1, e2, e3, ebi, einf]
 have hcut : Ieee.Toward.even.cut false ((c * 2 ^ k) <<< ((52 - c.log2) - k)) (k - (52 - c.log2)) = c * 2 ^ (52 - c.log2) := by
  refine cut_exact _ _ _ _ ?_
  rw [Nat.shiftLeft_eq, Nat.mul_assoc, ← Nat.pow_add, log2_scale h0]
  by_cases hk : k ≤ 52 - c.log2
  ·rw [show k - (52 - c.log2) = 0 by omega, Nat.zero_min, Nat.pow_zero, Nat.mul_one, show k + (52 - c.log2 - k) = 52 - c.log2 by omega]
  ·rw [show 52 - c.log2 - k = 0 by omega, Nat.add_zero, Nat.min_eq_left (by omega), Nat.mul_assoc, ← Nat.pow_add, show 52 - c.log2 + (k - (52 - c.log2)) = k by omega]
 rw [hcut]
 unfold Ieee.Format.word flW
 rw [Nat.min_eq_left (by omega)]
 simp
theorem read_flW {c : Nat} (h0 : c ≠ 0) (h : c < 2 ^ 53) : Ieee.double.read (flW c) = .number false (c * 2 ^ (52 - c.log2)) ((c.log2 : Int) - 52) := by
 have hl := log2_le52 h0 h
 obtain ⟨m1, m2⟩ := mant h0 h
 have elp : Ieee.double.leastPlace = -1074 := by decide
 have ebi : Ieee.double.binade = 4503599627370496 := by decide
 have einf : Ieee.double.infRung = 9218868437227405312 := by decide
 have esw : Ieee.double.signWeight = 9223372036854775808 := by decide
 unfold Ieee.Format.read
 simp only [elp, ebi, einf, esw]
 unfold flW
 generalize c * 2 ^ (52 - c.log2) = m at *
 generalize c.log2 = l at *
 have a1 : ((1022 + l) * 4503599627370496 + m) / 9223372036854775808 = 0 := by omega
 have a2 : ((1022 + l) * 4503599627370496 + m) % 9223372036854775808 = (1022 + l) * 4503599627370496 + m := by omega
 have a3 : ((1022 + l) * 4503599627370496 + m) % 4503599627370496 = m - 4503599627370496 := by omega
 have a4 : ((1022 + l) * 4503599627370496 + m) / 4503599627370496 = 1023 + l := by omega
 rw [a1, a2, if_neg (by omega), if_pos (by omega), a3, a4]
 have b1 : 4503599627370496 + (m - 4503599627370496) = m := by omega
 have b2 : (-1074 : Int) + ((1023 + l - 1 : Nat) : Int) = (l : Int) - 52 := by omega
 rw [b1, b2]
 rfl

def fl (n : Nat) : Nat := Ieee.double.nearest false n 0
theorem fl_eq {c : Nat} (h0 : c ≠ 0) (h : c < 2 ^ 53) : fl c = flW c := by
 have := nearest_scaled c 0 h0 h
 simpa [fl] using this
theorem fl_scaled (c k : Nat) (h : c < 2 ^ 53) : Ieee.double.nearest false (c * 2 ^ k) (-(k : Int)) = fl c := by
 by_cases h0 : c = 0
 ·subst h0
  simp [fl, Ieee.Format.nearest]
 ·rw [fl_eq h0 h, nearest_scaled c k h0 h]
theorem read_fl {n : Nat} (h : n < 2 ^ 53) : ∃ k : Nat, Ieee.double.read (fl n) = .number false (n * 2 ^ k) (-(k : Int)) := by
 by_cases h0 : n = 0
 ·subst h0
  have h1 : ∀ x k : Nat, x = 0 → k = 1074 → Ieee.double.read (fl 0) = .number false x (-(k : Int)) := by rintro _ _ rfl rfl; decide
  obtain ⟨k, hk⟩ : ∃ k : Nat, k = 1074 := ⟨_, rfl⟩
  exact ⟨k, h1 _ _ (Nat.zero_mul _) hk⟩
 ·refine ⟨52 - n.log2, ?_⟩
  rw [fl_eq h0 h, read_flW h0 h]
  have hl := log2_le52 h0 h
  congr 1
  omega
theorem cmp_lt {x y : Int} (h : x < y) : compare x y = .lt := by simp [compare, compareOfLessAndEq, h]
theorem cmp_eq {x y : Int} (h : x = y) : compare x y = .eq := by simp [compare, compareOfLessAndEq, h]
theorem cmp_gt {x y : Int} (h : y < x) : compare x y = .gt := by
 have h1 : ¬ x < y := by omega
 have h2 : ¬ x = y := by omega
 simp [compare, compareOfLessAndEq, h1, h2]
theorem signed_scale (n i M : Nat) (h : i ≤ M) : Ieee.signed false (n * 2 ^ i) (M - i) = ((n * 2 ^ M : Nat) : Int) := by
 unfold Ieee.signed
 simp only [Bool.false_eq_true, if_false]
 rw [Nat.shiftLeft_eq, Nat.mul_assoc, ← Nat.pow_add, show i + (M - i) = M by omega]
theorem order_fl {a b : Nat} (ha : a < 2 ^ 53) (hb : b < 2 ^ 53) : Ieee.double.order (fl a) (fl b) = some (compare (a : Int) (b : Int)) := by
 obtain ⟨i, hi⟩ := read_fl ha
 obtain ⟨j, hj⟩ := read_fl hb
 unfold Ieee.Format.order
 rw [hi, hj]
 simp only [Ieee.Datum.order]
 have e1 : (-(i : Int) - min (-(i : Int)) (-(j : Int))).toNat = max i j - i := by omega
 have e2 : (-(j : Int) - min (-(i : Int)) (-(j : Int))).toNat = max i j - j := by omega
 rw [e1, e2, signed_scale a i (max i j) (by omega), signed_scale b j (max i j) (by omega)]
 have hp : 0 < 2 ^ max i j := Nat.two_pow_pos _
 generalize 2 ^ max i j = G at hp
 rcases Nat.lt_trichotomy a b with h | h | h
 ·rw [cmp_lt (Int.ofNat_lt.2 (Nat.mul_lt_mul_of_pos_right h hp)), cmp_lt (Int.ofNat_lt.2 h)]
 ·subst h
  rw [cmp_eq rfl, cmp_eq rfl]
 ·rw [cmp_gt (Int.ofNat_lt.2 (Nat.mul_lt_mul_of_pos_right h hp)), cmp_gt (Int.ofNat_lt.2 h)]

/-- The bits of a whole number that is a float. -/
theorem ofInt_fl (k : Nat) : floatOfInt .f64 (k : Int) = fl k := by
 have h : decide ((k : Int) < 0) = false := decide_eq_false (by omega)
 unfold floatOfInt FloatKind.nearest FloatKind.encode fl
 rw [h]
 rfl
def Whole (n : Int) : Prop := 0 ≤ n ∧ n < 9007199254740992
theorem Whole.nat {n : Int} (h : Whole n) : ∃ k : Nat, n = k ∧ k < 2 ^ 53 := ⟨n.toNat, by have := h.1; omega, by have := h.2; omega⟩
theorem order_of {a b : Int} (ha : Whole a) (hb : Whole b) : FloatKind.f64.format.order (floatOfInt .f64 a) (floatOfInt .f64 b) = some (compare a b) := by
 obtain ⟨i, rfl, hi⟩ := ha.nat
 obtain ⟨j, rfl, hj⟩ := hb.nat
 rw [ofInt_fl, ofInt_fl]
 exact order_fl hi hj
theorem leq_of {a b : Int} (ha : Whole a) (hb : Whole b) : (FloatKind.f64.format.order (floatOfInt .f64 a) (floatOfInt .f64 b) == some .lt || FloatKind.f64.format.order (floatOfInt .f64 a) (floatOfInt .f64 b) == some .eq) = decide (a ≤ b) := by
 rw [order_of ha hb]
 rcases Int.lt_trichotomy a b with h | h | h
 ·rw [cmp_lt h, decide_eq_true (by omega)]; rfl
 ·rw [cmp_eq h, decide_eq_true (by omega)]; rfl
 ·rw [cmp_gt h, decide_eq_false (by omega)]; rfl
theorem gtr_of {a b : Int} (ha : Whole a) (hb : Whole b) : (FloatKind.f64.format.order (floatOfInt .f64 a) (floatOfInt .f64 b) == some .gt) = decide (b < a) := by
 rw [order_of ha hb]
 rcases Int.lt_trichotomy a b with h | h | h
 ·rw [cmp_lt h, decide_eq_false (by omega)]; rfl
 ·rw [cmp_eq h, decide_eq_false (by omega)]; rfl
 ·rw [cmp_gt h, decide_eq_true (by omega)]; rfl
theorem neq_self {a : Int} (ha : Whole a) : (FloatKind.f64.format.order (floatOfInt .f64 a) (floatOfInt .f64 a) != some .eq) = false := by
 rw [order_of ha ha, cmp_eq rfl]; rfl
theorem add_of {a b : Int} (ha : Whole a) (hb : Whole b) (hs : Whole (a + b)) : floatBits .add .f64 (floatOfInt .f64 a) (floatOfInt .f64 b) = some (floatOfInt .f64 (a + b)) := by
 obtain ⟨m, rfl, hm⟩ := ha.nat
 obtain ⟨n, rfl, hn⟩ := hb.nat
 have hc : m + n < 2 ^ 53 := by have := hs.2; omega
 rw [show ((m : Int) + (n : Int)) = ((m + n : Nat) : Int) by omega, ofInt_fl, ofInt_fl, ofInt_fl]
 obtain ⟨i, hi⟩ := read_fl hm
 obtain ⟨j, hj⟩ := read_fl hn
 unfold floatBits
 simp only
 show Ieee.double.add (fl m) (fl n) = _
 unfold Ieee.Format.add
 rw [hi, hj]
 simp only [Ieee.Datum.sum, Option.map_some]
 have e0 : min (-(i : Int)) (-(j : Int)) = -((max i j : Nat) : Int) := by omega
 have e1 : (-(i : Int) - -((max i j : Nat) : Int)).toNat = max i j - i := by omega
 have e2 : (-(j : Int) - -((max i j : Nat) : Int)).toNat = max i j - j := by omega
 rw [e0, e1, e2, signed_scale m i (max i j) (by omega), signed_scale n j (max i j) (by omega)]
 have e3 : (((m * 2 ^ max i j : Nat) : Int) + ((n * 2 ^ max i j : Nat) : Int)) = (((m + n) * 2 ^ max i j : Nat) : Int) := by rw [Nat.add_mul]; omega
 rw [e3]
 have e4 : (if (((m + n) * 2 ^ max i j : Nat) : Int) = 0 then (false && false) else decide ((((m + n) * 2 ^ max i j : Nat) : Int) < 0)) = false := by
  split
  ·rfl
  ·exact decide_eq_false (by omega)
 rw [e4, Int.natAbs_natCast]
 show some (Ieee.double.nearest false ((m + n) * 2 ^ max i j) (-((max i j : Nat) : Int))) = some (fl (m + n))
 rw [fl_scaled _ _ hc]
theorem toInt_of {a : Int} (ha : Whole a) : floatToIntVal .f64 (floatOfInt .f64 a) .i64 = some a := by
 have hlo := ha.1
 have hhi := ha.2
 obtain ⟨n, rfl, hn⟩ := ha.nat
 rw [ofInt_fl]
 obtain ⟨k, hk⟩ := read_fl hn
 have ht : (Ieee.double.read (fl n)).toInt .zero = some (n : Int) := by
  rw [hk]
  unfold Ieee.Datum.toInt
  simp only [Ieee.Datum.integral]
  have hc : Ieee.Toward.cut .zero false ((n * 2 ^ k) <<< (-(k : Int)).toNat) (- -(k : Int)).toNat = n := by
   rw [show (-(k : Int)).toNat = 0 by omega, show (- -(k : Int)).toNat = k by omega, Nat.shiftLeft_zero]
   unfold Ieee.Toward.cut
   simp only [Nat.one_shiftLeft, Bool.toNat_false, Nat.add_zero]
   by_cases h0 : n = 0
   ·subst h0; simp
   ·rw [log2_scale h0, Nat.min_eq_left (by omega)]
    exact Nat.mul_div_cancel _ (Nat.two_pow_pos k)
  rw [hc]
  simp [Ieee.signed]
 unfold floatToIntVal
 rw [show FloatKind.f64.decode (fl n) = Ieee.double.read (fl n) from rfl, ht]
 simp only
 rw [if_pos]
 have e1 : IntKind.i64.min = -9223372036854775808 := by decide
 have e2 : IntKind.i64.max = 9223372036854775807 := by decide
 rw [e1, e2]
 omega

/-- What is not a number is unlike itself; what is infinite is more than each number. -/
def nanB : Nat := 9221120237041090561
def infB : Nat := 9218868437227405312
theorem neq_nan : (FloatKind.f64.format.order nanB nanB != some .eq) = true := by decide
theorem read_inf : Ieee.double.read infB = .infinity false := by decide
theorem order_inf {b : Int} (hb : Whole b) : FloatKind.f64.format.order infB (floatOfInt .f64 b) = some .gt := by
 obtain ⟨n, rfl, hn⟩ := hb.nat
 obtain ⟨k, hk⟩ := read_fl hn
 rw [ofInt_fl]
 show Ieee.double.order infB (fl n) = _
 unfold Ieee.Format.order
 rw [hk, read_inf]
 rfl
theorem leq_inf {b : Int} (hb : Whole b) : (FloatKind.f64.format.order infB (floatOfInt .f64 b) == some .lt || FloatKind.f64.format.order infB (floatOfInt .f64 b) == some .eq) = false := by
 rw [order_inf hb]; rfl
theorem flMax : floatOfInt .f64 1000000 = 4696837146684686336 := by decide
end Go.Proofs.YtjccnjfdeedneaaGreat
/- A small letter, by the program. -/
namespace Go.Proofs.YtjccnjfdeedneaaGreat
open Go Go.RowKit Go.Lib
set_option linter.unusedVariables false

def smallB (b : Int) : Bool := decide (97 ≤ b ∧ b ≤ 122)
theorem smallB_yes {b : Int} (h : 97 ≤ b) (h' : b ≤ 122) : smallB b = true := decide_eq_true ⟨h, h'⟩
theorem smallB_no {b : Int} (h : b < 97 ∨ 122 < b) : smallB b = false := decide_eq_false (fun g => by omega)
theorem small_any (b : Int) (w : World) : Calls Tryz.prog 193 #[.int .u8 b] w fun e w' => e = .returned (.bool (smallB b)) ∧ w = w' := by
 by_cases h1 : 97 ≤ b
 ·by_cases h2 : b ≤ 122
  ·go_enter Tryz.func193, Tryz.ntmps193
   go_wp2
   go_ret
   rw [smallB_yes h1 h2]
   exact ⟨rfl, rfl⟩
  ·have d1 : decide (b ≤ 122) = false := decide_eq_false h2
   go_enter Tryz.func193, Tryz.ntmps193
   go_wp2
   go_ret
   rw [smallB_no (Or.inr (by omega))]
   exact ⟨rfl, rfl⟩
 ·go_enter Tryz.func193, Tryz.ntmps193
  go_wp2
  go_ret
  rw [smallB_no (Or.inl (by omega))]
  exact ⟨rfl, rfl⟩

end Go.Proofs.YtjccnjfdeedneaaGreat
/- Ranges and proofs, by the program. -/
namespace Go.Proofs.YtjccnjfdeedneaaGreat
open Go Go.RowKit Go.Lib
set_option linter.unusedVariables false

theorem upto_spec (n most : Int) (w : World) : Calls Tryz.prog 128 #[.int .i64 n, .int .i64 most] w fun e w' => e = .returned (.bool (isB n 1 most)) ∧ w = w' := by
 by_cases h1 : 1 ≤ n
 ·have d : decide (1 ≤ n) = true := decide_eq_true h1
  by_cases h2 : n ≤ most
  ·have d2 : decide (n ≤ most) = true := decide_eq_true h2
   go_enter Tryz.func128, Tryz.ntmps128
   go_wp2_with fail
   go_ret
   exact ⟨by unfold isB; rw [d, d2]; rfl, rfl⟩
  ·have d2 : decide (n ≤ most) = false := decide_eq_false h2
   go_enter Tryz.func128, Tryz.ntmps128
   go_wp2_with fail
   go_ret
   exact ⟨by unfold isB; rw [d, d2]; rfl, rfl⟩
 ·have d : decide (1 ≤ n) = false := decide_eq_false h1
  go_enter Tryz.func128, Tryz.ntmps128
  go_wp2_with fail
  go_ret
  exact ⟨by unfold isB; rw [d]; rfl, rfl⟩

set_option maxHeartbeats 400000 in
theorem proof_impl (s : ByteArray) (w : World) (hs : s.size ≤ maxLen) : Calls Tryz.prog 162 #[.string s] w fun e w' => e = .returned (.bool (proofB s)) ∧ w = w' := by
 unfold maxLen at hs
 by_cases h1 : s.size < 1
 ·have HP : Hid (proofB s = false) := Lib.hid (decide_eq_false fun h => by have := h.1; omega)
  go_enter Tryz.func162, Tryz.ntmps162
  go_wp2_with fail
  go_ret
  exact ⟨by rw [HP.out]; rfl, rfl⟩
 by_cases h2 : 8 < s.size
 ·have HP : Hid (proofB s = false) := Lib.hid (decide_eq_false fun h => by have := h.2.1; omega)
  have d2 : decide (8 < (s.size : Int)) = true := decide_eq_true (by omega)
  go_enter Tryz.func162, Tryz.ntmps162
  go_wp2_with fail
  go_ret
  exact ⟨by rw [HP.out]; rfl, rfl⟩
 have h1' : 1 ≤ s.size := by omega
 have h2' : s.size ≤ 8 := by omega
 have d0 : decide ((s.size : Int) < 1) = false := decide_eq_false (by omega)
 have d2 : decide (8 < (s.size : Int)) = false := decide_eq_false (by omega)
 clear h1 h2
 go_enter Tryz.func162, Tryz.ntmps162
 go_wp2_with fail
 go_loop [14] (ProofRel s) (fun i => s.size - (RowKit.intOf i).toNat)
 case atStart => exact ⟨0, by omega, rfl, fun j _ h => by omega⟩
 case round =>
  obtain ⟨k, hk, rfl, hr⟩ := hrel
  have HR := Lib.hid hr
  clear hr
  by_cases hlt : k < s.size
  ·by_cases hg : 97 ≤ s[k].toNat ∧ s[k].toNat ≤ 122
   ·have e1 : smallB (s[k].toNat : Int) = true := smallB_yes (by omega) (by omega)
    have HG := Lib.hid hg
    clear hg
    go_wp2_with (go_at_call 193; refine (small_any _ _).mono ?_; rintro e w' ⟨rfl, rfl⟩)
    go_round
    case rel =>
     refine ⟨k + 1, by omega, by go_num, fun j hj hjk => ?_⟩
     by_cases e : j = k
     ·subst e; exact HG.out
     ·exact HR.out j hj (by omega)
    case measure => simp [RowKit.intOf]; omega
   ·have e1 : smallB (s[k].toNat : Int) = false := smallB_no (by omega)
    have HG := Lib.hid hg
    clear hg
    go_wp2_with (go_at_call 193; refine (small_any _ _).mono ?_; rintro e w' ⟨rfl, rfl⟩)
    go_ret
    exact ⟨by rw [show proofB s = false from decide_eq_false fun h => HG.out (h.2.2 k hlt)]; rfl, rfl⟩
  ·obtain rfl : k = s.size := by omega
   have HP : Hid (proofB s = true) := Lib.hid (decide_eq_true ⟨h1', h2', fun i h => HR.out i h h⟩)
   go_wp2_with fail
   go_ret
   exact ⟨by rw [HP.out]; rfl, rfl⟩

theorem upto_at {n most : Int} {b : Bool} {w : World} (h : isB n 1 most = b) : Calls Tryz.prog 128 #[.int .i64 n, .int .i64 most] w fun e w' => e = .returned (.bool b) ∧ w' = w := by
 subst h
 exact (upto_spec n most w).mono fun _ _ h => ⟨h.1, h.2.symm⟩
theorem proofI_at {t : ByteArray} {b : Bool} {w : World} (h : proofB t = b) (ht : t.size ≤ maxLen) : Calls Tryz.prog 162 #[.string t] w fun e w' => e = .returned (.bool b) ∧ w' = w := by
 subst h
 exact (proof_impl t w ht).mono fun _ _ h => ⟨h.1, h.2.symm⟩

end Go.Proofs.YtjccnjfdeedneaaGreat
/- A region that draws its order, whose callees make new memory and write nothing old: one walk in the text's order, over all worlds that extend one. Over any program. -/
namespace Go.Proofs.YtjccnjfdeedneaaGreat
open Go Go.RowKit
set_option linter.unusedVariables false

/-- A world that extends W: what is in W is as it was. -/
structure Ext (W : World) where
 w : World
 below : Below W.heap.size W w
instance (W : World) : Nonempty (Ext W) := ⟨⟨W, Below.refl _ _⟩⟩
theorem Ext.cell {W : World} (u : Ext W) {b o : Nat} {v : Value} (h : W.cell? ⟨b, o, none⟩ = some v) : u.w.cell? ⟨b, o, none⟩ = some v :=
 (u.below.cell (p := ⟨b, o, none⟩) (World.block_lt_of_cell? W _ h)).trans h
theorem ext_is (W : World) (w : World) : (∃ u : Ext W, w = u.w) ↔ Below W.heap.size W w := ⟨fun ⟨u, h⟩ => h ▸ u.below, fun h => ⟨⟨w, h⟩, rfl⟩⟩
theorem ext_region {P : Program} (W : World) {id : Nat} {Q : Exit → Act → World → Prop} {a : Act} {w : World} {l : List Oper} (hm : P.follows .mixedOrders = true) (hB : Region.lexB .any l.toArray = true) (hC : Below W.heap.size W w)
  (h : wpQuiet P l.toArray (fun w' => ∃ u : Ext W, w' = u.w) (fun a' => ∀ w', Below W.heap.size W w' → Q .normal a' w') l a) : (Code.region id l.toArray true).wp P Q a w := by
 refine wp_region_quiet (C := fun w' => ∃ u : Ext W, w' = u.w) hm hB ⟨⟨w.drew, hC.drew⟩, rfl⟩ ?_
 have e : (fun a' => ∀ w', (∃ u : Ext W, w' = u.w) → Q .normal a' w') = (fun a' => ∀ w', Below W.heap.size W w' → Q .normal a' w') := by
  funext a'
  exact propext ⟨fun h w' hb => h w' ((ext_is W w').2 hb), fun h w' hb => h w' ((ext_is W w').1 hb)⟩
 simp only [e]
 simpa using h
theorem calls_ext {P : Program} {W : World} {u : Ext W} {f : FuncId} {args : Array Value} {v : Value} (h : Calls P f args u.w fun e w' => e = .returned v ∧ Below u.w.heap.size u.w w') : Calls P f args u.w fun e w' => e = .returned v ∧ ∃ u' : Ext W, w' = u'.w :=
 h.mono fun _ w' ⟨he, hb⟩ => ⟨he, ⟨w', u.below.trans (hb.mono u.below.size)⟩, rfl⟩
theorem calls_ext_same {P : Program} {W : World} {u : Ext W} {f : FuncId} {args : Array Value} {v : Value} (h : Calls P f args u.w fun e w' => e = .returned v ∧ w' = u.w) : Calls P f args u.w fun e w' => e = .returned v ∧ ∃ u' : Ext W, w' = u'.w :=
 h.mono fun _ w' ⟨he, hb⟩ => ⟨he, u, hb⟩
end Go.Proofs.YtjccnjfdeedneaaGreat
/- What is kept, but for the blocks of a ledger. -/
namespace Go.Proofs.YtjccnjfdeedneaaGreat
open Go Go.RowKit Go.Lib
set_option linter.unusedVariables false

/-- Below N nothing has changed but blocks lb, mw, mk. -/
structure Kept (N lb mw mk : Nat) (w w' : World) : Prop where
 os : w'.os = w.os
 tape : w'.tape = w.tape
 output : w'.output = w.output
 size : w.heap.size ≤ w'.heap.size
 block : ∀ k, k < N → k ≠ lb → k ≠ mw → k ≠ mk → w'.heap[k]? = w.heap[k]?
section
variable {N lb mw mk : Nat} {w w1 w2 : World}
theorem Kept.refl (N lb mw mk : Nat) (w : World) : Kept N lb mw mk w w := ⟨rfl, rfl, rfl, Nat.le_refl _, fun _ _ _ _ _ => rfl⟩
theorem Kept.trans (h : Kept N lb mw mk w w1) (k : Kept N lb mw mk w1 w2) : Kept N lb mw mk w w2 :=
 ⟨k.os.trans h.os, k.tape.trans h.tape, k.output.trans h.output, Nat.le_trans h.size k.size, fun i h1 h2 h3 h4 => (k.block i h1 h2 h3 h4).trans (h.block i h1 h2 h3 h4)⟩
theorem Kept.mono {M : Nat} (h : Kept N lb mw mk w w1) (hM : M ≤ N) : Kept M lb mw mk w w1 := ⟨h.os, h.tape, h.output, h.size, fun i h1 h2 h3 h4 => h.block i (by omega) h2 h3 h4⟩
theorem Kept.of_below (h : Below N w w1) : Kept N lb mw mk w w1 := ⟨h.os, h.tape, h.output, h.size, fun i h1 _ _ _ => h.block i h1⟩
theorem Kept.later {M : Nat} (h : Kept N lb mw mk w w1) (hb : Below M w1 w2) (hM : N ≤ M) : Kept N lb mw mk w w2 := h.trans (Kept.of_below (hb.mono hM))
theorem Kept.grown {j : Nat} (h : Kept N lb mw mk w w1) (hg : w1.grownBy w2 (some j)) (hN : N ≤ w1.heap.size) (hj : j = lb ∨ j = mw ∨ j = mk ∨ N ≤ j) : Kept N lb mw mk w w2 :=
 h.trans ⟨hg.os, hg.tape, hg.output, hg.size, fun i h1 h2 h3 h4 => hg.block i (by omega) (fun e => by have := Option.some.inj e; omega)⟩
theorem Kept.setCell {a : Addr} (h : Kept N lb mw mk w w1) (u : Value) (hj : a.block = lb ∨ a.block = mw ∨ a.block = mk ∨ N ≤ a.block) : Kept N lb mw mk w (w1.setCell a u) :=
 h.trans ⟨rfl, rfl, rfl, by simp, fun i h1 h2 h3 h4 => Below.heap_setCell _ _ _ _ (by omega)⟩
theorem Kept.setCells {p : Nat} (hp : p = lb ∨ p = mw ∨ p = mk ∨ N ≤ p) : ∀ (vs : List Value) {w1 : World} (o : Nat), Kept N lb mw mk w w1 → Kept N lb mw mk w (w1.setCells p o vs)
 | [], _, _, h => h
 | v :: r, _, o, h => Kept.setCells hp r (o + 1) (h.setCell (a := ⟨p, o, none⟩) v hp)
theorem Kept.below {B : Nat} (h : Kept N lb mw mk w w1) (hN : B ≤ N) (h1 : B ≤ lb) (h2 : B ≤ mw) (h3 : B ≤ mk) : Below B w w1 := ⟨h.os, h.tape, h.output, h.size, fun i hi => h.block i (by omega) (by omega) (by omega) (by omega)⟩
theorem Row.kept {g : Nat} {E : TypeId} {l : List Value} (h : Row w g E l) (hk : Kept N lb mw mk w w1) (hg : g < N) (h1 : g ≠ lb) (h2 : g ≠ mw) (h3 : g ≠ mk) : Row w1 g E l := by
 unfold Row at h ⊢
 rw [hk.block g hg h1 h2 h3]
 exact h
end
end Go.Proofs.YtjccnjfdeedneaaGreat
/- Words, keys, numbers: what the loader says of them. -/
namespace Go.Proofs.YtjccnjfdeedneaaGreat
open Go Go.RowKit Go.Lib
set_option linter.unusedVariables false

theorem infoWord : (Tryz.prog.info? 163).map (fun i => (i.zero, i.size, i.bytes)) = some (some (.agg #[.int .i64 0, .int .i64 0, .string ByteArray.empty, .int .i64 0, .bool false]), 5, 48) := by kernel_rfl
theorem sizeWord : (Tryz.prog.info? 163).map (·.size) = some 5 := by kernel_rfl
theorem oneWord (x : Wd) : (#[.int .i64 x.no, .int .i64 x.client, .string x.shade, .int .i64 x.till, .bool x.used] : Array Value).all (·.oneCell') = true := all_oneCell_toArray (cs := [.int .i64 x.no, .int .i64 x.client, .string x.shade, .int .i64 x.till, .bool x.used]) (by
 intro v hv
 simp at hv
 rcases hv with rfl | rfl | rfl | rfl | rfl <;> rfl)
theorem infoKey : (Tryz.prog.info? 127).map (fun i => (i.zero, i.size, i.bytes)) = some (some (.agg #[.int .i64 0, .int .i64 0, .int .i64 0, .bool false, .int .i64 0, .int .i64 0]), 6, 48) := by kernel_rfl
theorem sizeKey : (Tryz.prog.info? 127).map (·.size) = some 6 := by kernel_rfl
theorem oneKey (x : Ky) : (#[.int .i64 x.no, .int .i64 x.client, .int .i64 x.fam, .bool x.refresh, .int .i64 x.till, .int .i64 x.state] : Array Value).all (·.oneCell') = true := all_oneCell_toArray (cs := [.int .i64 x.no, .int .i64 x.client, .int .i64 x.fam, .bool x.refresh, .int .i64 x.till, .int .i64 x.state]) (by
 intro v hv
 simp at hv
 rcases hv with rfl | rfl | rfl | rfl | rfl | rfl <;> rfl)
theorem infoInt64 : (Tryz.prog.info? 2).map (fun i => (i.zero, i.size, i.bytes)) = some (some (.int .i64 0), 1, 8) := by kernel_rfl
theorem sizeInt64 : (Tryz.prog.info? 2).map (·.size) = some 1 := by kernel_rfl
end Go.Proofs.YtjccnjfdeedneaaGreat
