/- Laws for the walk on rows of bytes that the call itself made: make, copy from a string, back to a string, append. Over any program. -/
import Derived.WalkKit
import Derived.WalkSpells
import Derived.WalkLawsBesides
import Derived.Lib.Hide
import Derived.OwnWalk
import Derived.Below
import Derived.Laws.CopyOwn
import Derived.Lib.BufferWrite
import Derived.Lib.SlBytesRow
import Derived.Lib.BufferRead
namespace Go.Proofs.Ytchfgdiipjbgoaa
open Go Go.RowKit Go.Lib

/-- Block g is a row of type E whose cells are l. -/
def Row (w : World) (g : Nat) (E : TypeId) (l : List Value) : Prop := w.heap[g]? = some (.cells l.toArray E (0, 0))

theorem Row.below {w w' : World} {B g : Nat} {E : TypeId} {l : List Value} (h : Row w g E l) (hb : Below B w w') (hg : g < B) : Row w' g E l := by
  unfold Row at *
  rw [hb.block g hg]
  exact h
theorem Row.lt {w : World} {g : Nat} {E : TypeId} {l : List Value} (h : Row w g E l) : g < w.heap.size := (Array.getElem?_eq_some_iff.1 h).1
theorem Row.cell {w : World} {g : Nat} {E : TypeId} {l : List Value} (h : Row w g E l) (j : Nat) : w.cell? ⟨g, j, none⟩ = l[j]? := by
  unfold Row at h
  simp [World.cell?, h]
theorem Row.free {w : World} {g : Nat} {E : TypeId} {l : List Value} (h : Row w g E l) (j : Nat) : w.frozen? ⟨g, j, none⟩ = false := by
  unfold Row at h
  simp [World.frozen?, h]
theorem Row.set {w : World} {g : Nat} {E : TypeId} {l : List Value} (h : Row w g E l) (j : Nat) (v : Value) : Row (w.setCell ⟨g, j, none⟩ v) g E (l.set j v) := by
  have h1 := Lib.heap_setCell_same (i := j) h v
  unfold Row
  rw [h1]
  simp
theorem Row.bytes {w : World} {g : Nat} {E : TypeId} {s : ByteArray} {r : List Value} (h : Row w g E (byteCells s.data.toList ++ r)) : Bytes w g 0 s := fun i hi => by
  have h1 := h.cell (0 + i)
  rw [h1, Nat.zero_add, List.getElem?_append_left (by rw [byteCells_length]; simpa using hi)]
  simp [byteCells]
  exact ⟨s[i], by simp [ByteArray.getElem_eq_getElem_data], rfl⟩

section
variable {P : Program} {w : World} {ops : Array Oper} {rest : List Oper} {o : Oper} {a : Act} {Q : Exit → Act → World → Prop}

theorem wpList_make_bytes (hgd : o.guard = none) (l c : Operand) (t : TypeId) (ho : o.op = .makeSlice t l c) (E : TypeId) (i : TypeInfo) (z : Value)
    (h1 : P.underlying t = some (.slice E)) (h2 : P.info? E = some i) (h3 : i.zero = some z) (h4 : i.size = 1) (h5 : i.bytes = 1) (hz : z.cells = #[z])
    (kl kc : IntKind) (L C : Int) (n : Nat) (hl : a.eval l = .int kl L) (hc : a.eval c = .int kc C) (hL : L = (n : Int)) (hC : C = (n : Int)) (hn : n ≤ 140737488355328)
    (B : Nat) (w0 : World) (hb : Below B w0 w) (hB : B ≤ w.heap.size)
    (hK : ∀ w' g, B ≤ g → Row w' g E (List.replicate n z) → Below B w0 w' → g < w'.heap.size → wpList P ops Q rest (a.put o.dst (.slice (some ⟨g, 0, none⟩) n n)) w') :
    wpList P ops Q (o :: rest) a w := by
  refine wpList_plain hgd fun K hK' => ?_
  have hrun := run_make (P := P) w t E i z h1 h2 h3 kl kc (n : Int) (n : Int) (by omega) (by omega) (by rw [h5]; omega) (by omega)
  subst hL
  subst hC
  unfold Oper.wp
  simp [execOp, ho, hl, hc, hrun, Result.andThen]
  refine hK' _ _ (hK _ _ hB ?_ (hb.alloc hB _) (by simp))
  unfold Row
  rw [heap_alloc_new, h4, Nat.mul_one, hz]
  congr 2
  apply Array.toList_inj.1
  rw [toList_madeCells_one]

theorem wpList_copy_str (hgd : o.guard = none) (d s : Operand) (dT sT : TypeId) (ho : o.op = .call { callee := .builtin .copy, args := #[d, s], argTypes := #[dT, sT] })
    (E : TypeId) (hu : P.underlying dT = some (.slice E)) (hsz : (P.info? E).map (·.size) = some 1)
    (dp : Option Addr) (dLen dCap : Nat) (t : ByteArray) (hd : a.eval d = .slice dp dLen dCap) (hs : a.eval s = .string t)
    (g off : Nat) (cur : List Value) (hg : Row w g E cur) (hle : t.size ≤ dLen) (hpos : 0 < t.size → dp = some ⟨g, off, none⟩) (hfit : off + t.size ≤ cur.length)
    (B : Nat) (w0 : World) (hb : Below B w0 w) (hBg : B ≤ g)
    (hK : ∀ w', Row w' g E (splice cur off (byteCells t.data.toList)) → Below B w0 w' → g < w'.heap.size → wpList P ops Q rest (a.put o.dst (goInt t.size)) w') :
    wpList P ops Q (o :: rest) a w := by
  refine wpList_plain hgd fun K hK' => ?_
  have hlen : (byteCells t.data.toList).length = t.size := by rw [byteCells_length, ← size_eq]
  by_cases h0 : t.size = 0
  · have hrun := run_copy_empty_string (P := P) w dT sT o.type E dp dLen dCap t hu (by cases hq : P.info? E <;> simp [hq] at hsz ⊢) h0
    have he : byteCells t.data.toList = [] := List.eq_nil_of_length_eq_zero (by omega)
    unfold Oper.wp
    simp [execOp, ho, resolve, invoke, builtin, hd, hs, hrun, Result.andThen]
    have h := hK w (by rw [he]; simpa [splice] using hg) hb hg.lt
    rw [h0] at h
    exact hK' _ _ h
  · obtain rfl := hpos (by omega)
    have hrun := run_copy_row_string (P := P) w dT sT o.type E g off dLen dCap t cur.toArray E hu hsz hg hle (by simpa using hfit)
    unfold Oper.wp
    simp [execOp, ho, resolve, invoke, builtin, hd, hs, hrun, Result.andThen]
    refine hK' _ _ (hK _ ?_ (below_setRow hb hBg _) (by have := hg.lt; simp [World.setRow]; omega))
    unfold Row
    have := setRow_heap w g cur.toArray (cur.toArray.toList.take off ++ byteCells t.data.toList ++ cur.toArray.toList.drop (off + t.size)).toArray E _ hg
    simpa [splice, hlen] using this

theorem run_slice_tail (T E : TypeId) (hu : P.underlying T = some (.slice E)) (hsz : ∀ w, (Go.sizeOf E).run P w = .ok 1 w) (g k m : Nat) :
    ∃ dp, (0 < m → dp = some (⟨g, k, none⟩ : Addr)) ∧ ∀ w, (Instr.slice T (.slice (some ⟨g, 0, none⟩) (k + m) (k + m)) (some (.int .i64 (k : Int))) none none).run P w = .ok (.slice dp m m) w := by
  have he : P.elem T = E := by simp [Program.elem, hu]
  have hu' : P.underlying T = some (.slice (P.elem T)) := by rw [he]; exact hu
  have e1 : k + m - k = m := by omega
  refine ⟨if k + m = k then some ⟨g, 0, none⟩ else some ⟨g, k, none⟩, fun h => if_neg (by omega), fun w => ?_⟩
  rw [run_slice_l w T _ _ _ hu' .i64 k (by omega) (by omega), he, hsz]
  by_cases h : m = 0
  · subst h
    simp [Result.andThen, sliced]
  · simp [Result.andThen, sliced, e1, h, Addr.add]
    exact fun e => e.symm

theorem wpList_slice_tail (hgd : o.guard = none) (x l : Operand) (T E : TypeId) (ho : o.op = .slice T x (some l) none none) (hu : P.underlying T = some (.slice E)) (hsz : ∀ w, (Go.sizeOf E).run P w = .ok 1 w)
    (g k m n c : Nat) (K : Int) (hx : a.eval x = .slice (some ⟨g, 0, none⟩) n c) (hl : a.eval l = .int .i64 K) (hK0 : K = (k : Int)) (hn : n = k + m) (hc : c = k + m)
    (hK : ∀ dp, (0 < m → dp = some (⟨g, k, none⟩ : Addr)) → wpList P ops Q rest (a.put o.dst (.slice dp m m)) w) : wpList P ops Q (o :: rest) a w := by
  subst hn; subst hc; subst hK0
  obtain ⟨dp, hdp, hrun⟩ := run_slice_tail T E hu hsz g k m
  refine wpList_plain hgd fun K hK' => ?_
  unfold Oper.wp
  have hu' : P.underlying T = some (.slice (P.elem T)) := by simp [Program.elem, hu]
  simp [execOp, ho, hx, hl, run_sliceAt_slice w T _ _ _ _ hu', hrun, Result.andThen]
  exact hK' _ _ (hK dp hdp)

theorem wpList_bytes_str (hgd : o.guard = none) (x : Operand) (src dst E : TypeId) (ho : o.op = .convert src dst x) (hs : P.underlying src = some (.slice E)) (he : P.underlying E = some (.int .u8)) (hd : P.underlying dst = some .string)
    (g n cap : Nat) (s : ByteArray) (hx : a.eval x = .slice (some ⟨g, 0, none⟩) n cap) {E' : TypeId} (r : List Value) (hg : Row w g E' (byteCells s.data.toList ++ r)) (hn : n = s.size)
    (hK : wpList P ops Q rest (a.put o.dst (.string s)) w) : wpList P ops Q (o :: rest) a w := by
  refine wpList_plain hgd fun K hK' => ?_
  subst hn
  have hrun := run_convert_whole (P := P) w src E dst hs he hd g 0 s hg.bytes cap
  unfold Oper.wp
  simp [execOp, ho, hx, hrun, Result.andThen]
  exact hK' _ _ hK

theorem wpList_arr_head (hgd : o.guard = none) (x h : Operand) (T E : TypeId) (ho : o.op = .slice T x none (some h) none) (N : Nat) (hu : P.underlying T = some (.array N E)) (hsz : ∀ w, (Go.sizeOf E).run P w = .ok 1 w)
    (g m : Nat) (H : Int) (hx : a.eval x = .pointer (some ⟨g, 0, none⟩)) (hh : a.eval h = .int .i64 H) (hH : H = (m : Int)) (hm : m ≤ N)
    (hK : wpList P ops Q rest (a.put o.dst (.slice (some ⟨g, 0, none⟩) m N)) w) : wpList P ops Q (o :: rest) a w := by
  subst hH
  have he : P.elem T = E := by simp [Program.elem, hu]
  have hn : P.arrayLen T = N := by simp [Program.arrayLen, hu]
  refine wpList_plain hgd fun K hK' => ?_
  have hrun := run_sliceAt_array_h (P := P) w T ⟨g, 0, none⟩ (by rw [he, hn]; exact hu) .i64 m (by omega) (by rw [hn]; omega)
  rw [he, hsz, hn] at hrun
  unfold Oper.wp
  simp [execOp, ho, hx, hh, hrun, Result.andThen, slicedAt, Addr.add]
  exact hK' _ _ hK

theorem wpList_arr_all (hgd : o.guard = none) (x : Operand) (T E : TypeId) (ho : o.op = .slice T x none none none) (N : Nat) (hu : P.underlying T = some (.array N E)) (hsz : ∀ w, (Go.sizeOf E).run P w = .ok 1 w)
    (g : Nat) (hx : a.eval x = .pointer (some ⟨g, 0, none⟩))
    (hK : wpList P ops Q rest (a.put o.dst (.slice (some ⟨g, 0, none⟩) N N)) w) : wpList P ops Q (o :: rest) a w := by
  have he : P.elem T = E := by simp [Program.elem, hu]
  have hn : P.arrayLen T = N := by simp [Program.arrayLen, hu]
  refine wpList_plain hgd fun K hK' => ?_
  have hrun := run_sliceAt_array_all (P := P) w T ⟨g, 0, none⟩ (by rw [he, hn]; exact hu)
  rw [he, hsz, hn] at hrun
  unfold Oper.wp
  simp [execOp, ho, hx, hrun, Result.andThen, slicedAt, Addr.add]
  exact hK' _ _ hK

theorem wpList_own_str (hgd : o.guard = none) (x : Operand) (src dst E : TypeId) (ho : o.op = .convert src dst x) (hs : P.underlying src = some (.slice E)) (he : P.underlying E = some (.int .u8)) (hd : P.underlying dst = some .string)
    {base n : Nat} (v : Value) (l : List UInt8) (hx : a.eval x = v) (hown : w.ownsRow base E 1 v n (byteCells l))
    (hK : wpList P ops Q rest (a.put o.dst (.string ⟨l.toArray⟩)) w) : wpList P ops Q (o :: rest) a w := by
  refine wpList_plain hgd fun K hK' => ?_
  have hl : l.length = n := by have := hown.1; rw [byteCells_length] at this; omega
  rcases hown.2 with ⟨rfl, h0⟩ | ⟨g, cap, cur, rfl, hBg, hg, hnc, hcm, hcs, htk⟩
  · subst h0
    obtain rfl : l = [] := List.eq_nil_of_length_eq_zero hl
    have hrun := run_convert_nil_bytes (P := P) w src dst E 0 hs he hd
    unfold Oper.wp
    simp [execOp, ho, hx, hrun, Result.andThen]
    exact hK' _ _ hK
  · have hR : Row w g E (byteCells (⟨l.toArray⟩ : ByteArray).data.toList ++ cur.toList.drop n) := by
      unfold Row
      rw [hg]
      congr 2
      apply Array.toList_inj.1
      have e := List.take_append_drop n cur.toList
      rw [show n = n * 1 from (Nat.mul_one n).symm, htk] at e
      simpa using e.symm
    have hrun := run_convert_whole (P := P) w src E dst hs he hd g 0 ⟨l.toArray⟩ hR.bytes cap
    rw [show (⟨l.toArray⟩ : ByteArray).size = n from by rw [← hl]; rfl] at hrun
    unfold Oper.wp
    simp [execOp, ho, hx, hrun, Result.andThen]
    exact hK' _ _ hK
end

theorem splice_two (z : Value) (s t : ByteArray) :
    splice (splice (List.replicate (s.size + t.size) z) 0 (byteCells s.data.toList)) s.size (byteCells t.data.toList) = byteCells (s ++ t).data.toList ++ [] := by
  have h1 : (byteCells s.data.toList).length = s.size := by rw [byteCells_length, ← size_eq]
  have h2 : (byteCells t.data.toList).length = t.size := by rw [byteCells_length, ← size_eq]
  have e1 : splice (List.replicate (s.size + t.size) z) 0 (byteCells s.data.toList) = byteCells s.data.toList ++ List.replicate t.size z := by
    simp [splice, h1]
  rw [e1, splice, h2, ← h1, List.take_left, List.drop_eq_nil_of_le (by simp [h1])]
  simp [← byteCells_append]
end Go.Proofs.Ytchfgdiipjbgoaa
