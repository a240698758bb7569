/- A buffer of bytes that the call owns: its first bytes, what append does to it, and the string made of it. Over any program. -/
import Derived.Test.YtjoobpieomhklaaAid
import Derived.Test.YtjoobpieomhklaaJoin
import Derived.Lib.BufSteps
namespace Go.Proofs.Ytjoobpieomhklaa
open Go Go.RowKit Go.Lib

/-- v is a slice of the call's own that holds the bytes l; below W0's heap nothing has changed. -/
def Buf (E : TypeId) (W0 w : World) (v : Value) (l : List UInt8) : Prop := OwnBuf W0.heap.size E v l.length (byteCells l) W0 w
theorem Buf.below {E : TypeId} {W0 w : World} {v : Value} {l : List UInt8} (h : Buf E W0 w v l) : Below W0.heap.size W0 w := h.2.1
theorem Buf.alloc {E : TypeId} {W0 w : World} {v : Value} {l : List UInt8} (h : Buf E W0 w v l) (o : Obj) : Buf E W0 (w.alloc o) v l := OwnBuf.alloc h o
theorem Buf.nil (E : TypeId) {W0 w : World} (h : Below W0.heap.size W0 w) : Buf E W0 w (.slice none 0 0) [] := ⟨World.ownsRowF_nil _ _ _ _, h, h.size⟩
theorem Buf.lit (E : TypeId) {W0 w : World} (h : Below W0.heap.size W0 w) : Buf E W0 (w.alloc (.cells #[] E)) (.slice (some ⟨w.heap.size, 0, none⟩) 0 0) [] :=
  ⟨World.ownsRowF_of (World.ownsRow_lit w #[] 0 h.size (by decide) rfl), h.alloc h.size _, Nat.le_trans h.size (by simp)⟩
theorem Buf.later {E : TypeId} {W0 w w' : World} {v : Value} {l : List UInt8} (h : Buf E W0 w v l) (hb : Below w.heap.size w w') : Buf E W0 w' v l := by
  refine ⟨?_, h.2.1.trans (hb.mono h.2.2), Nat.le_trans h.2.2 hb.size⟩
  obtain ⟨h1, h2⟩ := h.1
  refine ⟨h1, ?_⟩
  rcases h2 with h2 | ⟨g, cap, cur, fz, hv, hg, hc, hr⟩
  · exact .inl h2
  · exact .inr ⟨g, cap, cur, fz, hv, hg, by rw [hb.block g (Array.getElem?_eq_some_iff.1 hc).1]; exact hc, hr⟩

theorem byteCells_snoc (l : List UInt8) (c : UInt8) : byteCells (l ++ [c]) = byteCells l ++ [.int .u8 (c.toNat : Int)] := by simp [byteCells]
theorem strCells_eq (s : ByteArray) : strCells s = byteCells s.data.toList := by
  unfold strCells byteCells
  apply List.ext_getElem?
  intro i
  by_cases h : i < s.size
  · simp [h]
  · simp [h]

section
variable {P : Program} {ops : Array Oper} {rest : List Oper} {o : Oper} {a : Act} {Q : Exit → Act → World → Prop}

/-- 'b = append(b, c)'. -/
theorem wpList_push (hgd : o.guard = none) (s x : Operand) (t E : TypeId) (ho : o.op = .call { callee := .builtin .append, args := #[s, x], argTypes := #[t, t] })
    (i : TypeInfo) (ht : P.underlying t = some (.slice E)) (hi : P.info? E = some i) (hz : i.zero = some (.int .u8 0)) (hsize : i.size = 1) (hby : i.bytes = 1)
    (W0 w0 : World) (v : Value) (l : List UInt8) (c : UInt8) (hs : a.eval s = v) (hb : Buf E W0 w0 v l) (hx : a.eval x = .slice (some ⟨w0.heap.size, 0, none⟩) 1 1) (hlen : l.length + 1 ≤ 140737488355328)
    (h : ∀ v' w', Buf E W0 w' v' (l ++ [c]) → wpList P ops Q rest (a.put o.dst v') w') : wpList P ops Q (o :: rest) a (w0.alloc (.cells #[.int .u8 (c.toNat : Int)] E)) := by
  refine wpList_append_byte hgd s x t ho W0.heap.size E i ht hi hz hsize hby v l.length (byteCells l) hs W0 w0 _ hb hx hlen fun v' w' h' => h v' w' ?_
  unfold Buf
  rw [byteCells_snoc, List.length_append]
  exact h'

/-- 'b = append(b, s...)', s a string. -/
theorem wpList_text {w : World} (hgd : o.guard = none) (sl x : Operand) (t u E : TypeId) (ho : o.op = .call { callee := .builtin .append, args := #[sl, x], argTypes := #[t, u] })
    (i : TypeInfo) (ht : P.underlying t = some (.slice E)) (hu : P.underlying u = some .string) (hi : P.info? E = some i) (hz : i.zero = some (.int .u8 0)) (hsize : i.size = 1) (hby : i.bytes = 1)
    (W0 : World) (v : Value) (l : List UInt8) (s : ByteArray) (hs : a.eval sl = v) (hb : Buf E W0 w v l) (hx : a.eval x = .string s) (hlen : l.length + s.size ≤ 140737488355328)
    (h : ∀ v' w', Buf E W0 w' v' (l ++ s.data.toList) → wpList P ops Q rest (a.put o.dst v') w') : wpList P ops Q (o :: rest) a w := by
  refine wpList_append_text hgd sl x t u ho W0.heap.size E i ht hu hi hz hsize hby v l.length (byteCells l) hs W0 hb s hx hlen fun v' w' h' => h v' w' ?_
  unfold Buf
  rw [byteCells_append, List.length_append, ← strCells_eq, ← size_eq]
  exact h'

/-- 'string(b)'. -/
theorem wpList_buf_str {w : World} (hgd : o.guard = none) (x : Operand) (src dst E : TypeId) (ho : o.op = .convert src dst x) (hs : P.underlying src = some (.slice E)) (he : P.underlying E = some (.int .u8)) (hd : P.underlying dst = some .string)
    (W0 : World) (v : Value) (l : List UInt8) (hx : a.eval x = v) (hb : Buf E W0 w v l) (hK : wpList P ops Q rest (a.put o.dst (.string ⟨l.toArray⟩)) w) : wpList P ops Q (o :: rest) a w := by
  refine wpList_plain hgd fun K hK' => ?_
  rcases hb.1.2 with ⟨rfl, h0⟩ | ⟨g, cap, cur, fz, rfl, hBg, hg, hfz, hnc, hcm, hcs, htk⟩
  · obtain rfl : l = [] := List.eq_nil_of_length_eq_zero h0
    have hrun := run_convert_nil_bytes (P := P) w src dst E 0 hs he hd
    unfold Oper.wp
    simp [execOp, ho, hx, hrun, Result.andThen]
    exact hK' _ _ hK
  · have hB : Bytes w g 0 ⟨l.toArray⟩ := fun j hj => by
      have hj' : j < l.length := hj
      have e : cur.toList[j]? = some (.int .u8 (l[j].toNat : Int)) := by
        have h1 : (cur.toList.take (l.length * 1))[j]? = (byteCells l)[j]? := by rw [htk]
        rw [List.getElem?_take_of_lt (by omega)] at h1
        rw [h1]
        simp [byteCells, hj']
      have e2 : w.cell? ⟨g, 0 + j, none⟩ = cur.toList[j]? := by
        simp [World.cell?, hg]
      rw [e2, e]
      rfl
    have hrun := run_convert_whole (P := P) w src E dst hs he hd g 0 ⟨l.toArray⟩ hB cap
    rw [show (⟨l.toArray⟩ : ByteArray).size = l.length from rfl] at hrun
    unfold Oper.wp
    simp [execOp, ho, hx, hrun, Result.andThen]
    exact hK' _ _ hK
end
end Go.Proofs.Ytjoobpieomhklaa
