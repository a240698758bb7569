/- A buffer of bytes that the call owns: its first bytes, what append does to it, and the string made of it. Over any program. -/
import Derived.Test.YtjoobpieomhklaaDoorAid
import Derived.Test.YtjoobpieomhklaaDoorJoin
import Derived.Lib.BufSteps
import Derived.Deep.MidRow
namespace Go.Proofs.YtjoobpieomhklaaDoor
open Go Go.RowKit Go.Lib

/-- v is a slice of the call's own that holds the bytes l; below W0's heap nothing has changed. -/
def Buf (E : TypeId) (W0 w : World) (v : Value) (l : List UInt8) : Prop := OwnBuf W0.heap.size E v l.length (byteCells l) W0 w
theorem Buf.below {E : TypeId} {W0 w : World} {v : Value} {l : List UInt8} (h : Buf E W0 w v l) : Below W0.heap.size W0 w := h.2.1
theorem Buf.alloc {E : TypeId} {W0 w : World} {v : Value} {l : List UInt8} (h : Buf E W0 w v l) (o : Obj) : Buf E W0 (w.alloc o) v l := OwnBuf.alloc h o
theorem Buf.nil (E : TypeId) {W0 w : World} (h : Below W0.heap.size W0 w) : Buf E W0 w (.slice none 0 0) [] := ⟨World.ownsRowF_nil _ _ _ _, h, h.size⟩
theorem Buf.lit (E : TypeId) {W0 w : World} (h : Below W0.heap.size W0 w) : Buf E W0 (w.alloc (.cells #[] E)) (.slice (some ⟨w.heap.size, 0, none⟩) 0 0) [] :=
  ⟨World.ownsRowF_of (World.ownsRow_lit w #[] 0 h.size (by decide) rfl), h.alloc h.size _, Nat.le_trans h.size (by simp)⟩
theorem Buf.later {E : TypeId} {W0 w w' : World} {v : Value} {l : List UInt8} (h : Buf E W0 w v l) (hb : Below w.heap.size w w') : Buf E W0 w' v l := by
  refine ⟨?_, h.2.1.trans (hb.mono h.2.2), Nat.le_trans h.2.2 hb.size⟩
  obtain ⟨h1, h2⟩ := h.1
  refine ⟨h1, ?_⟩
  rcases h2 with h2 | ⟨g, cap, cur, fz, hv, hg, hc, hr⟩
  · exact .inl h2
  · exact .inr ⟨g, cap, cur, fz, hv, hg, by rw [hb.block g (Array.getElem?_eq_some_iff.1 hc).1]; exact hc, hr⟩

theorem byteCells_snoc (l : List UInt8) (c : UInt8) : byteCells (l ++ [c]) = byteCells l ++ [.int .u8 (c.toNat : Int)] := by simp [byteCells]
theorem strCells_eq (s : ByteArray) : strCells s = byteCells s.data.toList := by
  unfold strCells byteCells
  apply List.ext_getElem?
  intro i
  by_cases h : i < s.size
  · simp [h]
  · simp [h]

section
variable {P : Program} {ops : Array Oper} {rest : List Oper} {o : Oper} {a : Act} {Q : Exit → Act → World → Prop}

/-- 'b = append(b, c)'. -/
theorem wpList_push (hgd : o.guard = none) (s x : Operand) (t E : TypeId) (ho : o.op = .call { callee := .builtin .append, args := #[s, x], argTypes := #[t, t] })
    (i : TypeInfo) (ht : P.underlying t = some (.slice E)) (hi : P.info? E = some i) (hz : i.zero = some (.int .u8 0)) (hsize : i.size = 1) (hby : i.bytes = 1)
    (W0 w0 : World) (v : Value) (l : List UInt8) (c : UInt8) (hs : a.eval s = v) (hb : Buf E W0 w0 v l) (hx : a.eval x = .slice (some ⟨w0.heap.size, 0, none⟩) 1 1) (hlen : l.length + 1 ≤ 140737488355328)
    (h : ∀ v' w', Buf E W0 w' v' (l ++ [c]) → wpList P ops Q rest (a.put o.dst v') w') : wpList P ops Q (o :: rest) a (w0.alloc (.cells #[.int .u8 (c.toNat : Int)] E)) := by
  refine wpList_append_byte hgd s x t ho W0.heap.size E i ht hi hz hsize hby v l.length (byteCells l) hs W0 w0 _ hb hx hlen fun v' w' h' => h v' w' ?_
  unfold Buf
  rw [byteCells_snoc, List.length_append]
  exact h'

/-- .. c a constant. -/
theorem wpList_push_const (hgd : o.guard = none) (s x : Operand) (t E : TypeId) (ho : o.op = .call { callee := .builtin .append, args := #[s, x], argTypes := #[t, t] })
    (i : TypeInfo) (ht : P.underlying t = some (.slice E)) (hi : P.info? E = some i) (hz : i.zero = some (.int .u8 0)) (hsize : i.size = 1) (hby : i.bytes = 1)
    (W0 w0 : World) (v : Value) (l : List UInt8) (c : UInt8) (C : Int) (hC : C = (c.toNat : Int)) (hs : a.eval s = v) (hb : Buf E W0 w0 v l) (hx : a.eval x = .slice (some ⟨w0.heap.size, 0, none⟩) 1 1) (hlen : l.length + 1 ≤ 140737488355328)
    (h : ∀ v' w', Buf E W0 w' v' (l ++ [c]) → wpList P ops Q rest (a.put o.dst v') w') : wpList P ops Q (o :: rest) a (w0.alloc (.cells #[.int .u8 C] E)) := by
  subst hC
  exact wpList_push hgd s x t E ho i ht hi hz hsize hby W0 w0 v l c hs hb hx hlen h

/-- 'b = append(b, s...)', s a string. -/
theorem wpList_text {w : World} (hgd : o.guard = none) (sl x : Operand) (t u E : TypeId) (ho : o.op = .call { callee := .builtin .append, args := #[sl, x], argTypes := #[t, u] })
    (i : TypeInfo) (ht : P.underlying t = some (.slice E)) (hu : P.underlying u = some .string) (hi : P.info? E = some i) (hz : i.zero = some (.int .u8 0)) (hsize : i.size = 1) (hby : i.bytes = 1)
    (W0 : World) (v : Value) (l : List UInt8) (s : ByteArray) (hs : a.eval sl = v) (hb : Buf E W0 w v l) (hx : a.eval x = .string s) (hlen : l.length + s.size ≤ 140737488355328)
    (h : ∀ v' w', Buf E W0 w' v' (l ++ s.data.toList) → wpList P ops Q rest (a.put o.dst v') w') : wpList P ops Q (o :: rest) a w := by
  refine wpList_append_text hgd sl x t u ho W0.heap.size E i ht hu hi hz hsize hby v l.length (byteCells l) hs W0 hb s hx hlen fun v' w' h' => h v' w' ?_
  unfold Buf
  rw [byteCells_append, List.length_append, ← strCells_eq, ← size_eq]
  exact h'

/-- .. with a word on what else is kept. -/
theorem wpList_text_g {w : World} (hgd : o.guard = none) (sl x : Operand) (t u E : TypeId) (ho : o.op = .call { callee := .builtin .append, args := #[sl, x], argTypes := #[t, u] })
    (i : TypeInfo) (ht : P.underlying t = some (.slice E)) (hu : P.underlying u = some .string) (hi : P.info? E = some i) (hz : i.zero = some (.int .u8 0)) (hsize : i.size = 1) (hby : i.bytes = 1)
    (W0 : World) (v : Value) (l : List UInt8) (s : ByteArray) (hs : a.eval sl = v) (hb : Buf E W0 w v l) (hx : a.eval x = .string s) (hlen : l.length + s.size ≤ 140737488355328)
    (h : ∀ v' w', Buf E W0 w' v' (l ++ s.data.toList) → w.grownBy w' v.ownBlock → wpList P ops Q rest (a.put o.dst v') w') : wpList P ops Q (o :: rest) a w := by
  refine wpList_append_own_stringF w hgd sl x t u ho W0.heap.size E i ht hu hi hz hsize hby v l.length (byteCells l) hs hb.1 s hx (by unfold maxLen; omega) hlen hb.2.2 fun v' w' h1 h2 _ => h v' w' ?_ h2
  unfold Buf
  rw [byteCells_append, List.length_append, ← strCells_eq, ← size_eq]
  exact OwnBuf.grown hb h1 h2
theorem wpList_push_const_g (hgd : o.guard = none) (s x : Operand) (t E : TypeId) (ho : o.op = .call { callee := .builtin .append, args := #[s, x], argTypes := #[t, t] })
    (i : TypeInfo) (ht : P.underlying t = some (.slice E)) (hi : P.info? E = some i) (hz : i.zero = some (.int .u8 0)) (hsize : i.size = 1) (hby : i.bytes = 1)
    (W0 w0 : World) (v : Value) (l : List UInt8) (c : UInt8) (C : Int) (hC : C = (c.toNat : Int)) (hs : a.eval s = v) (hb : Buf E W0 w0 v l) (h1 : Nat) (hx : a.eval x = .slice (some ⟨h1, 0, none⟩) 1 1) (hh1 : h1 = w0.heap.size) (hlen : l.length + 1 ≤ 140737488355328)
    (h : ∀ v' w', Buf E W0 w' v' (l ++ [c]) → (w0.alloc (.cells #[.int .u8 C] E)).grownBy w' v.ownBlock → wpList P ops Q rest (a.put o.dst v') w') : wpList P ops Q (o :: rest) a (w0.alloc (.cells #[.int .u8 C] E)) := by
  subst hC
  subst hh1
  have hb' := hb.alloc (.cells #[.int .u8 (c.toNat : Int)] E)
  have hR : Row (w0.alloc (.cells #[.int .u8 (c.toNat : Int)] E)) w0.heap.size E [.int .u8 (c.toNat : Int)] := heap_alloc_new w0 _
  refine wpList_append_ownF _ hgd s x t ho W0.heap.size E i (.int .u8 0) 1 1 ht hi hz hsize hby rfl (by decide) v l.length (byteCells l) hs hb'.1 ⟨w0.heap.size, 0, none⟩ 1 1 [.int .u8 (c.toNat : Int)] hx rfl
    (fun j u hj => by rw [Addr.add_mid, Nat.zero_add, hR.cell]; exact hj) (by intro u hu; simp at hu; subst hu; rfl) (by unfold maxLen; omega) (by omega) hb'.2.2 fun v' w' h1 h2 _ => h v' w' ?_ h2
  unfold Buf
  rw [byteCells_snoc, List.length_append]
  exact OwnBuf.grown hb' h1 h2
/-- A block of another element type is not the buffer's. -/
theorem Buf.apart {E T : TypeId} {W0 w : World} {v : Value} {l : List UInt8} (h : Buf E W0 w v l) {q : Nat} {c : Array Value} {fr : Nat × Nat} (hq : w.heap[q]? = some (.cells c T fr)) (hT : T ≠ E) : some q ≠ v.ownBlock := fun e => by
  rcases h.1.2 with ⟨rfl, _⟩ | ⟨g, cap, cur, fz, rfl, _, hg, _⟩
  · cases e
  · simp only [Value.ownBlock, Option.some.injEq] at e
    subst e
    rw [hq] at hg
    simp only [Option.some.injEq, Obj.cells.injEq] at hg
    exact hT hg.2.1
theorem Buf.keeps {E T : TypeId} {W0 w w' : World} {v : Value} {l : List UInt8} (h : Buf E W0 w v l) {q : Nat} {c : Array Value} {fr : Nat × Nat} (hq : w.heap[q]? = some (.cells c T fr)) (hT : T ≠ E) (hg : w.grownBy w' v.ownBlock) : w'.heap[q]? = some (.cells c T fr) :=
  (hg.block q (Array.getElem?_eq_some_iff.1 hq).1 (h.apart hq hT)).trans hq

/-- 'b = append(b, ..)', several bytes that lie in a row: as a step of a region that draws its order. -/
theorem step_push {w : World} {K : Act → World → Prop} {F : Prop} (hgd : o.guard = none) (s x : Operand) (t E : TypeId) (ho : o.op = .call { callee := .builtin .append, args := #[s, x], argTypes := #[t, t] })
    (i : TypeInfo) (ht : P.underlying t = some (.slice E)) (hi : P.info? E = some i) (hz : i.zero = some (.int .u8 0)) (hsize : i.size = 1) (hby : i.bytes = 1)
    (W0 : World) (v : Value) (l news : List UInt8) (ad : Addr) (m c : Nat) (hs : a.eval s = v) (hb : Buf E W0 w v l) (hx : a.eval x = .slice (some ad) m c) (hm : news.length = m)
    (hn : ∀ j u, (byteCells news)[j]? = some u → w.cell? (ad.add j) = some u) (hlen : l.length + m ≤ 140737488355328)
    (h : ∀ v' w', Buf E W0 w' v' (l ++ news) → K (a.put o.dst v') w') : if Region.wanted o (yielded ops a.tmps) = true then Oper.wp P o a w K Q else F := by
  have hw : Region.wanted o (yielded ops a.tmps) = true := by simp [Region.wanted, hgd]
  rw [if_pos hw]
  obtain ⟨v', w', hr, h2, h3, _⟩ := run_append_ownF (P := P) w W0.heap.size t o.type E i (.int .u8 0) 1 1 ht hi hz hsize hby rfl (by decide) v l.length (byteCells l) hb.1 ad m c (byteCells news) (by rw [byteCells_length, hm, Nat.mul_one]) hn
    (fun u hu => by obtain ⟨y, _, rfl⟩ := List.mem_map.1 hu; rfl) (by unfold maxLen; omega) (by omega) hb.2.2
  unfold Oper.wp execOp
  simp only [ho, resolve, invoke, builtin, Sem.run_bind, Sem.run_pure, Result.andThen_ok, List.map_toArray, List.map_cons, List.map_nil, hs, hx, hr]
  refine h v' w' ?_
  unfold Buf
  rw [byteCells_append, List.length_append, hm]
  exact OwnBuf.grown hb h2 h3
/-- 'b = append(b, s...)', s a string: as a step of a region that draws its order. -/
theorem step_text {w : World} {K : Act → World → Prop} {F : Prop} (hgd : o.guard = none) (sl x : Operand) (t u E : TypeId) (ho : o.op = .call { callee := .builtin .append, args := #[sl, x], argTypes := #[t, u] })
    (i : TypeInfo) (ht : P.underlying t = some (.slice E)) (hu : P.underlying u = some .string) (hi : P.info? E = some i) (hz : i.zero = some (.int .u8 0)) (hsize : i.size = 1) (hby : i.bytes = 1)
    (W0 : World) (v : Value) (l : List UInt8) (s : ByteArray) (hs : a.eval sl = v) (hb : Buf E W0 w v l) (hx : a.eval x = .string s) (hlen : l.length + s.size ≤ 140737488355328)
    (h : ∀ v' w', Buf E W0 w' v' (l ++ s.data.toList) → K (a.put o.dst v') w') : if Region.wanted o (yielded ops a.tmps) = true then Oper.wp P o a w K Q else F := by
  have hw : Region.wanted o (yielded ops a.tmps) = true := by simp [Region.wanted, hgd]
  rw [if_pos hw]
  obtain ⟨v', w', hr, h2, h3, _⟩ := run_append_own_stringF (P := P) w W0.heap.size t u o.type E i ht hu hi hz hsize hby v l.length (byteCells l) hb.1 s (by unfold maxLen; omega) hlen hb.2.2
  unfold Oper.wp execOp
  simp only [ho, resolve, invoke, builtin, Sem.run_bind, Sem.run_pure, Result.andThen_ok, List.map_toArray, List.map_cons, List.map_nil, hs, hx, hr]
  refine h v' w' ?_
  unfold Buf
  rw [byteCells_append, List.length_append, ← strCells_eq, ← size_eq]
  exact OwnBuf.grown hb h2 h3
theorem Buf.drew {E : TypeId} {W0 w : World} {v : Value} {l : List UInt8} (h : Buf E W0 w v l) : Buf E W0 w.drew v l := ⟨h.1, h.2.1.drew, h.2.2⟩

/-- 'string(b)'. -/
theorem wpList_buf_str {w : World} (hgd : o.guard = none) (x : Operand) (src dst E : TypeId) (ho : o.op = .convert src dst x) (hs : P.underlying src = some (.slice E)) (he : P.underlying E = some (.int .u8)) (hd : P.underlying dst = some .string)
    (W0 : World) (v : Value) (l : List UInt8) (hx : a.eval x = v) (hb : Buf E W0 w v l) (hK : wpList P ops Q rest (a.put o.dst (.string ⟨l.toArray⟩)) w) : wpList P ops Q (o :: rest) a w := by
  refine wpList_plain hgd fun K hK' => ?_
  rcases hb.1.2 with ⟨rfl, h0⟩ | ⟨g, cap, cur, fz, rfl, hBg, hg, hfz, hnc, hcm, hcs, htk⟩
  · obtain rfl : l = [] := List.eq_nil_of_length_eq_zero h0
    have hrun := run_convert_nil_bytes (P := P) w src dst E 0 hs he hd
    unfold Oper.wp
    simp [execOp, ho, hx, hrun, Result.andThen]
    exact hK' _ _ hK
  · have hB : Bytes w g 0 ⟨l.toArray⟩ := fun j hj => by
      have hj' : j < l.length := hj
      have e : cur.toList[j]? = some (.int .u8 (l[j].toNat : Int)) := by
        have h1 : (cur.toList.take (l.length * 1))[j]? = (byteCells l)[j]? := by rw [htk]
        rw [List.getElem?_take_of_lt (by omega)] at h1
        rw [h1]
        simp [byteCells, hj']
      have e2 : w.cell? ⟨g, 0 + j, none⟩ = cur.toList[j]? := by
        simp [World.cell?, hg]
      rw [e2, e]
      rfl
    have hrun := run_convert_whole (P := P) w src E dst hs he hd g 0 ⟨l.toArray⟩ hB cap
    rw [show (⟨l.toArray⟩ : ByteArray).size = l.length from rfl] at hrun
    unfold Oper.wp
    simp [execOp, ho, hx, hrun, Result.andThen]
    exact hK' _ _ hK
end
end Go.Proofs.YtjoobpieomhklaaDoor
