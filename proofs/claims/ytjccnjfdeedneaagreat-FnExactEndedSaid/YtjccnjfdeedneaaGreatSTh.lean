/- A thread, as data, in cells, as an argument. -/
import Derived.Test.YtjccnjfdeedneaaGreatSGdD
import Derived.Test.YtjccnjfdeedneaaGreatSReqArg
namespace Go.Proofs.YtjccnjfdeedneaaGreat
open Go Go.RowKit Go.Lib Go.ChangeShapes Go.WideShapes
set_option linter.unusedVariables false
set_option maxRecDepth 100000

structure TH where
 req : RQ
 pc : Int
 ver : Int
 till : Int
 resp : RS
 done : Bool
def thL (t : TH) : List Value := [.int .i64 t.req.no, .int .i64 t.req.kind, .int .i64 t.req.client, .int .i64 t.req.code, .int .i64 t.req.token, .string t.req.proof, .int .i64 t.req.upTo, .int .i64 t.pc, .int .i64 t.ver, .int .i64 t.till, .int .i64 t.resp.code, .int .i64 t.resp.token, .int .i64 t.resp.next, .bool t.resp.yes, .bool t.done]
def thV (t : TH) : Value := .agg #[.int .i64 t.req.no, .int .i64 t.req.kind, .int .i64 t.req.client, .int .i64 t.req.code, .int .i64 t.req.token, .string t.req.proof, .int .i64 t.req.upTo, .int .i64 t.pc, .int .i64 t.ver, .int .i64 t.till, .int .i64 t.resp.code, .int .i64 t.resp.token, .int .i64 t.resp.next, .bool t.resp.yes, .bool t.done]
def threadB (t : TH) : Bool := rightB t.req && (isB t.pc 0 9 && (isB t.ver 0 1000000 && isB t.till 0 1000000))
section
variable {H : Type} {enc : TypeId × Value → H} {w : World} {base : Nat} {sp : Nat → Bool} {held : Bool}
theorem thCells : Tryz.prog.cellsOf 196 = 15 := by kernel_rfl
theorem thrCells : Tryz.prog.cellsOf 194 = 4 := by kernel_rfl
theorem thbCells : Tryz.prog.cellsOf 4 = 1 := by kernel_rfl
theorem req_of {n : Nat} {cs : List Value} {x : DataW H × List MemPlace} (hl : cs.length = 7) (h : DataW.trod enc Tryz.prog w base sp held n 142 cs = some x) :
  ∃ q : RQ, cs = [.int .i64 q.no, .int .i64 q.kind, .int .i64 q.client, .int .i64 q.code, .int .i64 q.token, .string q.proof, .int .i64 q.upTo] ∧ RQ64 q := by
 obtain ⟨xs, m, _, _, _, hlen, hall⟩ := DataW.trod_struct Tryz.underlying142 h
 match cs, hl with
 | [c0, c1, c2, c3, c4, c5, c6], _ =>
  obtain ⟨x0, h0⟩ := some_of_len (i := 0) hlen (by decide)
  obtain ⟨x1, h1⟩ := some_of_len (i := 1) hlen (by decide)
  obtain ⟨x2, h2⟩ := some_of_len (i := 2) hlen (by decide)
  obtain ⟨x3, h3⟩ := some_of_len (i := 3) hlen (by decide)
  obtain ⟨x4, h4⟩ := some_of_len (i := 4) hlen (by decide)
  obtain ⟨x5, h5⟩ := some_of_len (i := 5) hlen (by decide)
  obtain ⟨x6, h6⟩ := some_of_len (i := 6) hlen (by decide)
  obtain ⟨n0, e0, _, w0⟩ := DataW.trod_int Tryz.underlying2 ((hall 0 _ rfl).trans h0)
  obtain ⟨n1, e1, _, w1⟩ := DataW.trod_int Tryz.underlying2 ((hall 1 _ rfl).trans h1)
  obtain ⟨n2, e2, _, w2⟩ := DataW.trod_int Tryz.underlying2 ((hall 2 _ rfl).trans h2)
  obtain ⟨n3, e3, _, w3⟩ := DataW.trod_int Tryz.underlying2 ((hall 3 _ rfl).trans h3)
  obtain ⟨n4, e4, _, w4⟩ := DataW.trod_int Tryz.underlying2 ((hall 4 _ rfl).trans h4)
  obtain ⟨s5, e5, _, w5⟩ := DataW.trod_string Tryz.underlying9 ((hall 5 _ rfl).trans h5)
  obtain ⟨n6, e6, _, w6⟩ := DataW.trod_int Tryz.underlying2 ((hall 6 _ rfl).trans h6)
  simp [intCells, strCells] at e0 e1 e2 e3 e4 e5 e6
  subst e0 e1 e2 e3 e4 e5 e6
  exact ⟨⟨n0, n1, n2, n3, n4, s5, n6⟩, rfl, wf64 w0, wf64 w1, wf64 w2, wf64 w3, wf64 w4, w5, wf64 w6⟩
theorem resp_of {n : Nat} {cs : List Value} {x : DataW H × List MemPlace} (hl : cs.length = 4) (h : DataW.trod enc Tryz.prog w base sp held n 194 cs = some x) :
  ∃ q : RS, cs = [.int .i64 q.code, .int .i64 q.token, .int .i64 q.next, .bool q.yes] := by
 obtain ⟨xs, m, _, _, _, hlen, hall⟩ := DataW.trod_struct Tryz.underlying194 h
 match cs, hl with
 | [c0, c1, c2, c3], _ =>
  obtain ⟨x0, h0⟩ := some_of_len (i := 0) hlen (by decide)
  obtain ⟨x1, h1⟩ := some_of_len (i := 1) hlen (by decide)
  obtain ⟨x2, h2⟩ := some_of_len (i := 2) hlen (by decide)
  obtain ⟨x3, h3⟩ := some_of_len (i := 3) hlen (by decide)
  obtain ⟨n0, e0, _, _⟩ := DataW.trod_int Tryz.underlying2 ((hall 0 _ rfl).trans h0)
  obtain ⟨n1, e1, _, _⟩ := DataW.trod_int Tryz.underlying2 ((hall 1 _ rfl).trans h1)
  obtain ⟨n2, e2, _, _⟩ := DataW.trod_int Tryz.underlying2 ((hall 2 _ rfl).trans h2)
  obtain ⟨b3, e3, _⟩ := DataW.trod_bool Tryz.underlying4 ((hall 3 _ rfl).trans h3)
  simp [intCells, thbCells] at e0 e1 e2 e3
  subst e0 e1 e2 e3
  exact ⟨⟨n0, n1, n2, b3⟩, rfl⟩
theorem threadArg_of {r : Reach} {b0 : Nat} {v : Value} {d : DataW H} {p : List MemPlace} (hv : Value.okWide Tryz.prog w r b0 196 v) (h : DataW.Trod enc Tryz.prog w base sp held 196 v d p) : ∃ t : TH, v = thV t ∧ t.req.proof.size ≤ maxLen := by
 obtain ⟨cs, rfl, hsz⟩ := okWide_struct Tryz.underlying196 hv
 rw [thCells] at hsz
 obtain ⟨fuel, hf⟩ := h
 obtain ⟨xs, n, _, _, hl, hlen, hall⟩ := DataW.trod_struct Tryz.underlying196 hf
 clear hf hv
 obtain ⟨l⟩ := cs
 match l, hsz with
 | [c0, c1, c2, c3, c4, c5, c6, c7, c8, c9, c10, c11, c12, c13, c14], _ =>
  obtain ⟨x0, h0⟩ := some_of_len (i := 0) hlen (by decide)
  obtain ⟨x1, h1⟩ := some_of_len (i := 1) hlen (by decide)
  obtain ⟨x2, h2⟩ := some_of_len (i := 2) hlen (by decide)
  obtain ⟨x3, h3⟩ := some_of_len (i := 3) hlen (by decide)
  obtain ⟨x4, h4⟩ := some_of_len (i := 4) hlen (by decide)
  obtain ⟨x5, h5⟩ := some_of_len (i := 5) hlen (by decide)
  obtain ⟨q, e0, hq⟩ := req_of (by simp [Value.cells, reqCells]) ((hall 0 _ rfl).trans h0)
  obtain ⟨n1, e1, _, _⟩ := DataW.trod_int Tryz.underlying2 ((hall 1 _ rfl).trans h1)
  obtain ⟨n2, e2, _, _⟩ := DataW.trod_int Tryz.underlying2 ((hall 2 _ rfl).trans h2)
  obtain ⟨n3, e3, _, _⟩ := DataW.trod_int Tryz.underlying2 ((hall 3 _ rfl).trans h3)
  obtain ⟨s, e4⟩ := resp_of (by simp [Value.cells, thrCells]) ((hall 4 _ rfl).trans h4)
  obtain ⟨b5, e5, _⟩ := DataW.trod_bool Tryz.underlying4 ((hall 5 _ rfl).trans h5)
  simp [Value.cells, reqCells, intCells, thrCells, thbCells] at e0 e1 e2 e3 e4 e5
  obtain ⟨rfl, rfl, rfl, rfl, rfl, rfl, rfl⟩ := e0
  obtain ⟨rfl, rfl, rfl, rfl⟩ := e4
  subst e1 e2 e3 e5
  exact ⟨⟨q, n1, n2, n3, s, b5⟩, rfl, hq.2.2.2.2.2.1⟩
end
end Go.Proofs.YtjccnjfdeedneaaGreat
