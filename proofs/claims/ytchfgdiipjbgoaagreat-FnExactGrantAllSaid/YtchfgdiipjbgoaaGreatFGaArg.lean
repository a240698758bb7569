/- Lists of requests as an argument. -/
import Derived.Test.YtchfgdiipjbgoaaGreatFRqS
import Derived.Test.YtchfgdiipjbgoaaGreatFGrArg
import Derived.Test.YtchfgdiipjbgoaaGreatFReqArg
namespace Go.Proofs.YtchfgdiipjbgoaaGreat
open Go Go.RowKit Go.Lib Go.ChangeShapes Go.WideShapes Go.Deep
set_option linter.unusedVariables false
set_option maxRecDepth 100000

section
variable {H : Type} {enc : TypeId × Value → H} {w : World} {base : Nat} {sp : Nat → Bool} {held : Bool}
theorem reqZ_of {n : Nat} {cs : List Value} {x : DataW H × List MemPlace} (hl : cs.length = 7) (h : DataW.trod enc Tryz.prog w base sp held n 83 cs = some x) :
  ∃ q : RQ, cs = [.int .i64 q.no, .int .i64 q.kind, .int .i64 q.client, .int .i64 q.code, .int .i64 q.token, .string q.proof, .int .i64 q.upTo] ∧ RQ64 q := by
 obtain ⟨xs, m, _, _, _, hlen, hall⟩ := DataW.trod_struct Tryz.underlying83 h
 match cs, hl with
 | [c0, c1, c2, c3, c4, c5, c6], _ =>
  obtain ⟨x0, h0⟩ := some_of_len (i := 0) hlen (by decide)
  obtain ⟨x1, h1⟩ := some_of_len (i := 1) hlen (by decide)
  obtain ⟨x2, h2⟩ := some_of_len (i := 2) hlen (by decide)
  obtain ⟨x3, h3⟩ := some_of_len (i := 3) hlen (by decide)
  obtain ⟨x4, h4⟩ := some_of_len (i := 4) hlen (by decide)
  obtain ⟨x5, h5⟩ := some_of_len (i := 5) hlen (by decide)
  obtain ⟨x6, h6⟩ := some_of_len (i := 6) hlen (by decide)
  obtain ⟨n0, e0, _, w0⟩ := DataW.trod_int Tryz.underlying2 ((hall 0 _ rfl).trans h0)
  obtain ⟨n1, e1, _, w1⟩ := DataW.trod_int Tryz.underlying2 ((hall 1 _ rfl).trans h1)
  obtain ⟨n2, e2, _, w2⟩ := DataW.trod_int Tryz.underlying2 ((hall 2 _ rfl).trans h2)
  obtain ⟨n3, e3, _, w3⟩ := DataW.trod_int Tryz.underlying2 ((hall 3 _ rfl).trans h3)
  obtain ⟨n4, e4, _, w4⟩ := DataW.trod_int Tryz.underlying2 ((hall 4 _ rfl).trans h4)
  obtain ⟨s5, e5, _, w5⟩ := DataW.trod_string Tryz.underlying9 ((hall 5 _ rfl).trans h5)
  obtain ⟨n6, e6, _, w6⟩ := DataW.trod_int Tryz.underlying2 ((hall 6 _ rfl).trans h6)
  simp [intCells, strCells] at e0 e1 e2 e3 e4 e5 e6
  subst e0 e1 e2 e3 e4 e5 e6
  exact ⟨⟨n0, n1, n2, n3, n4, s5, n6⟩, rfl, wf64 w0, wf64 w1, wf64 w2, wf64 w3, wf64 w4, w5, wf64 w6⟩
structure QH where
 q : Option Addr
 cap : Nat
def QArg (w : World) (a : QH) (l : List RQ) : Prop := LIn rqCf w a.q l ∧ l.length ≤ maxLen ∧ ∀ r ∈ l, r.proof.size ≤ maxLen
theorem reqsArg_of {r : Reach} {b0 : Nat} {v : Value} {d : DataW H} {p : List MemPlace} (hv : Value.okWide Tryz.prog w r b0 91 v) (h : DataW.Trod enc Tryz.prog w 0 (fun _ => true) held 91 v d p) : ∃ (a : QH) (l : List RQ), v = .slice a.q l.length a.cap ∧ QArg w a l := by
 obtain ⟨a, len, cap, rfl⟩ := okWide_slice Tryz.underlying91 hv
 obtain ⟨fuel, hf⟩ := h
 obtain ⟨q, k, l, e, h1, h2, h3⟩ := slice_of (cf := rqCf) (fun x => x.proof.size ≤ maxLen) rqCf_len (by decide) Tryz.underlying91 reqCells (fun m cs x hl h => by
  obtain ⟨y, e, hy⟩ := reqZ_of hl h
  exact ⟨y, e, hy.2.2.2.2.2.1⟩) hf
 simp [Value.cells] at e
 obtain ⟨rfl, rfl, rfl⟩ := e
 exact ⟨⟨_, _⟩, l, rfl, h1, h3, h2⟩
end
end Go.Proofs.YtchfgdiipjbgoaaGreat
