/- A world, as an argument. -/
import Derived.Test.YtjccnjfdeedneaaGreatSWoD
import Derived.Test.YtjccnjfdeedneaaGreatSStArg
import Derived.Test.YtjccnjfdeedneaaGreatSTh
namespace Go.Proofs.YtjccnjfdeedneaaGreat
open Go Go.RowKit Go.Lib Go.ChangeShapes Go.WideShapes Go.Deep
set_option linter.unusedVariables false

set_option linter.unusedSimpArgs false
set_option maxRecDepth 100000
section
variable {H : Type} {enc : TypeId × Value → H} {w : World} {sp : Nat → Bool} {held : Bool}
theorem eventCells : Tryz.prog.cellsOf 203 = 6 := by kernel_rfl
theorem worldCells : Tryz.prog.cellsOf 58 = 13 := by kernel_rfl
theorem tsCells : Tryz.prog.cellsOf 55 = 1 := by kernel_rfl
theorem lsCells : Tryz.prog.cellsOf 56 = 1 := by kernel_rfl
theorem event_of {n : Nat} {cs : List Value} {x : DataW H × List MemPlace} (hl : cs.length = 6) (h : DataW.trod enc Tryz.prog w 0 sp held n 203 cs = some x) :
  ∃ q : Ev, cs = evCf q ∧ True := by
 obtain ⟨xs, m, _, _, _, hlen, hall⟩ := DataW.trod_struct Tryz.underlying203 h
 match cs, hl with
 | [c0, c1, c2, c3, c4, c5], _ =>
  obtain ⟨x0, h0⟩ := some_of_len (i := 0) hlen (by decide)
  obtain ⟨x1, h1⟩ := some_of_len (i := 1) hlen (by decide)
  obtain ⟨x2, h2⟩ := some_of_len (i := 2) hlen (by decide)
  obtain ⟨n0, e0, _, _⟩ := DataW.trod_int Tryz.underlying2 ((hall 0 _ rfl).trans h0)
  obtain ⟨b1, e1, _⟩ := DataW.trod_bool Tryz.underlying4 ((hall 1 _ rfl).trans h1)
  obtain ⟨s, e2⟩ := resp_of (by simp [Value.cells, thrCells]) ((hall 2 _ rfl).trans h2)
  simp [Value.cells, intCells, thrCells, thbCells] at e0 e1 e2
  obtain ⟨rfl, rfl, rfl, rfl⟩ := e2
  subst e0 e1
  exact ⟨⟨n0, b1, s⟩, rfl, trivial⟩
theorem thread_of {n : Nat} {cs : List Value} {x : DataW H × List MemPlace} (hl : cs.length = 15) (h : DataW.trod enc Tryz.prog w 0 sp held n 196 cs = some x) :
  ∃ t : TH, cs = thL t ∧ t.req.proof.size ≤ maxLen := by
 obtain ⟨xs, m, _, _, _, hlen, hall⟩ := DataW.trod_struct Tryz.underlying196 h
 match cs, hl with
 | [c0, c1, c2, c3, c4, c5, c6, c7, c8, c9, c10, c11, c12, c13, c14], _ =>
  obtain ⟨x0, h0⟩ := some_of_len (i := 0) hlen (by decide)
  obtain ⟨x1, h1⟩ := some_of_len (i := 1) hlen (by decide)
  obtain ⟨x2, h2⟩ := some_of_len (i := 2) hlen (by decide)
  obtain ⟨x3, h3⟩ := some_of_len (i := 3) hlen (by decide)
  obtain ⟨x4, h4⟩ := some_of_len (i := 4) hlen (by decide)
  obtain ⟨x5, h5⟩ := some_of_len (i := 5) hlen (by decide)
  obtain ⟨q, e0, hq⟩ := req_of (by simp [Value.cells, reqCells]) ((hall 0 _ rfl).trans h0)
  obtain ⟨n1, e1, _, _⟩ := DataW.trod_int Tryz.underlying2 ((hall 1 _ rfl).trans h1)
  obtain ⟨n2, e2, _, _⟩ := DataW.trod_int Tryz.underlying2 ((hall 2 _ rfl).trans h2)
  obtain ⟨n3, e3, _, _⟩ := DataW.trod_int Tryz.underlying2 ((hall 3 _ rfl).trans h3)
  obtain ⟨s, e4⟩ := resp_of (by simp [Value.cells, thrCells]) ((hall 4 _ rfl).trans h4)
  obtain ⟨b5, e5, _⟩ := DataW.trod_bool Tryz.underlying4 ((hall 5 _ rfl).trans h5)
  simp [Value.cells, reqCells, intCells, thrCells, thbCells] at e0 e1 e2 e3 e4 e5
  obtain ⟨rfl, rfl, rfl, rfl, rfl, rfl, rfl⟩ := e0
  obtain ⟨rfl, rfl, rfl, rfl⟩ := e4
  subst e1 e2 e3 e5
  exact ⟨⟨q, n1, n2, n3, s, b5⟩, rfl, hq.2.2.2.2.2.1⟩
theorem store_of {n : Nat} {cs : List Value} {x : DataW H × List MemPlace} (hl : cs.length = 7) (h : DataW.trod enc Tryz.prog w 0 (fun _ => true) held n 44 cs = some x) : ∃ (h : SH) (s : St), cs = [.int .i64 s.gr.now, .slice h.gh.wp h.gh.wn h.gh.wc, .slice h.gh.kp h.gh.kn h.gh.kc, .slice h.gh.dp h.gh.dn h.gh.dc, .int .i64 s.ver, .int .i64 s.lock, .slice h.cp h.cn h.cc] ∧ StArgF w h s := by
 obtain ⟨xs, m, _, _, _, hlen, hall⟩ := DataW.trod_struct Tryz.underlying44 h
 match cs, hl with
 | [c0, c1, c2, c3, c4, c5, c6], _ =>
  obtain ⟨x0, h0⟩ := some_of_len (i := 0) hlen (by decide)
  obtain ⟨x1, h1⟩ := some_of_len (i := 1) hlen (by decide)
  obtain ⟨x2, h2⟩ := some_of_len (i := 2) hlen (by decide)
  obtain ⟨x3, h3⟩ := some_of_len (i := 3) hlen (by decide)
  obtain ⟨k, g, e0, hg, hgw⟩ := grant_of (by simp [Value.cells, grantCells]) ((hall 0 _ rfl).trans h0)
  obtain ⟨n1, e1, _, _⟩ := DataW.trod_int Tryz.underlying2 ((hall 1 _ rfl).trans h1)
  obtain ⟨n2, e2, _, _⟩ := DataW.trod_int Tryz.underlying2 ((hall 2 _ rfl).trans h2)
  obtain ⟨p3, k3, es, e3, l3, o3, m3⟩ := slice_of (cf := enCf) (fun _ => True) enCf_len (by decide) Tryz.underlying42 entryCells (fun m cs x hl h => entry_of hl h) ((hall 3 _ rfl).trans h3)
  simp [Value.cells, intCells, grantCells, esCells] at e0 e1 e2 e3
  obtain ⟨rfl, rfl, rfl, rfl⟩ := e0
  subst e1 e2 e3
  exact ⟨⟨k, p3, es.length, k3⟩, ⟨g, n1, n2, es⟩, rfl, ⟨hg, rfl, l3, m3⟩, hgw⟩
def WoArgF (w : World) (h : WH) (x : Wr) : Prop := WoArg w h x ∧ GrWf x.first ∧ GrWf x.store.gr
theorem worldArg_of {r : Reach} {b0 : Nat} {v : Value} {d : DataW H} {p : List MemPlace} (hv : Value.okWide Tryz.prog w r b0 58 v) (h : DataW.Trod enc Tryz.prog w 0 (fun _ => true) held 58 v d p) : ∃ (h : WH) (x : Wr), v = woV x h ∧ WoArgF w h x := by
 obtain ⟨cs, rfl, hsz⟩ := okWide_struct Tryz.underlying58 hv
 rw [worldCells] at hsz
 obtain ⟨fuel, hf⟩ := h
 obtain ⟨xs, n, _, _, hl, hlen, hall⟩ := DataW.trod_struct Tryz.underlying58 hf
 clear hf hv
 obtain ⟨l⟩ := cs
 match l, hsz with
 | [c0, c1, c2, c3, c4, c5, c6, c7, c8, c9, c10, c11, c12], _ =>
  obtain ⟨x0, h0⟩ := some_of_len (i := 0) hlen (by decide)
  obtain ⟨x1, h1⟩ := some_of_len (i := 1) hlen (by decide)
  obtain ⟨x2, h2⟩ := some_of_len (i := 2) hlen (by decide)
  obtain ⟨x3, h3⟩ := some_of_len (i := 3) hlen (by decide)
  obtain ⟨k, g, e0, hg, hgw⟩ := grant_of (by simp [Value.cells, grantCells]) ((hall 0 _ rfl).trans h0)
  obtain ⟨sk, s, e1, hs⟩ := store_of (by simp [Value.cells, grantCells, storeCells]) ((hall 1 _ rfl).trans h1)
  obtain ⟨p2, k2, ts, e2, l2, o2, m2⟩ := slice_of (cf := thL) (fun t => t.req.proof.size ≤ maxLen) thL_len (by decide) Tryz.underlying55 thCells (fun m cs x hl h => thread_of hl h) ((hall 2 _ rfl).trans h2)
  obtain ⟨p3, k3, es, e3, l3, o3, m3⟩ := slice_of (cf := evCf) (fun _ => True) evCf_len (by decide) Tryz.underlying56 eventCells (fun m cs x hl h => event_of hl h) ((hall 3 _ rfl).trans h3)
  simp [Value.cells, grantCells, storeCells, tsCells, lsCells] at e0 e1 e2 e3
  obtain ⟨rfl, rfl, rfl, rfl⟩ := e0
  obtain ⟨rfl, rfl, rfl, rfl, rfl, rfl, rfl⟩ := e1
  subst e2 e3
  exact ⟨⟨k, sk, p2, ts.length, k2, p3, es.length, k3⟩, ⟨g, s, ts, es⟩, rfl, ⟨hg, hs.1, ⟨rfl, l2, o2, m2⟩, ⟨rfl, l3, m3⟩⟩, hgw, hs.2⟩
end
end Go.Proofs.YtjccnjfdeedneaaGreat
