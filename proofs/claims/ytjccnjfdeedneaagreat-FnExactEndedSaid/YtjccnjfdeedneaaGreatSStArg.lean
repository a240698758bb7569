/- A store, as an argument. -/
import Derived.Test.YtjccnjfdeedneaaGreatSStS2
import Derived.Test.YtjccnjfdeedneaaGreatSGrArg
namespace Go.Proofs.YtjccnjfdeedneaaGreat
open Go Go.RowKit Go.Lib Go.ChangeShapes Go.WideShapes Go.Deep
set_option linter.unusedVariables false

set_option maxRecDepth 100000
section
variable {H : Type} {enc : TypeId × Value → H} {w : World} {sp : Nat → Bool} {held : Bool}
theorem entryCells : Tryz.prog.cellsOf 46 = 4 := by kernel_rfl
theorem storeCells : Tryz.prog.cellsOf 44 = 7 := by kernel_rfl
theorem wsCells : Tryz.prog.cellsOf 22 = 1 := by kernel_rfl
theorem ksCells : Tryz.prog.cellsOf 23 = 1 := by kernel_rfl
theorem isCells : Tryz.prog.cellsOf 24 = 1 := by kernel_rfl
theorem esCells : Tryz.prog.cellsOf 42 = 1 := by kernel_rfl
theorem entry_of {n : Nat} {cs : List Value} {x : DataW H × List MemPlace} (hl : cs.length = 4) (h : DataW.trod enc Tryz.prog w 0 sp held n 46 cs = some x) :
  ∃ q : En, cs = enCf q ∧ True := by
 obtain ⟨xs, m, _, _, _, hlen, hall⟩ := DataW.trod_struct Tryz.underlying46 h
 match cs, hl with
 | [c0, c1, c2, c3], _ =>
  obtain ⟨x0, h0⟩ := some_of_len (i := 0) hlen (by decide)
  obtain ⟨x1, h1⟩ := some_of_len (i := 1) hlen (by decide)
  obtain ⟨x2, h2⟩ := some_of_len (i := 2) hlen (by decide)
  obtain ⟨x3, h3⟩ := some_of_len (i := 3) hlen (by decide)
  obtain ⟨n0, e0, _, _⟩ := DataW.trod_int Tryz.underlying2 ((hall 0 _ rfl).trans h0)
  obtain ⟨n1, e1, _, _⟩ := DataW.trod_int Tryz.underlying2 ((hall 1 _ rfl).trans h1)
  obtain ⟨n2, e2, _, _⟩ := DataW.trod_int Tryz.underlying2 ((hall 2 _ rfl).trans h2)
  obtain ⟨n3, e3, _, _⟩ := DataW.trod_int Tryz.underlying2 ((hall 3 _ rfl).trans h3)
  simp [intCells] at e0 e1 e2 e3
  subst e0 e1 e2 e3
  exact ⟨⟨n0, n1, n2, n3⟩, rfl, trivial⟩
theorem grant_of {n : Nat} {cs : List Value} {x : DataW H × List MemPlace} (hl : cs.length = 4) (h : DataW.trod enc Tryz.prog w 0 (fun _ => true) held n 26 cs = some x) :
  ∃ (k : GH) (g : Gr), cs = [.int .i64 g.now, .slice k.wp k.wn k.wc, .slice k.kp k.kn k.kc, .slice k.dp k.dn k.dc] ∧ GrArgF w k g := by
 obtain ⟨xs, m, _, _, _, hlen, hall⟩ := DataW.trod_struct Tryz.underlying26 h
 match cs, hl with
 | [c0, c1, c2, c3], _ =>
  obtain ⟨x0, h0⟩ := some_of_len (i := 0) hlen (by decide)
  obtain ⟨x1, h1⟩ := some_of_len (i := 1) hlen (by decide)
  obtain ⟨x2, h2⟩ := some_of_len (i := 2) hlen (by decide)
  obtain ⟨x3, h3⟩ := some_of_len (i := 3) hlen (by decide)
  obtain ⟨now, e0, _, _⟩ := DataW.trod_int Tryz.underlying2 ((hall 0 _ rfl).trans h0)
  obtain ⟨p1, k1, ws, e1, l1, o1, m1⟩ := slice_of (cf := wdCf) (fun x => x.shade.size ≤ maxLen) wdCf_len (by decide) Tryz.underlying22 wordCells (fun m cs x hl h => word_of hl h) ((hall 1 _ rfl).trans h1)
  obtain ⟨p2, k2, ks, e2, l2, o2, m2⟩ := slice_of (cf := kyCf) (fun x => (Lit.int .i64 x.fam).wf = true) kyCf_len (by decide) Tryz.underlying23 keyCells (fun m cs x hl h => key_of hl h) ((hall 2 _ rfl).trans h2)
  obtain ⟨p3, k3, ds, e3, l3, o3, m3⟩ := slice_of (cf := inCf) (fun x => (Lit.int .i64 x).wf = true) inCf_len (by decide) Tryz.underlying24 intCells (fun m cs x hl h => by
   obtain ⟨n, e, _, wf⟩ := DataW.trod_int Tryz.underlying2 h
   exact ⟨n, e, wf⟩) ((hall 3 _ rfl).trans h3)
  simp [intCells, wsCells, ksCells, isCells] at e0 e1 e2 e3
  subst e0 e1 e2 e3
  exact ⟨⟨p1, ws.length, k1, p2, ks.length, k2, p3, ds.length, k3⟩, ⟨now, ws, ks, ds⟩, rfl, ⟨⟨⟨rfl, rfl, rfl⟩, l1, l2, l3⟩, o1, m1, m2, m3⟩, o2, o3⟩
def StArgF (w : World) (h : SH) (s : St) : Prop := StArg w h s ∧ GrWf s.gr
theorem storeArg_of {r : Reach} {b0 : Nat} {v : Value} {d : DataW H} {p : List MemPlace} (hv : Value.okWide Tryz.prog w r b0 44 v) (h : DataW.Trod enc Tryz.prog w 0 (fun _ => true) held 44 v d p) : ∃ (h : SH) (s : St), v = stV s h ∧ StArgF w h s := by
 obtain ⟨cs, rfl, hsz⟩ := okWide_struct Tryz.underlying44 hv
 rw [storeCells] at hsz
 obtain ⟨fuel, hf⟩ := h
 obtain ⟨xs, n, _, _, hl, hlen, hall⟩ := DataW.trod_struct Tryz.underlying44 hf
 clear hf hv
 obtain ⟨l⟩ := cs
 match l, hsz with
 | [c0, c1, c2, c3, c4, c5, c6], _ =>
  obtain ⟨x0, h0⟩ := some_of_len (i := 0) hlen (by decide)
  obtain ⟨x1, h1⟩ := some_of_len (i := 1) hlen (by decide)
  obtain ⟨x2, h2⟩ := some_of_len (i := 2) hlen (by decide)
  obtain ⟨x3, h3⟩ := some_of_len (i := 3) hlen (by decide)
  obtain ⟨k, g, e0, hg, hgw⟩ := grant_of (by simp [Value.cells, grantCells]) ((hall 0 _ rfl).trans h0)
  obtain ⟨n1, e1, _, _⟩ := DataW.trod_int Tryz.underlying2 ((hall 1 _ rfl).trans h1)
  obtain ⟨n2, e2, _, _⟩ := DataW.trod_int Tryz.underlying2 ((hall 2 _ rfl).trans h2)
  obtain ⟨p3, k3, es, e3, l3, o3, m3⟩ := slice_of (cf := enCf) (fun _ => True) enCf_len (by decide) Tryz.underlying42 entryCells (fun m cs x hl h => entry_of hl h) ((hall 3 _ rfl).trans h3)
  simp [Value.cells, intCells, grantCells, esCells] at e0 e1 e2 e3
  obtain ⟨rfl, rfl, rfl, rfl⟩ := e0
  subst e1 e2 e3
  exact ⟨⟨k, p3, es.length, k3⟩, ⟨g, n1, n2, es⟩, rfl, ⟨hg, rfl, l3, m3⟩, hgw⟩
end
end Go.Proofs.YtjccnjfdeedneaaGreat
