/- What is asked, as an argument. -/
import Derived.Test.YtjccnjfdeedneaaGreatSGdD
import Derived.Test.YtjccnjfdeedneaaGreatSArgAid
import Derived.OpenShut
import Derived.ProofKit
import Derived.WideShapes
import Derived.DataShut
namespace Go.Proofs.YtjccnjfdeedneaaGreat
open Go Go.RowKit Go.Lib Go.ChangeShapes Go.WideShapes

set_option maxRecDepth 100000
section
variable {H : Type} {enc : TypeId × Value → H} {w : World} {base : Nat} {spare : Nat → Bool} {held : Bool}
theorem reqCells : Tryz.prog.cellsOf 142 = 7 := by kernel_rfl
theorem strCells : Tryz.prog.cellsOf 9 = 1 := by kernel_rfl
theorem reqArg_of {r : Reach} {b0 : Nat} {v : Value} {d : DataW H} {p : List MemPlace} (hv : Value.okWide Tryz.prog w r b0 142 v) (h : DataW.Trod enc Tryz.prog w base spare held 142 v d p) : ∃ q : RQ, v = rqV q ∧ RQ64 q := by
 obtain ⟨cs, rfl, hsz⟩ := okWide_struct Tryz.underlying142 hv
 rw [reqCells] at hsz
 obtain ⟨fuel, hf⟩ := h
 obtain ⟨xs, n, _, _, hl, hlen, hall⟩ := DataW.trod_struct Tryz.underlying142 hf
 clear hf hv
 obtain ⟨l⟩ := cs
 match l, hsz with
 | [c0, c1, c2, c3, c4, c5, c6], _ =>
  obtain ⟨x0, h0⟩ := some_of_len (i := 0) hlen (by decide)
  obtain ⟨x1, h1⟩ := some_of_len (i := 1) hlen (by decide)
  obtain ⟨x2, h2⟩ := some_of_len (i := 2) hlen (by decide)
  obtain ⟨x3, h3⟩ := some_of_len (i := 3) hlen (by decide)
  obtain ⟨x4, h4⟩ := some_of_len (i := 4) hlen (by decide)
  obtain ⟨x5, h5⟩ := some_of_len (i := 5) hlen (by decide)
  obtain ⟨x6, h6⟩ := some_of_len (i := 6) hlen (by decide)
  obtain ⟨n0, e0, _, w0⟩ := DataW.trod_int Tryz.underlying2 ((hall 0 _ rfl).trans h0)
  obtain ⟨n1, e1, _, w1⟩ := DataW.trod_int Tryz.underlying2 ((hall 1 _ rfl).trans h1)
  obtain ⟨n2, e2, _, w2⟩ := DataW.trod_int Tryz.underlying2 ((hall 2 _ rfl).trans h2)
  obtain ⟨n3, e3, _, w3⟩ := DataW.trod_int Tryz.underlying2 ((hall 3 _ rfl).trans h3)
  obtain ⟨n4, e4, _, w4⟩ := DataW.trod_int Tryz.underlying2 ((hall 4 _ rfl).trans h4)
  obtain ⟨s5, e5, _, w5⟩ := DataW.trod_string Tryz.underlying9 ((hall 5 _ rfl).trans h5)
  obtain ⟨n6, e6, _, w6⟩ := DataW.trod_int Tryz.underlying2 ((hall 6 _ rfl).trans h6)
  simp [Value.cells, intCells, strCells] at e0 e1 e2 e3 e4 e5 e6
  subst e0 e1 e2 e3 e4 e5 e6
  exact ⟨⟨n0, n1, n2, n3, n4, s5, n6⟩, rfl, wf64 w0, wf64 w1, wf64 w2, wf64 w3, wf64 w4, w5, wf64 w6⟩
end
end Go.Proofs.YtjccnjfdeedneaaGreat
