/- RespText: the walk of the law; its argument. -/
import Derived.Test.YtmhjihdefagkmaaDoorImpResp
import Derived.OpenShut
import Derived.ProofKit
import Derived.WideShapes
import Derived.DataShut
namespace Go.Proofs.YtmhjihdefagkmaaDoor
open Go Go.RowKit Go.Lib Go.ChangeShapes Go.WideShapes
set_option linter.unusedVariables false

theorem wf64 {n : Int} (h : (Lit.int .i64 n).wf = true) : I64 n := (Lit.wf_int_iff .i64 n).1 h
theorem some_of_len {α : Type} {xs : List α} {n i : Nat} (h : xs.length = n) (hi : i < n) : ∃ x, xs[i]? = some x := ⟨_, List.getElem?_eq_getElem (h ▸ hi)⟩
section
variable {H : Type} {enc : TypeId × Value → H} {w : World} {base : Nat} {spare : Nat → Bool} {held : Bool}
theorem respCells : Tryd.prog.cellsOf 23 = 4 := by kernel_rfl
theorem intCells : Tryd.prog.cellsOf 2 = 1 := by kernel_rfl
theorem boolCells : Tryd.prog.cellsOf 4 = 1 := by kernel_rfl
theorem respArg_of {r : Reach} {b0 : Nat} {v : Value} {d : DataW H} {p : List MemPlace} (hv : Value.okWide Tryd.prog w r b0 23 v) (h : DataW.Trod enc Tryd.prog w base spare held 23 v d p) : ∃ q : RS, v = rsV q ∧ RS64 q := by
  obtain ⟨cs, rfl, hsz⟩ := okWide_struct Tryd.underlying23 hv
  rw [respCells] at hsz
  obtain ⟨fuel, hf⟩ := h
  obtain ⟨xs, n, _, _, hl, hlen, hall⟩ := DataW.trod_struct Tryd.underlying23 hf
  clear hf hv
  obtain ⟨l⟩ := cs
  match l, hsz with
  | [c0, c1, c2, c3], _ =>
    obtain ⟨x0, h0⟩ := some_of_len (i := 0) hlen (by decide)
    obtain ⟨x1, h1⟩ := some_of_len (i := 1) hlen (by decide)
    obtain ⟨x2, h2⟩ := some_of_len (i := 2) hlen (by decide)
    obtain ⟨x3, h3⟩ := some_of_len (i := 3) hlen (by decide)
    obtain ⟨n0, e0, _, w0⟩ := DataW.trod_int Tryd.underlying2 ((hall 0 _ rfl).trans h0)
    obtain ⟨n1, e1, _, w1⟩ := DataW.trod_int Tryd.underlying2 ((hall 1 _ rfl).trans h1)
    obtain ⟨n2, e2, _, w2⟩ := DataW.trod_int Tryd.underlying2 ((hall 2 _ rfl).trans h2)
    obtain ⟨b3, e3, _⟩ := DataW.trod_bool Tryd.underlying4 ((hall 3 _ rfl).trans h3)
    simp [Value.cells, intCells, boolCells] at e0 e1 e2 e3
    subst e0 e1 e2 e3
    exact ⟨⟨n0, n1, n2, b3⟩, rfl, wf64 w0, wf64 w1, wf64 w2⟩
end

set_option maxHeartbeats 400000 in
theorem toResp_any (r : RS) (w : World) : Calls Tryd.prog 5 #[rsV r] w (Ret (rsV r) w) := by
  unfold rsV
  go_enter Tryd.func5, Tryd.ntmps5
  go_wp2_with fail
  go_returns
  exact ⟨rfl, by go_grown⟩
theorem lawRespText (r : RS) (w : World) (h : RS64 r) (htab : Tab w) : Calls Tryd.prog 3 #[rsV r] w fun e w' => e = .returned (.bool true) ∧ Below w.heap.size w w' := by
  obtain ⟨code, token, next, yes⟩ := r
  have HE := Lib.hid (show rsV ⟨code, token, next, yes⟩ = .agg #[.int .i64 code, .int .i64 token, .int .i64 next, .bool yes] from rfl)
  have HS := Lib.hid (RS4.start ⟨code, token, next, yes⟩ w 23 htab)
  have H6 := Lib.hid h
  clear h htab
  rw [HE.out]
  go_enter Tryd.func3, Tryd.ntmps3
  go_wp2_with fail
  rw [← HE.out]
  refine (toResp_any _ _).mono ?_
  rintro e w1 ⟨rfl, hb⟩
  have HS1 := Lib.hid (HS.out.keep hb)
  clear hb HS
  rw [HE.out]
  go_wp2_with fail
  refine (resp_spec _ _ _ _ _ H6.out.1 H6.out.2.1 H6.out.2.2).mono ?_
  rintro e w2 ⟨rfl, hb⟩
  have HS2 := Lib.hid (HS1.out.keep hb)
  clear hb HS1
  have c := HS2.out
  obtain ⟨c0, c1, c2, c3, tt, bb⟩ := c
  generalize hT : respB code token next yes = T
  go_wp2_with fail
  rw [← HE.out]
  refine (toResp_any _ _).mono ?_
  rintro e w3 ⟨rfl, hb⟩
  have HS3 := Lib.hid (HS2.out.keep hb)
  clear hb HS2 c0 c1 c2 c3 tt bb
  have HT := Lib.hid hT
  clear hT
  go_wp2_with fail
  refine (resp_impl _ _ H6.out HS3.out.2.2.2.2.1).mono ?_
  rintro e w4 ⟨rfl, hb⟩
  simp only
  rw [HT.out]
  have bb := (HS3.out.keep hb).2.2.2.2.2
  clear hb HS3
  go_wp2_with fail
  go_ret
  exact ⟨rfl, bb⟩
end Go.Proofs.YtmhjihdefagkmaaDoor
