/- FormText: the walk of the law. -/
import Derived.Test.YtjoobpieomhklaaText3
import Derived.Test.YtjoobpieomhklaaPairIn
namespace Go.Proofs.Ytjoobpieomhklaa
open Go Go.RowKit Go.Lib
set_option linter.unusedVariables false

def TextR (l : List Pr) (r : ByteArray) : Prop := (FormP l ∧ r = formT l) ∨ (¬ FormP l ∧ r = ⟨#[]⟩)
theorem textR_one {l : List Pr} {r r' : ByteArray} (h : TextR l r) (h' : TextR l r') : r = r' := by
  rcases h with ⟨h, rfl⟩ | ⟨h, rfl⟩
  · rcases h' with ⟨_, rfl⟩ | ⟨g, _⟩
    · rfl
    · exact absurd h g
  · rcases h' with ⟨g, _⟩ | ⟨_, rfl⟩
    · exact absurd g h
    · rfl
def TextOutR (l : List Pr) (w : World) (e : Ending) (w' : World) : Prop := ∃ r, TextR l r ∧ e = .returned (.string r) ∧ Below w.heap.size w w'
theorem text_spec_any (b o n cap : Nat) (l : List Pr) (w : World) (hn : n = l.length) (hl : PairsAt w b o l) (hs : ∀ p ∈ l, SmallPr p) (hc : n ≤ 1048576) :
    Calls Try.prog 12 #[.slice (some ⟨b, o, none⟩) n cap] w (TextOutR l w) := by
  by_cases hf : FormP l
  · exact (text_spec b o n cap l w hn hl hs hc hf).mono fun _ _ ⟨h1, h2⟩ => ⟨_, .inl ⟨hf, rfl⟩, h1, h2⟩
  · exact (text_spec_no b o n cap l w hn hl hs hc hf).mono fun _ _ ⟨h1, h2⟩ => ⟨_, .inr ⟨hf, rfl⟩, h1, h2⟩
theorem text_impl_any (b o n cap : Nat) (l : List Pr) (w : World) (hn : n = l.length) (hl : PairsAt w b o l) (hs : ∀ p ∈ l, SmallPr p) (hc : n ≤ 1048576) :
    Calls Try.prog 13 #[.slice (some ⟨b, o, none⟩) n cap] w (TextOutR l w) := by
  by_cases hf : FormP l
  · exact (text_impl b o n cap l w hn hl hs hc hf).mono fun _ _ ⟨h1, h2⟩ => ⟨_, .inl ⟨hf, rfl⟩, h1, h2⟩
  · exact (text_impl_no b o n cap l w hn hl hs hc hf).mono fun _ _ ⟨h1, h2⟩ => ⟨_, .inr ⟨hf, rfl⟩, h1, h2⟩

set_option maxRecDepth 100000 in
theorem lawFormText (p : Option Addr) (n cap : Nat) (l : List Pr) (w : World) (h : PairsArg w p n cap l) :
    Calls Try.prog 4 #[.slice p n cap] w fun e w' => e = .returned (.bool true) ∧ Below w.heap.size w w' := by
  obtain ⟨hn, hl, hs, hm⟩ := h
  have HN := Lib.hid hn
  have HL := Lib.hid hl
  have HS := Lib.hid hs
  clear hn hl hs
  go_enter Try.func4, Try.ntmps4
  go_wp2_with fail
  refine (szPairS_in p n cap l _ HN.out HL.out HS.out hm).mono ?_
  rintro e w1 ⟨r, rfl, r0, r1, hr, hb1⟩
  have hz1 := hb1.size
  have HL1 := Lib.hid (HL.out.later hb1)
  have HB1 := Lib.hid hb1
  clear hb1
  by_cases hneg : r < 0
  · clear hr
    go_wp2_with fail
    go_ret
    exact ⟨rfl, HB1.out⟩
  have hc : n ≤ 1048576 := hr (by omega)
  clear hr
  go_wp2_with fail
  refine (toPairS_in p n cap l _ HN.out HL1.out hc).mono ?_
  rintro e w2 ⟨g2, rfl, hg2, hg2', hp2, hb2⟩
  have HL2 := Lib.hid (HL1.out.later hb2)
  have HB2 := Lib.hid (HB1.out.trans (hb2.mono hz1))
  have hz2 := HB2.out.size
  have HP2 := Lib.hid hp2
  clear hb2 hp2
  go_wp2_with fail
  refine (text_spec_any g2 0 n n l _ HN.out HP2.out HS.out hc).mono ?_
  rintro e w2b ⟨r1, hr1, rfl, hb2⟩
  have HR1 := Lib.hid hr1
  have HL2b := Lib.hid (HL2.out.later hb2)
  have HB2b := Lib.hid (HB2.out.trans (hb2.mono hz2))
  have hz2b := HB2b.out.size
  clear hr1 hb2
  go_wp2_with fail
  refine (toPairS_in p n cap l _ HN.out HL2b.out hc).mono ?_
  rintro e w3 ⟨g3, rfl, hg3, hg3', hp3, hb3⟩
  have HL3 := Lib.hid (HL2b.out.later hb3)
  have HB3 := Lib.hid (HB2b.out.trans (hb3.mono hz2b))
  have hz3 := HB3.out.size
  have HP3 := Lib.hid hp3
  clear hb3 hp3
  go_wp2_with fail
  refine (text_impl_any g3 0 n n l _ HN.out HP3.out HS.out hc).mono ?_
  rintro e w4 ⟨r2, hr2, rfl, hb4⟩
  obtain rfl : r1 = r2 := textR_one HR1.out hr2
  have HL4 := Lib.hid (HL3.out.later hb4)
  have HP4 := Lib.hid (HP3.out.later hb4)
  have HB4 := Lib.hid (HB3.out.trans (hb4.mono hz3))
  have hz4 := HB4.out.size
  clear hr2 hb4
  go_wp2_with fail
  refine (toPairS_in p n cap l _ HN.out HL4.out hc).mono ?_
  rintro e w5 ⟨g5, rfl, hg5, hg5', hp5, hb5⟩
  have HP5 := Lib.hid hp5
  have HP4' := Lib.hid (HP4.out.later hb5)
  have HB5 := Lib.hid (HB4.out.trans (hb5.mono hz4))
  have hz5 := HB5.out.size
  clear hb5 hp5
  go_wp2_with fail
  refine (eqPairS_same g3 0 g5 0 n n n n l _ HN.out HN.out HP4'.out HP5.out hc).mono ?_
  rintro e w6 ⟨rfl, hb6⟩
  have HB6 := Lib.hid (HB5.out.trans (hb6.mono hz5))
  clear hb6
  go_wp2_with fail
  go_ret
  exact ⟨rfl, HB6.out⟩
end Go.Proofs.Ytjoobpieomhklaa
