/- FormGet: the walks. -/
import Derived.Test.YtjoobpieomhklaaForm3
import Derived.Test.YtjoobpieomhklaaPairIn
import Derived.Test.YtjoobpieomhklaaJoin
namespace Go.Proofs.Ytjoobpieomhklaa
open Go Go.RowKit Go.Lib
set_option linter.unusedVariables false

/-- The text of that name: of the first pair that has it. -/
def GetIs (l : List Pr) (name r : ByteArray) : Prop := (r = ⟨#[]⟩ ∧ ∀ (i : Nat) (p : Pr), l[i]? = some p → p.1 ≠ name) ∨ ∃ (k : Nat) (p : Pr), r = p.2 ∧ l[k]? = some p ∧ p.1 = name ∧ ∀ (i : Nat) (q : Pr), i < k → l[i]? = some q → q.1 ≠ name
theorem getIs_one {l : List Pr} {name r r' : ByteArray} (h : GetIs l name r) (h' : GetIs l name r') : r = r' := by
  rcases h with ⟨rfl, h⟩ | ⟨k, p, rfl, h1, h2, h3⟩
  · rcases h' with ⟨rfl, _⟩ | ⟨k', p', rfl, g1, g2, g3⟩
    · rfl
    · exact absurd g2 (h _ _ g1)
  · rcases h' with ⟨rfl, h⟩ | ⟨k', p', rfl, g1, g2, g3⟩
    · exact absurd h2 (h _ _ h1)
    · have : k = k' := by
        rcases Nat.lt_trichotomy k k' with h | h | h
        · exact absurd h2 (g3 k p h h1)
        · exact h
        · exact absurd g2 (h3 k' p' h g1)
      subst this
      rw [h1] at g1
      rw [Option.some.inj g1]
def GetOut (l : List Pr) (name : ByteArray) (w : World) (e : Ending) (w' : World) : Prop := ∃ r, GetIs l name r ∧ e = .returned (.string r) ∧ Below w.heap.size w w'

theorem get2_spec (b o n cap : Nat) (l : List Pr) (name : ByteArray) (w : World) (hn : n = l.length) (hl : PairsAt w b o l) (hc : n ≤ 1048576) :
    Calls Try.prog 27 #[.slice (some ⟨b, o, none⟩) n cap, .string name] w (GetOut l name w) := by
  have HL := Lib.hid hl
  have HN := Lib.hid hn
  clear hl hn
  go_enter Try.func27, Try.ntmps27
  go_wp2_with fail
  refine (at_spec b o n cap l name _ HN.out HL.out hc).mono ?_
  rintro e w1 ⟨r, hr, rfl, rfl⟩
  rcases hr with ⟨rfl, hr⟩ | ⟨k, p, rfl, hp, h2, h3⟩
  · have HR := Lib.hid hr
    clear hr
    go_wp2_with fail
    go_ret
    exact ⟨_, .inl ⟨rfl, HR.out⟩, rfl, Below.refl _ _⟩
  · obtain ⟨c0, c1⟩ := HL.out.cells hp
    have hk : k < n := by have := (List.getElem?_eq_some_iff.1 hp).1; have := HN.out; omega
    have H2 := Lib.hid h2
    have H3 := Lib.hid h3
    have HP := Lib.hid hp
    clear h2 h3 hp
    go_wp2_with fail
    go_ret
    exact ⟨_, .inr ⟨k, p, rfl, HP.out, H2.out, H3.out⟩, rfl, Below.refl _ _⟩

theorem get_spec (b o n cap : Nat) (l : List Pr) (name : ByteArray) (w : World) (hn : n = l.length) (hl : PairsAt w b o l) (hs : ∀ p ∈ l, SmallPr p) (hc : n ≤ 1048576) (hf : FormP l) (hm : name.size ≤ 8000) :
    Calls Try.prog 14 #[.slice (some ⟨b, o, none⟩) n cap, .string name] w (GetOut l name w) := by
  have HL := Lib.hid hl
  have HN := Lib.hid hn
  have HS := Lib.hid hs
  have HF := Lib.hid hf
  have d : decide (8000 < (name.size : Int)) = false := decide_eq_false (by omega)
  clear hl hn hs hf
  go_enter Try.func14, Try.ntmps14
  go_wp2_with (go_at_call 8; refine (form_spec b o n cap l _ HN.out HL.out HS.out hc).mono ?_; rintro e w1 ⟨c, hcc, rfl, rfl⟩; obtain rfl : c = true := hcc.2 HF.out; clear hcc)
  refine (get2_spec b o n cap l name _ HN.out HL.out hc).mono ?_
  rintro e w1 ⟨r, hr, rfl, hb⟩
  have HR := Lib.hid hr
  have HB := Lib.hid hb
  clear hr hb
  go_wp2_with fail
  go_ret
  exact ⟨r, HR.out, rfl, HB.out⟩
theorem get_spec_no (b o n cap : Nat) (l : List Pr) (name : ByteArray) (w : World) (hn : n = l.length) (hl : PairsAt w b o l) (hs : ∀ p ∈ l, SmallPr p) (hc : n ≤ 1048576) (hm0 : name.size ≤ maxLen) (hf : ¬ (FormP l ∧ name.size ≤ 8000)) :
    Calls Try.prog 14 #[.slice (some ⟨b, o, none⟩) n cap, .string name] w fun e w' => e = .returned (.string ⟨#[]⟩) ∧ w = w' := by
  have HL := Lib.hid hl
  have HN := Lib.hid hn
  have HS := Lib.hid hs
  have HF := Lib.hid hf
  unfold maxLen at hm0
  clear hl hn hs hf
  by_cases hf : FormP l
  · have d : decide (8000 < (name.size : Int)) = true := decide_eq_true (by have : ¬ name.size ≤ 8000 := fun h => HF.out ⟨hf, h⟩; omega)
    have HF' := Lib.hid hf
    clear hf
    go_enter Try.func14, Try.ntmps14
    go_wp2_with (go_at_call 8; refine (form_spec b o n cap l _ HN.out HL.out HS.out hc).mono ?_; rintro e w1 ⟨c, hcc, rfl, rfl⟩; obtain rfl : c = true := hcc.2 HF'.out; clear hcc)
    go_ret
    exact ⟨rfl, rfl⟩
  · have HF' := Lib.hid hf
    clear hf
    go_enter Try.func14, Try.ntmps14
    go_wp2_with (go_at_call 8; refine (form_spec b o n cap l _ HN.out HL.out HS.out hc).mono ?_; rintro e w1 ⟨c, hcc, rfl, rfl⟩; obtain rfl : c = false := bool_no hcc HF'.out; clear hcc)
    go_ret
    exact ⟨rfl, rfl⟩

theorem join_empty (s : ByteArray) : s ++ (⟨#[]⟩ : ByteArray) = s := by
  apply Go.WideShapes.bytes_inj
  simp
def GetRel (l : List Pr) (n : Nat) (name : ByteArray) (w : World) (i : Value) (wr : World) : Prop := ∃ k : Nat, k ≤ n ∧ i = .int .i64 k ∧ (∀ (i : Nat) (q : Pr), i < k → l[i]? = some q → q.1 ≠ name) ∧ Below w.heap.size w wr
theorem get_impl (b o n cap : Nat) (l : List Pr) (name : ByteArray) (w : World) (hn : n = l.length) (hl : PairsAt w b o l) (hs : ∀ p ∈ l, SmallPr p) (hc : n ≤ 1048576) (hf : FormP l) :
    Calls Try.prog 15 #[.slice (some ⟨b, o, none⟩) n cap, .string name] w (GetOut l name w) := by
  have HL := Lib.hid hl
  have HN := Lib.hid hn
  have HS := Lib.hid hs
  have HF := Lib.hid hf
  clear hl hn hs hf
  go_enter Try.func15, Try.ntmps15
  go_wp2_with fail
  refine (form_impl b o n cap l _ HN.out HL.out HS.out hc).mono ?_
  rintro e w1 ⟨c, hcc, rfl, hb1⟩
  obtain rfl : c = true := hcc.2 HF.out
  have HB1 := Lib.hid hb1
  have HL1 := Lib.hid (HL.out.later hb1)
  clear hcc hb1
  go_wp2_with fail
  go_loopw [12] (GetRel l n name w) (fun i _ => n - (RowKit.intOf i).toNat)
  case atStart => exact ⟨0, by omega, rfl, fun i q h => by omega, HB1.out⟩
  case round =>
    obtain ⟨k, hk, rfl, ha, hbel⟩ := hrel
    have HA := Lib.hid ha
    clear ha
    by_cases hlt : k < n
    · obtain ⟨p, hp⟩ : ∃ p, l[k]? = some p := ⟨_, List.getElem?_eq_getElem (by rw [← HN.out]; exact hlt)⟩
      obtain ⟨a0, a1⟩ := HL.out.cells hp
      have s40 := (HF.out.2.2 k p hp).2.1
      have hb : b < w.heap.size := World.block_lt_of_cell? w _ a0
      have c0 := (hbel.cell (p := ⟨b, o + k * 2, none⟩) hb).trans a0
      have c1 := (hbel.cell (p := ⟨b, o + k * 2 + 1, none⟩) hb).trans a1
      have hz := hbel.size
      have HB2 := Lib.hid hbel
      have HP := Lib.hid hp
      clear a0 a1 hp hbel
      by_cases hx : p.1 = name
      · have e1 := list_eq hx
        have HX := Lib.hid hx
        clear hx
        go_wp2_with fail
        refine (join_any p.2 ⟨#[]⟩ _ (by show p.2.size + 0 ≤ _; omega)).mono ?_
        rintro e w3 ⟨rfl, hb3⟩
        have HB3 := Lib.hid ((HB2.out.alloc hz (.cells #[Value.string p.1, Value.string p.2] 37)).trans (hb3.mono (by simp; omega)))
        clear hb3
        go_wp2_with fail
        go_ret
        exact ⟨_, .inr ⟨k, p, join_empty _, HP.out, HX.out, HA.out⟩, rfl, HB3.out⟩
      · have e1 := list_ne hx
        have HX := Lib.hid hx
        clear hx
        go_wp2_with fail
        go_roundw
        case rel =>
          refine ⟨k + 1, by omega, by go_num, fun i q hi hq => ?_, HB2.out.alloc hz _⟩
          by_cases e : i = k
          · subst e
            rw [HP.out] at hq
            obtain rfl := Option.some.inj hq
            exact HX.out
          · exact HA.out i q (by omega) hq
        case measure => simp [RowKit.intOf]; omega
    · go_wp2_with fail
      go_ret
      exact ⟨_, .inl ⟨rfl, fun i q hq => HA.out i q (by have := (List.getElem?_eq_some_iff.1 hq).1; have := HN.out; omega) hq⟩, rfl, hbel⟩
theorem get_impl_no (b o n cap : Nat) (l : List Pr) (name : ByteArray) (w : World) (hn : n = l.length) (hl : PairsAt w b o l) (hs : ∀ p ∈ l, SmallPr p) (hc : n ≤ 1048576) (hf : ¬ FormP l) :
    Calls Try.prog 15 #[.slice (some ⟨b, o, none⟩) n cap, .string name] w fun e w' => e = .returned (.string ⟨#[]⟩) ∧ Below w.heap.size w w' := by
  have HL := Lib.hid hl
  have HN := Lib.hid hn
  have HS := Lib.hid hs
  have HF := Lib.hid hf
  clear hl hn hs hf
  go_enter Try.func15, Try.ntmps15
  go_wp2_with fail
  refine (form_impl b o n cap l _ HN.out HL.out HS.out hc).mono ?_
  rintro e w1 ⟨c, hcc, rfl, hb1⟩
  obtain rfl : c = false := bool_no hcc HF.out
  have HB1 := Lib.hid hb1
  clear hcc hb1
  go_wp2_with fail
  go_ret
  exact ⟨rfl, HB1.out⟩

/-- What FormGet answers. -/
def GetR (l : List Pr) (name r : ByteArray) : Prop := ((FormP l ∧ name.size ≤ 8000) ∧ GetIs l name r) ∨ (¬ (FormP l ∧ name.size ≤ 8000) ∧ r = ⟨#[]⟩)
theorem getR_one {l : List Pr} {name r r' : ByteArray} (h : GetR l name r) (h' : GetR l name r') : r = r' := by
  rcases h with ⟨h, h1⟩ | ⟨h, rfl⟩
  · rcases h' with ⟨_, g1⟩ | ⟨g, _⟩
    · exact getIs_one h1 g1
    · exact absurd h g
  · rcases h' with ⟨g, _⟩ | ⟨_, rfl⟩
    · exact absurd g h
    · rfl
def GetOutR (l : List Pr) (name : ByteArray) (w : World) (e : Ending) (w' : World) : Prop := ∃ r, GetR l name r ∧ e = .returned (.string r) ∧ Below w.heap.size w w'
theorem get_spec_any (b o n cap : Nat) (l : List Pr) (name : ByteArray) (w : World) (hn : n = l.length) (hl : PairsAt w b o l) (hs : ∀ p ∈ l, SmallPr p) (hc : n ≤ 1048576) (hm0 : name.size ≤ maxLen) :
    Calls Try.prog 14 #[.slice (some ⟨b, o, none⟩) n cap, .string name] w (GetOutR l name w) := by
  by_cases hf : FormP l ∧ name.size ≤ 8000
  · exact (get_spec b o n cap l name w hn hl hs hc hf.1 hf.2).mono fun _ _ ⟨r, h1, h2, h3⟩ => ⟨r, .inl ⟨hf, h1⟩, h2, h3⟩
  · exact (get_spec_no b o n cap l name w hn hl hs hc hm0 hf).mono fun _ _ ⟨h1, h2⟩ => ⟨_, .inr ⟨hf, rfl⟩, h1, h2 ▸ Below.refl _ _⟩
/-- A name longer than 12 bytes is no pair's. -/
theorem getIs_long {l : List Pr} {name r : ByteArray} (hf : FormP l) (hm : ¬ name.size ≤ 8000) (h : GetIs l name r) : r = ⟨#[]⟩ := by
  rcases h with ⟨rfl, _⟩ | ⟨k, p, rfl, h1, rfl, _⟩
  · rfl
  · have := (hf.2.2 k p h1).1.2.1
    omega
theorem get_impl_any (b o n cap : Nat) (l : List Pr) (name : ByteArray) (w : World) (hn : n = l.length) (hl : PairsAt w b o l) (hs : ∀ p ∈ l, SmallPr p) (hc : n ≤ 1048576) :
    Calls Try.prog 15 #[.slice (some ⟨b, o, none⟩) n cap, .string name] w (GetOutR l name w) := by
  by_cases hf : FormP l
  · refine (get_impl b o n cap l name w hn hl hs hc hf).mono fun _ _ ⟨r, h1, h2, h3⟩ => ⟨r, ?_, h2, h3⟩
    by_cases hm : name.size ≤ 8000
    · exact .inl ⟨⟨hf, hm⟩, h1⟩
    · exact .inr ⟨fun h => hm h.2, getIs_long hf hm h1⟩
  · exact (get_impl_no b o n cap l name w hn hl hs hc hf).mono fun _ _ ⟨h1, h2⟩ => ⟨_, .inr ⟨fun h => hf h.1, rfl⟩, h1, h2⟩
end Go.Proofs.Ytjoobpieomhklaa
