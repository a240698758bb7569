/- Right forms: the program's side. -/
import Derived.Test.YtjoobpieomhklaaDoorForm2
namespace Go.Proofs.YtjoobpieomhklaaDoor
open Go Go.RowKit Go.Lib
set_option linter.unusedVariables false

/-- No two of one name among the first k. -/
def Apart (l : List Pr) (k : Nat) : Prop := ∀ (j : Nat) (p : Pr), j < k → l[j]? = some p → ∀ (i : Nat) (q : Pr), i < j → l[i]? = some q → q.1 ≠ p.1
def NamesTo (l : List Pr) (k : Nat) (s : ByteArray) : Prop := ∃ (i : Nat) (q : Pr), i < k ∧ l[i]? = some q ∧ q.1 = s
theorem namesTo_step {l : List Pr} {k : Nat} {p : Pr} (hp : l[k]? = some p) : (fun t => NamesTo l k t ∨ t = p.1) = NamesTo l (k + 1) := by
  funext t
  apply propext
  constructor
  · rintro (⟨i, q, h1, h2, h3⟩ | rfl)
    · exact ⟨i, q, by omega, h2, h3⟩
    · exact ⟨k, p, by omega, hp, rfl⟩
  · rintro ⟨i, q, h1, h2, h3⟩
    by_cases e : i = k
    · subst e
      rw [hp] at h2
      obtain rfl := Option.some.inj h2
      exact .inr h3.symm
    · exact .inl ⟨i, q, by omega, h2, h3⟩
theorem namesTo_zero (l : List Pr) : (fun _ => False) = NamesTo l 0 := by
  funext t
  apply propext
  exact ⟨False.elim, fun ⟨i, q, h, _⟩ => by omega⟩
theorem apart_step {l : List Pr} {k : Nat} {p : Pr} (hp : l[k]? = some p) (h : Apart l k) (hn : ¬ NamesTo l k p.1) : Apart l (k + 1) := fun j q hj hq i q' hi hq' => by
  by_cases e : j = k
  · subst e
    rw [hp] at hq
    obtain rfl := Option.some.inj hq
    exact fun e => hn ⟨i, q', hi, hq', e⟩
  · exact h j q (by omega) hq i q' hi hq'

def SomeBoolB (P : Prop) (w : World) (e : Ending) (w' : World) : Prop := ∃ b : Bool, (b = true ↔ P) ∧ e = .returned (.bool b) ∧ Below w.heap.size w w'
def TwiceRel (l : List Pr) (n g : Nat) (w : World) (i : Value) (wr : World) : Prop :=
  ∃ k : Nat, k ≤ n ∧ i = .int .i64 k ∧ MapB Tryd.prog 9 4 wr g k (NamesTo l k) ∧ Apart l k ∧ Below w.heap.size w wr
theorem bool_no {c : Bool} {P : Prop} (h : c = true ↔ P) (hn : ¬ P) : c = false := by
  cases c
  · rfl
  · exact absurd (h.1 rfl) hn
theorem boolZero (w : World) : (zeroValue 4).run Tryd.prog w = .ok (.bool false) w := by kernel_rfl

set_option maxHeartbeats 400000 in
theorem twice_any (b o n cap : Nat) (l : List Pr) (w : World) (hn : n = l.length) (hl : PairsAt w b o l) (hs : ∀ p ∈ l, SmallPr p) (hc : n ≤ 1048576) :
    Calls Tryd.prog 22 #[.slice (some ⟨b, o, none⟩) n cap] w (SomeBoolB (¬ Apart l n) w) := by
  have HL := Lib.hid hl
  have HN := Lib.hid hn
  have HS := Lib.hid hs
  have hmm := run_makeMap_hint (P := Tryd.prog) Tryd.underlying58
  clear hl hn hs
  go_enter Tryd.func22, Tryd.ntmps22
  go_wp2_with fail
  obtain ⟨g, hg⟩ : ∃ g, g = w.heap.size := ⟨_, rfl⟩
  have HM := Lib.hid (MapB.made w Tryd.prog 9 4)
  rw [namesTo_zero l, ← hg] at HM
  rw [← hg]
  have hg' : w.heap.size ≤ g := by omega
  have HB := Lib.hid ((Below.refl w.heap.size w).alloc (Nat.le_refl _) (.map #[] 0))
  clear hg
  go_loopw [11] (TwiceRel l n g w) (fun i _ => n - (RowKit.intOf i).toNat)
  case atStart => exact ⟨0, by omega, rfl, HM.out, fun j _ h => by omega, HB.out⟩
  case round =>
    obtain ⟨k, hk, rfl, hm, ha, hbel⟩ := hrel
    clear hmm
    have HA := Lib.hid ha
    clear ha
    by_cases hlt : k < n
    · obtain ⟨p, hp⟩ : ∃ p, l[k]? = some p := ⟨_, List.getElem?_eq_getElem (by rw [← HN.out]; exact hlt)⟩
      obtain ⟨a0, a1⟩ := HL.out.cells hp
      obtain ⟨s0, s1⟩ := HS.out p (List.mem_of_getElem? hp)
      have hb : b < w.heap.size := World.block_lt_of_cell? w _ a0
      have c0 := (hbel.cell (p := ⟨b, o + k * 2, none⟩) hb).trans a0
      have c1 := (hbel.cell (p := ⟨b, o + k * 2 + 1, none⟩) hb).trans a1
      have hz := hbel.size
      have hgl := hm.lt
      have HM1 := Lib.hid hm
      have HB1 := Lib.hid hbel
      have HP := Lib.hid hp
      clear a0 a1 hp hbel hm
      by_cases hin : NamesTo l k p.1
      · have HI := Lib.hid hin
        clear hin
        go_wp2_with (at_lookup; refine wpList_lookup_B rfl (.tmp 15) (.tmp 17) 58 rfl Tryd.underlying58 Tryd.underlying9 Tryd.underlying4 (boolZero _) rfl (HM1.out.alloc _) p.1 rfl s0 ?_; intro c hc; obtain rfl : c = true := hc.2 HI.out; clear hc)
        go_ret
        refine ⟨true, ⟨fun _ ha => ?_, fun _ => rfl⟩, rfl, HB1.out.alloc hz _⟩
        obtain ⟨i, q, h1, h2, h3⟩ := HI.out
        exact ha k p hlt HP.out i q h1 h2 h3
      · have HI := Lib.hid hin
        clear hin
        go_wp2_with (first | (at_lookup; refine wpList_lookup_B rfl (.tmp 15) (.tmp 17) 58 rfl Tryd.underlying58 Tryd.underlying9 Tryd.underlying4 (boolZero _) rfl (HM1.out.alloc _) p.1 rfl s0 ?_; intro c hc; obtain rfl : c = false := bool_no hc HI.out; clear hc) | (at_mapUpdate; refine wpList_mapUpdate_B rfl (.tmp 19) (.tmp 21) (.const (.bool true)) 58 rfl Tryd.underlying58 Tryd.underlying9 Tryd.underlying4 rfl (HM1.out.alloc _) (by unfold maxLen; omega) p.1 rfl s0 rfl ?_; intro w2 hm2 hg2))
        rw [namesTo_step HP.out] at hm2
        have HM2 := Lib.hid hm2
        have HB2 := Lib.hid ((HB1.out.alloc hz (.cells #[Value.string p.1, Value.string p.2] 32)).grown hg2 (by simp; omega) (fun j hj => by cases hj; exact hg'))
        clear hm2 hg2
        go_wp2_with fail
        go_roundw
        case rel => exact ⟨k + 1, by omega, by go_num, HM2.out, apart_step HP.out HA.out HI.out, HB2.out⟩
        case measure => simp [RowKit.intOf]; omega
    · obtain rfl : k = n := by omega
      go_wp2_with fail
      go_ret
      exact ⟨false, ⟨(fun h => by cases h), fun h => absurd HA.out h⟩, rfl, hbel⟩

def FormRel2 (l : List Pr) (n : Nat) (w : World) (i : Value) (wr : World) : Prop := ∃ k : Nat, k ≤ n ∧ i = .int .i64 k ∧ (∀ (j : Nat) (p : Pr), j < k → l[j]? = some p → PName p.1 ∧ p.2.size ≤ 40) ∧ Below w.heap.size w wr
theorem formP_of {l : List Pr} {n : Nat} (hn : n = l.length) (h1 : 1 ≤ n) (h8 : n ≤ 8) (h : ∀ (j : Nat) (p : Pr), j < n → l[j]? = some p → PName p.1 ∧ p.2.size ≤ 40) : FormP l ↔ Apart l n := by
  constructor
  · exact fun hf j p hj hp => (hf.2.2 j p hp).2.2
  · refine fun ha => ⟨by omega, by omega, fun j p hp => ?_⟩
    have hj : j < n := by have := (List.getElem?_eq_some_iff.1 hp).1; omega
    exact ⟨(h j p hj hp).1, (h j p hj hp).2, ha j p hj hp⟩
theorem ret_noB {P : Prop} {w w' : World} (h : ¬ P) (hb : Below w.heap.size w w') : SomeBoolB P w (.returned (.bool false)) w' := ⟨false, ⟨(fun e => by cases e), (fun p => absurd p h)⟩, rfl, hb⟩

set_option maxHeartbeats 400000 in
theorem form_impl (b o n cap : Nat) (l : List Pr) (w : World) (hn : n = l.length) (hl : PairsAt w b o l) (hs : ∀ p ∈ l, SmallPr p) (hc : n ≤ 1048576) :
    Calls Tryd.prog 25 #[.slice (some ⟨b, o, none⟩) n cap] w (SomeBoolB (FormP l) w) := by
  have HL := Lib.hid hl
  have HN := Lib.hid hn
  have HS := Lib.hid hs
  clear hl hn hs
  by_cases h1 : n < 1
  · go_enter Tryd.func25, Tryd.ntmps25
    go_wp2_with fail
    go_ret
    exact ret_noB (fun h => by have := h.1; have := HN.out; omega) (Below.refl _ _)
  by_cases h8 : 8 < n
  · have d1 : decide (8 < (n : Int)) = true := decide_eq_true (by omega)
    have d0 : decide ((n : Int) < 1) = false := decide_eq_false (by omega)
    go_enter Tryd.func25, Tryd.ntmps25
    go_wp2_with fail
    go_ret
    exact ret_noB (fun h => by have := h.2.1; have := HN.out; omega) (Below.refl _ _)
  have d1 : decide (8 < (n : Int)) = false := decide_eq_false (by omega)
  have d0 : decide ((n : Int) < 1) = false := decide_eq_false (by omega)
  have h1' : 1 ≤ n := by omega
  have h8' : n ≤ 8 := by omega
  clear h1 h8
  go_enter Tryd.func25, Tryd.ntmps25
  go_wp2_with fail
  go_loopw [15] (FormRel2 l n w) (fun i _ => n - (RowKit.intOf i).toNat)
  case atStart => exact ⟨0, by omega, rfl, fun j _ h => by omega, Below.refl _ _⟩
  case round =>
    obtain ⟨k, hk, rfl, ha, hbel⟩ := hrel
    have HA := Lib.hid ha
    clear ha
    by_cases hlt : k < n
    · obtain ⟨p, hp⟩ : ∃ p, l[k]? = some p := ⟨_, List.getElem?_eq_getElem (by rw [← HN.out]; exact hlt)⟩
      obtain ⟨a0, a1⟩ := HL.out.cells hp
      obtain ⟨s0, s1⟩ := HS.out p (List.mem_of_getElem? hp)
      have s1' := s1
      unfold maxLen at s1'
      have hb : b < w.heap.size := World.block_lt_of_cell? w _ a0
      have c0 := (hbel.cell (p := ⟨b, o + k * 2, none⟩) hb).trans a0
      have c1 := (hbel.cell (p := ⟨b, o + k * 2 + 1, none⟩) hb).trans a1
      have hz := hbel.size
      have HB1 := Lib.hid hbel
      have HP := Lib.hid hp
      clear a0 a1 hp hbel
      by_cases g1 : PName p.1
      · have G1 := Lib.hid g1
        clear g1
        by_cases g2 : p.2.size ≤ 40
        · have d2 : decide (40 < (p.2.size : Int)) = false := decide_eq_false (by omega)
          go_wp2_with (go_at_call 35; refine (ipname_yes _ s0 G1.out).mono ?_; rintro e w' ⟨rfl, rfl⟩)
          go_roundw
          case rel =>
            refine ⟨k + 1, by omega, by go_num, fun j q hj hq => ?_, HB1.out.alloc hz _⟩
            by_cases e : j = k
            · subst e
              rw [HP.out] at hq
              obtain rfl := Option.some.inj hq
              exact ⟨G1.out, g2⟩
            · exact HA.out j q (by omega) hq
          case measure => simp [RowKit.intOf]; omega
        · have d2 : decide (40 < (p.2.size : Int)) = true := decide_eq_true (by omega)
          go_wp2_with (go_at_call 35; refine (ipname_yes _ s0 G1.out).mono ?_; rintro e w' ⟨rfl, rfl⟩)
          go_ret
          exact ret_noB (fun h => g2 (h.2.2 k p HP.out).2.1) (HB1.out.alloc hz _)
      · have G1 := Lib.hid g1
        clear g1
        go_wp2_with (go_at_call 35; refine (ipname_no _ s0 G1.out).mono ?_; rintro e w' ⟨rfl, rfl⟩)
        go_ret
        exact ret_noB (fun h => G1.out (h.2.2 k p HP.out).1) (HB1.out.alloc hz _)
    · obtain rfl : k = n := by omega
      have hz := hbel.size
      have HB1 := Lib.hid hbel
      have HLw := Lib.hid (HL.out.later hbel)
      clear hbel
      go_wp2_with fail
      refine (twice_any b o k cap l _ HN.out HLw.out HS.out hc).mono ?_
      rintro e w2 ⟨c, hcc, rfl, hb2⟩
      have HC := Lib.hid hcc
      have HB2 := Lib.hid (HB1.out.trans (hb2.mono hz))
      clear hcc hb2
      go_wp2_with fail
      go_ret
      exact ⟨!c, by rw [formP_of HN.out h1' h8' HA.out]; have := HC.out; cases c <;> simp_all, rfl, HB2.out⟩
end Go.Proofs.YtjoobpieomhklaaDoor
