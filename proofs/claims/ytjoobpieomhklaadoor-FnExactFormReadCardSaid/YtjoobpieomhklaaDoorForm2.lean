/- Right forms: the walks of the two sides. -/
import Derived.Test.YtjoobpieomhklaaDoorForm1
import Derived.Test.YtjoobpieomhklaaDoorMap
namespace Go.Proofs.YtjoobpieomhklaaDoor
open Go Go.RowKit Go.Lib
set_option linter.unusedVariables false

/-- Place j of a list of pairs is right, and no other of its name stands ahead of it. -/
def PlaceOk (l : List Pr) (j : Nat) : Prop := ∀ p : Pr, l[j]? = some p → PName p.1 ∧ p.2.size ≤ 40 ∧ ∀ (i : Nat) (q : Pr), i < j → l[i]? = some q → q.1 ≠ p.1
def FormP (l : List Pr) : Prop := 1 ≤ l.length ∧ l.length ≤ 8 ∧ ∀ j, PlaceOk l j

theorem pname_yes {s : ByteArray} (w : World) (hs : s.size ≤ maxLen) (h : PName s) : Calls Tryd.prog 31 #[.string s] w fun e w' => e = .returned (.bool true) ∧ w = w' :=
  (pname_spec s w hs).mono fun _ _ ⟨b, hb, he, hw⟩ => ⟨by rw [he, hb.2 h], hw⟩
theorem pname_no {s : ByteArray} (w : World) (hs : s.size ≤ maxLen) (h : ¬ PName s) : Calls Tryd.prog 31 #[.string s] w fun e w' => e = .returned (.bool false) ∧ w = w' :=
  (pname_spec s w hs).mono fun _ _ ⟨b, hb, he, hw⟩ => ⟨by rw [he]; cases b; rfl; exact absurd (hb.1 rfl) h, hw⟩
theorem ipname_yes {s : ByteArray} (w : World) (hs : s.size ≤ maxLen) (h : PName s) : Calls Tryd.prog 35 #[.string s] w fun e w' => e = .returned (.bool true) ∧ w = w' :=
  (pname_impl s w hs).mono fun _ _ ⟨b, hb, he, hw⟩ => ⟨by rw [he, hb.2 h], hw⟩
theorem ipname_no {s : ByteArray} (w : World) (hs : s.size ≤ maxLen) (h : ¬ PName s) : Calls Tryd.prog 35 #[.string s] w fun e w' => e = .returned (.bool false) ∧ w = w' :=
  (pname_impl s w hs).mono fun _ _ ⟨b, hb, he, hw⟩ => ⟨by rw [he]; cases b; rfl; exact absurd (hb.1 rfl) h, hw⟩

def AtNot (k : Nat) (w : World) (e : Ending) (w' : World) : Prop := ∃ r : Int, (r != (k : Int)) = true ∧ e = .returned (.int .i64 r) ∧ w = w'
theorem at_first {b o n cap k : Nat} {l : List Pr} {p : Pr} (w : World) (hn : n = l.length) (hl : PairsAt w b o l) (hc : n ≤ 1048576) (hk : l[k]? = some p) (hf : ∀ (i : Nat) (q : Pr), i < k → l[i]? = some q → q.1 ≠ p.1) :
    Calls Tryd.prog 11 #[.slice (some ⟨b, o, none⟩) n cap, .string p.1] w fun e w' => e = .returned (.int .i64 (k : Int)) ∧ w = w' :=
  (at_spec b o n cap l p.1 w hn hl hc).mono fun _ _ ⟨r, hr, he, hw⟩ => by
    refine ⟨?_, hw⟩
    rcases hr with ⟨_, hr⟩ | ⟨k', q, rfl, h1, h2, h3⟩
    · exact absurd rfl (hr k p hk)
    · have : k' = k := by
        rcases Nat.lt_trichotomy k' k with h | h | h
        · exact absurd h2 (hf k' q h h1)
        · exact h
        · exact absurd rfl (h3 k p h hk)
      rw [he, this]
theorem at_later {b o n cap k : Nat} {l : List Pr} {p : Pr} (w : World) (hn : n = l.length) (hl : PairsAt w b o l) (hc : n ≤ 1048576) (hk : l[k]? = some p) (hf : ¬ ∀ (i : Nat) (q : Pr), i < k → l[i]? = some q → q.1 ≠ p.1) :
    Calls Tryd.prog 11 #[.slice (some ⟨b, o, none⟩) n cap, .string p.1] w (AtNot k w) :=
  (at_spec b o n cap l p.1 w hn hl hc).mono fun _ _ ⟨r, hr, he, hw⟩ => by
    refine ⟨r, ?_, he, hw⟩
    rw [bne_iff_ne]
    rintro rfl
    rcases hr with ⟨h, _⟩ | ⟨k', q, h0, h1, h2, h3⟩
    · omega
    · obtain rfl : k = k' := by omega
      rw [hk] at h1
      obtain rfl := Option.some.inj h1
      exact hf h3

def FormRel (l : List Pr) (n : Nat) (i : Value) : Prop := ∃ k : Nat, k ≤ n ∧ k ≤ 9 ∧ i = .int .i64 k ∧ ∀ j, j < k → PlaceOk l j
theorem placeOk_of {l : List Pr} {k : Nat} {p : Pr} (hp : l[k]? = some p) (h1 : PName p.1) (h2 : p.2.size ≤ 40) (h3 : ∀ (i : Nat) (q : Pr), i < k → l[i]? = some q → q.1 ≠ p.1) : PlaceOk l k := fun q hq => by
  rw [hp] at hq
  obtain rfl := Option.some.inj hq
  exact ⟨h1, h2, h3⟩
theorem formRel_step {l : List Pr} {k : Nat} (hr : ∀ j, j < k → PlaceOk l j) (hk : PlaceOk l k) : ∀ j, j < k + 1 → PlaceOk l j := fun j hj => by
  by_cases e : j = k
  · subst e; exact hk
  · exact hr j (by omega)

set_option maxHeartbeats 800000 in
theorem form_spec (b o n cap : Nat) (l : List Pr) (w : World) (hn : n = l.length) (hl : PairsAt w b o l) (hs : ∀ p ∈ l, SmallPr p) (hc : n ≤ 1048576) :
    Calls Tryd.prog 19 #[.slice (some ⟨b, o, none⟩) n cap] w (SomeBool (FormP l) w) := by
  have HL := Lib.hid hl
  have HN := Lib.hid hn
  have HS := Lib.hid hs
  clear hl hn hs
  go_enter Tryd.func19, Tryd.ntmps19
  go_wp2_with fail
  go_loop [3] (FormRel l n) (fun i => n - (RowKit.intOf i).toNat)
  case atStart => exact ⟨0, by omega, by omega, rfl, fun j h => by omega⟩
  case round =>
    obtain ⟨k, hk, hk9, rfl, hr⟩ := hrel
    have HR := Lib.hid hr
    clear hr
    by_cases hlt : k < n
    · by_cases h8 : k ≤ 8
      · have d8 : decide ((k : Int) ≤ 8) = true := decide_eq_true (by omega)
        obtain ⟨p, hp⟩ : ∃ p, l[k]? = some p := ⟨_, List.getElem?_eq_getElem (by rw [← HN.out]; exact hlt)⟩
        obtain ⟨c0, c1⟩ := HL.out.cells hp
        obtain ⟨s0, s1⟩ := HS.out p (List.mem_of_getElem? hp)
        have HP := Lib.hid hp
        have s1' := s1
        unfold maxLen at s1'
        clear hp
        by_cases g1 : PName p.1
        · have G1 := Lib.hid g1
          clear g1
          by_cases g2 : p.2.size ≤ 40
          · have d2 : decide (40 < (p.2.size : Int)) = false := decide_eq_false (by omega)
            by_cases g3 : ∀ (i : Nat) (q : Pr), i < k → l[i]? = some q → q.1 ≠ p.1
            · have G3 := Lib.hid g3
              clear g3
              go_wp2_with (first | (go_at_call 31; refine (pname_yes _ s0 G1.out).mono ?_; rintro e w' ⟨rfl, rfl⟩) | (go_at_call 11; refine (at_first _ HN.out HL.out hc HP.out G3.out).mono ?_; rintro e w' ⟨rfl, rfl⟩))
              go_round
              case rel => exact ⟨k + 1, by omega, by omega, by go_num, formRel_step HR.out (placeOk_of HP.out G1.out g2 G3.out)⟩
              case measure => simp [RowKit.intOf]; omega
            · have G3 := Lib.hid g3
              clear g3
              go_wp2_with (first | (go_at_call 31; refine (pname_yes _ s0 G1.out).mono ?_; rintro e w' ⟨rfl, rfl⟩) | (go_at_call 11; refine (at_later _ HN.out HL.out hc HP.out G3.out).mono ?_; rintro e w' ⟨r, hne, rfl, rfl⟩))
              go_ret
              exact ret_no (fun h => G3.out (h.2.2 k p HP.out).2.2)
          · have d2 : decide (40 < (p.2.size : Int)) = true := decide_eq_true (by omega)
            go_wp2_with (go_at_call 31; refine (pname_yes _ s0 G1.out).mono ?_; rintro e w' ⟨rfl, rfl⟩)
            go_ret
            exact ret_no (fun h => g2 (h.2.2 k p HP.out).2.1)
        · have G1 := Lib.hid g1
          clear g1
          go_wp2_with (go_at_call 31; refine (pname_no _ s0 G1.out).mono ?_; rintro e w' ⟨rfl, rfl⟩)
          go_ret
          exact ret_no (fun h => G1.out (h.2.2 k p HP.out).1)
      · have d8 : decide ((k : Int) ≤ 8) = false := decide_eq_false (by omega)
        have d9 : decide ((n : Int) ≤ 8) = false := decide_eq_false (by omega)
        go_wp2_with fail
        go_ret
        exact ret_no (fun h => by have := h.2.1; have := HN.out; omega)
    · obtain rfl : k = n := by omega
      by_cases h1 : k < 1
      · go_wp2_with fail
        go_ret
        exact ret_no (fun h => by have := h.1; have := HN.out; omega)
      · by_cases h2 : 8 < k
        · have d9 : decide ((k : Int) ≤ 8) = false := decide_eq_false (by omega)
          go_wp2_with fail
          go_ret
          exact ret_no (fun h => by have := h.2.1; have := HN.out; omega)
        · have d9 : decide ((k : Int) ≤ 8) = true := decide_eq_true (by omega)
          have d1 : decide (1 ≤ (k : Int)) = true := decide_eq_true (by omega)
          go_wp2_with fail
          go_ret
          refine ret_yes ⟨by have := HN.out; omega, by have := HN.out; omega, fun j => ?_⟩
          by_cases hj : j < k
          · exact HR.out j hj
          · exact fun p hp => by have := (List.getElem?_eq_some_iff.1 hp).1; have := HN.out; omega
end Go.Proofs.YtjoobpieomhklaaDoor
