/- Names of pairs and right forms: the walks of the two sides. -/
import Derived.Test.YtmhjihdefagkmaaPairD
import Derived.WalkSpells
import Derived.WalkLawsBesides
namespace Go.Proofs.Ytmhjihdefagkmaa
open Go Go.RowKit Go.Lib
set_option linter.unusedVariables false

def SomeBool (P : Prop) (w : World) (e : Ending) (w' : World) : Prop := ∃ b : Bool, (b = true ↔ P) ∧ e = .returned (.bool b) ∧ w = w'
theorem ret_no {P : Prop} {w : World} (h : ¬ P) : SomeBool P w (.returned (.bool false)) w := ⟨false, ⟨(fun e => by cases e), (fun p => absurd p h)⟩, rfl, rfl⟩
theorem ret_yes {P : Prop} {w : World} (h : P) : SomeBool P w (.returned (.bool true)) w := ⟨true, ⟨(fun _ => h), (fun _ => rfl)⟩, rfl, rfl⟩

def smallB (b : Int) : Bool := decide (97 ≤ b ∧ b ≤ 122)
theorem smallB_yes {b : Int} (h : 97 ≤ b) (h' : b ≤ 122) : smallB b = true := decide_eq_true ⟨h, h'⟩
theorem smallB_no {b : Int} (h : b < 97 ∨ 122 < b) : smallB b = false := decide_eq_false (fun g => by omega)
theorem small_any (b : Int) (w : World) : Calls Try.prog 33 #[.int .u8 b] w fun e w' => e = .returned (.bool (smallB b)) ∧ w = w' := by
  by_cases h1 : 97 ≤ b
  · by_cases h2 : b ≤ 122
    · go_enter Try.func33, Try.ntmps33
      go_wp2
      go_ret
      rw [smallB_yes h1 h2]
      exact ⟨rfl, rfl⟩
    · have d1 : decide (b ≤ 122) = false := decide_eq_false h2
      go_enter Try.func33, Try.ntmps33
      go_wp2
      go_ret
      rw [smallB_no (Or.inr (by omega))]
      exact ⟨rfl, rfl⟩
  · go_enter Try.func33, Try.ntmps33
    go_wp2
    go_ret
    rw [smallB_no (Or.inl (by omega))]
    exact ⟨rfl, rfl⟩

/-- A byte of a pair's name. -/
def PGood (c : Nat) : Prop := (97 ≤ c ∧ c ≤ 122) ∨ c = 95
def PName (s : ByteArray) : Prop := 1 ≤ s.size ∧ s.size ≤ 12 ∧ ∀ i, (h : i < s.size) → PGood s[i].toNat
theorem pgood_step {s : ByteArray} {k : Nat} (h : ∀ j, (h : j < s.size) → j < k → PGood s[j].toNat) {hk : k < s.size} (g : PGood s[k].toNat) :
    ∀ j, (h : j < s.size) → j < k + 1 → PGood s[j].toNat := fun j hj hjk => by
  by_cases e : j = k
  · subst e; exact g
  · exact h j hj (by omega)
theorem pgood_cases (c : Nat) : (PGood c ∧ ((97 ≤ c ∧ c ≤ 122) ∨ (c = 95))) ∨ (¬ PGood c ∧ (c < 97 ∧ c ≠ 95 ∨ 122 < c)) := by unfold PGood; omega

def NameRel (s : ByteArray) (i : Value) : Prop := ∃ k : Nat, k ≤ s.size ∧ i = .int .i64 k ∧ ∀ j, (h : j < s.size) → j < k → PGood s[j].toNat

set_option maxHeartbeats 400000 in
theorem pname_spec (s : ByteArray) (w : World) (hs : s.size ≤ maxLen) :
    Calls Try.prog 27 #[.string s] w (SomeBool (PName s) w) := by
  unfold maxLen at hs
  go_enter Try.func27, Try.ntmps27
  go_wp2_with fail
  go_loop [3] (NameRel s) (fun i => s.size - (RowKit.intOf i).toNat)
  case atStart => exact ⟨0, by omega, rfl, fun j _ h => by omega⟩
  case round =>
    obtain ⟨k, hk, rfl, hr⟩ := hrel
    have HR := Lib.hid hr
    clear hr
    by_cases hlt : k < s.size
    · rcases pgood_cases s[k].toNat with ⟨hg, ⟨c1, c2⟩ | c1⟩ | ⟨hg, ⟨c1, c2⟩ | c1⟩
      · have HG := Lib.hid hg
        clear hg
        go_wp2_with fail
        go_round
        case rel => exact ⟨k + 1, by omega, by go_num, pgood_step HR.out HG.out⟩
        case measure => simp [RowKit.intOf]; omega
      · have HG := Lib.hid hg
        have cb : ((s[k].toNat : Int) != 95) = false := by rw [bne_eq_false_iff_eq]; omega
        have c3 : (s[k].toNat : Int) < 97 := by omega
        clear hg c1
        go_wp2_with fail
        go_round
        case rel => exact ⟨k + 1, by omega, by go_num, pgood_step HR.out HG.out⟩
        case measure => simp [RowKit.intOf]; omega
      · have HG := Lib.hid hg
        have cb : ((s[k].toNat : Int) != 95) = true := by rw [bne_iff_ne]; omega
        clear hg c2
        go_wp2_with fail
        go_ret
        exact ret_no (fun h => HG.out (h.2.2 _ hlt))
      · have HG := Lib.hid hg
        have cb : ((s[k].toNat : Int) != 95) = true := by rw [bne_iff_ne]; omega
        clear hg
        go_wp2_with fail
        go_ret
        exact ret_no (fun h => HG.out (h.2.2 _ hlt))
    · obtain rfl : k = s.size := by omega
      have HA : Hid (∀ i, (h : i < s.size) → PGood s[i].toNat) := Lib.hid (fun i h => HR.out i h h)
      by_cases h1 : s.size < 1
      · go_wp2_with fail
        go_ret
        exact ret_no (fun h => by have := h.1; omega)
      · by_cases h2 : 12 < s.size
        · have h3 : decide ((s.size : Int) ≤ 12) = false := decide_eq_false (by omega)
          go_wp2_with fail
          go_ret
          exact ret_no (fun h => by have := h.2.1; omega)
        · have h3 : decide ((s.size : Int) ≤ 12) = true := decide_eq_true (by omega)
          have h4 : decide (1 ≤ (s.size : Int)) = true := decide_eq_true (by omega)
          go_wp2_with fail
          go_ret
          exact ret_yes ⟨by omega, by omega, HA.out⟩

set_option maxHeartbeats 400000 in
theorem pname_impl (s : ByteArray) (w : World) (hs : s.size ≤ maxLen) :
    Calls Try.prog 30 #[.string s] w (SomeBool (PName s) w) := by
  unfold maxLen at hs
  by_cases h1 : s.size < 1
  · go_enter Try.func30, Try.ntmps30
    go_wp2_with fail
    go_ret
    exact ret_no (fun h => by have := h.1; omega)
  by_cases h2 : 12 < s.size
  · have d2 : decide (12 < (s.size : Int)) = true := decide_eq_true (by omega)
    go_enter Try.func30, Try.ntmps30
    go_wp2_with fail
    go_ret
    exact ret_no (fun h => by have := h.2.1; omega)
  have h1' : 1 ≤ s.size := by omega
  have h2' : s.size ≤ 12 := by omega
  have d0 : decide ((s.size : Int) < 1) = false := decide_eq_false (by omega)
  have d2 : decide (12 < (s.size : Int)) = false := decide_eq_false (by omega)
  clear h1 h2
  go_enter Try.func30, Try.ntmps30
  go_wp2_with fail
  go_loop [14] (NameRel s) (fun i => s.size - (RowKit.intOf i).toNat)
  case atStart => exact ⟨0, by omega, rfl, fun j _ h => by omega⟩
  case round =>
    obtain ⟨k, hk, rfl, hr⟩ := hrel
    have HR := Lib.hid hr
    clear hr
    by_cases hlt : k < s.size
    · rcases pgood_cases s[k].toNat with ⟨hg, ⟨c1, c2⟩ | c1⟩ | ⟨hg, c1⟩
      · have HG := Lib.hid hg
        have e1 : smallB (s[k].toNat : Int) = true := smallB_yes (by omega) (by omega)
        clear hg c1 c2
        go_wp2_with (go_at_call 33; refine (small_any _ _).mono ?_; rintro e w' ⟨rfl, rfl⟩)
        go_round
        case rel => exact ⟨k + 1, by omega, by go_num, pgood_step HR.out HG.out⟩
        case measure => simp [RowKit.intOf]; omega
      · have HG := Lib.hid hg
        have e1 : smallB (s[k].toNat : Int) = false := smallB_no (by omega)
        have cb : ((s[k].toNat : Int) != 95) = false := by rw [bne_eq_false_iff_eq]; omega
        clear hg c1
        go_wp2_with (go_at_call 33; refine (small_any _ _).mono ?_; rintro e w' ⟨rfl, rfl⟩)
        go_round
        case rel => exact ⟨k + 1, by omega, by go_num, pgood_step HR.out HG.out⟩
        case measure => simp [RowKit.intOf]; omega
      · have HG := Lib.hid hg
        have e1 : smallB (s[k].toNat : Int) = false := smallB_no (by omega)
        have cb : ((s[k].toNat : Int) != 95) = true := by rw [bne_iff_ne]; omega
        clear hg c1
        go_wp2_with (go_at_call 33; refine (small_any _ _).mono ?_; rintro e w' ⟨rfl, rfl⟩)
        go_ret
        exact ret_no (fun h => HG.out (h.2.2 _ hlt))
    · go_wp2_with fail
      go_ret
      exact ret_yes ⟨h1', h2', fun i h => HR.out i h (by omega)⟩

/-- The place of a name. -/
def AtRes (l : List Pr) (name : ByteArray) (r : Int) : Prop := (r = -1 ∧ ∀ (i : Nat) (p : Pr), l[i]? = some p → p.1 ≠ name) ∨ ∃ (k : Nat) (p : Pr), r = (k : Nat) ∧ l[k]? = some p ∧ p.1 = name ∧ ∀ (i : Nat) (q : Pr), i < k → l[i]? = some q → q.1 ≠ name
def AtRel (l : List Pr) (name : ByteArray) (i : Value) : Prop := ∃ k : Nat, k ≤ l.length ∧ i = .int .i64 k ∧ ∀ (i : Nat) (q : Pr), i < k → l[i]? = some q → q.1 ≠ name
def AtOut (l : List Pr) (name : ByteArray) (w : World) (e : Ending) (w' : World) : Prop := ∃ r : Int, AtRes l name r ∧ e = .returned (.int .i64 r) ∧ w = w'
theorem list_ne {a b : ByteArray} (h : a ≠ b) : (a.toList == b.toList) = false := by
  rw [beq_eq_false_iff_ne, ByteArray.toList_eq, ByteArray.toList_eq]
  exact fun e => h (Go.WideShapes.bytes_inj e)
theorem list_eq {a b : ByteArray} (h : a = b) : (a.toList == b.toList) = true := by
  subst h; exact beq_self_eq_true _

set_option maxHeartbeats 400000 in
theorem at_spec (b o n cap : Nat) (l : List Pr) (name : ByteArray) (w : World) (hn : n = l.length) (hl : PairsAt w b o l) (hc : n ≤ 1048576) :
    Calls Try.prog 28 #[.slice (some ⟨b, o, none⟩) n cap, .string name] w (AtOut l name w) := by
  have HL := Lib.hid hl
  have HN := Lib.hid hn
  clear hl hn
  go_enter Try.func28, Try.ntmps28
  go_wp2_with fail
  go_loop [5] (AtRel l name) (fun i => n - (RowKit.intOf i).toNat)
  case atStart => exact ⟨0, by omega, rfl, fun j _ h => by omega⟩
  case round =>
    obtain ⟨k, hk, rfl, hr⟩ := hrel
    rw [← HN.out] at hk
    have HR := Lib.hid hr
    clear hr
    by_cases hlt : k < n
    · obtain ⟨p, hp⟩ : ∃ p, l[k]? = some p := ⟨_, List.getElem?_eq_getElem (by rw [← HN.out]; exact hlt)⟩
      obtain ⟨c0, c1⟩ := HL.out.cells hp
      have HP := Lib.hid hp
      clear hp
      by_cases hx : p.1 = name
      · have e1 := list_eq hx
        have HX := Lib.hid hx
        clear hx
        go_wp2_with fail
        go_ret
        exact ⟨k, Or.inr ⟨k, p, rfl, HP.out, HX.out, HR.out⟩, rfl, rfl⟩
      · have e1 := list_ne hx
        have HX := Lib.hid hx
        clear hx
        go_wp2_with fail
        go_round
        case rel =>
          refine ⟨k + 1, by rw [← HN.out]; omega, by go_num, fun i q hi hq => ?_⟩
          by_cases e : i = k
          · subst e
            rw [HP.out] at hq
            obtain rfl := Option.some.inj hq
            exact HX.out
          · exact HR.out i q (by omega) hq
        case measure => simp [RowKit.intOf]; omega
    · go_wp2_with fail
      go_ret
      exact ⟨-1, Or.inl ⟨rfl, fun i p hi => HR.out i p (by have := (List.getElem?_eq_some_iff.1 hi).1; rw [← HN.out] at this; omega) hi⟩, rfl, rfl⟩
end Go.Proofs.Ytmhjihdefagkmaa
