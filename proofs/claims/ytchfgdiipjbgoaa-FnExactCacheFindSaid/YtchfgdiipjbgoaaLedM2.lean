/- Right grants, item by item. -/
import Derived.Test.YtchfgdiipjbgoaaLedM
namespace Go.Proofs.Ytchfgdiipjbgoaa
open Go Go.RowKit Go.Lib
set_option linter.unusedVariables false

theorem isB_iff {n lo hi : Int} : isB n lo hi = true ↔ lo ≤ n ∧ n ≤ hi := by simp [isB]
theorem gr_facts {g : Gr} (h : grantB g = true) : (0 ≤ g.now ∧ g.now ≤ 1000000) ∧ g.words.length ≤ 20 ∧ g.keys.length ≤ 40 ∧ wordsOk 0 g.words = true ∧ keysOk g.words 0 g.keys = true ∧ deadOk g.words 0 g.dead = true := by
  unfold grantB at h
  simp only [Bool.and_eq_true, decide_eq_true_eq, isB_iff] at h
  obtain ⟨⟨⟨⟨⟨h1, h2⟩, h3⟩, h4⟩, h5⟩, h6⟩ := h
  exact ⟨h1, h2, h3, h4, h5, h6⟩
theorem wordsOk_get {l : List Wd} : ∀ {b : Int} {k : Nat} {x : Wd}, wordsOk b l = true → l[k]? = some x → (b < x.no ∧ x.no ≤ 99 ∧ (1 ≤ x.client ∧ x.client ≤ 3) ∧ proofB x.shade = true ∧ 0 ≤ x.till ∧ x.till ≤ 1000000) ∧ ∀ y ∈ l.take k, y.no < x.no := by
  induction l with
  | nil => intro b k x _ hx; simp at hx
  | cons z r ih =>
    intro b k x h hx
    unfold wordsOk wordOk at h
    simp only [Bool.and_eq_true, decide_eq_true_eq, isB_iff] at h
    obtain ⟨⟨⟨⟨⟨h1, h2⟩, h3⟩, h4⟩, h5⟩, h6⟩ := h
    cases k with
    | zero =>
      obtain rfl : z = x := by simpa using hx
      exact ⟨⟨h1, h2, h3, h4, h5⟩, by simp⟩
    | succ k =>
      have := ih h6 (by simpa using hx : r[k]? = some x)
      obtain ⟨⟨g1, g2⟩, g3⟩ := this
      refine ⟨⟨by omega, g2⟩, fun y hy => ?_⟩
      rw [List.take_succ_cons] at hy
      rcases List.mem_cons.1 hy with rfl | hy
      · exact g1
      · exact g3 y hy
theorem keysOk_get {ws : List Wd} {l : List Ky} : ∀ {b : Int} {k : Nat} {x : Ky}, keysOk ws b l = true → l[k]? = some x → (b < x.no ∧ x.no ≤ 999 ∧ (1 ≤ x.client ∧ x.client ≤ 3) ∧ hasNo ws x.fam = true ∧ (0 ≤ x.till ∧ x.till ≤ 1000000) ∧ stateB x = true) ∧ ∀ y ∈ l.take k, y.no < x.no := by
  induction l with
  | nil => intro b k x _ hx; simp at hx
  | cons z r ih =>
    intro b k x h hx
    unfold keysOk keyOk at h
    simp only [Bool.and_eq_true, decide_eq_true_eq, isB_iff] at h
    obtain ⟨⟨⟨⟨⟨⟨h1, h2⟩, h3⟩, h4⟩, h5⟩, h6⟩, h7⟩ := h
    cases k with
    | zero =>
      obtain rfl : z = x := by simpa using hx
      exact ⟨⟨h1, h2, h3, h4, h5, h6⟩, by simp⟩
    | succ k =>
      have := ih h7 (by simpa using hx : r[k]? = some x)
      obtain ⟨⟨g1, g2⟩, g3⟩ := this
      refine ⟨⟨by omega, g2⟩, fun y hy => ?_⟩
      rw [List.take_succ_cons] at hy
      rcases List.mem_cons.1 hy with rfl | hy
      · exact g1
      · exact g3 y hy
theorem deadOk_get {ws : List Wd} {l : List Int} : ∀ {b : Int} {k : Nat} {x : Int}, deadOk ws b l = true → l[k]? = some x → (b < x ∧ hasNo ws x = true) ∧ ∀ y ∈ l.take k, y < x := by
  induction l with
  | nil => intro b k x _ hx; simp at hx
  | cons z r ih =>
    intro b k x h hx
    unfold deadOk at h
    simp only [Bool.and_eq_true, decide_eq_true_eq] at h
    obtain ⟨⟨h1, h2⟩, h3⟩ := h
    cases k with
    | zero =>
      obtain rfl : z = x := by simpa using hx
      exact ⟨⟨h1, h2⟩, by simp⟩
    | succ k =>
      have := ih h3 (by simpa using hx : r[k]? = some x)
      obtain ⟨⟨g1, g2⟩, g3⟩ := this
      refine ⟨⟨by omega, g2⟩, fun y hy => ?_⟩
      rw [List.take_succ_cons] at hy
      rcases List.mem_cons.1 hy with rfl | hy
      · exact g1
      · exact g3 y hy
theorem insD_snoc {f : Int} : ∀ {l : List Int}, (∀ d ∈ l, d < f) → insD l f = l ++ [f]
  | [], _ => rfl
  | d :: r, h => by
    unfold insD
    rw [if_pos (h d (by simp)), insD_snoc fun e he => h e (List.mem_cons_of_mem _ he)]
    rfl
theorem take_snoc {α : Type} {l : List α} {k : Nat} {x : α} (h : l[k]? = some x) : l.take (k + 1) = l.take k ++ [x] := by
  rw [List.take_add_one, h, Option.toList_some]
theorem findW_take {l : List Wd} {k : Nat} {x : Wd} (h : l[k]? = some x) (hlt : ∀ y ∈ l.take k, y.no < x.no) (i : Int) : findW (l.take (k + 1)) i = if i = x.no then some x else findW (l.take k) i := by
  unfold findW
  rw [take_snoc h, List.find?_append]
  by_cases hi : i = x.no
  · subst hi
    have hn : (l.take k).find? (fun y => y.no == x.no) = none := by
      rw [List.find?_eq_none]
      intro y hy
      have := hlt y hy
      simp; omega
    rw [hn]; simp
  · have : (x.no == i) = false := beq_eq_false_iff_ne.2 (fun e => hi e.symm)
    rw [if_neg hi]; simp [this]
theorem findK_take {l : List Ky} {k : Nat} {x : Ky} (h : l[k]? = some x) (hlt : ∀ y ∈ l.take k, y.no < x.no) (i : Int) : findK (l.take (k + 1)) i = if i = x.no then some x else findK (l.take k) i := by
  unfold findK
  rw [take_snoc h, List.find?_append]
  by_cases hi : i = x.no
  · subst hi
    have hn : (l.take k).find? (fun y => y.no == x.no) = none := by
      rw [List.find?_eq_none]
      intro y hy
      have := hlt y hy
      simp; omega
    rw [hn]; simp
  · have : (x.no == i) = false := beq_eq_false_iff_ne.2 (fun e => hi e.symm)
    rw [if_neg hi]; simp [this]
theorem findW_lt {l : List Wd} {n : Int} (h : ∀ y ∈ l, y.no < n) : findW l n = none := by
  unfold findW
  rw [List.find?_eq_none]
  intro y hy
  have := h y hy
  simp; omega
theorem findK_lt {l : List Ky} {n : Int} (h : ∀ y ∈ l, y.no < n) : findK l n = none := by
  unfold findK
  rw [List.find?_eq_none]
  intro y hy
  have := h y hy
  simp; omega
theorem wdF_step {l : List Wd} {td : Int → Int} {k : Nat} {x : Wd} (h : l[k]? = some x) (hlt : ∀ y ∈ l.take k, y.no < x.no) (i : Int) : setAt (wdF (l.take k) [] td) x.no (hwV x infB) i = wdF (l.take (k + 1)) [] td i := by
  unfold setAt wdF
  rw [findW_take h hlt]
  by_cases hi : i = x.no
  · rw [if_pos hi, if_pos hi]; rfl
  · rw [if_neg hi, if_neg hi]
theorem kyF_step {l : List Ky} {k : Nat} {x : Ky} (h : l[k]? = some x) (hlt : ∀ y ∈ l.take k, y.no < x.no) (i : Int) : setAt (kyF (l.take k)) x.no (hkV x) i = kyF (l.take (k + 1)) i := by
  unfold setAt kyF
  rw [findK_take h hlt]
  by_cases hi : i = x.no
  · rw [if_pos hi, if_pos hi]; rfl
  · rw [if_neg hi, if_neg hi]
theorem grow_w {l : List Wd} {td : Int → Int} {k : Nat} {x : Wd} (hlt : ∀ y ∈ l.take k, y.no < x.no) : grow k (wdF (l.take k) [] td x.no) = k + 1 := by simp [grow, wdF, findW_lt hlt]
theorem grow_k {l : List Ky} {k : Nat} {x : Ky} (hlt : ∀ y ∈ l.take k, y.no < x.no) : grow k (kyF (l.take k) x.no) = k + 1 := by simp [grow, kyF, findK_lt hlt]
theorem hasNo_find {l : List Wd} {n : Int} (h : hasNo l n = true) : ∃ x, findW l n = some x ∧ x.no = n := by
  unfold hasNo at h
  obtain ⟨y, hy, hn⟩ := List.any_eq_true.1 h
  have hs : (l.find? fun x => x.no == n).isSome = true := List.find?_isSome.2 ⟨y, hy, hn⟩
  obtain ⟨x, hx⟩ := Option.isSome_iff_exists.1 hs
  exact ⟨x, hx, by have := List.find?_some hx; simpa using this⟩
theorem find_mem {l : List Wd} {n : Int} {x : Wd} (h : findW l n = some x) : ∃ k : Nat, l[k]? = some x ∧ x.no = n := by
  obtain ⟨k, hk⟩ := List.getElem?_of_mem (List.mem_of_find?_eq_some h)
  exact ⟨k, hk, by have := List.find?_some h; simpa using this⟩
theorem findK_mem {l : List Ky} {n : Int} {x : Ky} (h : findK l n = some x) : ∃ k : Nat, l[k]? = some x ∧ x.no = n := by
  obtain ⟨k, hk⟩ := List.getElem?_of_mem (List.mem_of_find?_eq_some h)
  exact ⟨k, hk, by have := List.find?_some h; simpa using this⟩
end Go.Proofs.Ytchfgdiipjbgoaa
