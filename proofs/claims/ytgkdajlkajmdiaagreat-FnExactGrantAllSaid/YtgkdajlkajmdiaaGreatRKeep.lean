/- What a right request leaves of a right grant is right. -/
import Derived.Test.YtgkdajlkajmdiaaGreatRGdC
import Derived.Test.YtgkdajlkajmdiaaGreatROpImpA
import Derived.Test.YtgkdajlkajmdiaaGreatRSpG
namespace Go.Proofs.YtgkdajlkajmdiaaGreat
open Go Go.RowKit Go.Lib
set_option linter.unusedVariables false

theorem hasNo_ins (x : Wd) (n : Int) : ∀ l, hasNo (insW l x) n = (x.no == n || hasNo l n)
  | [] => by simp [insW, hasNo]
  | y :: r => by
    have ih := hasNo_ins x n r
    unfold insW
    split
    · simp only [hasNo, List.any_cons] at ih ⊢
      rw [ih]
      cases (y.no == n) <;> cases (x.no == n) <;> rfl
    · simp [hasNo]
theorem hasNo_use (m n : Int) : ∀ l, hasNo (useW l m) n = hasNo l n
  | [] => rfl
  | y :: r => by
    have ih := hasNo_use m n r
    simp only [hasNo, useW, List.map_cons, List.any_cons] at ih ⊢
    rw [ih]
    split <;> rfl
theorem keep_key {l l' : List Wd} (h : ∀ n, hasNo l n = true → hasNo l' n = true) {b : Int} {x : Ky} (hk : keyOk l b x = true) : keyOk l' b x = true := by
  unfold keyOk at hk ⊢
  simp only [Bool.and_eq_true] at hk ⊢
  exact ⟨⟨⟨hk.1.1.1, h _ hk.1.1.2⟩, hk.1.2⟩, hk.2⟩
theorem keep_keys {l l' : List Wd} (h : ∀ n, hasNo l n = true → hasNo l' n = true) : ∀ (ks : List Ky) (b : Int), keysOk l b ks = true → keysOk l' b ks = true
  | [], _, _ => rfl
  | x :: r, b, hk => by
    unfold keysOk at hk ⊢
    simp only [Bool.and_eq_true] at hk ⊢
    exact ⟨keep_key h hk.1, keep_keys h r _ hk.2⟩
theorem keep_dead {l l' : List Wd} (h : ∀ n, hasNo l n = true → hasNo l' n = true) : ∀ (ks : List Int) (b : Int), deadOk l b ks = true → deadOk l' b ks = true
  | [], _, _ => rfl
  | x :: r, b, hk => by
    unfold deadOk at hk ⊢
    simp only [Bool.and_eq_true] at hk ⊢
    exact ⟨⟨hk.1.1, h _ hk.1.2⟩, keep_dead h r _ hk.2⟩
theorem word_lo {b b' : Int} {x : Wd} (h : wordOk b x = true) (hb : b' < x.no) : wordOk b' x = true := by
  unfold wordOk at *
  simp only [Bool.and_eq_true, decide_eq_true_eq] at *
  exact ⟨⟨⟨⟨hb, h.1.1.1.2⟩, h.1.1.2⟩, h.1.2⟩, h.2⟩
theorem key_lo {l : List Wd} {b b' : Int} {x : Ky} (h : keyOk l b x = true) (hb : b' < x.no) : keyOk l b' x = true := by
  unfold keyOk at *
  simp only [Bool.and_eq_true, decide_eq_true_eq] at *
  exact ⟨⟨⟨⟨⟨hb, h.1.1.1.1.2⟩, h.1.1.1.2⟩, h.1.1.2⟩, h.1.2⟩, h.2⟩
theorem words_ins (x : Wd) : ∀ (l : List Wd) (b : Int), wordsOk b l = true → wordOk b x = true → findW l x.no = none → wordsOk b (insW l x) = true
  | [], b, _, hx, _ => by
    show (wordOk b x && true) = true
    rw [hx]; rfl
  | y :: r, b, h, hx, hf => by
    unfold wordsOk at h
    simp only [Bool.and_eq_true] at h
    have hb : (y.no == x.no) = false := by
      cases hh : y.no == x.no with
      | false => rfl
      | true => unfold findW at hf; rw [List.find?_cons, hh] at hf; cases hf
    have hf' : findW r x.no = none := by
      unfold findW at hf ⊢
      rwa [List.find?_cons_of_neg (by simp [hb])] at hf
    have hne : y.no ≠ x.no := by simpa using hb
    unfold insW
    split
    · rename_i hlt
      show (wordOk b y && wordsOk y.no (insW r x)) = true
      rw [h.1, words_ins x r y.no h.2 (word_lo hx hlt) hf']; rfl
    · rename_i hlt
      show (wordOk b x && (wordOk x.no y && wordsOk y.no r)) = true
      rw [hx, word_lo h.1 (by omega), h.2]; rfl
theorem keys_ins (l : List Wd) (x : Ky) : ∀ (ks : List Ky) (b : Int), keysOk l b ks = true → keyOk l b x = true → findK ks x.no = none → keysOk l b (insK ks x) = true
  | [], b, _, hx, _ => by
    show (keyOk l b x && true) = true
    rw [hx]; rfl
  | y :: r, b, h, hx, hf => by
    unfold keysOk at h
    simp only [Bool.and_eq_true] at h
    have hb : (y.no == x.no) = false := by
      cases hh : y.no == x.no with
      | false => rfl
      | true => unfold findK at hf; rw [List.find?_cons, hh] at hf; cases hf
    have hf' : findK r x.no = none := by
      unfold findK at hf ⊢
      rwa [List.find?_cons_of_neg (by simp [hb])] at hf
    have hne : y.no ≠ x.no := by simpa using hb
    unfold insK
    split
    · rename_i hlt
      show (keyOk l b y && keysOk l y.no (insK r x)) = true
      rw [h.1, keys_ins l x r y.no h.2 (key_lo hx hlt) hf']; rfl
    · rename_i hlt
      show (keyOk l b x && (keyOk l x.no y && keysOk l y.no r)) = true
      rw [hx, key_lo h.1 (by omega), h.2]; rfl
theorem words_use (n : Int) : ∀ (l : List Wd) (b : Int), wordsOk b l = true → wordsOk b (useW l n) = true
  | [], _, _ => rfl
  | y :: r, b, h => by
    unfold wordsOk at h
    simp only [Bool.and_eq_true] at h
    have ih := words_use n r _ h.2
    show (wordOk b (if y.no == n then usedW y else y) && wordsOk (if y.no == n then usedW y else y).no (useW r n)) = true
    simp only [Bool.and_eq_true]
    split <;> exact ⟨h.1, ih⟩
theorem keys_mark (l : List Wd) (n s : Int) : ∀ (ks : List Ky) (b : Int), (∀ y ∈ ks, y.no = n → stateB (stK s y) = true) → keysOk l b ks = true → keysOk l b (markK ks n s) = true
  | [], _, _, _ => rfl
  | y :: r, b, hs, h => by
    unfold keysOk at h
    simp only [Bool.and_eq_true] at h
    have ih := keys_mark l n s r _ (fun z hz => hs z (List.mem_cons_of_mem _ hz)) h.2
    show (keyOk l b (if y.no == n then stK s y else y) && keysOk l (if y.no == n then stK s y else y).no (markK r n s)) = true
    simp only [Bool.and_eq_true]
    split
    · rename_i hh
      refine ⟨?_, ih⟩
      have h1 := h.1
      unfold keyOk at h1 ⊢
      simp only [Bool.and_eq_true] at h1 ⊢
      exact ⟨h1.1, hs y (List.mem_cons_self ..) (by simpa using hh)⟩
    · exact ⟨h.1, ih⟩
theorem key_above {l : List Wd} : ∀ (ks : List Ky) (b : Int), keysOk l b ks = true → ∀ y ∈ ks, b < y.no
  | [], _, _, _, hy => by cases hy
  | x :: r, b, h, y, hy => by
    unfold keysOk at h
    simp only [Bool.and_eq_true] at h
    have hx : b < x.no := by
      have h1 := h.1
      unfold keyOk at h1
      simp only [Bool.and_eq_true, decide_eq_true_eq] at h1
      exact h1.1.1.1.1.1
    rcases List.mem_cons.1 hy with rfl | hr
    · exact hx
    · have := key_above r _ h.2 y hr
      omega
theorem key_one {l : List Wd} {n : Int} {x : Ky} : ∀ (ks : List Ky) (b : Int), keysOk l b ks = true → findK ks n = some x → ∀ y ∈ ks, y.no = n → y = x
  | [], _, _, _, _, hy, _ => by cases hy
  | z :: r, b, h, hf, y, hy, hn => by
    unfold keysOk at h
    simp only [Bool.and_eq_true] at h
    cases hh : z.no == n with
    | true =>
      unfold findK at hf
      rw [List.find?_cons, hh] at hf
      have hz : z.no = n := by simpa using hh
      rcases List.mem_cons.1 hy with rfl | hr
      · exact Option.some.inj hf
      · have := key_above r _ h.2 y hr
        omega
    | false =>
      have hz : z.no ≠ n := by simpa using hh
      have hf' : findK r n = some x := by
        unfold findK at hf ⊢
        rwa [List.find?_cons_of_neg (by simp [hh])] at hf
      rcases List.mem_cons.1 hy with rfl | hr
      · exact absurd hn hz
      · exact key_one r _ h.2 hf' y hr hn
theorem dead_ins {l : List Wd} {f : Int} (hl : hasNo l f = true) : ∀ (d : List Int) (b : Int), deadOk l b d = true → b < f → deadOk l b (insD d f) = true
  | [], b, _, hb => by
    show (decide (b < f) && hasNo l f && true) = true
    rw [hl, decide_eq_true hb]; rfl
  | y :: r, b, h, hb => by
    have h0 := h
    unfold deadOk at h
    simp only [Bool.and_eq_true, decide_eq_true_eq] at h
    unfold insD
    split
    · rename_i hlt
      show (decide (b < y) && hasNo l y && deadOk l y (insD r f)) = true
      rw [decide_eq_true h.1.1, h.1.2, dead_ins hl r y h.2 hlt]; rfl
    · split
      · exact h0
      · rename_i h1 h2
        show (decide (b < f) && hasNo l f && (decide (f < y) && hasNo l y && deadOk l y r)) = true
        rw [decide_eq_true hb, hl, decide_eq_true (by omega), h.1.2, h.2]; rfl
end Go.Proofs.YtgkdajlkajmdiaaGreat
