/- What a right request leaves of a right grant is right: each kind. -/
import Derived.Test.YtgkdajlkajmdiaaGreatRKeep
import Derived.Test.YtgkdajlkajmdiaaGreatRGdF
import Derived.Test.YtgkdajlkajmdiaaGreatRImp4
import Derived.Test.YtgkdajlkajmdiaaGreatRSpD
namespace Go.Proofs.YtgkdajlkajmdiaaGreat
open Go Go.RowKit Go.Lib
set_option linter.unusedVariables false

theorem grant_of {g : Gr} (h0 : 0 ≤ g.now ∧ g.now ≤ 1000000) (h1 : g.words.length ≤ 20) (h2 : g.keys.length ≤ 40) (h3 : wordsOk 0 g.words = true) (h4 : keysOk g.words 0 g.keys = true) (h5 : deadOk g.words 0 g.dead = true) : grantB g = true := by
  unfold grantB
  simp only [Bool.and_eq_true, decide_eq_true_eq, isB_iff]
  exact ⟨⟨⟨⟨⟨h0, h1⟩, h2⟩, h3⟩, h4⟩, h5⟩
theorem upT_ok {n : Int} (h : 0 ≤ n) : 0 ≤ upT n ∧ upT n ≤ 1000000 := by
  unfold upT
  split <;> omega
theorem found_no {l : List Wd} {n : Int} {x : Wd} (h : findW l n = some x) : hasNo l n = true := by
  unfold hasNo
  rw [List.any_eq_true]
  exact ⟨x, List.mem_of_find?_eq_some h, by have := List.find?_some h; simpa using this⟩
theorem none_of {o : Option Wd} (h : ¬ o.isSome = true) : o = none := by cases o <;> simp_all
theorem req_one {r : RQ} (h : rightB r = true) (hk : r.kind = 1) : (1 ≤ r.client ∧ r.client ≤ 3) ∧ proofB r.proof = true := by
  obtain ⟨no, kind, client, code, token, proof, upTo⟩ := r
  obtain rfl : kind = 1 := hk
  rw [right1] at h
  simp only [Bool.and_eq_true, isB_iff] at h
  exact ⟨h.1.2.1, h.1.2.2⟩
theorem req_two {r : RQ} (h : rightB r = true) (hk : r.kind = 2) : 1 ≤ r.client ∧ r.client ≤ 3 := by
  obtain ⟨no, kind, client, code, token, proof, upTo⟩ := r
  obtain rfl : kind = 2 := hk
  rw [right2] at h
  simp only [Bool.and_eq_true, isB_iff] at h
  exact h.1.2.1.1
theorem req_three {r : RQ} (h : rightB r = true) (hk : r.kind = 3) : 1 ≤ r.client ∧ r.client ≤ 3 := by
  obtain ⟨no, kind, client, code, token, proof, upTo⟩ := r
  obtain rfl : kind = 3 := hk
  rw [right3] at h
  simp only [Bool.and_eq_true, isB_iff] at h
  exact h.1.2.1
theorem kill_right {g : Gr} (hB : grantB g = true) {f : Int} (hf : hasNo g.words f = true) : grantB (killG g f) = true := by
  obtain ⟨h0, h1, h2, h3, h4, h5⟩ := gr_facts hB
  have hp : 0 < f := by
    obtain ⟨y, hy, hn⟩ := List.any_eq_true.1 hf
    have := wordsOk_up h3 y hy
    have hn' : y.no = f := by simpa using hn
    omega
  exact grant_of h0 h1 h2 h3 h4 (dead_ins hf _ _ h5 hp)
theorem mark_none {ks : List Ky} {n s m : Int} (h : findK ks m = none) : findK (markK ks n s) m = none := by
  unfold findK at h ⊢
  rw [List.find?_eq_none] at h ⊢
  intro x hx
  unfold markK at hx
  obtain ⟨y, hy, rfl⟩ := List.mem_map.1 hx
  have := h y hy
  split <;> exact this
theorem give_right {g : Gr} {r : RQ} {fam : Int} (hB : grantB g = true) (hl : g.keys.length ≤ 38) (hn1 : findK g.keys (10 * r.no + 1) = none) (hn2 : findK g.keys (10 * r.no + 2) = none) (hno : 1 ≤ r.no ∧ r.no ≤ 99) (hc : 1 ≤ r.client ∧ r.client ≤ 3) (hf : hasNo g.words fam = true) : grantB (giveG g r fam) = true := by
  obtain ⟨h0, h1, h2, h3, h4, h5⟩ := gr_facts hB
  have ka : keyOk g.words 0 (accK r fam g.now) = true := by
    have hu := upT_ok (n := g.now + 60) (by omega)
    unfold keyOk accK stateB
    simp only [Bool.and_eq_true, decide_eq_true_eq, isB_iff]
    exact ⟨⟨⟨⟨⟨by omega, by omega⟩, hc⟩, hf⟩, hu⟩, ⟨by omega, by omega⟩, rfl⟩
  have kn : keyOk g.words 0 (nextK r fam g.now) = true := by
    have hu := upT_ok (n := g.now + 300) (by omega)
    unfold keyOk nextK stateB
    simp only [Bool.and_eq_true, decide_eq_true_eq, isB_iff]
    exact ⟨⟨⟨⟨⟨by omega, by omega⟩, hc⟩, hf⟩, hu⟩, ⟨by omega, by omega⟩, rfl⟩
  have k1 := keys_ins g.words (accK r fam g.now) g.keys 0 h4 ka hn1
  have hn3 : findK (insK g.keys (accK r fam g.now)) (10 * r.no + 2) = none := by
    rw [findK_ins _ _ _ hn1, if_neg (by show ¬ 10 * r.no + 2 = 10 * r.no + 1; omega)]
    exact hn2
  have k2 := keys_ins g.words (nextK r fam g.now) _ 0 k1 kn hn3
  refine grant_of h0 h1 ?_ h3 k2 h5
  show (insK (insK g.keys _) _).length ≤ 40
  rw [insK_length, insK_length]
  omega
end Go.Proofs.YtgkdajlkajmdiaaGreat
