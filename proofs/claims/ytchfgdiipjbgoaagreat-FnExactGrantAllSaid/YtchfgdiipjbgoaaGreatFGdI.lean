/- What a right request leaves of a right grant is right. What a right request leaves of a right grant is right: each kind. What a right request leaves of a right grant is right. -/
import Derived.Test.YtchfgdiipjbgoaaGreatFGdC
import Derived.Test.YtchfgdiipjbgoaaGreatFOpImpA
import Derived.Test.YtchfgdiipjbgoaaGreatFSpG
import Derived.Test.YtchfgdiipjbgoaaGreatFGdF
import Derived.Test.YtchfgdiipjbgoaaGreatFImp4
import Derived.Test.YtchfgdiipjbgoaaGreatFSpD
import Derived.Test.YtchfgdiipjbgoaaGreatFGdE
namespace Go.Proofs.YtchfgdiipjbgoaaGreat
open Go Go.RowKit Go.Lib
set_option linter.unusedVariables false

theorem hasNo_ins (x : Wd) (n : Int) : ∀ l, hasNo (insW l x) n = (x.no == n || hasNo l n)
 | [] => by simp [insW, hasNo]
 | y :: r => by
  have ih := hasNo_ins x n r
  unfold insW
  split
  ·simp only [hasNo, List.any_cons] at ih ⊢
   rw [ih]
   cases (y.no == n) <;> cases (x.no == n) <;> rfl
  ·simp [hasNo]
theorem hasNo_use (m n : Int) : ∀ l, hasNo (useW l m) n = hasNo l n
 | [] => rfl
 | y :: r => by
  have ih := hasNo_use m n r
  simp only [hasNo, useW, List.map_cons, List.any_cons] at ih ⊢
  rw [ih]
  split <;> rfl
theorem keep_key {l l' : List Wd} (h : ∀ n, hasNo l n = true → hasNo l' n = true) {b : Int} {x : Ky} (hk : keyOk l b x = true) : keyOk l' b x = true := by
 unfold keyOk at hk ⊢
 simp only [Bool.and_eq_true] at hk ⊢
 exact ⟨⟨⟨hk.1.1.1, h _ hk.1.1.2⟩, hk.1.2⟩, hk.2⟩
theorem keep_keys {l l' : List Wd} (h : ∀ n, hasNo l n = true → hasNo l' n = true) : ∀ (ks : List Ky) (b : Int), keysOk l b ks = true → keysOk l' b ks = true
 | [], _, _ => rfl
 | x :: r, b, hk => by
  unfold keysOk at hk ⊢
  simp only [Bool.and_eq_true] at hk ⊢
  exact ⟨keep_key h hk.1, keep_keys h r _ hk.2⟩
theorem keep_dead {l l' : List Wd} (h : ∀ n, hasNo l n = true → hasNo l' n = true) : ∀ (ks : List Int) (b : Int), deadOk l b ks = true → deadOk l' b ks = true
 | [], _, _ => rfl
 | x :: r, b, hk => by
  unfold deadOk at hk ⊢
  simp only [Bool.and_eq_true] at hk ⊢
  exact ⟨⟨hk.1.1, h _ hk.1.2⟩, keep_dead h r _ hk.2⟩
theorem word_lo {b b' : Int} {x : Wd} (h : wordOk b x = true) (hb : b' < x.no) : wordOk b' x = true := by
 unfold wordOk at *
 simp only [Bool.and_eq_true, decide_eq_true_eq] at *
 exact ⟨⟨⟨⟨hb, h.1.1.1.2⟩, h.1.1.2⟩, h.1.2⟩, h.2⟩
theorem key_lo {l : List Wd} {b b' : Int} {x : Ky} (h : keyOk l b x = true) (hb : b' < x.no) : keyOk l b' x = true := by
 unfold keyOk at *
 simp only [Bool.and_eq_true, decide_eq_true_eq] at *
 exact ⟨⟨⟨⟨⟨hb, h.1.1.1.1.2⟩, h.1.1.1.2⟩, h.1.1.2⟩, h.1.2⟩, h.2⟩
theorem words_ins (x : Wd) : ∀ (l : List Wd) (b : Int), wordsOk b l = true → wordOk b x = true → findW l x.no = none → wordsOk b (insW l x) = true
 | [], b, _, hx, _ => by
  show (wordOk b x && true) = true
  rw [hx]; rfl
 | y :: r, b, h, hx, hf => by
  unfold wordsOk at h
  simp only [Bool.and_eq_true] at h
  have hb : (y.no == x.no) = false := by
   cases hh : y.no == x.no with
   | false => rfl
   | true => unfold findW at hf; rw [List.find?_cons, hh] at hf; cases hf
  have hf' : findW r x.no = none := by
   unfold findW at hf ⊢
   rwa [List.find?_cons_of_neg (by simp [hb])] at hf
  have hne : y.no ≠ x.no := by simpa using hb
  unfold insW
  split
  ·rename_i hlt
   show (wordOk b y && wordsOk y.no (insW r x)) = true
   rw [h.1, words_ins x r y.no h.2 (word_lo hx hlt) hf']; rfl
  ·rename_i hlt
   show (wordOk b x && (wordOk x.no y && wordsOk y.no r)) = true
   rw [hx, word_lo h.1 (by omega), h.2]; rfl
theorem keys_ins (l : List Wd) (x : Ky) : ∀ (ks : List Ky) (b : Int), keysOk l b ks = true → keyOk l b x = true → findK ks x.no = none → keysOk l b (insK ks x) = true
 | [], b, _, hx, _ => by
  show (keyOk l b x && true) = true
  rw [hx]; rfl
 | y :: r, b, h, hx, hf => by
  unfold keysOk at h
  simp only [Bool.and_eq_true] at h
  have hb : (y.no == x.no) = false := by
   cases hh : y.no == x.no with
   | false => rfl
   | true => unfold findK at hf; rw [List.find?_cons, hh] at hf; cases hf
  have hf' : findK r x.no = none := by
   unfold findK at hf ⊢
   rwa [List.find?_cons_of_neg (by simp [hb])] at hf
  have hne : y.no ≠ x.no := by simpa using hb
  unfold insK
  split
  ·rename_i hlt
   show (keyOk l b y && keysOk l y.no (insK r x)) = true
   rw [h.1, keys_ins l x r y.no h.2 (key_lo hx hlt) hf']; rfl
  ·rename_i hlt
   show (keyOk l b x && (keyOk l x.no y && keysOk l y.no r)) = true
   rw [hx, key_lo h.1 (by omega), h.2]; rfl
theorem words_use (n : Int) : ∀ (l : List Wd) (b : Int), wordsOk b l = true → wordsOk b (useW l n) = true
 | [], _, _ => rfl
 | y :: r, b, h => by
  unfold wordsOk at h
  simp only [Bool.and_eq_true] at h
  have ih := words_use n r _ h.2
  show (wordOk b (if y.no == n then usedW y else y) && wordsOk (if y.no == n then usedW y else y).no (useW r n)) = true
  simp only [Bool.and_eq_true]
  split <;> exact ⟨h.1, ih⟩
theorem keys_mark (l : List Wd) (n s : Int) : ∀ (ks : List Ky) (b : Int), (∀ y ∈ ks, y.no = n → stateB (stK s y) = true) → keysOk l b ks = true → keysOk l b (markK ks n s) = true
 | [], _, _, _ => rfl
 | y :: r, b, hs, h => by
  unfold keysOk at h
  simp only [Bool.and_eq_true] at h
  have ih := keys_mark l n s r _ (fun z hz => hs z (List.mem_cons_of_mem _ hz)) h.2
  show (keyOk l b (if y.no == n then stK s y else y) && keysOk l (if y.no == n then stK s y else y).no (markK r n s)) = true
  simp only [Bool.and_eq_true]
  split
  ·rename_i hh
   refine ⟨?_, ih⟩
   have h1 := h.1
   unfold keyOk at h1 ⊢
   simp only [Bool.and_eq_true] at h1 ⊢
   exact ⟨h1.1, hs y (List.mem_cons_self ..) (by simpa using hh)⟩
  ·exact ⟨h.1, ih⟩
theorem key_above {l : List Wd} : ∀ (ks : List Ky) (b : Int), keysOk l b ks = true → ∀ y ∈ ks, b < y.no
 | [], _, _, _, hy => by cases hy
 | x :: r, b, h, y, hy => by
  unfold keysOk at h
  simp only [Bool.and_eq_true] at h
  have hx : b < x.no := by
   have h1 := h.1
   unfold keyOk at h1
   simp only [Bool.and_eq_true, decide_eq_true_eq] at h1
   exact h1.1.1.1.1.1
  rcases List.mem_cons.1 hy with rfl | hr
  ·exact hx
  ·have := key_above r _ h.2 y hr
   omega
theorem key_one {l : List Wd} {n : Int} {x : Ky} : ∀ (ks : List Ky) (b : Int), keysOk l b ks = true → findK ks n = some x → ∀ y ∈ ks, y.no = n → y = x
 | [], _, _, _, _, hy, _ => by cases hy
 | z :: r, b, h, hf, y, hy, hn => by
  unfold keysOk at h
  simp only [Bool.and_eq_true] at h
  cases hh : z.no == n with
  | true =>
   unfold findK at hf
   rw [List.find?_cons, hh] at hf
   have hz : z.no = n := by simpa using hh
   rcases List.mem_cons.1 hy with rfl | hr
   ·exact Option.some.inj hf
   ·have := key_above r _ h.2 y hr
    omega
  | false =>
   have hz : z.no ≠ n := by simpa using hh
   have hf' : findK r n = some x := by
    unfold findK at hf ⊢
    rwa [List.find?_cons_of_neg (by simp [hh])] at hf
   rcases List.mem_cons.1 hy with rfl | hr
   ·exact absurd hn hz
   ·exact key_one r _ h.2 hf' y hr hn
theorem dead_ins {l : List Wd} {f : Int} (hl : hasNo l f = true) : ∀ (d : List Int) (b : Int), deadOk l b d = true → b < f → deadOk l b (insD d f) = true
 | [], b, _, hb => by
  show (decide (b < f) && hasNo l f && true) = true
  rw [hl, decide_eq_true hb]; rfl
 | y :: r, b, h, hb => by
  have h0 := h
  unfold deadOk at h
  simp only [Bool.and_eq_true, decide_eq_true_eq] at h
  unfold insD
  split
  ·rename_i hlt
   show (decide (b < y) && hasNo l y && deadOk l y (insD r f)) = true
   rw [decide_eq_true h.1.1, h.1.2, dead_ins hl r y h.2 hlt]; rfl
  ·split
   ·exact h0
   ·rename_i h1 h2
    show (decide (b < f) && hasNo l f && (decide (f < y) && hasNo l y && deadOk l y r)) = true
    rw [decide_eq_true hb, hl, decide_eq_true (by omega), h.1.2, h.2]; rfl
end Go.Proofs.YtchfgdiipjbgoaaGreat
/- What a right request leaves of a right grant is right: each kind. -/
namespace Go.Proofs.YtchfgdiipjbgoaaGreat
open Go Go.RowKit Go.Lib
set_option linter.unusedVariables false

theorem grant_of {g : Gr} (h0 : 0 ≤ g.now ∧ g.now ≤ 1000000) (h1 : g.words.length ≤ 20) (h2 : g.keys.length ≤ 40) (h3 : wordsOk 0 g.words = true) (h4 : keysOk g.words 0 g.keys = true) (h5 : deadOk g.words 0 g.dead = true) : grantB g = true := by
 unfold grantB
 simp only [Bool.and_eq_true, decide_eq_true_eq, isB_iff]
 exact ⟨⟨⟨⟨⟨h0, h1⟩, h2⟩, h3⟩, h4⟩, h5⟩
theorem upT_ok {n : Int} (h : 0 ≤ n) : 0 ≤ upT n ∧ upT n ≤ 1000000 := by
 unfold upT
 split <;> omega
theorem found_no {l : List Wd} {n : Int} {x : Wd} (h : findW l n = some x) : hasNo l n = true := by
 unfold hasNo
 rw [List.any_eq_true]
 exact ⟨x, List.mem_of_find?_eq_some h, by have := List.find?_some h; simpa using this⟩
theorem none_of {o : Option Wd} (h : ¬ o.isSome = true) : o = none := by cases o <;> simp_all
theorem req_one {r : RQ} (h : rightB r = true) (hk : r.kind = 1) : (1 ≤ r.client ∧ r.client ≤ 3) ∧ proofB r.proof = true := by
 obtain ⟨no, kind, client, code, token, proof, upTo⟩ := r
 obtain rfl : kind = 1 := hk
 rw [right1] at h
 simp only [Bool.and_eq_true, isB_iff] at h
 exact ⟨h.1.2.1, h.1.2.2⟩
theorem req_two {r : RQ} (h : rightB r = true) (hk : r.kind = 2) : 1 ≤ r.client ∧ r.client ≤ 3 := by
 obtain ⟨no, kind, client, code, token, proof, upTo⟩ := r
 obtain rfl : kind = 2 := hk
 rw [right2] at h
 simp only [Bool.and_eq_true, isB_iff] at h
 exact h.1.2.1.1
theorem req_three {r : RQ} (h : rightB r = true) (hk : r.kind = 3) : 1 ≤ r.client ∧ r.client ≤ 3 := by
 obtain ⟨no, kind, client, code, token, proof, upTo⟩ := r
 obtain rfl : kind = 3 := hk
 rw [right3] at h
 simp only [Bool.and_eq_true, isB_iff] at h
 exact h.1.2.1
theorem kill_right {g : Gr} (hB : grantB g = true) {f : Int} (hf : hasNo g.words f = true) : grantB (killG g f) = true := by
 obtain ⟨h0, h1, h2, h3, h4, h5⟩ := gr_facts hB
 have hp : 0 < f := by
  obtain ⟨y, hy, hn⟩ := List.any_eq_true.1 hf
  have := wordsOk_up h3 y hy
  have hn' : y.no = f := by simpa using hn
  omega
 exact grant_of h0 h1 h2 h3 h4 (dead_ins hf _ _ h5 hp)
theorem mark_none {ks : List Ky} {n s m : Int} (h : findK ks m = none) : findK (markK ks n s) m = none := by
 unfold findK at h ⊢
 rw [List.find?_eq_none] at h ⊢
 intro x hx
 unfold markK at hx
 obtain ⟨y, hy, rfl⟩ := List.mem_map.1 hx
 have := h y hy
 split <;> exact this
theorem give_right {g : Gr} {r : RQ} {fam : Int} (hB : grantB g = true) (hl : g.keys.length ≤ 38) (hn1 : findK g.keys (10 * r.no + 1) = none) (hn2 : findK g.keys (10 * r.no + 2) = none) (hno : 1 ≤ r.no ∧ r.no ≤ 99) (hc : 1 ≤ r.client ∧ r.client ≤ 3) (hf : hasNo g.words fam = true) : grantB (giveG g r fam) = true := by
 obtain ⟨h0, h1, h2, h3, h4, h5⟩ := gr_facts hB
 have ka : keyOk g.words 0 (accK r fam g.now) = true := by
  have hu := upT_ok (n := g.now + 60) (by omega)
  unfold keyOk accK stateB
  simp only [Bool.and_eq_true, decide_eq_true_eq, isB_iff]
  exact ⟨⟨⟨⟨⟨by omega, by omega⟩, hc⟩, hf⟩, hu⟩, ⟨by omega, by omega⟩, rfl⟩
 have kn : keyOk g.words 0 (nextK r fam g.now) = true := by
  have hu := upT_ok (n := g.now + 300) (by omega)
  unfold keyOk nextK stateB
  simp only [Bool.and_eq_true, decide_eq_true_eq, isB_iff]
  exact ⟨⟨⟨⟨⟨by omega, by omega⟩, hc⟩, hf⟩, hu⟩, ⟨by omega, by omega⟩, rfl⟩
 have k1 := keys_ins g.words (accK r fam g.now) g.keys 0 h4 ka hn1
 have hn3 : findK (insK g.keys (accK r fam g.now)) (10 * r.no + 2) = none := by
  rw [findK_ins _ _ _ hn1, if_neg (by show ¬ 10 * r.no + 2 = 10 * r.no + 1; omega)]
  exact hn2
 have k2 := keys_ins g.words (nextK r fam g.now) _ 0 k1 kn hn3
 refine grant_of h0 h1 ?_ h3 k2 h5
 show (insK (insK g.keys _) _).length ≤ 40
 rw [insK_length, insK_length]
 omega
end Go.Proofs.YtchfgdiipjbgoaaGreat
/- What a right request leaves of a right grant is right. -/
namespace Go.Proofs.YtchfgdiipjbgoaaGreat
open Go Go.RowKit Go.Lib
set_option linter.unusedVariables false

theorem room_noneK {g : Gr} {r : RQ} (h : roomC g r = 0) : g.keys.length ≤ 38 ∧ findK g.keys (10 * r.no + 1) = none ∧ findK g.keys (10 * r.no + 2) = none := by
 unfold roomC at h
 split at h
 ·cases h
 ·split at h
  ·cases h
  ·rename_i h1 h2
   refine ⟨by omega, ?_, ?_⟩
   ·cases hh : findK g.keys (10 * r.no + 1) with
    | none => rfl
    | some x => rw [hh] at h2; simp at h2
   ·cases hh : findK g.keys (10 * r.no + 2) with
    | none => rfl
    | some x => rw [hh] at h2; simp at h2
theorem issue_right {g : Gr} {r : RQ} (hB : grantB g = true) (hR : rightB r = true) (hk : r.kind = 1) : grantB (issueD g r).1 = true := by
 obtain ⟨h0, h1, h2, h3, h4, h5⟩ := gr_facts hB
 obtain ⟨hno, _⟩ := rq_facts hR
 obtain ⟨hc, hp⟩ := req_one hR hk
 unfold issueD
 split
 ·exact hB
 ·rename_i hl
  split
  ·exact hB
  ·rename_i hf
   have hf' : findW g.words r.no = none := none_of hf
   have hu := upT_ok (n := g.now + 10) (by omega)
   have kw : wordOk 0 (newW g r) = true := by
    unfold wordOk newW
    simp only [Bool.and_eq_true, decide_eq_true_eq, isB_iff]
    exact ⟨⟨⟨⟨by omega, by omega⟩, hc⟩, hp⟩, hu⟩
   have hin : ∀ n, hasNo g.words n = true → hasNo (insW g.words (newW g r)) n = true := fun n hn => by rw [hasNo_ins, hn, Bool.or_true]
   refine grant_of h0 ?_ h2 (words_ins _ _ _ h3 kw hf') (keep_keys hin _ _ h4) (keep_dead hin _ _ h5)
   show (insW g.words _).length ≤ 20
   rw [insW_length]
   omega
theorem redeem_right {g : Gr} {r : RQ} (hB : grantB g = true) (hR : rightB r = true) (hk : r.kind = 2) : grantB (redeemD g r).1 = true := by
 obtain ⟨h0, h1, h2, h3, h4, h5⟩ := gr_facts hB
 obtain ⟨hno, _⟩ := rq_facts hR
 have hc := req_two hR hk
 unfold redeemD
 split
 ·rename_i hr
  obtain ⟨hl, hn1, hn2⟩ := room_noneK hr
  cases hw : wordFor g r with
  | none => exact hB
  | some x =>
   have hf : findW g.words r.code = some x := by
    unfold wordFor at hw
    split at hw
    ·cases hw
    ·rename_i y hy
     split at hw
     ·rw [hy]; exact hw
     ·cases hw
   have hh := found_no hf
   simp only
   split
   ·exact kill_right hB hh
   ·split
    ·exact hB
    ·have hin : ∀ n, hasNo g.words n = true → hasNo (useW g.words r.code) n = true := fun n hn => by rw [hasNo_use]; exact hn
     refine give_right (g := ⟨g.now, useW g.words r.code, g.keys, g.dead⟩) (grant_of h0 ?_ h2 (words_use _ _ _ h3) (keep_keys hin _ _ h4) (keep_dead hin _ _ h5)) hl hn1 hn2 hno hc (hin _ hh)
     show (useW g.words _).length ≤ 20
     rw [useW_length]
     exact h1
 ·exact hB
theorem refresh_right {g : Gr} {r : RQ} (hB : grantB g = true) (hR : rightB r = true) (hk : r.kind = 3) : grantB (refreshD g r).1 = true := by
 obtain ⟨h0, h1, h2, h3, h4, h5⟩ := gr_facts hB
 obtain ⟨hno, _⟩ := rq_facts hR
 have hc := req_three hR hk
 unfold refreshD
 split
 ·rename_i hr
  obtain ⟨hl, hn1, hn2⟩ := room_noneK hr
  cases hw : keyFor g.keys r.token r.client with
  | none => exact hB
  | some x =>
   obtain ⟨hfk, _, _, y, hy, _⟩ := key_facts hB hw
   have hh := found_no hy
   simp only
   cases hx : x.refresh with
   | false => exact hB
   | true =>
    simp only [if_true]
    split
    ·exact kill_right hB hh
    ·split
     ·have hm : keysOk g.words 0 (markK g.keys r.token 1) = true := keys_mark _ _ _ _ _ (fun z hz hn => by
       rw [key_one _ _ h4 hfk z hz hn]
       show (isB 1 0 2 && !(x.refresh && ((1 : Int) == 2))) = true
       cases x.refresh <;> rfl) h4
      refine give_right (g := ⟨g.now, g.words, markK g.keys r.token 1, g.dead⟩) (grant_of h0 h1 ?_ h3 hm h5) ?_ (mark_none hn1) (mark_none hn2) hno hc hh
      ·show (markK g.keys _ _).length ≤ 40
       rw [markK_length]
       exact h2
      ·show (markK g.keys _ _).length ≤ 38
       rw [markK_length]
       exact hl
     ·exact hB
 ·exact hB
theorem revoke_right {g : Gr} {r : RQ} (hB : grantB g = true) : grantB (revokeD g r).1 = true := by
 obtain ⟨h0, h1, h2, h3, h4, h5⟩ := gr_facts hB
 unfold revokeD
 cases hw : keyFor g.keys r.token r.client with
 | none => exact hB
 | some x =>
  obtain ⟨hfk, _, _, y, hy, _⟩ := key_facts hB hw
  have hh := found_no hy
  simp only
  cases hx : x.refresh with
  | true => exact kill_right hB hh
  | false =>
   have hm : keysOk g.words 0 (markK g.keys r.token 2) = true := keys_mark _ _ _ _ _ (fun z hz hn => by
    rw [key_one _ _ h4 hfk z hz hn]
    show (isB 2 0 2 && !(x.refresh && ((2 : Int) == 2))) = true
    rw [hx]
    rfl) h4
   refine grant_of (g := ⟨g.now, g.words, markK g.keys r.token 2, g.dead⟩) h0 h1 ?_ h3 hm h5
   show (markK g.keys _ _).length ≤ 40
   rw [markK_length]
   exact h2
/-- What a right request leaves of a right grant is right. -/
theorem done_right {g : Gr} {r : RQ} (hB : grantB g = true) (hR : rightB r = true) : grantB (doD g r).1 = true := by
 obtain ⟨h0, h1, h2, h3, h4, h5⟩ := gr_facts hB
 obtain ⟨_, _, _, _, _, hup, _⟩ := rq_facts hR
 unfold doD
 split
 ·exact issue_right hB hR (by assumption)
 ·split
  ·exact redeem_right hB hR (by assumption)
  ·split
   ·exact refresh_right hB hR (by assumption)
   ·split
    ·exact revoke_right hB
    ·split
     ·exact hB
     ·exact grant_of (g := ⟨upT (g.now + r.upTo), g.words, g.keys, g.dead⟩) (upT_ok (by omega)) h1 h2 h3 h4 h5
end Go.Proofs.YtchfgdiipjbgoaaGreat
