/- What a right request leaves of a right grant is right. -/
import Derived.Test.YtgkdajlkajmdiaaGreatRKeep2
import Derived.Test.YtgkdajlkajmdiaaGreatRGdE
namespace Go.Proofs.YtgkdajlkajmdiaaGreat
open Go Go.RowKit Go.Lib
set_option linter.unusedVariables false

theorem room_noneK {g : Gr} {r : RQ} (h : roomC g r = 0) : g.keys.length ≤ 38 ∧ findK g.keys (10 * r.no + 1) = none ∧ findK g.keys (10 * r.no + 2) = none := by
  unfold roomC at h
  split at h
  · cases h
  · split at h
    · cases h
    · rename_i h1 h2
      refine ⟨by omega, ?_, ?_⟩
      · cases hh : findK g.keys (10 * r.no + 1) with
        | none => rfl
        | some x => rw [hh] at h2; simp at h2
      · cases hh : findK g.keys (10 * r.no + 2) with
        | none => rfl
        | some x => rw [hh] at h2; simp at h2
theorem issue_right {g : Gr} {r : RQ} (hB : grantB g = true) (hR : rightB r = true) (hk : r.kind = 1) : grantB (issueD g r).1 = true := by
  obtain ⟨h0, h1, h2, h3, h4, h5⟩ := gr_facts hB
  obtain ⟨hno, _⟩ := rq_facts hR
  obtain ⟨hc, hp⟩ := req_one hR hk
  unfold issueD
  split
  · exact hB
  · rename_i hl
    split
    · exact hB
    · rename_i hf
      have hf' : findW g.words r.no = none := none_of hf
      have hu := upT_ok (n := g.now + 10) (by omega)
      have kw : wordOk 0 (newW g r) = true := by
        unfold wordOk newW
        simp only [Bool.and_eq_true, decide_eq_true_eq, isB_iff]
        exact ⟨⟨⟨⟨by omega, by omega⟩, hc⟩, hp⟩, hu⟩
      have hin : ∀ n, hasNo g.words n = true → hasNo (insW g.words (newW g r)) n = true := fun n hn => by rw [hasNo_ins, hn, Bool.or_true]
      refine grant_of h0 ?_ h2 (words_ins _ _ _ h3 kw hf') (keep_keys hin _ _ h4) (keep_dead hin _ _ h5)
      show (insW g.words _).length ≤ 20
      rw [insW_length]
      omega
theorem redeem_right {g : Gr} {r : RQ} (hB : grantB g = true) (hR : rightB r = true) (hk : r.kind = 2) : grantB (redeemD g r).1 = true := by
  obtain ⟨h0, h1, h2, h3, h4, h5⟩ := gr_facts hB
  obtain ⟨hno, _⟩ := rq_facts hR
  have hc := req_two hR hk
  unfold redeemD
  split
  · rename_i hr
    obtain ⟨hl, hn1, hn2⟩ := room_noneK hr
    cases hw : wordFor g r with
    | none => exact hB
    | some x =>
      have hf : findW g.words r.code = some x := by
        unfold wordFor at hw
        split at hw
        · cases hw
        · rename_i y hy
          split at hw
          · rw [hy]; exact hw
          · cases hw
      have hh := found_no hf
      simp only
      split
      · exact kill_right hB hh
      · split
        · exact hB
        · have hin : ∀ n, hasNo g.words n = true → hasNo (useW g.words r.code) n = true := fun n hn => by rw [hasNo_use]; exact hn
          refine give_right (g := ⟨g.now, useW g.words r.code, g.keys, g.dead⟩) (grant_of h0 ?_ h2 (words_use _ _ _ h3) (keep_keys hin _ _ h4) (keep_dead hin _ _ h5)) hl hn1 hn2 hno hc (hin _ hh)
          show (useW g.words _).length ≤ 20
          rw [useW_length]
          exact h1
  · exact hB
theorem refresh_right {g : Gr} {r : RQ} (hB : grantB g = true) (hR : rightB r = true) (hk : r.kind = 3) : grantB (refreshD g r).1 = true := by
  obtain ⟨h0, h1, h2, h3, h4, h5⟩ := gr_facts hB
  obtain ⟨hno, _⟩ := rq_facts hR
  have hc := req_three hR hk
  unfold refreshD
  split
  · rename_i hr
    obtain ⟨hl, hn1, hn2⟩ := room_noneK hr
    cases hw : keyFor g.keys r.token r.client with
    | none => exact hB
    | some x =>
      obtain ⟨hfk, _, _, y, hy, _⟩ := key_facts hB hw
      have hh := found_no hy
      simp only
      cases hx : x.refresh with
      | false => exact hB
      | true =>
        simp only [if_true]
        split
        · exact kill_right hB hh
        · split
          · have hm : keysOk g.words 0 (markK g.keys r.token 1) = true := keys_mark _ _ _ _ _ (fun z hz hn => by
              rw [key_one _ _ h4 hfk z hz hn]
              show (isB 1 0 2 && !(x.refresh && ((1 : Int) == 2))) = true
              cases x.refresh <;> rfl) h4
            refine give_right (g := ⟨g.now, g.words, markK g.keys r.token 1, g.dead⟩) (grant_of h0 h1 ?_ h3 hm h5) ?_ (mark_none hn1) (mark_none hn2) hno hc hh
            · show (markK g.keys _ _).length ≤ 40
              rw [markK_length]
              exact h2
            · show (markK g.keys _ _).length ≤ 38
              rw [markK_length]
              exact hl
          · exact hB
  · exact hB
theorem revoke_right {g : Gr} {r : RQ} (hB : grantB g = true) : grantB (revokeD g r).1 = true := by
  obtain ⟨h0, h1, h2, h3, h4, h5⟩ := gr_facts hB
  unfold revokeD
  cases hw : keyFor g.keys r.token r.client with
  | none => exact hB
  | some x =>
    obtain ⟨hfk, _, _, y, hy, _⟩ := key_facts hB hw
    have hh := found_no hy
    simp only
    cases hx : x.refresh with
    | true => exact kill_right hB hh
    | false =>
      have hm : keysOk g.words 0 (markK g.keys r.token 2) = true := keys_mark _ _ _ _ _ (fun z hz hn => by
        rw [key_one _ _ h4 hfk z hz hn]
        show (isB 2 0 2 && !(x.refresh && ((2 : Int) == 2))) = true
        rw [hx]
        rfl) h4
      refine grant_of (g := ⟨g.now, g.words, markK g.keys r.token 2, g.dead⟩) h0 h1 ?_ h3 hm h5
      show (markK g.keys _ _).length ≤ 40
      rw [markK_length]
      exact h2
/-- What a right request leaves of a right grant is right. -/
theorem done_right {g : Gr} {r : RQ} (hB : grantB g = true) (hR : rightB r = true) : grantB (doD g r).1 = true := by
  obtain ⟨h0, h1, h2, h3, h4, h5⟩ := gr_facts hB
  obtain ⟨_, _, _, _, _, hup, _⟩ := rq_facts hR
  unfold doD
  split
  · exact issue_right hB hR (by assumption)
  · split
    · exact redeem_right hB hR (by assumption)
    · split
      · exact refresh_right hB hR (by assumption)
      · split
        · exact revoke_right hB
        · split
          · exact hB
          · exact grant_of (g := ⟨upT (g.now + r.upTo), g.words, g.keys, g.dead⟩) (upT_ok (by omega)) h1 h2 h3 h4 h5
end Go.Proofs.YtgkdajlkajmdiaaGreat
