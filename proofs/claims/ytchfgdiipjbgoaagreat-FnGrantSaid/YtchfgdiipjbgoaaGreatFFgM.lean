/- The promise of one after the other, as mathematics: a word (or a key) that was good once is good no more, and takes all that came of it; a key that was given opens till its time, and revoked it opens nothing. -/
import Derived.Test.YtchfgdiipjbgoaaGreatFGdT
import Derived.Test.YtchfgdiipjbgoaaGreatFOpImpA
namespace Go.Proofs.YtchfgdiipjbgoaaGreat
open Go Go.RowKit Go.Lib
set_option linter.unusedVariables false

theorem keyFor_of {ks : List Ky} {no client : Int} {x : Ky} (h : findK ks no = some x) (hc : x.client = client) : keyFor ks no client = some x := by
 unfold keyFor
 rw [h]
 simp [hc]
theorem opens_key {g : Gr} {no client : Int} {x : Ky} (h : findK g.keys no = some x) (hc : x.client = client) : opensAt g no client = keyOpenB g.now g.dead x := by
 rw [opens_for, keyFor_of h hc]
/-- What was given: the two keys, behind a request that was served. -/
theorem give_find {g : Gr} {r : RQ} {fam : Int} (h1 : findK g.keys (10 * r.no + 1) = none) (h2 : findK g.keys (10 * r.no + 2) = none) :
  findK (giveG g r fam).keys (10 * r.no + 1) = some (accK r fam g.now) ∧ findK (giveG g r fam).keys (10 * r.no + 2) = some (nextK r fam g.now) ∧ ∀ i, i ≠ 10 * r.no + 1 → i ≠ 10 * r.no + 2 → findK (giveG g r fam).keys i = findK g.keys i := by
 have e1 : findK (insK g.keys (accK r fam g.now)) (10 * r.no + 2) = none := by
  rw [findK_ins _ _ _ h1, if_neg (by simp only [accK]; omega)]
  exact h2
 have e2 : ∀ i, findK (giveG g r fam).keys i = if i = 10 * r.no + 2 then some (nextK r fam g.now) else if i = 10 * r.no + 1 then some (accK r fam g.now) else findK g.keys i := fun i => by
  show findK (insK (insK g.keys (accK r fam g.now)) (nextK r fam g.now)) i = _
  rw [findK_ins _ _ _ e1, findK_ins _ _ _ h1]
  rfl
 refine ⟨?_, ?_, fun i hi1 hi2 => ?_⟩
 ·rw [e2, if_neg (by omega), if_pos rfl]
 ·rw [e2, if_pos rfl]
 ·rw [e2, if_neg hi2, if_neg hi1]
/-- What comes of a trade that was served: of the word's number fam. -/
structure Served (g : Gr) (r : RQ) (x : Gr × RS) (fam : Int) : Prop where
 now : x.1.now = g.now
 resp : x.2 = giveR r
 dead : x.1.dead = g.dead
 alive : isDeadB g.dead fam = false
 acc : findK x.1.keys (10 * r.no + 1) = some (accK r fam g.now)
 next : findK x.1.keys (10 * r.no + 2) = some (nextK r fam g.now)
/-- The same request once more, under another number, is told ErrState, and its family is one of the dead. -/
def Again (x : Gr × RS) (r' : RQ) (fam : Int) : Prop := roomC x.1 r' = 0 → doD x.1 r' = (killG x.1 fam, codeR 10)
theorem room_free {g : Gr} {r : RQ} (h : roomC g r = 0) : findK g.keys (10 * r.no + 1) = none ∧ findK g.keys (10 * r.no + 2) = none := by
 unfold roomC at h
 split at h
 ·omega
 ·split at h
  ·omega
  ·rename_i h2
   simp only [Bool.or_eq_true, not_or, Option.isSome_iff_ne_none, ne_eq, Classical.not_not] at h2
   exact h2
theorem room_pos {g : Gr} {r : RQ} (h : roomC g r ≠ 0) : (codeR (roomC g r)).code ≠ 0 := h
theorem served_redeem {g : Gr} {r : RQ} (hk : r.kind = 2) (h0 : (doD g r).2.code = 0) (n : Int) : Served g r (doD g r) r.code ∧ Again (doD g r) { r with no := n } r.code := by
 have hd : doD g r = redeemD g r := by unfold doD; rw [if_neg (by omega), if_pos hk]
 rw [hd] at h0 ⊢
 unfold redeemD at h0 ⊢
 split at h0
 ·rename_i hr
  obtain ⟨h1, h2⟩ := room_free hr
  rw [if_pos hr]
  split at h0
  ·exact absurd h0 (by simp [codeR])
  ·rename_i y hy
   split at h0
   ·exact absurd h0 (by simp [codeR])
   ·rename_i hu
    split at h0
    ·exact absurd h0 (by simp [codeR])
    ·rename_i hlt
     simp only [Bool.or_eq_true, not_or, Bool.not_eq_true] at hlt
     have hgf := give_find (g := ⟨g.now, useW g.words r.code, g.keys, g.dead⟩) (r := r) (fam := r.code) h1 h2
     simp only [hu, hlt.1, hlt.2, Bool.or_self, if_false, Bool.false_eq_true]
     refine ⟨⟨rfl, rfl, rfl, hlt.2, hgf.1, hgf.2.1⟩, fun hroom => ?_⟩
     have hd2 : ∀ G : Gr, doD G { r with no := n } = redeemD G { r with no := n } := fun G => by unfold doD; rw [if_neg (show ¬ r.kind = 1 by omega), if_pos hk]
     rw [hd2]
     unfold redeemD
     rw [if_pos hroom]
     have hw : wordFor (giveG ⟨g.now, useW g.words r.code, g.keys, g.dead⟩ r r.code) { r with no := n } = some (usedW y) := by
      unfold wordFor at hy ⊢
      show (match findW (useW g.words r.code) r.code with | none => none | some x => if x.client == r.client && x.shade.toList == (shadeT r.proof).toList then some x else none) = _
      rw [findW_use]
      split at hy
      ·cases hy
      ·rename_i z hz
       split at hy
       ·rename_i hc
        obtain rfl := Option.some.inj hy
        rw [hz, Option.map_some, if_pos rfl]
        show (if (usedW z).client == r.client && (usedW z).shade.toList == (shadeT r.proof).toList then some (usedW z) else none) = _
        rw [if_pos (by exact hc)]
       ·cases hy
     rw [hw]
     rfl
 ·rename_i hr
  exact absurd h0 hr
theorem served_refresh {g : Gr} {r : RQ} (hk : r.kind = 3) (h0 : (doD g r).2.code = 0) (hn : 1 ≤ r.no) (n : Int) : ∃ fam, Served g r (doD g r) fam ∧ Again (doD g r) { r with no := n } fam := by
 have hd : doD g r = refreshD g r := by unfold doD; rw [if_neg (by omega), if_neg (by omega), if_pos hk]
 rw [hd] at h0 ⊢
 unfold refreshD at h0 ⊢
 split at h0
 ·rename_i hr
  obtain ⟨h1, h2⟩ := room_free hr
  rw [if_pos hr]
  split at h0
  ·exact absurd h0 (by simp [codeR])
  ·rename_i y hy
   split at h0
   ·rename_i hrf
    split at h0
    ·exact absurd h0 (by simp [codeR])
    ·rename_i hst
     split at h0
     ·rename_i hop
      obtain ⟨hfy, hcy⟩ := keyFor_mem hy
      have e1 : findK (markK g.keys r.token 1) (10 * r.no + 1) = none := by rw [findK_mark, h1]; rfl
      have e2 : findK (markK g.keys r.token 1) (10 * r.no + 2) = none := by rw [findK_mark, h2]; rfl
      have hgf := give_find (g := ⟨g.now, g.words, markK g.keys r.token 1, g.dead⟩) (r := r) (fam := y.fam) e1 e2
      have hal : isDeadB g.dead y.fam = false := by
       unfold keyOpenB at hop
       simp only [Bool.and_eq_true, Bool.not_eq_true'] at hop
       exact hop.2
      refine ⟨y.fam, ?_⟩
      simp only [hrf, hst, hop, if_true, if_false, Bool.false_eq_true]
      refine ⟨⟨rfl, rfl, rfl, hal, hgf.1, hgf.2.1⟩, fun hroom => ?_⟩
      have hd2 : ∀ G : Gr, doD G { r with no := n } = refreshD G { r with no := n } := fun G => by unfold doD; rw [if_neg (show ¬ r.kind = 1 by omega), if_neg (show ¬ r.kind = 2 by omega), if_pos hk]
      rw [hd2]
      unfold refreshD
      rw [if_pos hroom]
      have t1 : r.token ≠ 10 * r.no + 1 := fun e => by rw [e, h1] at hfy; cases hfy
      have t2 : r.token ≠ 10 * r.no + 2 := fun e => by rw [e, h2] at hfy; cases hfy
      have hf2 : findK (giveG ⟨g.now, g.words, markK g.keys r.token 1, g.dead⟩ r y.fam).keys r.token = some (stK 1 y) := by
       rw [hgf.2.2 _ t1 t2]
       show findK (markK g.keys r.token 1) r.token = _
       rw [findK_mark, hfy]
       simp
      have hkf : keyFor (giveG ⟨g.now, g.words, markK g.keys r.token 1, g.dead⟩ r y.fam).keys r.token r.client = some (stK 1 y) := keyFor_of hf2 hcy
      show (match keyFor (giveG ⟨g.now, g.words, markK g.keys r.token 1, g.dead⟩ r y.fam).keys r.token r.client with | none => _ | some x => _) = _
      rw [hkf]
      show (if (stK 1 y).refresh then _ else _) = _
      rw [show (stK 1 y).refresh = true from hrf]
      rfl
     ·exact absurd h0 (by simp [codeR])
   ·exact absurd h0 (by simp [codeR])
 ·rename_i hr
  exact absurd h0 hr
/-- Behind it: what opens, and what does not. -/
theorem served_opens {g : Gr} {r : RQ} {x : Gr × RS} {fam : Int} (hs : Served g r x fam) (ht : g.now ≤ 999000) :
  opensAt x.1 (10 * r.no + 1) r.client = true ∧ opensAt (killG x.1 fam) (10 * r.no + 1) r.client = false ∧ opensAt (killG x.1 fam) (10 * r.no + 2) r.client = false := by
 refine ⟨?_, ?_, ?_⟩
 ·rw [opens_key (client := r.client) hs.acc rfl, hs.now, hs.dead]
  unfold keyOpenB accK upT
  simp only [hs.alive]
  split <;> simp <;> omega
 ·rw [opens_key (client := r.client) (g := killG x.1 fam) hs.acc rfl]
  unfold keyOpenB
  have : isDeadB (killG x.1 fam).dead (accK r fam g.now).fam = true := by
   show isDeadB (insD x.1.dead fam) fam = true
   rw [isDead_ins]; simp
  rw [this]; simp
 ·rw [opens_key (client := r.client) (g := killG x.1 fam) hs.next rfl]
  unfold keyOpenB
  have : isDeadB (killG x.1 fam).dead (nextK r fam g.now).fam = true := by
   show isDeadB (insD x.1.dead fam) fam = true
   rw [isDead_ins]; simp
  rw [this]; simp
/-- Time goes on: till its end the key opens, and then no more. -/
theorem served_late {g : Gr} {r t : RQ} {x : Gr × RS} {fam : Int} (hs : Served g r x fam) (ht : g.now ≤ 999000) (h0 : 0 ≤ g.now) (hk : t.kind = 6) (hu : t.upTo = 60 ∨ t.upTo = 61) :
  opensAt (doD x.1 t).1 (10 * r.no + 1) r.client = decide (t.upTo = 60) := by
 have hd : doD x.1 t = tickD x.1 t := by unfold doD; rw [if_neg (by omega), if_neg (by omega), if_neg (by omega), if_neg (by omega), if_neg (by omega)]
 rw [hd]
 show opensAt ⟨upT (x.1.now + t.upTo), x.1.words, x.1.keys, x.1.dead⟩ (10 * r.no + 1) r.client = _
 rw [opens_key (client := r.client) (g := ⟨upT (x.1.now + t.upTo), x.1.words, x.1.keys, x.1.dead⟩) hs.acc rfl]
 show keyOpenB (upT (x.1.now + t.upTo)) x.1.dead (accK r fam g.now) = _
 rw [hs.now, hs.dead]
 unfold keyOpenB accK upT
 simp only [hs.alive]
 rcases hu with e | e <;> rw [e] <;> (repeat' split) <;> simp <;> omega
/-- A key that was revoked opens nothing. -/
theorem served_revoked {g : Gr} {r t : RQ} {x : Gr × RS} {fam : Int} (hs : Served g r x fam) (hk : t.kind = 4) (hc : t.client = r.client) (htk : t.token = 10 * r.no + 1) :
  opensAt (doD x.1 t).1 (10 * r.no + 1) r.client = false := by
 have hd : doD x.1 t = revokeD x.1 t := by unfold doD; rw [if_neg (by omega), if_neg (by omega), if_neg (by omega), if_pos hk]
 have hkf : keyFor x.1.keys t.token t.client = some (accK r fam g.now) := by rw [htk, hc]; exact keyFor_of hs.acc rfl
 rw [hd]
 unfold revokeD
 rw [hkf]
 show opensAt ⟨x.1.now, x.1.words, markK x.1.keys t.token 2, x.1.dead⟩ (10 * r.no + 1) r.client = false
 have hf : findK (markK x.1.keys t.token 2) (10 * r.no + 1) = some (stK 2 (accK r fam g.now)) := by
  rw [findK_mark, hs.acc, htk]
  simp
 rw [opens_key (client := r.client) (g := ⟨x.1.now, x.1.words, markK x.1.keys t.token 2, x.1.dead⟩) hf rfl]
 rfl
/-- All at once, or parted. -/
theorem allD_append (g : Gr) (a b : List RQ) : (allD (allD g a).1 b).1 = (allD g (a ++ b)).1 := by
 unfold allD
 rw [List.foldl_append]
 suffices hh : ∀ (l : List RQ) (x : Gr) (s s' : RS), (l.foldl oneD (x, s)).1 = (l.foldl oneD (x, s')).1 from hh b _ _ _
 intro l
 induction l with
 | nil => intro x s s'; rfl
 | cons r t ih =>
  intro x s s'
  rw [List.foldl_cons, List.foldl_cons]
  unfold oneD
  split
  ·rfl
  ·rfl
end Go.Proofs.YtchfgdiipjbgoaaGreat
