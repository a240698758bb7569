/- The model: what a right request asks for is done. -/
import Derived.Test.YtchfgdiipjbgoaaGreatFSpT
import Derived.Test.YtchfgdiipjbgoaaGreatFSpD
namespace Go.Proofs.YtchfgdiipjbgoaaGreat
open Go Go.RowKit Go.Lib
set_option linter.unusedVariables false
set_option maxRecDepth 100000

theorem DoS.up {tl : Tail} {N p : Nat} {h : GH} {g : Gr} {s : RS} {X Y : Nat} {w : World} {e : Ending} {w' : World} (k : DoS tl N p h g s p p w e w') : DoS tl N p h g s X Y w e w' := by
 obtain ⟨h', a, b, c⟩ := k
 exact ⟨h', a, b, ⟨c.os, c.tape, c.output, c.size, fun i h1 h2 _ _ => c.block i h1 h2 h2 h2⟩⟩
theorem do_kind {g : Gr} {r : RQ} (h : 1 ≤ r.kind ∧ r.kind ≤ 6) : r.kind = 1 ∨ (r.kind = 2 ∨ r.kind = 3) ∨ r.kind = 4 ∨ r.kind = 5 ∨ r.kind = 6 := by omega
set_option maxHeartbeats 8000000 in
theorem do_spec {tl : Tail} {N p : Nat} {h : GH} {g : Gr} {w : World} (r : RQ) (hg : GrAt tl N w p h g) (hB : grantB g = true) (hR : rightB r = true) : Calls Tryz.prog 89 #[.pointer (some ⟨p, 0, none⟩), rqV r] w (DoS tl N p h (doD g r).1 (doD g r).2 (blkOf h.wp p) (blkOf h.kp p) w) := by
 obtain ⟨wp, wn, wc, kp, kn, kc, dp, dn, dc⟩ := h
 obtain ⟨htm, hw20, hk40, hws, hks, hds⟩ := gr_facts hB
 obtain ⟨hno, hkd, _, _, _, hup, hps⟩ := rq_facts hR
 have hp40 : r.proof.size ≤ 40 := by omega
 have hd20 : g.dead.length ≤ 20 := by
  have := deadOk_le hws hds (fun x hx => (deadOk_up hds x hx).2)
  omega
 have HSm : Hid (GrSmall g) := Lib.hid ⟨by omega, by omega, by omega, fun x hx => by
  obtain ⟨k, hk⟩ := List.getElem?_of_mem hx
  have := (of_decide_eq_true (wordsOk_get hws hk).1.2.2.2.1).2.1
  unfold maxLen; omega⟩
 have hpz := hg.row.lt
 have hN := hg.place
 have HE0 := Lib.hid (show grV g.now ⟨wp, wn, wc, kp, kn, kc, dp, dn, dc⟩ = .agg #[.int .i64 g.now, .slice wp wn wc, .slice kp kn kc, .slice dp dn dc] from rfl)
 have HRQ := Lib.hid (show rqV r = .agg #[.int .i64 r.no, .int .i64 r.kind, .int .i64 r.client, .int .i64 r.code, .int .i64 r.token, .string r.proof, .int .i64 r.upTo] from rfl)
 rw [HRQ.out]
 obtain ⟨X, hX⟩ : ∃ X, X = (w.alloc (.cells #[.int .i64 r.no, .int .i64 r.kind, .int .i64 r.client, .int .i64 r.code, .int .i64 r.token, .string r.proof, .int .i64 r.upTo] 29)).alloc (.cells #[.int .i64 0, .int .i64 0, .int .i64 0, .bool false] 33) := ⟨_, rfl⟩
 obtain ⟨s, hs⟩ : ∃ s, s = w.heap.size := ⟨_, rfl⟩
 have hbx : Below w.heap.size w X := by rw [hX]; exact ((Below.refl _ _).alloc (Nat.le_refl _) _).alloc (by simp) _
 have hqx : Row X s 29 (rqL r) := by rw [hX, hs]; exact Row.below (heap_alloc_new w (.cells #[.int .i64 r.no, .int .i64 r.kind, .int .i64 r.client, .int .i64 r.code, .int .i64 r.token, .string r.proof, .int .i64 r.upTo] 29)) ((Below.refl (w.alloc (.cells #[.int .i64 r.no, .int .i64 r.kind, .int .i64 r.client, .int .i64 r.code, .int .i64 r.token, .string r.proof, .int .i64 r.upTo] 29)).heap.size _).alloc (Nat.le_refl _) _) (by simp)
 have hax : Row X (s + 1) 33 (rsL (codeR 0)) := by rw [hX, hs]; exact heap_alloc2_new w (.cells #[.int .i64 r.no, .int .i64 r.kind, .int .i64 r.client, .int .i64 r.code, .int .i64 r.token, .string r.proof, .int .i64 r.upTo] 29) (.cells #[.int .i64 0, .int .i64 0, .int .i64 0, .bool false] 33)
 have HX0 := Lib.hid hX
 have HSe := Lib.hid hs
 have HBX := Lib.hid hbx
 have HQX := Lib.hid hqx
 have HAX := Lib.hid hax
 have HGX := Lib.hid (hg.later hbx)
 have hzX := hbx.size
 have hpsl : p < s := by omega
 have hsw : w.heap.size ≤ s := by omega
 have hbw : blkOf wp p < s := by
  rcases own_ways hg.words with ⟨h1, _⟩ | ⟨gN, h1, _, h2, _⟩ <;> (simp only at h1; subst h1; simp only [blkOf]; omega)
 have hbk : blkOf kp p < s := by
  rcases own_ways hg.keys with ⟨h1, _⟩ | ⟨gN, h1, _, h2, _⟩ <;> (simp only at h1; subst h1; simp only [blkOf]; omega)
 obtain ⟨X1, hX1⟩ : ∃ X1, X1 = blkOf wp p := ⟨_, rfl⟩
 obtain ⟨Y1, hY1⟩ : ∃ Y1, Y1 = blkOf kp p := ⟨_, rfl⟩
 have HX1 := Lib.hid hX1
 have HY1 := Lib.hid hY1
 have HBg := Lib.hid hB
 have HRr := Lib.hid hR
 have HKs := Lib.hid hks
 rcases do_kind (g := g) hkd with hk | hk | hk | hk | hk
 ·have e1 : (r.kind == 1) = true := by simpa using hk
  have HD : Hid ((doD g r) = issueD g r) := Lib.hid (by unfold doD; rw [if_pos hk])
  rw [HD.out]
  clear hX hs hbx hqx hax hg hX1 hY1 hB hR hws hks hds hk
  have q0 : X.cell? ⟨s, 0, none⟩ = some (.int .i64 r.no) := HQX.out.cell 0
  have q1 : X.cell? ⟨s, 1, none⟩ = some (.int .i64 r.kind) := HQX.out.cell 1
  have q2 : X.cell? ⟨s, 2, none⟩ = some (.int .i64 r.client) := HQX.out.cell 2
  have q3 : X.cell? ⟨s, 3, none⟩ = some (.int .i64 r.code) := HQX.out.cell 3
  have q4 : X.cell? ⟨s, 4, none⟩ = some (.int .i64 r.token) := HQX.out.cell 4
  have q5 : X.cell? ⟨s, 5, none⟩ = some (.string r.proof) := HQX.out.cell 5
  have q6 : X.cell? ⟨s, 6, none⟩ = some (.int .i64 r.upTo) := HQX.out.cell 6
  go_enter Tryz.func89, Tryz.ntmps89
  go_upto_region 1 with fail
  rw [← HX0.out, ← HSe.out]
  go_wp2_with fail
  rw [← HRQ.out]
  refine ((issue_spec r HGX.out htm (by omega)).mono fun _ _ h => DoS.up (X := blkOf wp p) (Y := blkOf kp p) h).mono ?_
  rintro e W3 ⟨h', rfl, hg3, hk3⟩
  have HGW3 := Lib.hid hg3
  have HAW3 := Lib.hid (HAX.out.kept hk3 HAX.out.lt (by omega) (by (try dsimp only); omega) (by (try dsimp only); omega))
  have HKW3 : Hid (Kept w.heap.size p (blkOf wp p) (blkOf kp p) w W3) := Lib.hid ((Kept.of_below HBX.out).trans (hk3.mono hzX))
  clear hg3 hk3
  unfold rsV
  dsimp only
  go_wp2_with (refine Stop.out (p := wpList _ _ _ [{ dst := _, op := .store 33 _ _, type := _, pos := _, after := _, guard := _ }] _ _) ?_)
  constructor
  refine told_at (X := blkOf wp p) (Y := blkOf kp p) HAW3.out HGW3.out HKW3.out ((issueD g r).2) (by omega) (by omega) rfl rfl rfl rfl rfl ?_
  intro Z HT
  go_wp2_with fail
  refine bodyPost_ret (ret_resp rfl rfl HT.out.resp) rfl ?_
  exact ⟨_, rfl, HT.out.gr, HT.out.kept⟩
 ·have HKk := Lib.hid hk
  clear hX hs hbx hqx hax hg hX1 hY1 hB hR hws hks hds
  rcases hk with hk | hk
  ·have e1 : (r.kind == 1) = false := by rw [hk]; rfl
   have e2 : (r.kind == 2) = true := by rw [hk]; rfl
   clear hk
   have q0 : X.cell? ⟨s, 0, none⟩ = some (.int .i64 r.no) := HQX.out.cell 0
   have q1 : X.cell? ⟨s, 1, none⟩ = some (.int .i64 r.kind) := HQX.out.cell 1
   have q2 : X.cell? ⟨s, 2, none⟩ = some (.int .i64 r.client) := HQX.out.cell 2
   have q3 : X.cell? ⟨s, 3, none⟩ = some (.int .i64 r.code) := HQX.out.cell 3
   have q4 : X.cell? ⟨s, 4, none⟩ = some (.int .i64 r.token) := HQX.out.cell 4
   have q5 : X.cell? ⟨s, 5, none⟩ = some (.string r.proof) := HQX.out.cell 5
   have q6 : X.cell? ⟨s, 6, none⟩ = some (.int .i64 r.upTo) := HQX.out.cell 6
   go_enter Tryz.func89, Tryz.ntmps89
   go_upto_region 1 with fail
   rw [← HX0.out, ← HSe.out]
   go_wp2_with fail
   rw [← HRQ.out]
   refine (trade_spec r HGX.out HBg.out HRr.out HKk.out).mono ?_
   rintro e W3 ⟨h', rfl, hg3, hk3⟩
   have HGW3 := Lib.hid hg3
   have HAW3 := Lib.hid (HAX.out.kept hk3 HAX.out.lt (by omega) (by (try dsimp only); omega) (by (try dsimp only); omega))
   have HKW3 : Hid (Kept w.heap.size p (blkOf wp p) (blkOf kp p) w W3) := Lib.hid ((Kept.of_below HBX.out).trans (hk3.mono hzX))
   clear hg3 hk3
   unfold rsV
   dsimp only
   go_wp2_with (refine Stop.out (p := wpList _ _ _ [{ dst := _, op := .store 33 _ _, type := _, pos := _, after := _, guard := _ }] _ _) ?_)
   constructor
   refine told_at (X := blkOf wp p) (Y := blkOf kp p) HAW3.out HGW3.out HKW3.out ((doD g r).2) (by omega) (by omega) rfl rfl rfl rfl rfl ?_
   intro Z HT
   go_wp2_with fail
   refine bodyPost_ret (ret_resp rfl rfl HT.out.resp) rfl ?_
   exact ⟨_, rfl, HT.out.gr, HT.out.kept⟩
  ·have e1 : (r.kind == 1) = false := by rw [hk]; rfl
   have e2 : (r.kind == 2) = false := by rw [hk]; rfl
   have e3 : (r.kind == 3) = true := by rw [hk]; rfl
   clear hk
   have q0 : X.cell? ⟨s, 0, none⟩ = some (.int .i64 r.no) := HQX.out.cell 0
   have q1 : X.cell? ⟨s, 1, none⟩ = some (.int .i64 r.kind) := HQX.out.cell 1
   have q2 : X.cell? ⟨s, 2, none⟩ = some (.int .i64 r.client) := HQX.out.cell 2
   have q3 : X.cell? ⟨s, 3, none⟩ = some (.int .i64 r.code) := HQX.out.cell 3
   have q4 : X.cell? ⟨s, 4, none⟩ = some (.int .i64 r.token) := HQX.out.cell 4
   have q5 : X.cell? ⟨s, 5, none⟩ = some (.string r.proof) := HQX.out.cell 5
   have q6 : X.cell? ⟨s, 6, none⟩ = some (.int .i64 r.upTo) := HQX.out.cell 6
   go_enter Tryz.func89, Tryz.ntmps89
   go_upto_region 1 with fail
   rw [← HX0.out, ← HSe.out]
   go_wp2_with fail
   rw [← HRQ.out]
   refine (trade_spec r HGX.out HBg.out HRr.out HKk.out).mono ?_
   rintro e W3 ⟨h', rfl, hg3, hk3⟩
   have HGW3 := Lib.hid hg3
   have HAW3 := Lib.hid (HAX.out.kept hk3 HAX.out.lt (by omega) (by (try dsimp only); omega) (by (try dsimp only); omega))
   have HKW3 : Hid (Kept w.heap.size p (blkOf wp p) (blkOf kp p) w W3) := Lib.hid ((Kept.of_below HBX.out).trans (hk3.mono hzX))
   clear hg3 hk3
   unfold rsV
   dsimp only
   go_wp2_with (refine Stop.out (p := wpList _ _ _ [{ dst := _, op := .store 33 _ _, type := _, pos := _, after := _, guard := _ }] _ _) ?_)
   constructor
   refine told_at (X := blkOf wp p) (Y := blkOf kp p) HAW3.out HGW3.out HKW3.out ((doD g r).2) (by omega) (by omega) rfl rfl rfl rfl rfl ?_
   intro Z HT
   go_wp2_with fail
   refine bodyPost_ret (ret_resp rfl rfl HT.out.resp) rfl ?_
   exact ⟨_, rfl, HT.out.gr, HT.out.kept⟩
 ·have hk2 : ¬ r.kind = 2 := by omega
  have e1 : (r.kind == 1) = false := by rw [hk]; rfl
  have e2 : (r.kind == 2) = false := by rw [hk]; rfl
  have e3 : (r.kind == 3) = false := by rw [hk]; rfl
  have e6 : (r.kind == 6) = false := by rw [hk]; rfl
  have e5 : (r.kind == 5) = false := by rw [hk]; rfl
  clear hX hs hbx hqx hax hg hX1 hY1 hB hR hws hks hds
  cases hkf : keyFor g.keys r.token r.client with
  | none =>
   have HFI : Hid (foundIx g r = -1) := Lib.hid (by unfold foundIx; rw [if_neg hk2, hkf])
   have HE : Hid (doD g r = (g, codeR 0)) := Lib.hid (by unfold doD revokeD; rw [if_neg (by omega), if_neg hk2, if_neg (by omega), if_pos hk, hkf])
   clear hk hk2 hkf
   have q0 : X.cell? ⟨s, 0, none⟩ = some (.int .i64 r.no) := HQX.out.cell 0
   have q1 : X.cell? ⟨s, 1, none⟩ = some (.int .i64 r.kind) := HQX.out.cell 1
   have q2 : X.cell? ⟨s, 2, none⟩ = some (.int .i64 r.client) := HQX.out.cell 2
   have q3 : X.cell? ⟨s, 3, none⟩ = some (.int .i64 r.code) := HQX.out.cell 3
   have q4 : X.cell? ⟨s, 4, none⟩ = some (.int .i64 r.token) := HQX.out.cell 4
   have q5 : X.cell? ⟨s, 5, none⟩ = some (.string r.proof) := HQX.out.cell 5
   have q6 : X.cell? ⟨s, 6, none⟩ = some (.int .i64 r.upTo) := HQX.out.cell 6
   go_enter Tryz.func89, Tryz.ntmps89
   go_upto_region 1 with fail
   rw [← HX0.out, ← HSe.out]
   have fg0 : ∀ u : Ext X, u.w.cell? ⟨p, 0, none⟩ = some (.int .i64 g.now) := fun u => u.cell (HGX.out.row.cell 0)
   have fg1 : ∀ u : Ext X, u.w.cell? ⟨p, 1, none⟩ = some (.slice wp wn wc) := fun u => u.cell (HGX.out.row.cell 1)
   have fg2 : ∀ u : Ext X, u.w.cell? ⟨p, 2, none⟩ = some (.slice kp kn kc) := fun u => u.cell (HGX.out.row.cell 2)
   have fg3 : ∀ u : Ext X, u.w.cell? ⟨p, 3, none⟩ = some (.slice dp dn dc) := fun u => u.cell (HGX.out.row.cell 3)
   have fq0 : ∀ u : Ext X, u.w.cell? ⟨s, 0, none⟩ = some (.int .i64 r.no) := fun u => u.cell (HQX.out.cell 0)
   have fq1 : ∀ u : Ext X, u.w.cell? ⟨s, 1, none⟩ = some (.int .i64 r.kind) := fun u => u.cell (HQX.out.cell 1)
   have fq2 : ∀ u : Ext X, u.w.cell? ⟨s, 2, none⟩ = some (.int .i64 r.client) := fun u => u.cell (HQX.out.cell 2)
   have fq3 : ∀ u : Ext X, u.w.cell? ⟨s, 3, none⟩ = some (.int .i64 r.code) := fun u => u.cell (HQX.out.cell 3)
   have fq4 : ∀ u : Ext X, u.w.cell? ⟨s, 4, none⟩ = some (.int .i64 r.token) := fun u => u.cell (HQX.out.cell 4)
   have fq5 : ∀ u : Ext X, u.w.cell? ⟨s, 5, none⟩ = some (.string r.proof) := fun u => u.cell (HQX.out.cell 5)
   have fq6 : ∀ u : Ext X, u.w.cell? ⟨s, 6, none⟩ = some (.int .i64 r.upTo) := fun u => u.cell (HQX.out.cell 6)
   go_wp2_with fail
   refine ext_region X (by kernel_rfl) (by kernel_rfl) (Below.refl _ _) ?_
   repeat (go_big_quiet_step ((go_at_call 170; rw [← HE0.out, ← HRQ.out]; exact calls_ext (found_at (HGX.out.later (Ext.below _)).isIn HSm.out hp40 HFI.out))))
   refine wpQuiet_nil ?_
   intro Y hnY
   have HBY := Lib.hid (below_call HBX.out hnY)
   have HGY := Lib.hid (HGX.out.later hnY)
   have HQY := Lib.hid (HQX.out.below hnY HQX.out.lt)
   have HAY := Lib.hid (HAX.out.below hnY HAX.out.lt)
   have hzY := HBY.out.size
   clear hnY fg0 fg1 fg2 fg3 fq0 fq1 fq2 fq3 fq4 fq5 fq6 q0 q1 q2 q3 q4 q5 q6
   have y1 : Y.cell? ⟨s, 1, none⟩ = some (.int .i64 r.kind) := HQY.out.cell 1
   go_wp2_with (refine Stop.out (p := wpList _ _ _ [{ dst := _, op := .store 33 _ _, type := _, pos := _, after := _, guard := _ }] _ _) ?_)
   constructor
   refine told_at (X := blkOf wp p) (Y := blkOf kp p) HAY.out HGY.out (Kept.of_below HBY.out) (codeR 0) (by omega) (by omega) rfl rfl rfl rfl rfl ?_
   intro Z HT
   go_wp2_with fail
   refine bodyPost_ret (ret_resp rfl rfl HT.out.resp) rfl ?_
   exact ⟨_, by rw [HE.out]; first | done | rfl, by rw [HE.out]; exact HT.out.gr, HT.out.kept⟩
  | some x =>
   obtain ⟨k, hpl, hxk, hxn⟩ := keyIx_some (keyFor_mem hkf).1
   have HFI : Hid (foundIx g r = (k : Nat)) := Lib.hid (by unfold foundIx; rw [if_neg hk2, hkf]; simp only; rw [if_pos (.inl (by omega)), hpl])
   have HE : Hid (doD g r = (markD g x, codeR 0)) := Lib.hid (by unfold doD revokeD markD; rw [if_neg (by omega), if_neg hk2, if_neg (by omega), if_pos hk, hkf, ← hxn]; simp only; split <;> rfl)
   have HXk := Lib.hid hxk
   clear hk hk2 hkf hpl hxk hxn
   have q0 : X.cell? ⟨s, 0, none⟩ = some (.int .i64 r.no) := HQX.out.cell 0
   have q1 : X.cell? ⟨s, 1, none⟩ = some (.int .i64 r.kind) := HQX.out.cell 1
   have q2 : X.cell? ⟨s, 2, none⟩ = some (.int .i64 r.client) := HQX.out.cell 2
   have q3 : X.cell? ⟨s, 3, none⟩ = some (.int .i64 r.code) := HQX.out.cell 3
   have q4 : X.cell? ⟨s, 4, none⟩ = some (.int .i64 r.token) := HQX.out.cell 4
   have q5 : X.cell? ⟨s, 5, none⟩ = some (.string r.proof) := HQX.out.cell 5
   have q6 : X.cell? ⟨s, 6, none⟩ = some (.int .i64 r.upTo) := HQX.out.cell 6
   go_enter Tryz.func89, Tryz.ntmps89
   go_upto_region 1 with fail
   rw [← HX0.out, ← HSe.out]
   have fg0 : ∀ u : Ext X, u.w.cell? ⟨p, 0, none⟩ = some (.int .i64 g.now) := fun u => u.cell (HGX.out.row.cell 0)
   have fg1 : ∀ u : Ext X, u.w.cell? ⟨p, 1, none⟩ = some (.slice wp wn wc) := fun u => u.cell (HGX.out.row.cell 1)
   have fg2 : ∀ u : Ext X, u.w.cell? ⟨p, 2, none⟩ = some (.slice kp kn kc) := fun u => u.cell (HGX.out.row.cell 2)
   have fg3 : ∀ u : Ext X, u.w.cell? ⟨p, 3, none⟩ = some (.slice dp dn dc) := fun u => u.cell (HGX.out.row.cell 3)
   have fq0 : ∀ u : Ext X, u.w.cell? ⟨s, 0, none⟩ = some (.int .i64 r.no) := fun u => u.cell (HQX.out.cell 0)
   have fq1 : ∀ u : Ext X, u.w.cell? ⟨s, 1, none⟩ = some (.int .i64 r.kind) := fun u => u.cell (HQX.out.cell 1)
   have fq2 : ∀ u : Ext X, u.w.cell? ⟨s, 2, none⟩ = some (.int .i64 r.client) := fun u => u.cell (HQX.out.cell 2)
   have fq3 : ∀ u : Ext X, u.w.cell? ⟨s, 3, none⟩ = some (.int .i64 r.code) := fun u => u.cell (HQX.out.cell 3)
   have fq4 : ∀ u : Ext X, u.w.cell? ⟨s, 4, none⟩ = some (.int .i64 r.token) := fun u => u.cell (HQX.out.cell 4)
   have fq5 : ∀ u : Ext X, u.w.cell? ⟨s, 5, none⟩ = some (.string r.proof) := fun u => u.cell (HQX.out.cell 5)
   have fq6 : ∀ u : Ext X, u.w.cell? ⟨s, 6, none⟩ = some (.int .i64 r.upTo) := fun u => u.cell (HQX.out.cell 6)
   go_wp2_with fail
   refine ext_region X (by kernel_rfl) (by kernel_rfl) (Below.refl _ _) ?_
   repeat (go_big_quiet_step ((go_at_call 170; rw [← HE0.out, ← HRQ.out]; exact calls_ext (found_at (HGX.out.later (Ext.below _)).isIn HSm.out hp40 HFI.out))))
   refine wpQuiet_nil ?_
   intro Y hnY
   have HBY := Lib.hid (below_call HBX.out hnY)
   have HGY := Lib.hid (HGX.out.later hnY)
   have HQY := Lib.hid (HQX.out.below hnY HQX.out.lt)
   have HAY := Lib.hid (HAX.out.below hnY HAX.out.lt)
   have hzY := HBY.out.size
   clear hnY fg0 fg1 fg2 fg3 fq0 fq1 fq2 fq3 fq4 fq5 fq6 q0 q1 q2 q3 q4 q5 q6
   have y1 : Y.cell? ⟨s, 1, none⟩ = some (.int .i64 r.kind) := HQY.out.cell 1
   go_wp2_with fail
   refine (mark_spec HGY.out HBg.out HXk.out (by omega)).mono ?_
   rintro e W3 ⟨rfl, h', hg3, hk3⟩
   have HGW3 := Lib.hid hg3
   have HAW3 := Lib.hid (HAY.out.kept hk3 HAY.out.lt (by omega) (by omega) (by simp only; omega))
   have HKW3 : Hid (Kept w.heap.size p (blkOf wp p) (blkOf kp p) w W3) := Lib.hid ((Kept.of_below HBY.out).trans ⟨hk3.os, hk3.tape, hk3.output, hk3.size, fun i h1 h2 _ h4 => hk3.block i (by omega) h2 h2 h4⟩)
   clear hg3 hk3
   go_wp2_with (refine Stop.out (p := wpList _ _ _ [{ dst := _, op := .store 33 _ _, type := _, pos := _, after := _, guard := _ }] _ _) ?_)
   constructor
   refine told_at (X := blkOf wp p) (Y := blkOf kp p) HAW3.out HGW3.out (HKW3.out) (codeR 0) (by omega) (by omega) rfl rfl rfl rfl rfl ?_
   intro Z HT
   go_wp2_with fail
   refine bodyPost_ret (ret_resp rfl rfl HT.out.resp) rfl ?_
   exact ⟨_, by rw [HE.out]; first | done | rfl, by rw [HE.out]; exact HT.out.gr, HT.out.kept⟩
 ·have hk2 : ¬ r.kind = 2 := by omega
  have e1 : (r.kind == 1) = false := by rw [hk]; rfl
  have e2 : (r.kind == 2) = false := by rw [hk]; rfl
  have e3 : (r.kind == 3) = false := by rw [hk]; rfl
  have e6 : (r.kind == 6) = false := by rw [hk]; rfl
  have e5 : (r.kind == 5) = true := by rw [hk]; rfl
  clear hX hs hbx hqx hax hg hX1 hY1 hB hR hws hks hds
  cases hkf : keyFor g.keys r.token r.client with
  | none =>
   have HFI : Hid (foundIx g r = -1) := Lib.hid (by unfold foundIx; rw [if_neg hk2, hkf])
   have HE : Hid (doD g r = (g, ⟨0, 0, 0, false⟩)) := Lib.hid (by unfold doD askD; rw [if_neg (by omega), if_neg hk2, if_neg (by omega), if_neg (by omega), if_pos hk, hkf])
   clear hk hk2 hkf
   have q0 : X.cell? ⟨s, 0, none⟩ = some (.int .i64 r.no) := HQX.out.cell 0
   have q1 : X.cell? ⟨s, 1, none⟩ = some (.int .i64 r.kind) := HQX.out.cell 1
   have q2 : X.cell? ⟨s, 2, none⟩ = some (.int .i64 r.client) := HQX.out.cell 2
   have q3 : X.cell? ⟨s, 3, none⟩ = some (.int .i64 r.code) := HQX.out.cell 3
   have q4 : X.cell? ⟨s, 4, none⟩ = some (.int .i64 r.token) := HQX.out.cell 4
   have q5 : X.cell? ⟨s, 5, none⟩ = some (.string r.proof) := HQX.out.cell 5
   have q6 : X.cell? ⟨s, 6, none⟩ = some (.int .i64 r.upTo) := HQX.out.cell 6
   go_enter Tryz.func89, Tryz.ntmps89
   go_upto_region 1 with fail
   rw [← HX0.out, ← HSe.out]
   have fg0 : ∀ u : Ext X, u.w.cell? ⟨p, 0, none⟩ = some (.int .i64 g.now) := fun u => u.cell (HGX.out.row.cell 0)
   have fg1 : ∀ u : Ext X, u.w.cell? ⟨p, 1, none⟩ = some (.slice wp wn wc) := fun u => u.cell (HGX.out.row.cell 1)
   have fg2 : ∀ u : Ext X, u.w.cell? ⟨p, 2, none⟩ = some (.slice kp kn kc) := fun u => u.cell (HGX.out.row.cell 2)
   have fg3 : ∀ u : Ext X, u.w.cell? ⟨p, 3, none⟩ = some (.slice dp dn dc) := fun u => u.cell (HGX.out.row.cell 3)
   have fq0 : ∀ u : Ext X, u.w.cell? ⟨s, 0, none⟩ = some (.int .i64 r.no) := fun u => u.cell (HQX.out.cell 0)
   have fq1 : ∀ u : Ext X, u.w.cell? ⟨s, 1, none⟩ = some (.int .i64 r.kind) := fun u => u.cell (HQX.out.cell 1)
   have fq2 : ∀ u : Ext X, u.w.cell? ⟨s, 2, none⟩ = some (.int .i64 r.client) := fun u => u.cell (HQX.out.cell 2)
   have fq3 : ∀ u : Ext X, u.w.cell? ⟨s, 3, none⟩ = some (.int .i64 r.code) := fun u => u.cell (HQX.out.cell 3)
   have fq4 : ∀ u : Ext X, u.w.cell? ⟨s, 4, none⟩ = some (.int .i64 r.token) := fun u => u.cell (HQX.out.cell 4)
   have fq5 : ∀ u : Ext X, u.w.cell? ⟨s, 5, none⟩ = some (.string r.proof) := fun u => u.cell (HQX.out.cell 5)
   have fq6 : ∀ u : Ext X, u.w.cell? ⟨s, 6, none⟩ = some (.int .i64 r.upTo) := fun u => u.cell (HQX.out.cell 6)
   go_wp2_with fail
   refine ext_region X (by kernel_rfl) (by kernel_rfl) (Below.refl _ _) ?_
   repeat (go_big_quiet_step ((go_at_call 170; rw [← HE0.out, ← HRQ.out]; exact calls_ext (found_at (HGX.out.later (Ext.below _)).isIn HSm.out hp40 HFI.out))))
   refine wpQuiet_nil ?_
   intro Y hnY
   have HBY := Lib.hid (below_call HBX.out hnY)
   have HGY := Lib.hid (HGX.out.later hnY)
   have HQY := Lib.hid (HQX.out.below hnY HQX.out.lt)
   have HAY := Lib.hid (HAX.out.below hnY HAX.out.lt)
   have hzY := HBY.out.size
   clear hnY fg0 fg1 fg2 fg3 fq0 fq1 fq2 fq3 fq4 fq5 fq6 q0 q1 q2 q3 q4 q5 q6
   have y1 : Y.cell? ⟨s, 1, none⟩ = some (.int .i64 r.kind) := HQY.out.cell 1
   go_wp2_with (refine Stop.out (p := wpList _ _ _ [{ dst := _, op := .store 33 _ _, type := _, pos := _, after := _, guard := _ }] _ _) ?_)
   constructor
   refine told_at (X := blkOf wp p) (Y := blkOf kp p) HAY.out HGY.out (Kept.of_below HBY.out) (⟨0, 0, 0, false⟩) (by omega) (by omega) rfl rfl rfl rfl rfl ?_
   intro Z HT
   go_wp2_with fail
   refine bodyPost_ret (ret_resp rfl rfl HT.out.resp) rfl ?_
   exact ⟨_, by rw [HE.out]; first | done | rfl, by rw [HE.out]; exact HT.out.gr, HT.out.kept⟩
  | some x =>
   obtain ⟨k, hpl, hxk, hxn⟩ := keyIx_some (keyFor_mem hkf).1
   have HFI : Hid (foundIx g r = (k : Nat)) := Lib.hid (by unfold foundIx; rw [if_neg hk2, hkf]; simp only; rw [if_pos (.inl (by omega)), hpl])
   obtain ⟨b, hb⟩ : ∃ b, keyOpenB g.now g.dead x = b := ⟨_, rfl⟩
   have HE : Hid (doD g r = (g, ⟨0, 0, 0, b⟩)) := Lib.hid (by unfold doD askD; rw [if_neg (by omega), if_neg hk2, if_neg (by omega), if_neg (by omega), if_pos hk, hkf]; simp only; rw [hb])
   have HXk := Lib.hid hxk
   have HOb := Lib.hid hb
   clear hk hk2 hkf hpl hxk hxn hb
   have q0 : X.cell? ⟨s, 0, none⟩ = some (.int .i64 r.no) := HQX.out.cell 0
   have q1 : X.cell? ⟨s, 1, none⟩ = some (.int .i64 r.kind) := HQX.out.cell 1
   have q2 : X.cell? ⟨s, 2, none⟩ = some (.int .i64 r.client) := HQX.out.cell 2
   have q3 : X.cell? ⟨s, 3, none⟩ = some (.int .i64 r.code) := HQX.out.cell 3
   have q4 : X.cell? ⟨s, 4, none⟩ = some (.int .i64 r.token) := HQX.out.cell 4
   have q5 : X.cell? ⟨s, 5, none⟩ = some (.string r.proof) := HQX.out.cell 5
   have q6 : X.cell? ⟨s, 6, none⟩ = some (.int .i64 r.upTo) := HQX.out.cell 6
   go_enter Tryz.func89, Tryz.ntmps89
   go_upto_region 1 with fail
   rw [← HX0.out, ← HSe.out]
   have fg0 : ∀ u : Ext X, u.w.cell? ⟨p, 0, none⟩ = some (.int .i64 g.now) := fun u => u.cell (HGX.out.row.cell 0)
   have fg1 : ∀ u : Ext X, u.w.cell? ⟨p, 1, none⟩ = some (.slice wp wn wc) := fun u => u.cell (HGX.out.row.cell 1)
   have fg2 : ∀ u : Ext X, u.w.cell? ⟨p, 2, none⟩ = some (.slice kp kn kc) := fun u => u.cell (HGX.out.row.cell 2)
   have fg3 : ∀ u : Ext X, u.w.cell? ⟨p, 3, none⟩ = some (.slice dp dn dc) := fun u => u.cell (HGX.out.row.cell 3)
   have fq0 : ∀ u : Ext X, u.w.cell? ⟨s, 0, none⟩ = some (.int .i64 r.no) := fun u => u.cell (HQX.out.cell 0)
   have fq1 : ∀ u : Ext X, u.w.cell? ⟨s, 1, none⟩ = some (.int .i64 r.kind) := fun u => u.cell (HQX.out.cell 1)
   have fq2 : ∀ u : Ext X, u.w.cell? ⟨s, 2, none⟩ = some (.int .i64 r.client) := fun u => u.cell (HQX.out.cell 2)
   have fq3 : ∀ u : Ext X, u.w.cell? ⟨s, 3, none⟩ = some (.int .i64 r.code) := fun u => u.cell (HQX.out.cell 3)
   have fq4 : ∀ u : Ext X, u.w.cell? ⟨s, 4, none⟩ = some (.int .i64 r.token) := fun u => u.cell (HQX.out.cell 4)
   have fq5 : ∀ u : Ext X, u.w.cell? ⟨s, 5, none⟩ = some (.string r.proof) := fun u => u.cell (HQX.out.cell 5)
   have fq6 : ∀ u : Ext X, u.w.cell? ⟨s, 6, none⟩ = some (.int .i64 r.upTo) := fun u => u.cell (HQX.out.cell 6)
   go_wp2_with fail
   refine ext_region X (by kernel_rfl) (by kernel_rfl) (Below.refl _ _) ?_
   repeat (go_big_quiet_step ((go_at_call 170; rw [← HE0.out, ← HRQ.out]; exact calls_ext (found_at (HGX.out.later (Ext.below _)).isIn HSm.out hp40 HFI.out))))
   refine wpQuiet_nil ?_
   intro Y hnY
   have HBY := Lib.hid (below_call HBX.out hnY)
   have HGY := Lib.hid (HGX.out.later hnY)
   have HQY := Lib.hid (HQX.out.below hnY HQX.out.lt)
   have HAY := Lib.hid (HAX.out.below hnY HAX.out.lt)
   have hzY := HBY.out.size
   clear hnY fg0 fg1 fg2 fg3 fq0 fq1 fq2 fq3 fq4 fq5 fq6 q0 q1 q2 q3 q4 q5 q6
   have y1 : Y.cell? ⟨s, 1, none⟩ = some (.int .i64 r.kind) := HQY.out.cell 1
   have y_0 : Y.cell? ⟨p, 0, none⟩ = some (.int .i64 g.now) := HGY.out.row.cell 0
   have y_1 : Y.cell? ⟨p, 1, none⟩ = some (.slice wp wn wc) := HGY.out.row.cell 1
   have y_2 : Y.cell? ⟨p, 2, none⟩ = some (.slice kp kn kc) := HGY.out.row.cell 2
   have y_3 : Y.cell? ⟨p, 3, none⟩ = some (.slice dp dn dc) := HGY.out.row.cell 3
   go_wp2_with fail
   rw [← HE0.out]
   refine (opensK_at HGY.out.isIn HSm.out HXk.out HOb.out).mono ?_
   rintro e W3 ⟨rfl, hnW3⟩
   have HBW3 := Lib.hid (below_call HBY.out hnW3)
   have HGW3 := Lib.hid (HGY.out.later hnW3)
   have HAW3 := Lib.hid (HAY.out.below hnW3 HAY.out.lt)
   clear hnW3 y_0 y_1 y_2 y_3
   go_wp2_with (refine Stop.out (p := wpList _ _ _ [{ dst := _, op := .store 33 _ _, type := _, pos := _, after := _, guard := _ }] _ _) ?_)
   constructor
   refine told_at (X := blkOf wp p) (Y := blkOf kp p) HAW3.out HGW3.out (Kept.of_below HBW3.out) (⟨0, 0, 0, b⟩) (by omega) (by omega) rfl rfl rfl rfl rfl ?_
   intro Z HT
   go_wp2_with fail
   refine bodyPost_ret (ret_resp rfl rfl HT.out.resp) rfl ?_
   exact ⟨_, by rw [HE.out]; first | done | rfl, by rw [HE.out]; exact HT.out.gr, HT.out.kept⟩
 ·have hk2 : ¬ r.kind = 2 := by omega
  have e1 : (r.kind == 1) = false := by rw [hk]; rfl
  have e2 : (r.kind == 2) = false := by rw [hk]; rfl
  have e3 : (r.kind == 3) = false := by rw [hk]; rfl
  have e6 : (r.kind == 6) = true := by rw [hk]; rfl
  have e5 : (r.kind == 5) = false := by rw [hk]; rfl
  have hun : 0 ≤ r.upTo ∧ r.upTo ≤ 1000 := hup
  have W1 : Hid (IntKind.i64.wrap (g.now + r.upTo) = g.now + r.upTo) := Lib.hid (wrap_small (by omega) (by omega))
  clear hX hs hbx hqx hax hg hX1 hY1 hB hR hws hks hds
  have HE : Hid (doD g r = (⟨upT (g.now + r.upTo), g.words, g.keys, g.dead⟩, codeR 0)) := Lib.hid (by unfold doD tickD; rw [if_neg (by omega), if_neg hk2, if_neg (by omega), if_neg (by omega), if_neg (by omega)])
  clear hk hk2
  have q0 : X.cell? ⟨s, 0, none⟩ = some (.int .i64 r.no) := HQX.out.cell 0
  have q1 : X.cell? ⟨s, 1, none⟩ = some (.int .i64 r.kind) := HQX.out.cell 1
  have q2 : X.cell? ⟨s, 2, none⟩ = some (.int .i64 r.client) := HQX.out.cell 2
  have q3 : X.cell? ⟨s, 3, none⟩ = some (.int .i64 r.code) := HQX.out.cell 3
  have q4 : X.cell? ⟨s, 4, none⟩ = some (.int .i64 r.token) := HQX.out.cell 4
  have q5 : X.cell? ⟨s, 5, none⟩ = some (.string r.proof) := HQX.out.cell 5
  have q6 : X.cell? ⟨s, 6, none⟩ = some (.int .i64 r.upTo) := HQX.out.cell 6
  have g0 : X.cell? ⟨p, 0, none⟩ = some (.int .i64 g.now) := HGX.out.row.cell 0
  go_enter Tryz.func89, Tryz.ntmps89
  go_upto_region 1 with fail
  rw [← HX0.out, ← HSe.out]
  go_wp2_with fail
  refine region_tail 11 (by kernel_rfl) (by kernel_rfl) ?_
  simp only [List.take_succ_cons, List.take_zero, List.drop_succ_cons, List.drop_zero]
  repeat still_step
  try simp only [W1.out]
  still_call (upT_spec _ _)
  repeat still_step
  refine wpStill_nil ?_
  have hbV : Below X.heap.size X X.drew := (Below.refl _ _).drew
  obtain ⟨V, hV⟩ : ∃ V, V = X.drew := ⟨_, rfl⟩
  rw [← hV] at hbV ⊢
  have HGV := Lib.hid (HGX.out.later hbV)
  have HAV := Lib.hid (HAX.out.below hbV HAX.out.lt)
  have HBV := Lib.hid (below_call HBX.out hbV)
  have f0 : V.frozen? ⟨p, 0, none⟩ = false := HGV.out.row.free 0
  have v0 : V.cell? ⟨p, 0, none⟩ = some (.int .i64 g.now) := HGV.out.row.cell 0
  clear hV hbV q0 q1 q2 q3 q4 q5 q6 g0
  go_wp2_with (refine Stop.out (p := wpList _ _ _ [{ dst := _, op := .store 33 _ _, type := _, pos := _, after := _, guard := _ }] _ _) ?_)
  constructor
  have HGT : Hid (GrAt tl N (V.setCell ⟨p, 0, none⟩ (.int .i64 (upT (g.now + r.upTo)))) p ⟨wp, wn, wc, kp, kn, kc, dp, dn, dc⟩ ⟨upT (g.now + r.upTo), g.words, g.keys, g.dead⟩) := Lib.hid ⟨HGV.out.row.set 0 _, own_set _ HGV.out.words (row_own_ne HGV.out.row HGV.out.words (by first | decide | exact tl.hW | exact tl.hK | exact tl.hI)), own_set _ HGV.out.keys (row_own_ne HGV.out.row HGV.out.keys (by first | decide | exact tl.hW | exact tl.hK | exact tl.hI)), own_set _ HGV.out.dead (row_own_ne HGV.out.row HGV.out.dead (by first | decide | exact tl.hW | exact tl.hK | exact tl.hI)), HGV.out.place⟩
  have HKT : Hid (Kept w.heap.size p (blkOf wp p) (blkOf kp p) w (V.setCell ⟨p, 0, none⟩ (.int .i64 (upT (g.now + r.upTo))))) := Lib.hid ((Kept.of_below HBV.out).setCell (a := ⟨p, 0, none⟩) _ (.inl rfl))
  have HAT := Lib.hid (HAV.out.setOther (g := p) (j := 0) (by omega) (.int .i64 (upT (g.now + r.upTo))))
  refine told_at (X := blkOf wp p) (Y := blkOf kp p) HAT.out HGT.out (HKT.out) (codeR 0) (by omega) (by omega) rfl rfl rfl rfl rfl ?_
  intro Z HT
  go_wp2_with fail
  refine bodyPost_ret (ret_resp rfl rfl HT.out.resp) rfl ?_
  exact ⟨_, by rw [HE.out]; first | done | rfl, by rw [HE.out]; exact HT.out.gr, HT.out.kept⟩
end Go.Proofs.YtchfgdiipjbgoaaGreat
