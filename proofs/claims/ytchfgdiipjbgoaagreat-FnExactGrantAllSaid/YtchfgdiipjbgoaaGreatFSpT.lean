/- The model: a word, or a key, for two keys. -/
import Derived.Test.YtchfgdiipjbgoaaGreatFSpG
import Derived.Test.YtchfgdiipjbgoaaGreatFSpE
import Derived.Test.YtchfgdiipjbgoaaGreatFGdS
import Derived.Test.YtchfgdiipjbgoaaGreatFOpImpA
import Derived.Test.YtchfgdiipjbgoaaGreatFGrant2
import Derived.Test.YtchfgdiipjbgoaaGreatFGdE
import Derived.Deep.DeepCutAuto
namespace Go.Proofs.YtchfgdiipjbgoaaGreat
open Go Go.RowKit Go.Lib
set_option linter.unusedVariables false
set_option maxRecDepth 100000

theorem found_at {g : Gr} {h : GH} {r : RQ} {w : World} {v : Int} (hin : GrIn w h g) (hs : GrSmall g) (hp : r.proof.size ≤ 40) (hv : foundIx g r = v) : Calls Tryz.prog 170 #[grV g.now h, rqV r] w (Ret (.int .i64 v) w) := by
 subst hv
 exact found_spec g h r w hin hs hp
theorem dead_at {now : Int} {h : GH} {l : List Int} {n : Int} {b : Bool} {w : World} (hn : h.dn = l.length) (hl : LIn inCf w h.dp l) (hc : l.length ≤ 1048576) (hb : isDeadB l n = b) : Calls Tryz.prog 118 #[grV now h, .int .i64 n] w (Ret (.bool b) w) := by
 subst hb
 exact dead_spec now h l n w hn hl hc
theorem opensK_at {g : Gr} {h : GH} {k : Nat} {x : Ky} {b : Bool} {w : World} (hin : GrIn w h g) (hs : GrSmall g) (hx : g.keys[k]? = some x) (hb : keyOpenB g.now g.dead x = b) : Calls Tryz.prog 93 #[grV g.now h, .int .i64 k] w (Ret (.bool b) w) := by
 subst hb
 exact opens_at g h k x w hin hs hx
theorem room_ways (g : Gr) (r : RQ) : (38 < g.keys.length ∧ roomC g r = 9) ∨ (g.keys.length ≤ 38 ∧ (∃ x, findK g.keys (10 * r.no + 1) = some x) ∧ roomC g r = 7) ∨ (g.keys.length ≤ 38 ∧ findK g.keys (10 * r.no + 1) = none ∧ (∃ x, findK g.keys (10 * r.no + 2) = some x) ∧ roomC g r = 7) ∨ (g.keys.length ≤ 38 ∧ findK g.keys (10 * r.no + 1) = none ∧ findK g.keys (10 * r.no + 2) = none ∧ roomC g r = 0) := by
 unfold roomC
 by_cases h : 38 < g.keys.length
 ·left; exact ⟨h, if_pos h⟩
 ·right
  rw [if_neg h]
  cases h1 : findK g.keys (10 * r.no + 1) with
  | some x => left; exact ⟨by omega, ⟨x, rfl⟩, by simp⟩
  | none =>
   right
   cases h2 : findK g.keys (10 * r.no + 2) with
   | some x => left; exact ⟨by omega, rfl, ⟨x, rfl⟩, by simp⟩
   | none => right; exact ⟨by omega, rfl, rfl, by simp⟩
theorem trade_full {g : Gr} {r : RQ} {c : Int} (hk : r.kind = 2 ∨ r.kind = 3) (hc : roomC g r = c) (h0 : c ≠ 0) : doD g r = (g, codeR c) := by
 subst hc
 unfold doD
 rcases hk with hk | hk
 ·rw [hk]; simp only [if_neg (show ¬ (2 : Int) = 1 by decide), if_true]; unfold redeemD; rw [if_neg h0]
 ·rw [hk]; simp only [if_neg (show ¬ (3 : Int) = 1 by decide), if_neg (show ¬ (3 : Int) = 2 by decide), if_true]; unfold refreshD; rw [if_neg h0]
theorem trade_red {g : Gr} {r : RQ} (hk : r.kind = 2) : doD g r = redeemD g r := by unfold doD; rw [hk]; rfl
theorem trade_ref {g : Gr} {r : RQ} (hk : r.kind = 3) : doD g r = refreshD g r := by unfold doD; rw [hk]; rfl
set_option maxHeartbeats 16000000 in
theorem trade_spec {tl : Tail} {N p : Nat} {h : GH} {g : Gr} {w : World} (r : RQ) (hg : GrAt tl N w p h g) (hB : grantB g = true) (hR : rightB r = true) (hkk : r.kind = 2 ∨ r.kind = 3) : Calls Tryz.prog 168 #[.pointer (some ⟨p, 0, none⟩), rqV r] w (DoS tl N p h (doD g r).1 (doD g r).2 (blkOf h.wp p) (blkOf h.kp p) w) := by
 obtain ⟨wp, wn, wc, kp, kn, kc, dp, dn, dc⟩ := h
 obtain ⟨htm, hw20, hk40, hws, hks, hds⟩ := gr_facts hB
 obtain ⟨hno, _, _, _, _, _, hps⟩ := rq_facts hR
 have hp40 : r.proof.size ≤ 40 := by omega
 have hd20 : g.dead.length ≤ 20 := by
  have := deadOk_le hws hds (fun x hx => (deadOk_up hds x hx).2)
  omega
 have HSm : Hid (GrSmall g) := Lib.hid ⟨by omega, by omega, by omega, fun x hx => by
  obtain ⟨k, hk⟩ := List.getElem?_of_mem hx
  have := (of_decide_eq_true (wordsOk_get hws hk).1.2.2.2.1).2.1
  unfold maxLen; omega⟩
 have hpz := hg.row.lt
 have hN := hg.place
 have HE0 := Lib.hid (show grV g.now ⟨wp, wn, wc, kp, kn, kc, dp, dn, dc⟩ = .agg #[.int .i64 g.now, .slice wp wn wc, .slice kp kn kc, .slice dp dn dc] from rfl)
 have HRQ := Lib.hid (show rqV r = .agg #[.int .i64 r.no, .int .i64 r.kind, .int .i64 r.client, .int .i64 r.code, .int .i64 r.token, .string r.proof, .int .i64 r.upTo] from rfl)
 rw [HRQ.out]
 obtain ⟨X, hX⟩ : ∃ X, X = (w.alloc (.cells #[.int .i64 r.no, .int .i64 r.kind, .int .i64 r.client, .int .i64 r.code, .int .i64 r.token, .string r.proof, .int .i64 r.upTo] 29)).alloc (.cells #[.int .i64 0, .int .i64 0, .int .i64 0, .bool false] 33) := ⟨_, rfl⟩
 obtain ⟨s, hs⟩ : ∃ s, s = w.heap.size := ⟨_, rfl⟩
 have hbx : Below w.heap.size w X := by rw [hX]; exact ((Below.refl _ _).alloc (Nat.le_refl _) _).alloc (by simp) _
 have hqx : Row X s 29 (rqL r) := by rw [hX, hs]; exact Row.below (heap_alloc_new w (.cells #[.int .i64 r.no, .int .i64 r.kind, .int .i64 r.client, .int .i64 r.code, .int .i64 r.token, .string r.proof, .int .i64 r.upTo] 29)) ((Below.refl (w.alloc (.cells #[.int .i64 r.no, .int .i64 r.kind, .int .i64 r.client, .int .i64 r.code, .int .i64 r.token, .string r.proof, .int .i64 r.upTo] 29)).heap.size _).alloc (Nat.le_refl _) _) (by simp)
 have hax : Row X (s + 1) 33 (rsL (codeR 0)) := by rw [hX, hs]; exact heap_alloc2_new w (.cells #[.int .i64 r.no, .int .i64 r.kind, .int .i64 r.client, .int .i64 r.code, .int .i64 r.token, .string r.proof, .int .i64 r.upTo] 29) (.cells #[.int .i64 0, .int .i64 0, .int .i64 0, .bool false] 33)
 have HX0 := Lib.hid hX
 have HSe := Lib.hid hs
 have HBX := Lib.hid hbx
 have HQX := Lib.hid hqx
 have HAX := Lib.hid hax
 have HGX := Lib.hid (hg.later hbx)
 have hzX := hbx.size
 have hpsl : p < s := by omega
 have hsw : w.heap.size ≤ s := by omega
 have HKn : Hid (kn = g.keys.length) := Lib.hid (own_len hg.keys)
 have HWn : Hid (wn = g.words.length) := Lib.hid (own_len hg.words)
 have HDn : Hid (dn = g.dead.length) := Lib.hid (own_len hg.dead)
 have HWx := Lib.hid (own_ways hg.words)
 have HKx := Lib.hid (own_ways hg.keys)
 have HWs := Lib.hid hws
 have HKs := Lib.hid hks
 have W1 : Hid (IntKind.i64.wrap (10 * r.no) = 10 * r.no) := Lib.hid (wrap_small (by omega) (by omega))
 obtain ⟨v, hv⟩ : ∃ v, foundIx g r = v := ⟨_, rfl⟩
 have HFI := Lib.hid hv
 clear hX hs hbx hqx hax hg hB hR hws hks hds hv
 rcases room_ways g r with ⟨hf, he⟩ | ⟨hf, ⟨x1, h1⟩, he⟩ | ⟨hf, h1, ⟨x2, h2⟩, he⟩ | ⟨hf, h1, h2, he⟩
 ·have HE := Lib.hid (trade_full hkk he (by decide))
  have hf' : 38 < kn := by have := HKn.out; omega
  clear he hf
  go_enter Tryz.func168, Tryz.ntmps168
  go_upto_region 1 with fail
  rw [← HX0.out, ← HSe.out]
  have fg0 : ∀ u : Ext X, u.w.cell? ⟨p, 0, none⟩ = some (.int .i64 g.now) := fun u => u.cell (HGX.out.row.cell 0)
  have fg1 : ∀ u : Ext X, u.w.cell? ⟨p, 1, none⟩ = some (.slice wp wn wc) := fun u => u.cell (HGX.out.row.cell 1)
  have fg2 : ∀ u : Ext X, u.w.cell? ⟨p, 2, none⟩ = some (.slice kp kn kc) := fun u => u.cell (HGX.out.row.cell 2)
  have fg3 : ∀ u : Ext X, u.w.cell? ⟨p, 3, none⟩ = some (.slice dp dn dc) := fun u => u.cell (HGX.out.row.cell 3)
  have fq0 : ∀ u : Ext X, u.w.cell? ⟨s, 0, none⟩ = some (.int .i64 r.no) := fun u => u.cell (HQX.out.cell 0)
  have fq1 : ∀ u : Ext X, u.w.cell? ⟨s, 1, none⟩ = some (.int .i64 r.kind) := fun u => u.cell (HQX.out.cell 1)
  have fq2 : ∀ u : Ext X, u.w.cell? ⟨s, 2, none⟩ = some (.int .i64 r.client) := fun u => u.cell (HQX.out.cell 2)
  have fq3 : ∀ u : Ext X, u.w.cell? ⟨s, 3, none⟩ = some (.int .i64 r.code) := fun u => u.cell (HQX.out.cell 3)
  have fq4 : ∀ u : Ext X, u.w.cell? ⟨s, 4, none⟩ = some (.int .i64 r.token) := fun u => u.cell (HQX.out.cell 4)
  have fq5 : ∀ u : Ext X, u.w.cell? ⟨s, 5, none⟩ = some (.string r.proof) := fun u => u.cell (HQX.out.cell 5)
  have fq6 : ∀ u : Ext X, u.w.cell? ⟨s, 6, none⟩ = some (.int .i64 r.upTo) := fun u => u.cell (HQX.out.cell 6)
  go_wp2_with fail
  refine ext_region X (by kernel_rfl) (by kernel_rfl) (Below.refl _ _) ?_
  repeat (go_big_quiet_step ((go_at_call 170; rw [← HE0.out, ← HRQ.out]; exact calls_ext (found_at (HGX.out.later (Ext.below _)).isIn HSm.out hp40 HFI.out))))
  refine wpQuiet_nil ?_
  intro Y hnY
  have HBY := Lib.hid (below_call HBX.out hnY)
  have HGY := Lib.hid (HGX.out.later hnY)
  have HQY := Lib.hid (HQX.out.below hnY HQX.out.lt)
  have HAY := Lib.hid (HAX.out.below hnY HAX.out.lt)
  have hzY := HBY.out.size
  clear hnY fg0 fg1 fg2 fg3 fq0 fq1 fq2 fq3 fq4 fq5 fq6
  have c2 : Y.cell? ⟨p, 2, none⟩ = some (.slice kp kn kc) := HGY.out.row.cell 2
  go_wp2_with (refine Stop.out (p := wpList _ _ _ [{ dst := _, op := .store 33 _ _, type := _, pos := _, after := _, guard := _ }] _ _) ?_)
  constructor
  refine told_at (X := blkOf wp p) (Y := blkOf kp p) HAY.out HGY.out (Kept.of_below HBY.out) (codeR 9) (by omega) (by omega) rfl rfl rfl rfl rfl ?_
  intro Z HT
  go_wp2_with fail
  refine bodyPost_ret (ret_resp rfl rfl HT.out.resp) rfl ?_
  exact ⟨_, by rw [HE.out]; first | done | rfl, by rw [HE.out]; exact HT.out.gr, HT.out.kept⟩
 ·have HE := Lib.hid (trade_full hkk he (by decide))
  have hf' : kn ≤ 38 := by have := HKn.out; omega
  obtain ⟨k1, hk1, _, _⟩ := keyIx_some h1
  have J1 := Lib.hid hk1
  clear he h1 hk1
  go_enter Tryz.func168, Tryz.ntmps168
  go_upto_region 1 with fail
  rw [← HX0.out, ← HSe.out]
  have fg0 : ∀ u : Ext X, u.w.cell? ⟨p, 0, none⟩ = some (.int .i64 g.now) := fun u => u.cell (HGX.out.row.cell 0)
  have fg1 : ∀ u : Ext X, u.w.cell? ⟨p, 1, none⟩ = some (.slice wp wn wc) := fun u => u.cell (HGX.out.row.cell 1)
  have fg2 : ∀ u : Ext X, u.w.cell? ⟨p, 2, none⟩ = some (.slice kp kn kc) := fun u => u.cell (HGX.out.row.cell 2)
  have fg3 : ∀ u : Ext X, u.w.cell? ⟨p, 3, none⟩ = some (.slice dp dn dc) := fun u => u.cell (HGX.out.row.cell 3)
  have fq0 : ∀ u : Ext X, u.w.cell? ⟨s, 0, none⟩ = some (.int .i64 r.no) := fun u => u.cell (HQX.out.cell 0)
  have fq1 : ∀ u : Ext X, u.w.cell? ⟨s, 1, none⟩ = some (.int .i64 r.kind) := fun u => u.cell (HQX.out.cell 1)
  have fq2 : ∀ u : Ext X, u.w.cell? ⟨s, 2, none⟩ = some (.int .i64 r.client) := fun u => u.cell (HQX.out.cell 2)
  have fq3 : ∀ u : Ext X, u.w.cell? ⟨s, 3, none⟩ = some (.int .i64 r.code) := fun u => u.cell (HQX.out.cell 3)
  have fq4 : ∀ u : Ext X, u.w.cell? ⟨s, 4, none⟩ = some (.int .i64 r.token) := fun u => u.cell (HQX.out.cell 4)
  have fq5 : ∀ u : Ext X, u.w.cell? ⟨s, 5, none⟩ = some (.string r.proof) := fun u => u.cell (HQX.out.cell 5)
  have fq6 : ∀ u : Ext X, u.w.cell? ⟨s, 6, none⟩ = some (.int .i64 r.upTo) := fun u => u.cell (HQX.out.cell 6)
  go_wp2_with fail
  refine ext_region X (by kernel_rfl) (by kernel_rfl) (Below.refl _ _) ?_
  repeat (go_big_quiet_step ((go_at_call 170; rw [← HE0.out, ← HRQ.out]; exact calls_ext (found_at (HGX.out.later (Ext.below _)).isIn HSm.out hp40 HFI.out))))
  refine wpQuiet_nil ?_
  intro Y hnY
  have HBY := Lib.hid (below_call HBX.out hnY)
  have HGY := Lib.hid (HGX.out.later hnY)
  have HQY := Lib.hid (HQX.out.below hnY HQX.out.lt)
  have HAY := Lib.hid (HAX.out.below hnY HAX.out.lt)
  have hzY := HBY.out.size
  clear hnY fg0 fg1 fg2 fg3 fq0 fq1 fq2 fq3 fq4 fq5 fq6
  have c2 : Y.cell? ⟨p, 2, none⟩ = some (.slice kp kn kc) := HGY.out.row.cell 2
  have fg0 : ∀ u : Ext Y, u.w.cell? ⟨p, 0, none⟩ = some (.int .i64 g.now) := fun u => u.cell (HGY.out.row.cell 0)
  have fg1 : ∀ u : Ext Y, u.w.cell? ⟨p, 1, none⟩ = some (.slice wp wn wc) := fun u => u.cell (HGY.out.row.cell 1)
  have fg2 : ∀ u : Ext Y, u.w.cell? ⟨p, 2, none⟩ = some (.slice kp kn kc) := fun u => u.cell (HGY.out.row.cell 2)
  have fg3 : ∀ u : Ext Y, u.w.cell? ⟨p, 3, none⟩ = some (.slice dp dn dc) := fun u => u.cell (HGY.out.row.cell 3)
  have fq0 : ∀ u : Ext Y, u.w.cell? ⟨s, 0, none⟩ = some (.int .i64 r.no) := fun u => u.cell (HQY.out.cell 0)
  go_wp2_with fail
  refine ext_region Y (by kernel_rfl) (by kernel_rfl) (Below.refl _ _) ?_
  repeat (go_big_quiet_step ((go_at_call 92; rw [← HE0.out]; exact calls_ext (key_at HKn.out (HGY.out.later (Ext.below _)).isIn.2.2.1 (by omega) J1.out))))
  refine wpQuiet_nil ?_
  intro Y2 hnY2
  have HBY2 := Lib.hid (below_call HBY.out hnY2)
  have HGY2 := Lib.hid (HGY.out.later hnY2)
  have HQY2 := Lib.hid (HQY.out.below hnY2 HQY.out.lt)
  have HAY2 := Lib.hid (HAY.out.below hnY2 HAY.out.lt)
  have hzY2 := HBY2.out.size
  clear hnY2 fg0 fg1 fg2 fg3 fq0 c2
  go_wp2_with (refine Stop.out (p := wpList _ _ _ [{ dst := _, op := .store 33 _ _, type := _, pos := _, after := _, guard := _ }] _ _) ?_)
  constructor
  refine told_at (X := blkOf wp p) (Y := blkOf kp p) HAY2.out HGY2.out (Kept.of_below HBY2.out) (codeR 7) (by omega) (by omega) rfl rfl rfl rfl rfl ?_
  intro Z HT
  go_wp2_with fail
  refine bodyPost_ret (ret_resp rfl rfl HT.out.resp) rfl ?_
  exact ⟨_, by rw [HE.out]; first | done | rfl, by rw [HE.out]; exact HT.out.gr, HT.out.kept⟩
 ·have HE := Lib.hid (trade_full hkk he (by decide))
  have hf' : kn ≤ 38 := by have := HKn.out; omega
  obtain ⟨k2, hk2, _, _⟩ := keyIx_some h2
  have J1 := Lib.hid (keyIx_none h1)
  have J2 := Lib.hid hk2
  clear he h1 h2 hk2
  go_enter Tryz.func168, Tryz.ntmps168
  go_upto_region 1 with fail
  rw [← HX0.out, ← HSe.out]
  have fg0 : ∀ u : Ext X, u.w.cell? ⟨p, 0, none⟩ = some (.int .i64 g.now) := fun u => u.cell (HGX.out.row.cell 0)
  have fg1 : ∀ u : Ext X, u.w.cell? ⟨p, 1, none⟩ = some (.slice wp wn wc) := fun u => u.cell (HGX.out.row.cell 1)
  have fg2 : ∀ u : Ext X, u.w.cell? ⟨p, 2, none⟩ = some (.slice kp kn kc) := fun u => u.cell (HGX.out.row.cell 2)
  have fg3 : ∀ u : Ext X, u.w.cell? ⟨p, 3, none⟩ = some (.slice dp dn dc) := fun u => u.cell (HGX.out.row.cell 3)
  have fq0 : ∀ u : Ext X, u.w.cell? ⟨s, 0, none⟩ = some (.int .i64 r.no) := fun u => u.cell (HQX.out.cell 0)
  have fq1 : ∀ u : Ext X, u.w.cell? ⟨s, 1, none⟩ = some (.int .i64 r.kind) := fun u => u.cell (HQX.out.cell 1)
  have fq2 : ∀ u : Ext X, u.w.cell? ⟨s, 2, none⟩ = some (.int .i64 r.client) := fun u => u.cell (HQX.out.cell 2)
  have fq3 : ∀ u : Ext X, u.w.cell? ⟨s, 3, none⟩ = some (.int .i64 r.code) := fun u => u.cell (HQX.out.cell 3)
  have fq4 : ∀ u : Ext X, u.w.cell? ⟨s, 4, none⟩ = some (.int .i64 r.token) := fun u => u.cell (HQX.out.cell 4)
  have fq5 : ∀ u : Ext X, u.w.cell? ⟨s, 5, none⟩ = some (.string r.proof) := fun u => u.cell (HQX.out.cell 5)
  have fq6 : ∀ u : Ext X, u.w.cell? ⟨s, 6, none⟩ = some (.int .i64 r.upTo) := fun u => u.cell (HQX.out.cell 6)
  go_wp2_with fail
  refine ext_region X (by kernel_rfl) (by kernel_rfl) (Below.refl _ _) ?_
  repeat (go_big_quiet_step ((go_at_call 170; rw [← HE0.out, ← HRQ.out]; exact calls_ext (found_at (HGX.out.later (Ext.below _)).isIn HSm.out hp40 HFI.out))))
  refine wpQuiet_nil ?_
  intro Y hnY
  have HBY := Lib.hid (below_call HBX.out hnY)
  have HGY := Lib.hid (HGX.out.later hnY)
  have HQY := Lib.hid (HQX.out.below hnY HQX.out.lt)
  have HAY := Lib.hid (HAX.out.below hnY HAX.out.lt)
  have hzY := HBY.out.size
  clear hnY fg0 fg1 fg2 fg3 fq0 fq1 fq2 fq3 fq4 fq5 fq6
  have c2 : Y.cell? ⟨p, 2, none⟩ = some (.slice kp kn kc) := HGY.out.row.cell 2
  have fg0 : ∀ u : Ext Y, u.w.cell? ⟨p, 0, none⟩ = some (.int .i64 g.now) := fun u => u.cell (HGY.out.row.cell 0)
  have fg1 : ∀ u : Ext Y, u.w.cell? ⟨p, 1, none⟩ = some (.slice wp wn wc) := fun u => u.cell (HGY.out.row.cell 1)
  have fg2 : ∀ u : Ext Y, u.w.cell? ⟨p, 2, none⟩ = some (.slice kp kn kc) := fun u => u.cell (HGY.out.row.cell 2)
  have fg3 : ∀ u : Ext Y, u.w.cell? ⟨p, 3, none⟩ = some (.slice dp dn dc) := fun u => u.cell (HGY.out.row.cell 3)
  have fq0 : ∀ u : Ext Y, u.w.cell? ⟨s, 0, none⟩ = some (.int .i64 r.no) := fun u => u.cell (HQY.out.cell 0)
  go_wp2_with fail
  refine ext_region Y (by kernel_rfl) (by kernel_rfl) (Below.refl _ _) ?_
  repeat (go_big_quiet_step (first | (go_at_call 92; rw [← HE0.out]; exact calls_ext (key_at HKn.out (HGY.out.later (Ext.below _)).isIn.2.2.1 (by omega) J1.out)) | (go_at_call 92; rw [← HE0.out]; exact calls_ext (key_at HKn.out (HGY.out.later (Ext.below _)).isIn.2.2.1 (by omega) J2.out))))
  refine wpQuiet_nil ?_
  intro Y2 hnY2
  have HBY2 := Lib.hid (below_call HBY.out hnY2)
  have HGY2 := Lib.hid (HGY.out.later hnY2)
  have HQY2 := Lib.hid (HQY.out.below hnY2 HQY.out.lt)
  have HAY2 := Lib.hid (HAY.out.below hnY2 HAY.out.lt)
  have hzY2 := HBY2.out.size
  clear hnY2 fg0 fg1 fg2 fg3 fq0 c2
  go_wp2_with (refine Stop.out (p := wpList _ _ _ [{ dst := _, op := .store 33 _ _, type := _, pos := _, after := _, guard := _ }] _ _) ?_)
  constructor
  refine told_at (X := blkOf wp p) (Y := blkOf kp p) HAY2.out HGY2.out (Kept.of_below HBY2.out) (codeR 7) (by omega) (by omega) rfl rfl rfl rfl rfl ?_
  intro Z HT
  go_wp2_with fail
  refine bodyPost_ret (ret_resp rfl rfl HT.out.resp) rfl ?_
  exact ⟨_, by rw [HE.out]; first | done | rfl, by rw [HE.out]; exact HT.out.gr, HT.out.kept⟩
 ·have hf' : kn ≤ 38 := by have := HKn.out; omega
  have J1 := Lib.hid (keyIx_none h1)
  have J2 := Lib.hid (keyIx_none h2)
  have HRo := Lib.hid he
  clear h1 h2 he hf
  rcases hkk with hk2 | hk3
  ·have e2 : (r.kind == 2) = true := by simpa using hk2
   cases hwf : wordFor g r with
   | none =>
    have HE : Hid (doD g r = (g, codeR 6)) := Lib.hid (by rw [trade_red hk2]; unfold redeemD; rw [if_pos HRo.out, hwf])
    have hvn : v < 0 := by have h := HFI.out; unfold foundIx at h; rw [if_pos hk2, hwf] at h; simp at h; omega
    clear hk2 hwf
    go_enter Tryz.func168, Tryz.ntmps168
    go_upto_region 1 with fail
    rw [← HX0.out, ← HSe.out]
    have fg0 : ∀ u : Ext X, u.w.cell? ⟨p, 0, none⟩ = some (.int .i64 g.now) := fun u => u.cell (HGX.out.row.cell 0)
    have fg1 : ∀ u : Ext X, u.w.cell? ⟨p, 1, none⟩ = some (.slice wp wn wc) := fun u => u.cell (HGX.out.row.cell 1)
    have fg2 : ∀ u : Ext X, u.w.cell? ⟨p, 2, none⟩ = some (.slice kp kn kc) := fun u => u.cell (HGX.out.row.cell 2)
    have fg3 : ∀ u : Ext X, u.w.cell? ⟨p, 3, none⟩ = some (.slice dp dn dc) := fun u => u.cell (HGX.out.row.cell 3)
    have fq0 : ∀ u : Ext X, u.w.cell? ⟨s, 0, none⟩ = some (.int .i64 r.no) := fun u => u.cell (HQX.out.cell 0)
    have fq1 : ∀ u : Ext X, u.w.cell? ⟨s, 1, none⟩ = some (.int .i64 r.kind) := fun u => u.cell (HQX.out.cell 1)
    have fq2 : ∀ u : Ext X, u.w.cell? ⟨s, 2, none⟩ = some (.int .i64 r.client) := fun u => u.cell (HQX.out.cell 2)
    have fq3 : ∀ u : Ext X, u.w.cell? ⟨s, 3, none⟩ = some (.int .i64 r.code) := fun u => u.cell (HQX.out.cell 3)
    have fq4 : ∀ u : Ext X, u.w.cell? ⟨s, 4, none⟩ = some (.int .i64 r.token) := fun u => u.cell (HQX.out.cell 4)
    have fq5 : ∀ u : Ext X, u.w.cell? ⟨s, 5, none⟩ = some (.string r.proof) := fun u => u.cell (HQX.out.cell 5)
    have fq6 : ∀ u : Ext X, u.w.cell? ⟨s, 6, none⟩ = some (.int .i64 r.upTo) := fun u => u.cell (HQX.out.cell 6)
    go_wp2_with fail
    refine ext_region X (by kernel_rfl) (by kernel_rfl) (Below.refl _ _) ?_
    repeat (go_big_quiet_step ((go_at_call 170; rw [← HE0.out, ← HRQ.out]; exact calls_ext (found_at (HGX.out.later (Ext.below _)).isIn HSm.out hp40 HFI.out))))
    refine wpQuiet_nil ?_
    intro Y hnY
    have HBY := Lib.hid (below_call HBX.out hnY)
    have HGY := Lib.hid (HGX.out.later hnY)
    have HQY := Lib.hid (HQX.out.below hnY HQX.out.lt)
    have HAY := Lib.hid (HAX.out.below hnY HAX.out.lt)
    have hzY := HBY.out.size
    clear hnY fg0 fg1 fg2 fg3 fq0 fq1 fq2 fq3 fq4 fq5 fq6
    have c2 : Y.cell? ⟨p, 2, none⟩ = some (.slice kp kn kc) := HGY.out.row.cell 2
    have fg0 : ∀ u : Ext Y, u.w.cell? ⟨p, 0, none⟩ = some (.int .i64 g.now) := fun u => u.cell (HGY.out.row.cell 0)
    have fg1 : ∀ u : Ext Y, u.w.cell? ⟨p, 1, none⟩ = some (.slice wp wn wc) := fun u => u.cell (HGY.out.row.cell 1)
    have fg2 : ∀ u : Ext Y, u.w.cell? ⟨p, 2, none⟩ = some (.slice kp kn kc) := fun u => u.cell (HGY.out.row.cell 2)
    have fg3 : ∀ u : Ext Y, u.w.cell? ⟨p, 3, none⟩ = some (.slice dp dn dc) := fun u => u.cell (HGY.out.row.cell 3)
    have fq0 : ∀ u : Ext Y, u.w.cell? ⟨s, 0, none⟩ = some (.int .i64 r.no) := fun u => u.cell (HQY.out.cell 0)
    go_wp2_with fail
    refine ext_region Y (by kernel_rfl) (by kernel_rfl) (Below.refl _ _) ?_
    repeat (go_big_quiet_step (first | (go_at_call 92; rw [← HE0.out]; exact calls_ext (key_at HKn.out (HGY.out.later (Ext.below _)).isIn.2.2.1 (by omega) J1.out)) | (go_at_call 92; rw [← HE0.out]; exact calls_ext (key_at HKn.out (HGY.out.later (Ext.below _)).isIn.2.2.1 (by omega) J2.out))))
    refine wpQuiet_nil ?_
    intro Y2 hnY2
    have HBY2 := Lib.hid (below_call HBY.out hnY2)
    have HGY2 := Lib.hid (HGY.out.later hnY2)
    have HQY2 := Lib.hid (HQY.out.below hnY2 HQY.out.lt)
    have HAY2 := Lib.hid (HAY.out.below hnY2 HAY.out.lt)
    have hzY2 := HBY2.out.size
    clear hnY2 fg0 fg1 fg2 fg3 fq0 c2
    go_wp2_with (refine Stop.out (p := wpList _ _ _ [{ dst := _, op := .store 33 _ _, type := _, pos := _, after := _, guard := _ }] _ _) ?_)
    constructor
    refine told_at (X := blkOf wp p) (Y := blkOf kp p) HAY2.out HGY2.out (Kept.of_below HBY2.out) (codeR 6) (by omega) (by omega) rfl rfl rfl rfl rfl ?_
    intro Z HT
    go_wp2_with fail
    refine bodyPost_ret (ret_resp rfl rfl HT.out.resp) rfl ?_
    exact ⟨_, by rw [HE.out]; first | done | rfl, by rw [HE.out]; exact HT.out.gr, HT.out.kept⟩
   | some x =>
    have hwf' := hwf
    unfold wordFor at hwf'
    cases hfw : findW g.words r.code with
    | none => rw [hfw] at hwf'; cases hwf'
    | some y =>
     rw [hfw] at hwf'
     simp only at hwf'
     split at hwf'
     ·obtain rfl := Option.some.inj hwf'
      obtain ⟨k, hpl, hxk, hxn⟩ := wdPl_some hfw
      obtain rfl : v = (k : Nat) := by have h := HFI.out; unfold foundIx at h; rw [if_pos hk2, hwf] at h; simp only [Option.isSome_some, if_true] at h; omega
      have HXk := Lib.hid hxk
      have hkl := (List.getElem?_eq_some_iff.1 hxk).1
      have hkw : k < wn := by have := HWn.out; omega
      rcases HWx.out with ⟨_, _, _, h0⟩ | ⟨wb, hwp, hwb1, hwbl, hwb2, hwb3, hwb4⟩
      ·omega
      ·simp only at hwp
       subst hwp
       clear hwb1 hwb2 hwb3 hwb4
       have HRd : Hid (doD g r = if y.used then (killG g y.no, codeR 10) else if decide (y.till < g.now) || isDeadB g.dead y.no then (g, codeR 8) else (giveG ⟨g.now, useW g.words y.no, g.keys, g.dead⟩ r y.no, giveR r)) := Lib.hid (by rw [trade_red hk2]; unfold redeemD; rw [if_pos HRo.out, hwf]; simp only; rw [hxn])
       have hus := useW_set HWs.out hxk
       have HUW := Lib.hid hus
       clear hk2 hwf hfw hpl hxk hkl hus hwf' hxn
       cases hu : y.used with
       | true =>
        have HUs := Lib.hid hu
        have HE : Hid (doD g r = (killG g y.no, codeR 10)) := Lib.hid (by rw [HRd.out, hu]; rfl)
        clear hu
        rcases (show (y.till < g.now) ∨ (¬ y.till < g.now ∧ isDeadB g.dead y.no = true) ∨ (¬ y.till < g.now ∧ isDeadB g.dead y.no = false) by
         by_cases h : y.till < g.now
         ·exact .inl h
         ·cases h2 : isDeadB g.dead y.no
          ·exact .inr (.inr ⟨h, rfl⟩)
          ·exact .inr (.inl ⟨h, rfl⟩)) with hl | ⟨hl, hdd⟩ | ⟨hl, hdd⟩
        ·skip
         go_enter Tryz.func168, Tryz.ntmps168
         go_upto_region 1 with fail
         rw [← HX0.out, ← HSe.out]
         have fg0 : ∀ u : Ext X, u.w.cell? ⟨p, 0, none⟩ = some (.int .i64 g.now) := fun u => u.cell (HGX.out.row.cell 0)
         have fg1 : ∀ u : Ext X, u.w.cell? ⟨p, 1, none⟩ = some (.slice (some ⟨wb, 0, none⟩) wn wc) := fun u => u.cell (HGX.out.row.cell 1)
         have fg2 : ∀ u : Ext X, u.w.cell? ⟨p, 2, none⟩ = some (.slice kp kn kc) := fun u => u.cell (HGX.out.row.cell 2)
         have fg3 : ∀ u : Ext X, u.w.cell? ⟨p, 3, none⟩ = some (.slice dp dn dc) := fun u => u.cell (HGX.out.row.cell 3)
         have fq0 : ∀ u : Ext X, u.w.cell? ⟨s, 0, none⟩ = some (.int .i64 r.no) := fun u => u.cell (HQX.out.cell 0)
         have fq1 : ∀ u : Ext X, u.w.cell? ⟨s, 1, none⟩ = some (.int .i64 r.kind) := fun u => u.cell (HQX.out.cell 1)
         have fq2 : ∀ u : Ext X, u.w.cell? ⟨s, 2, none⟩ = some (.int .i64 r.client) := fun u => u.cell (HQX.out.cell 2)
         have fq3 : ∀ u : Ext X, u.w.cell? ⟨s, 3, none⟩ = some (.int .i64 r.code) := fun u => u.cell (HQX.out.cell 3)
         have fq4 : ∀ u : Ext X, u.w.cell? ⟨s, 4, none⟩ = some (.int .i64 r.token) := fun u => u.cell (HQX.out.cell 4)
         have fq5 : ∀ u : Ext X, u.w.cell? ⟨s, 5, none⟩ = some (.string r.proof) := fun u => u.cell (HQX.out.cell 5)
         have fq6 : ∀ u : Ext X, u.w.cell? ⟨s, 6, none⟩ = some (.int .i64 r.upTo) := fun u => u.cell (HQX.out.cell 6)
         go_wp2_with fail
         refine ext_region X (by kernel_rfl) (by kernel_rfl) (Below.refl _ _) ?_
         repeat (go_big_quiet_step ((go_at_call 170; rw [← HE0.out, ← HRQ.out]; exact calls_ext (found_at (HGX.out.later (Ext.below _)).isIn HSm.out hp40 HFI.out))))
         refine wpQuiet_nil ?_
         intro Y hnY
         have HBY := Lib.hid (below_call HBX.out hnY)
         have HGY := Lib.hid (HGX.out.later hnY)
         have HQY := Lib.hid (HQX.out.below hnY HQX.out.lt)
         have HAY := Lib.hid (HAX.out.below hnY HAX.out.lt)
         have hzY := HBY.out.size
         clear hnY fg0 fg1 fg2 fg3 fq0 fq1 fq2 fq3 fq4 fq5 fq6
         have c2 : Y.cell? ⟨p, 2, none⟩ = some (.slice kp kn kc) := HGY.out.row.cell 2
         have fg0 : ∀ u : Ext Y, u.w.cell? ⟨p, 0, none⟩ = some (.int .i64 g.now) := fun u => u.cell (HGY.out.row.cell 0)
         have fg1 : ∀ u : Ext Y, u.w.cell? ⟨p, 1, none⟩ = some (.slice (some ⟨wb, 0, none⟩) wn wc) := fun u => u.cell (HGY.out.row.cell 1)
         have fg2 : ∀ u : Ext Y, u.w.cell? ⟨p, 2, none⟩ = some (.slice kp kn kc) := fun u => u.cell (HGY.out.row.cell 2)
         have fg3 : ∀ u : Ext Y, u.w.cell? ⟨p, 3, none⟩ = some (.slice dp dn dc) := fun u => u.cell (HGY.out.row.cell 3)
         have fq0 : ∀ u : Ext Y, u.w.cell? ⟨s, 0, none⟩ = some (.int .i64 r.no) := fun u => u.cell (HQY.out.cell 0)
         go_wp2_with fail
         refine ext_region Y (by kernel_rfl) (by kernel_rfl) (Below.refl _ _) ?_
         repeat (go_big_quiet_step (first | (go_at_call 92; rw [← HE0.out]; exact calls_ext (key_at HKn.out (HGY.out.later (Ext.below _)).isIn.2.2.1 (by omega) J1.out)) | (go_at_call 92; rw [← HE0.out]; exact calls_ext (key_at HKn.out (HGY.out.later (Ext.below _)).isIn.2.2.1 (by omega) J2.out))))
         refine wpQuiet_nil ?_
         intro Y2 hnY2
         have HBY2 := Lib.hid (below_call HBY.out hnY2)
         have HGY2 := Lib.hid (HGY.out.later hnY2)
         have HQY2 := Lib.hid (HQY.out.below hnY2 HQY.out.lt)
         have HAY2 := Lib.hid (HAY.out.below hnY2 HAY.out.lt)
         have hzY2 := HBY2.out.size
         clear hnY2 fg0 fg1 fg2 fg3 fq0 c2
         have hcs := wd_cells (own_lat HGY2.out.words) HXk.out
         rw [Nat.zero_add] at hcs
         have HC0 := Lib.hid hcs.1
         have HC3 := Lib.hid hcs.2.2.2.1
         have HC4 : Hid (Y2.cell? ⟨wb, k * 5 + 4, none⟩ = some (.bool true)) := Lib.hid (by rw [← HUs.out]; exact hcs.2.2.2.2)
         clear hcs
         have pw1 : Y2.cell? ⟨p, 1, none⟩ = some (.slice (some ⟨wb, 0, none⟩) wn wc) := HGY2.out.row.cell 1
         have pq1 : Y2.cell? ⟨s, 1, none⟩ = some (.int .i64 r.kind) := HQY2.out.cell 1
         have fg0 : ∀ u : Ext Y2, u.w.cell? ⟨p, 0, none⟩ = some (.int .i64 g.now) := fun u => u.cell (HGY2.out.row.cell 0)
         have fg1 : ∀ u : Ext Y2, u.w.cell? ⟨p, 1, none⟩ = some (.slice (some ⟨wb, 0, none⟩) wn wc) := fun u => u.cell (HGY2.out.row.cell 1)
         have fg2 : ∀ u : Ext Y2, u.w.cell? ⟨p, 2, none⟩ = some (.slice kp kn kc) := fun u => u.cell (HGY2.out.row.cell 2)
         have fg3 : ∀ u : Ext Y2, u.w.cell? ⟨p, 3, none⟩ = some (.slice dp dn dc) := fun u => u.cell (HGY2.out.row.cell 3)
         have fe0 : ∀ u : Ext Y2, u.w.cell? ⟨wb, k * 5, none⟩ = some (.int .i64 y.no) := fun u => u.cell (HC0.out)
         have fe3 : ∀ u : Ext Y2, u.w.cell? ⟨wb, k * 5 + 3, none⟩ = some (.int .i64 y.till) := fun u => u.cell (HC3.out)
         have fe4 : ∀ u : Ext Y2, u.w.cell? ⟨wb, k * 5 + 4, none⟩ = some (.bool true) := fun u => u.cell (HC4.out)
         go_wp2_with fail
         refine ext_region Y2 (by kernel_rfl) (by kernel_rfl) (Below.refl _ _) ?_
         repeat (go_big_quiet_step (fail))
         refine wpQuiet_nil ?_
         intro Y3 hnY3
         have HBY3 := Lib.hid (below_call HBY2.out hnY3)
         have HGY3 := Lib.hid (HGY2.out.later hnY3)
         have HQY3 := Lib.hid (HQY2.out.below hnY3 HQY2.out.lt)
         have HAY3 := Lib.hid (HAY2.out.below hnY3 HAY2.out.lt)
         have hzY3 := HBY3.out.size
         clear hnY3 fg0 fg1 fg2 fg3 fe0 fe3 fe4 pw1 pq1
         go_wp2_with fail
         refine (kill_spec y.no HGY3.out (by omega)).mono ?_
         rintro e Y4 ⟨rfl, dp', dn', dc', hg4, hk4⟩
         have HGY4 := Lib.hid hg4
         have HAY4 := Lib.hid (HAY3.out.kept hk4 HAY3.out.lt (by omega) (by omega) (by omega))
         have HKY4 : Hid (Kept w.heap.size p (blkOf (some ⟨wb, 0, none⟩) p) (blkOf kp p) w Y4) := Lib.hid ((Kept.of_below HBY3.out).trans ⟨hk4.os, hk4.tape, hk4.output, hk4.size, fun i h1 h2 _ _ => hk4.block i (by have := HBY3.out.size; omega) h2 h2 h2⟩)
         clear hg4 hk4
         go_upto_region 20 with fail
         go_wp2_with (refine Stop.out (p := wpList _ _ _ [{ dst := _, op := .store 33 _ _, type := _, pos := _, after := _, guard := _ }] _ _) ?_)
         constructor
         refine told_at (X := blkOf (some ⟨wb, 0, none⟩) p) (Y := blkOf kp p) HAY4.out HGY4.out (HKY4.out) (codeR 10) (by omega) (by omega) rfl rfl rfl rfl rfl ?_
         intro Z HT
         go_wp2_with fail
         refine bodyPost_ret (ret_resp rfl rfl HT.out.resp) rfl ?_
         exact ⟨_, by rw [HE.out]; first | done | rfl, by rw [HE.out]; exact HT.out.gr, HT.out.kept⟩
        ·have HDd := Lib.hid hdd
         have hlb : decide (y.till < g.now) = false := decide_eq_false hl
         clear hdd
         go_enter Tryz.func168, Tryz.ntmps168
         go_upto_region 1 with fail
         rw [← HX0.out, ← HSe.out]
         have fg0 : ∀ u : Ext X, u.w.cell? ⟨p, 0, none⟩ = some (.int .i64 g.now) := fun u => u.cell (HGX.out.row.cell 0)
         have fg1 : ∀ u : Ext X, u.w.cell? ⟨p, 1, none⟩ = some (.slice (some ⟨wb, 0, none⟩) wn wc) := fun u => u.cell (HGX.out.row.cell 1)
         have fg2 : ∀ u : Ext X, u.w.cell? ⟨p, 2, none⟩ = some (.slice kp kn kc) := fun u => u.cell (HGX.out.row.cell 2)
         have fg3 : ∀ u : Ext X, u.w.cell? ⟨p, 3, none⟩ = some (.slice dp dn dc) := fun u => u.cell (HGX.out.row.cell 3)
         have fq0 : ∀ u : Ext X, u.w.cell? ⟨s, 0, none⟩ = some (.int .i64 r.no) := fun u => u.cell (HQX.out.cell 0)
         have fq1 : ∀ u : Ext X, u.w.cell? ⟨s, 1, none⟩ = some (.int .i64 r.kind) := fun u => u.cell (HQX.out.cell 1)
         have fq2 : ∀ u : Ext X, u.w.cell? ⟨s, 2, none⟩ = some (.int .i64 r.client) := fun u => u.cell (HQX.out.cell 2)
         have fq3 : ∀ u : Ext X, u.w.cell? ⟨s, 3, none⟩ = some (.int .i64 r.code) := fun u => u.cell (HQX.out.cell 3)
         have fq4 : ∀ u : Ext X, u.w.cell? ⟨s, 4, none⟩ = some (.int .i64 r.token) := fun u => u.cell (HQX.out.cell 4)
         have fq5 : ∀ u : Ext X, u.w.cell? ⟨s, 5, none⟩ = some (.string r.proof) := fun u => u.cell (HQX.out.cell 5)
         have fq6 : ∀ u : Ext X, u.w.cell? ⟨s, 6, none⟩ = some (.int .i64 r.upTo) := fun u => u.cell (HQX.out.cell 6)
         go_wp2_with fail
         refine ext_region X (by kernel_rfl) (by kernel_rfl) (Below.refl _ _) ?_
         repeat (go_big_quiet_step ((go_at_call 170; rw [← HE0.out, ← HRQ.out]; exact calls_ext (found_at (HGX.out.later (Ext.below _)).isIn HSm.out hp40 HFI.out))))
         refine wpQuiet_nil ?_
         intro Y hnY
         have HBY := Lib.hid (below_call HBX.out hnY)
         have HGY := Lib.hid (HGX.out.later hnY)
         have HQY := Lib.hid (HQX.out.below hnY HQX.out.lt)
         have HAY := Lib.hid (HAX.out.below hnY HAX.out.lt)
         have hzY := HBY.out.size
         clear hnY fg0 fg1 fg2 fg3 fq0 fq1 fq2 fq3 fq4 fq5 fq6
         have c2 : Y.cell? ⟨p, 2, none⟩ = some (.slice kp kn kc) := HGY.out.row.cell 2
         have fg0 : ∀ u : Ext Y, u.w.cell? ⟨p, 0, none⟩ = some (.int .i64 g.now) := fun u => u.cell (HGY.out.row.cell 0)
         have fg1 : ∀ u : Ext Y, u.w.cell? ⟨p, 1, none⟩ = some (.slice (some ⟨wb, 0, none⟩) wn wc) := fun u => u.cell (HGY.out.row.cell 1)
         have fg2 : ∀ u : Ext Y, u.w.cell? ⟨p, 2, none⟩ = some (.slice kp kn kc) := fun u => u.cell (HGY.out.row.cell 2)
         have fg3 : ∀ u : Ext Y, u.w.cell? ⟨p, 3, none⟩ = some (.slice dp dn dc) := fun u => u.cell (HGY.out.row.cell 3)
         have fq0 : ∀ u : Ext Y, u.w.cell? ⟨s, 0, none⟩ = some (.int .i64 r.no) := fun u => u.cell (HQY.out.cell 0)
         go_wp2_with fail
         refine ext_region Y (by kernel_rfl) (by kernel_rfl) (Below.refl _ _) ?_
         repeat (go_big_quiet_step (first | (go_at_call 92; rw [← HE0.out]; exact calls_ext (key_at HKn.out (HGY.out.later (Ext.below _)).isIn.2.2.1 (by omega) J1.out)) | (go_at_call 92; rw [← HE0.out]; exact calls_ext (key_at HKn.out (HGY.out.later (Ext.below _)).isIn.2.2.1 (by omega) J2.out))))
         refine wpQuiet_nil ?_
         intro Y2 hnY2
         have HBY2 := Lib.hid (below_call HBY.out hnY2)
         have HGY2 := Lib.hid (HGY.out.later hnY2)
         have HQY2 := Lib.hid (HQY.out.below hnY2 HQY.out.lt)
         have HAY2 := Lib.hid (HAY.out.below hnY2 HAY.out.lt)
         have hzY2 := HBY2.out.size
         clear hnY2 fg0 fg1 fg2 fg3 fq0 c2
         have hcs := wd_cells (own_lat HGY2.out.words) HXk.out
         rw [Nat.zero_add] at hcs
         have HC0 := Lib.hid hcs.1
         have HC3 := Lib.hid hcs.2.2.2.1
         have HC4 : Hid (Y2.cell? ⟨wb, k * 5 + 4, none⟩ = some (.bool true)) := Lib.hid (by rw [← HUs.out]; exact hcs.2.2.2.2)
         clear hcs
         have pw1 : Y2.cell? ⟨p, 1, none⟩ = some (.slice (some ⟨wb, 0, none⟩) wn wc) := HGY2.out.row.cell 1
         have pq1 : Y2.cell? ⟨s, 1, none⟩ = some (.int .i64 r.kind) := HQY2.out.cell 1
         have fg0 : ∀ u : Ext Y2, u.w.cell? ⟨p, 0, none⟩ = some (.int .i64 g.now) := fun u => u.cell (HGY2.out.row.cell 0)
         have fg1 : ∀ u : Ext Y2, u.w.cell? ⟨p, 1, none⟩ = some (.slice (some ⟨wb, 0, none⟩) wn wc) := fun u => u.cell (HGY2.out.row.cell 1)
         have fg2 : ∀ u : Ext Y2, u.w.cell? ⟨p, 2, none⟩ = some (.slice kp kn kc) := fun u => u.cell (HGY2.out.row.cell 2)
         have fg3 : ∀ u : Ext Y2, u.w.cell? ⟨p, 3, none⟩ = some (.slice dp dn dc) := fun u => u.cell (HGY2.out.row.cell 3)
         have fe0 : ∀ u : Ext Y2, u.w.cell? ⟨wb, k * 5, none⟩ = some (.int .i64 y.no) := fun u => u.cell (HC0.out)
         have fe3 : ∀ u : Ext Y2, u.w.cell? ⟨wb, k * 5 + 3, none⟩ = some (.int .i64 y.till) := fun u => u.cell (HC3.out)
         have fe4 : ∀ u : Ext Y2, u.w.cell? ⟨wb, k * 5 + 4, none⟩ = some (.bool true) := fun u => u.cell (HC4.out)
         go_wp2_with fail
         refine ext_region Y2 (by kernel_rfl) (by kernel_rfl) (Below.refl _ _) ?_
         repeat (go_big_quiet_step ((go_at_call 118; rw [← HE0.out]; exact calls_ext (dead_at HDn.out (HGY2.out.later (Ext.below _)).isIn.2.2.2 (by omega) HDd.out))))
         refine wpQuiet_nil ?_
         intro Y3 hnY3
         have HBY3 := Lib.hid (below_call HBY2.out hnY3)
         have HGY3 := Lib.hid (HGY2.out.later hnY3)
         have HQY3 := Lib.hid (HQY2.out.below hnY3 HQY2.out.lt)
         have HAY3 := Lib.hid (HAY2.out.below hnY3 HAY2.out.lt)
         have hzY3 := HBY3.out.size
         clear hnY3 fg0 fg1 fg2 fg3 fe0 fe3 fe4 pw1 pq1
         go_wp2_with fail
         refine (kill_spec y.no HGY3.out (by omega)).mono ?_
         rintro e Y4 ⟨rfl, dp', dn', dc', hg4, hk4⟩
         have HGY4 := Lib.hid hg4
         have HAY4 := Lib.hid (HAY3.out.kept hk4 HAY3.out.lt (by omega) (by omega) (by omega))
         have HKY4 : Hid (Kept w.heap.size p (blkOf (some ⟨wb, 0, none⟩) p) (blkOf kp p) w Y4) := Lib.hid ((Kept.of_below HBY3.out).trans ⟨hk4.os, hk4.tape, hk4.output, hk4.size, fun i h1 h2 _ _ => hk4.block i (by have := HBY3.out.size; omega) h2 h2 h2⟩)
         clear hg4 hk4
         go_upto_region 20 with fail
         go_wp2_with (refine Stop.out (p := wpList _ _ _ [{ dst := _, op := .store 33 _ _, type := _, pos := _, after := _, guard := _ }] _ _) ?_)
         constructor
         refine told_at (X := blkOf (some ⟨wb, 0, none⟩) p) (Y := blkOf kp p) HAY4.out HGY4.out (HKY4.out) (codeR 10) (by omega) (by omega) rfl rfl rfl rfl rfl ?_
         intro Z HT
         go_wp2_with fail
         refine bodyPost_ret (ret_resp rfl rfl HT.out.resp) rfl ?_
         exact ⟨_, by rw [HE.out]; first | done | rfl, by rw [HE.out]; exact HT.out.gr, HT.out.kept⟩
        ·have HDd := Lib.hid hdd
         have hlb : decide (y.till < g.now) = false := decide_eq_false hl
         clear hdd
         go_enter Tryz.func168, Tryz.ntmps168
         go_upto_region 1 with fail
         rw [← HX0.out, ← HSe.out]
         have fg0 : ∀ u : Ext X, u.w.cell? ⟨p, 0, none⟩ = some (.int .i64 g.now) := fun u => u.cell (HGX.out.row.cell 0)
         have fg1 : ∀ u : Ext X, u.w.cell? ⟨p, 1, none⟩ = some (.slice (some ⟨wb, 0, none⟩) wn wc) := fun u => u.cell (HGX.out.row.cell 1)
         have fg2 : ∀ u : Ext X, u.w.cell? ⟨p, 2, none⟩ = some (.slice kp kn kc) := fun u => u.cell (HGX.out.row.cell 2)
         have fg3 : ∀ u : Ext X, u.w.cell? ⟨p, 3, none⟩ = some (.slice dp dn dc) := fun u => u.cell (HGX.out.row.cell 3)
         have fq0 : ∀ u : Ext X, u.w.cell? ⟨s, 0, none⟩ = some (.int .i64 r.no) := fun u => u.cell (HQX.out.cell 0)
         have fq1 : ∀ u : Ext X, u.w.cell? ⟨s, 1, none⟩ = some (.int .i64 r.kind) := fun u => u.cell (HQX.out.cell 1)
         have fq2 : ∀ u : Ext X, u.w.cell? ⟨s, 2, none⟩ = some (.int .i64 r.client) := fun u => u.cell (HQX.out.cell 2)
         have fq3 : ∀ u : Ext X, u.w.cell? ⟨s, 3, none⟩ = some (.int .i64 r.code) := fun u => u.cell (HQX.out.cell 3)
         have fq4 : ∀ u : Ext X, u.w.cell? ⟨s, 4, none⟩ = some (.int .i64 r.token) := fun u => u.cell (HQX.out.cell 4)
         have fq5 : ∀ u : Ext X, u.w.cell? ⟨s, 5, none⟩ = some (.string r.proof) := fun u => u.cell (HQX.out.cell 5)
         have fq6 : ∀ u : Ext X, u.w.cell? ⟨s, 6, none⟩ = some (.int .i64 r.upTo) := fun u => u.cell (HQX.out.cell 6)
         go_wp2_with fail
         refine ext_region X (by kernel_rfl) (by kernel_rfl) (Below.refl _ _) ?_
         repeat (go_big_quiet_step ((go_at_call 170; rw [← HE0.out, ← HRQ.out]; exact calls_ext (found_at (HGX.out.later (Ext.below _)).isIn HSm.out hp40 HFI.out))))
         refine wpQuiet_nil ?_
         intro Y hnY
         have HBY := Lib.hid (below_call HBX.out hnY)
         have HGY := Lib.hid (HGX.out.later hnY)
         have HQY := Lib.hid (HQX.out.below hnY HQX.out.lt)
         have HAY := Lib.hid (HAX.out.below hnY HAX.out.lt)
         have hzY := HBY.out.size
         clear hnY fg0 fg1 fg2 fg3 fq0 fq1 fq2 fq3 fq4 fq5 fq6
         have c2 : Y.cell? ⟨p, 2, none⟩ = some (.slice kp kn kc) := HGY.out.row.cell 2
         have fg0 : ∀ u : Ext Y, u.w.cell? ⟨p, 0, none⟩ = some (.int .i64 g.now) := fun u => u.cell (HGY.out.row.cell 0)
         have fg1 : ∀ u : Ext Y, u.w.cell? ⟨p, 1, none⟩ = some (.slice (some ⟨wb, 0, none⟩) wn wc) := fun u => u.cell (HGY.out.row.cell 1)
         have fg2 : ∀ u : Ext Y, u.w.cell? ⟨p, 2, none⟩ = some (.slice kp kn kc) := fun u => u.cell (HGY.out.row.cell 2)
         have fg3 : ∀ u : Ext Y, u.w.cell? ⟨p, 3, none⟩ = some (.slice dp dn dc) := fun u => u.cell (HGY.out.row.cell 3)
         have fq0 : ∀ u : Ext Y, u.w.cell? ⟨s, 0, none⟩ = some (.int .i64 r.no) := fun u => u.cell (HQY.out.cell 0)
         go_wp2_with fail
         refine ext_region Y (by kernel_rfl) (by kernel_rfl) (Below.refl _ _) ?_
         repeat (go_big_quiet_step (first | (go_at_call 92; rw [← HE0.out]; exact calls_ext (key_at HKn.out (HGY.out.later (Ext.below _)).isIn.2.2.1 (by omega) J1.out)) | (go_at_call 92; rw [← HE0.out]; exact calls_ext (key_at HKn.out (HGY.out.later (Ext.below _)).isIn.2.2.1 (by omega) J2.out))))
         refine wpQuiet_nil ?_
         intro Y2 hnY2
         have HBY2 := Lib.hid (below_call HBY.out hnY2)
         have HGY2 := Lib.hid (HGY.out.later hnY2)
         have HQY2 := Lib.hid (HQY.out.below hnY2 HQY.out.lt)
         have HAY2 := Lib.hid (HAY.out.below hnY2 HAY.out.lt)
         have hzY2 := HBY2.out.size
         clear hnY2 fg0 fg1 fg2 fg3 fq0 c2
         have hcs := wd_cells (own_lat HGY2.out.words) HXk.out
         rw [Nat.zero_add] at hcs
         have HC0 := Lib.hid hcs.1
         have HC3 := Lib.hid hcs.2.2.2.1
         have HC4 : Hid (Y2.cell? ⟨wb, k * 5 + 4, none⟩ = some (.bool true)) := Lib.hid (by rw [← HUs.out]; exact hcs.2.2.2.2)
         clear hcs
         have pw1 : Y2.cell? ⟨p, 1, none⟩ = some (.slice (some ⟨wb, 0, none⟩) wn wc) := HGY2.out.row.cell 1
         have pq1 : Y2.cell? ⟨s, 1, none⟩ = some (.int .i64 r.kind) := HQY2.out.cell 1
         have fg0 : ∀ u : Ext Y2, u.w.cell? ⟨p, 0, none⟩ = some (.int .i64 g.now) := fun u => u.cell (HGY2.out.row.cell 0)
         have fg1 : ∀ u : Ext Y2, u.w.cell? ⟨p, 1, none⟩ = some (.slice (some ⟨wb, 0, none⟩) wn wc) := fun u => u.cell (HGY2.out.row.cell 1)
         have fg2 : ∀ u : Ext Y2, u.w.cell? ⟨p, 2, none⟩ = some (.slice kp kn kc) := fun u => u.cell (HGY2.out.row.cell 2)
         have fg3 : ∀ u : Ext Y2, u.w.cell? ⟨p, 3, none⟩ = some (.slice dp dn dc) := fun u => u.cell (HGY2.out.row.cell 3)
         have fe0 : ∀ u : Ext Y2, u.w.cell? ⟨wb, k * 5, none⟩ = some (.int .i64 y.no) := fun u => u.cell (HC0.out)
         have fe3 : ∀ u : Ext Y2, u.w.cell? ⟨wb, k * 5 + 3, none⟩ = some (.int .i64 y.till) := fun u => u.cell (HC3.out)
         have fe4 : ∀ u : Ext Y2, u.w.cell? ⟨wb, k * 5 + 4, none⟩ = some (.bool true) := fun u => u.cell (HC4.out)
         go_wp2_with fail
         refine ext_region Y2 (by kernel_rfl) (by kernel_rfl) (Below.refl _ _) ?_
         repeat (go_big_quiet_step ((go_at_call 118; rw [← HE0.out]; exact calls_ext (dead_at HDn.out (HGY2.out.later (Ext.below _)).isIn.2.2.2 (by omega) HDd.out))))
         refine wpQuiet_nil ?_
         intro Y3 hnY3
         have HBY3 := Lib.hid (below_call HBY2.out hnY3)
         have HGY3 := Lib.hid (HGY2.out.later hnY3)
         have HQY3 := Lib.hid (HQY2.out.below hnY3 HQY2.out.lt)
         have HAY3 := Lib.hid (HAY2.out.below hnY3 HAY2.out.lt)
         have hzY3 := HBY3.out.size
         clear hnY3 fg0 fg1 fg2 fg3 fe0 fe3 fe4 pw1 pq1
         go_wp2_with fail
         refine (kill_spec y.no HGY3.out (by omega)).mono ?_
         rintro e Y4 ⟨rfl, dp', dn', dc', hg4, hk4⟩
         have HGY4 := Lib.hid hg4
         have HAY4 := Lib.hid (HAY3.out.kept hk4 HAY3.out.lt (by omega) (by omega) (by omega))
         have HKY4 : Hid (Kept w.heap.size p (blkOf (some ⟨wb, 0, none⟩) p) (blkOf kp p) w Y4) := Lib.hid ((Kept.of_below HBY3.out).trans ⟨hk4.os, hk4.tape, hk4.output, hk4.size, fun i h1 h2 _ _ => hk4.block i (by have := HBY3.out.size; omega) h2 h2 h2⟩)
         clear hg4 hk4
         go_upto_region 20 with fail
         go_wp2_with (refine Stop.out (p := wpList _ _ _ [{ dst := _, op := .store 33 _ _, type := _, pos := _, after := _, guard := _ }] _ _) ?_)
         constructor
         refine told_at (X := blkOf (some ⟨wb, 0, none⟩) p) (Y := blkOf kp p) HAY4.out HGY4.out (HKY4.out) (codeR 10) (by omega) (by omega) rfl rfl rfl rfl rfl ?_
         intro Z HT
         go_wp2_with fail
         refine bodyPost_ret (ret_resp rfl rfl HT.out.resp) rfl ?_
         exact ⟨_, by rw [HE.out]; first | done | rfl, by rw [HE.out]; exact HT.out.gr, HT.out.kept⟩
       | false =>
        have HUs := Lib.hid hu
        rcases (show (y.till < g.now) ∨ (¬ y.till < g.now ∧ isDeadB g.dead y.no = true) ∨ (¬ y.till < g.now ∧ isDeadB g.dead y.no = false) by
         by_cases h : y.till < g.now
         ·exact .inl h
         ·cases h2 : isDeadB g.dead y.no
          ·exact .inr (.inr ⟨h, rfl⟩)
          ·exact .inr (.inl ⟨h, rfl⟩)) with hl | ⟨hl, hdd⟩ | ⟨hl, hdd⟩
        ·have HE : Hid (doD g r = (g, codeR 8)) := Lib.hid (by rw [HRd.out, hu, if_neg (by simp), decide_eq_true hl]; rfl)
         clear hu
         go_enter Tryz.func168, Tryz.ntmps168
         go_upto_region 1 with fail
         rw [← HX0.out, ← HSe.out]
         have fg0 : ∀ u : Ext X, u.w.cell? ⟨p, 0, none⟩ = some (.int .i64 g.now) := fun u => u.cell (HGX.out.row.cell 0)
         have fg1 : ∀ u : Ext X, u.w.cell? ⟨p, 1, none⟩ = some (.slice (some ⟨wb, 0, none⟩) wn wc) := fun u => u.cell (HGX.out.row.cell 1)
         have fg2 : ∀ u : Ext X, u.w.cell? ⟨p, 2, none⟩ = some (.slice kp kn kc) := fun u => u.cell (HGX.out.row.cell 2)
         have fg3 : ∀ u : Ext X, u.w.cell? ⟨p, 3, none⟩ = some (.slice dp dn dc) := fun u => u.cell (HGX.out.row.cell 3)
         have fq0 : ∀ u : Ext X, u.w.cell? ⟨s, 0, none⟩ = some (.int .i64 r.no) := fun u => u.cell (HQX.out.cell 0)
         have fq1 : ∀ u : Ext X, u.w.cell? ⟨s, 1, none⟩ = some (.int .i64 r.kind) := fun u => u.cell (HQX.out.cell 1)
         have fq2 : ∀ u : Ext X, u.w.cell? ⟨s, 2, none⟩ = some (.int .i64 r.client) := fun u => u.cell (HQX.out.cell 2)
         have fq3 : ∀ u : Ext X, u.w.cell? ⟨s, 3, none⟩ = some (.int .i64 r.code) := fun u => u.cell (HQX.out.cell 3)
         have fq4 : ∀ u : Ext X, u.w.cell? ⟨s, 4, none⟩ = some (.int .i64 r.token) := fun u => u.cell (HQX.out.cell 4)
         have fq5 : ∀ u : Ext X, u.w.cell? ⟨s, 5, none⟩ = some (.string r.proof) := fun u => u.cell (HQX.out.cell 5)
         have fq6 : ∀ u : Ext X, u.w.cell? ⟨s, 6, none⟩ = some (.int .i64 r.upTo) := fun u => u.cell (HQX.out.cell 6)
         go_wp2_with fail
         refine ext_region X (by kernel_rfl) (by kernel_rfl) (Below.refl _ _) ?_
         repeat (go_big_quiet_step ((go_at_call 170; rw [← HE0.out, ← HRQ.out]; exact calls_ext (found_at (HGX.out.later (Ext.below _)).isIn HSm.out hp40 HFI.out))))
         refine wpQuiet_nil ?_
         intro Y hnY
         have HBY := Lib.hid (below_call HBX.out hnY)
         have HGY := Lib.hid (HGX.out.later hnY)
         have HQY := Lib.hid (HQX.out.below hnY HQX.out.lt)
         have HAY := Lib.hid (HAX.out.below hnY HAX.out.lt)
         have hzY := HBY.out.size
         clear hnY fg0 fg1 fg2 fg3 fq0 fq1 fq2 fq3 fq4 fq5 fq6
         have c2 : Y.cell? ⟨p, 2, none⟩ = some (.slice kp kn kc) := HGY.out.row.cell 2
         have fg0 : ∀ u : Ext Y, u.w.cell? ⟨p, 0, none⟩ = some (.int .i64 g.now) := fun u => u.cell (HGY.out.row.cell 0)
         have fg1 : ∀ u : Ext Y, u.w.cell? ⟨p, 1, none⟩ = some (.slice (some ⟨wb, 0, none⟩) wn wc) := fun u => u.cell (HGY.out.row.cell 1)
         have fg2 : ∀ u : Ext Y, u.w.cell? ⟨p, 2, none⟩ = some (.slice kp kn kc) := fun u => u.cell (HGY.out.row.cell 2)
         have fg3 : ∀ u : Ext Y, u.w.cell? ⟨p, 3, none⟩ = some (.slice dp dn dc) := fun u => u.cell (HGY.out.row.cell 3)
         have fq0 : ∀ u : Ext Y, u.w.cell? ⟨s, 0, none⟩ = some (.int .i64 r.no) := fun u => u.cell (HQY.out.cell 0)
         go_wp2_with fail
         refine ext_region Y (by kernel_rfl) (by kernel_rfl) (Below.refl _ _) ?_
         repeat (go_big_quiet_step (first | (go_at_call 92; rw [← HE0.out]; exact calls_ext (key_at HKn.out (HGY.out.later (Ext.below _)).isIn.2.2.1 (by omega) J1.out)) | (go_at_call 92; rw [← HE0.out]; exact calls_ext (key_at HKn.out (HGY.out.later (Ext.below _)).isIn.2.2.1 (by omega) J2.out))))
         refine wpQuiet_nil ?_
         intro Y2 hnY2
         have HBY2 := Lib.hid (below_call HBY.out hnY2)
         have HGY2 := Lib.hid (HGY.out.later hnY2)
         have HQY2 := Lib.hid (HQY.out.below hnY2 HQY.out.lt)
         have HAY2 := Lib.hid (HAY.out.below hnY2 HAY.out.lt)
         have hzY2 := HBY2.out.size
         clear hnY2 fg0 fg1 fg2 fg3 fq0 c2
         have hcs := wd_cells (own_lat HGY2.out.words) HXk.out
         rw [Nat.zero_add] at hcs
         have HC0 := Lib.hid hcs.1
         have HC3 := Lib.hid hcs.2.2.2.1
         have HC4 : Hid (Y2.cell? ⟨wb, k * 5 + 4, none⟩ = some (.bool false)) := Lib.hid (by rw [← HUs.out]; exact hcs.2.2.2.2)
         clear hcs
         have pw1 : Y2.cell? ⟨p, 1, none⟩ = some (.slice (some ⟨wb, 0, none⟩) wn wc) := HGY2.out.row.cell 1
         have pq1 : Y2.cell? ⟨s, 1, none⟩ = some (.int .i64 r.kind) := HQY2.out.cell 1
         have fg0 : ∀ u : Ext Y2, u.w.cell? ⟨p, 0, none⟩ = some (.int .i64 g.now) := fun u => u.cell (HGY2.out.row.cell 0)
         have fg1 : ∀ u : Ext Y2, u.w.cell? ⟨p, 1, none⟩ = some (.slice (some ⟨wb, 0, none⟩) wn wc) := fun u => u.cell (HGY2.out.row.cell 1)
         have fg2 : ∀ u : Ext Y2, u.w.cell? ⟨p, 2, none⟩ = some (.slice kp kn kc) := fun u => u.cell (HGY2.out.row.cell 2)
         have fg3 : ∀ u : Ext Y2, u.w.cell? ⟨p, 3, none⟩ = some (.slice dp dn dc) := fun u => u.cell (HGY2.out.row.cell 3)
         have fe0 : ∀ u : Ext Y2, u.w.cell? ⟨wb, k * 5, none⟩ = some (.int .i64 y.no) := fun u => u.cell (HC0.out)
         have fe3 : ∀ u : Ext Y2, u.w.cell? ⟨wb, k * 5 + 3, none⟩ = some (.int .i64 y.till) := fun u => u.cell (HC3.out)
         have fe4 : ∀ u : Ext Y2, u.w.cell? ⟨wb, k * 5 + 4, none⟩ = some (.bool false) := fun u => u.cell (HC4.out)
         go_wp2_with fail
         refine ext_region Y2 (by kernel_rfl) (by kernel_rfl) (Below.refl _ _) ?_
         repeat (go_big_quiet_step (fail))
         refine wpQuiet_nil ?_
         intro Y3 hnY3
         have HBY3 := Lib.hid (below_call HBY2.out hnY3)
         have HGY3 := Lib.hid (HGY2.out.later hnY3)
         have HQY3 := Lib.hid (HQY2.out.below hnY3 HQY2.out.lt)
         have HAY3 := Lib.hid (HAY2.out.below hnY3 HAY2.out.lt)
         have hzY3 := HBY3.out.size
         clear hnY3 fg0 fg1 fg2 fg3 fe0 fe3 fe4 pw1 pq1
         go_wp2_with (refine Stop.out (p := wpList _ _ _ [{ dst := _, op := .store 33 _ _, type := _, pos := _, after := _, guard := _ }] _ _) ?_)
         constructor
         refine told_at (X := blkOf (some ⟨wb, 0, none⟩) p) (Y := blkOf kp p) HAY3.out HGY3.out (Kept.of_below HBY3.out) (codeR 8) (by omega) (by omega) rfl rfl rfl rfl rfl ?_
         intro Z HT
         go_wp2_with fail
         refine bodyPost_ret (ret_resp rfl rfl HT.out.resp) rfl ?_
         exact ⟨_, by rw [HE.out]; first | done | rfl, by rw [HE.out]; exact HT.out.gr, HT.out.kept⟩
        ·have HE : Hid (doD g r = (g, codeR 8)) := Lib.hid (by rw [HRd.out, hu, if_neg (by simp), hdd, Bool.or_true]; rfl)
         have HDd := Lib.hid hdd
         have hlb : decide (y.till < g.now) = false := decide_eq_false hl
         clear hu hdd
         go_enter Tryz.func168, Tryz.ntmps168
         go_upto_region 1 with fail
         rw [← HX0.out, ← HSe.out]
         have fg0 : ∀ u : Ext X, u.w.cell? ⟨p, 0, none⟩ = some (.int .i64 g.now) := fun u => u.cell (HGX.out.row.cell 0)
         have fg1 : ∀ u : Ext X, u.w.cell? ⟨p, 1, none⟩ = some (.slice (some ⟨wb, 0, none⟩) wn wc) := fun u => u.cell (HGX.out.row.cell 1)
         have fg2 : ∀ u : Ext X, u.w.cell? ⟨p, 2, none⟩ = some (.slice kp kn kc) := fun u => u.cell (HGX.out.row.cell 2)
         have fg3 : ∀ u : Ext X, u.w.cell? ⟨p, 3, none⟩ = some (.slice dp dn dc) := fun u => u.cell (HGX.out.row.cell 3)
         have fq0 : ∀ u : Ext X, u.w.cell? ⟨s, 0, none⟩ = some (.int .i64 r.no) := fun u => u.cell (HQX.out.cell 0)
         have fq1 : ∀ u : Ext X, u.w.cell? ⟨s, 1, none⟩ = some (.int .i64 r.kind) := fun u => u.cell (HQX.out.cell 1)
         have fq2 : ∀ u : Ext X, u.w.cell? ⟨s, 2, none⟩ = some (.int .i64 r.client) := fun u => u.cell (HQX.out.cell 2)
         have fq3 : ∀ u : Ext X, u.w.cell? ⟨s, 3, none⟩ = some (.int .i64 r.code) := fun u => u.cell (HQX.out.cell 3)
         have fq4 : ∀ u : Ext X, u.w.cell? ⟨s, 4, none⟩ = some (.int .i64 r.token) := fun u => u.cell (HQX.out.cell 4)
         have fq5 : ∀ u : Ext X, u.w.cell? ⟨s, 5, none⟩ = some (.string r.proof) := fun u => u.cell (HQX.out.cell 5)
         have fq6 : ∀ u : Ext X, u.w.cell? ⟨s, 6, none⟩ = some (.int .i64 r.upTo) := fun u => u.cell (HQX.out.cell 6)
         go_wp2_with fail
         refine ext_region X (by kernel_rfl) (by kernel_rfl) (Below.refl _ _) ?_
         repeat (go_big_quiet_step ((go_at_call 170; rw [← HE0.out, ← HRQ.out]; exact calls_ext (found_at (HGX.out.later (Ext.below _)).isIn HSm.out hp40 HFI.out))))
         refine wpQuiet_nil ?_
         intro Y hnY
         have HBY := Lib.hid (below_call HBX.out hnY)
         have HGY := Lib.hid (HGX.out.later hnY)
         have HQY := Lib.hid (HQX.out.below hnY HQX.out.lt)
         have HAY := Lib.hid (HAX.out.below hnY HAX.out.lt)
         have hzY := HBY.out.size
         clear hnY fg0 fg1 fg2 fg3 fq0 fq1 fq2 fq3 fq4 fq5 fq6
         have c2 : Y.cell? ⟨p, 2, none⟩ = some (.slice kp kn kc) := HGY.out.row.cell 2
         have fg0 : ∀ u : Ext Y, u.w.cell? ⟨p, 0, none⟩ = some (.int .i64 g.now) := fun u => u.cell (HGY.out.row.cell 0)
         have fg1 : ∀ u : Ext Y, u.w.cell? ⟨p, 1, none⟩ = some (.slice (some ⟨wb, 0, none⟩) wn wc) := fun u => u.cell (HGY.out.row.cell 1)
         have fg2 : ∀ u : Ext Y, u.w.cell? ⟨p, 2, none⟩ = some (.slice kp kn kc) := fun u => u.cell (HGY.out.row.cell 2)
         have fg3 : ∀ u : Ext Y, u.w.cell? ⟨p, 3, none⟩ = some (.slice dp dn dc) := fun u => u.cell (HGY.out.row.cell 3)
         have fq0 : ∀ u : Ext Y, u.w.cell? ⟨s, 0, none⟩ = some (.int .i64 r.no) := fun u => u.cell (HQY.out.cell 0)
         go_wp2_with fail
         refine ext_region Y (by kernel_rfl) (by kernel_rfl) (Below.refl _ _) ?_
         repeat (go_big_quiet_step (first | (go_at_call 92; rw [← HE0.out]; exact calls_ext (key_at HKn.out (HGY.out.later (Ext.below _)).isIn.2.2.1 (by omega) J1.out)) | (go_at_call 92; rw [← HE0.out]; exact calls_ext (key_at HKn.out (HGY.out.later (Ext.below _)).isIn.2.2.1 (by omega) J2.out))))
         refine wpQuiet_nil ?_
         intro Y2 hnY2
         have HBY2 := Lib.hid (below_call HBY.out hnY2)
         have HGY2 := Lib.hid (HGY.out.later hnY2)
         have HQY2 := Lib.hid (HQY.out.below hnY2 HQY.out.lt)
         have HAY2 := Lib.hid (HAY.out.below hnY2 HAY.out.lt)
         have hzY2 := HBY2.out.size
         clear hnY2 fg0 fg1 fg2 fg3 fq0 c2
         have hcs := wd_cells (own_lat HGY2.out.words) HXk.out
         rw [Nat.zero_add] at hcs
         have HC0 := Lib.hid hcs.1
         have HC3 := Lib.hid hcs.2.2.2.1
         have HC4 : Hid (Y2.cell? ⟨wb, k * 5 + 4, none⟩ = some (.bool false)) := Lib.hid (by rw [← HUs.out]; exact hcs.2.2.2.2)
         clear hcs
         have pw1 : Y2.cell? ⟨p, 1, none⟩ = some (.slice (some ⟨wb, 0, none⟩) wn wc) := HGY2.out.row.cell 1
         have pq1 : Y2.cell? ⟨s, 1, none⟩ = some (.int .i64 r.kind) := HQY2.out.cell 1
         have fg0 : ∀ u : Ext Y2, u.w.cell? ⟨p, 0, none⟩ = some (.int .i64 g.now) := fun u => u.cell (HGY2.out.row.cell 0)
         have fg1 : ∀ u : Ext Y2, u.w.cell? ⟨p, 1, none⟩ = some (.slice (some ⟨wb, 0, none⟩) wn wc) := fun u => u.cell (HGY2.out.row.cell 1)
         have fg2 : ∀ u : Ext Y2, u.w.cell? ⟨p, 2, none⟩ = some (.slice kp kn kc) := fun u => u.cell (HGY2.out.row.cell 2)
         have fg3 : ∀ u : Ext Y2, u.w.cell? ⟨p, 3, none⟩ = some (.slice dp dn dc) := fun u => u.cell (HGY2.out.row.cell 3)
         have fe0 : ∀ u : Ext Y2, u.w.cell? ⟨wb, k * 5, none⟩ = some (.int .i64 y.no) := fun u => u.cell (HC0.out)
         have fe3 : ∀ u : Ext Y2, u.w.cell? ⟨wb, k * 5 + 3, none⟩ = some (.int .i64 y.till) := fun u => u.cell (HC3.out)
         have fe4 : ∀ u : Ext Y2, u.w.cell? ⟨wb, k * 5 + 4, none⟩ = some (.bool false) := fun u => u.cell (HC4.out)
         go_wp2_with fail
         refine ext_region Y2 (by kernel_rfl) (by kernel_rfl) (Below.refl _ _) ?_
         repeat (go_big_quiet_step ((go_at_call 118; rw [← HE0.out]; exact calls_ext (dead_at HDn.out (HGY2.out.later (Ext.below _)).isIn.2.2.2 (by omega) HDd.out))))
         refine wpQuiet_nil ?_
         intro Y3 hnY3
         have HBY3 := Lib.hid (below_call HBY2.out hnY3)
         have HGY3 := Lib.hid (HGY2.out.later hnY3)
         have HQY3 := Lib.hid (HQY2.out.below hnY3 HQY2.out.lt)
         have HAY3 := Lib.hid (HAY2.out.below hnY3 HAY2.out.lt)
         have hzY3 := HBY3.out.size
         clear hnY3 fg0 fg1 fg2 fg3 fe0 fe3 fe4 pw1 pq1
         go_wp2_with (refine Stop.out (p := wpList _ _ _ [{ dst := _, op := .store 33 _ _, type := _, pos := _, after := _, guard := _ }] _ _) ?_)
         constructor
         refine told_at (X := blkOf (some ⟨wb, 0, none⟩) p) (Y := blkOf kp p) HAY3.out HGY3.out (Kept.of_below HBY3.out) (codeR 8) (by omega) (by omega) rfl rfl rfl rfl rfl ?_
         intro Z HT
         go_wp2_with fail
         refine bodyPost_ret (ret_resp rfl rfl HT.out.resp) rfl ?_
         exact ⟨_, by rw [HE.out]; first | done | rfl, by rw [HE.out]; exact HT.out.gr, HT.out.kept⟩
        ·have HE : Hid (doD g r = (keyG (keyG ⟨g.now, g.words.set k (usedW y), g.keys, g.dead⟩ (accK r y.no g.now)) (nextK r y.no g.now), giveR r)) := Lib.hid (by rw [HRd.out, hu, if_neg (by simp), hdd, decide_eq_false hl, HUW.out]; rfl)
         have HDd := Lib.hid hdd
         have hlb : decide (y.till < g.now) = false := decide_eq_false hl
         clear hu hdd
         go_enter Tryz.func168, Tryz.ntmps168
         go_upto_region 1 with fail
         rw [← HX0.out, ← HSe.out]
         have fg0 : ∀ u : Ext X, u.w.cell? ⟨p, 0, none⟩ = some (.int .i64 g.now) := fun u => u.cell (HGX.out.row.cell 0)
         have fg1 : ∀ u : Ext X, u.w.cell? ⟨p, 1, none⟩ = some (.slice (some ⟨wb, 0, none⟩) wn wc) := fun u => u.cell (HGX.out.row.cell 1)
         have fg2 : ∀ u : Ext X, u.w.cell? ⟨p, 2, none⟩ = some (.slice kp kn kc) := fun u => u.cell (HGX.out.row.cell 2)
         have fg3 : ∀ u : Ext X, u.w.cell? ⟨p, 3, none⟩ = some (.slice dp dn dc) := fun u => u.cell (HGX.out.row.cell 3)
         have fq0 : ∀ u : Ext X, u.w.cell? ⟨s, 0, none⟩ = some (.int .i64 r.no) := fun u => u.cell (HQX.out.cell 0)
         have fq1 : ∀ u : Ext X, u.w.cell? ⟨s, 1, none⟩ = some (.int .i64 r.kind) := fun u => u.cell (HQX.out.cell 1)
         have fq2 : ∀ u : Ext X, u.w.cell? ⟨s, 2, none⟩ = some (.int .i64 r.client) := fun u => u.cell (HQX.out.cell 2)
         have fq3 : ∀ u : Ext X, u.w.cell? ⟨s, 3, none⟩ = some (.int .i64 r.code) := fun u => u.cell (HQX.out.cell 3)
         have fq4 : ∀ u : Ext X, u.w.cell? ⟨s, 4, none⟩ = some (.int .i64 r.token) := fun u => u.cell (HQX.out.cell 4)
         have fq5 : ∀ u : Ext X, u.w.cell? ⟨s, 5, none⟩ = some (.string r.proof) := fun u => u.cell (HQX.out.cell 5)
         have fq6 : ∀ u : Ext X, u.w.cell? ⟨s, 6, none⟩ = some (.int .i64 r.upTo) := fun u => u.cell (HQX.out.cell 6)
         go_wp2_with fail
         refine ext_region X (by kernel_rfl) (by kernel_rfl) (Below.refl _ _) ?_
         repeat (go_big_quiet_step ((go_at_call 170; rw [← HE0.out, ← HRQ.out]; exact calls_ext (found_at (HGX.out.later (Ext.below _)).isIn HSm.out hp40 HFI.out))))
         refine wpQuiet_nil ?_
         intro Y hnY
         have HBY := Lib.hid (below_call HBX.out hnY)
         have HGY := Lib.hid (HGX.out.later hnY)
         have HQY := Lib.hid (HQX.out.below hnY HQX.out.lt)
         have HAY := Lib.hid (HAX.out.below hnY HAX.out.lt)
         have hzY := HBY.out.size
         clear hnY fg0 fg1 fg2 fg3 fq0 fq1 fq2 fq3 fq4 fq5 fq6
         have c2 : Y.cell? ⟨p, 2, none⟩ = some (.slice kp kn kc) := HGY.out.row.cell 2
         have fg0 : ∀ u : Ext Y, u.w.cell? ⟨p, 0, none⟩ = some (.int .i64 g.now) := fun u => u.cell (HGY.out.row.cell 0)
         have fg1 : ∀ u : Ext Y, u.w.cell? ⟨p, 1, none⟩ = some (.slice (some ⟨wb, 0, none⟩) wn wc) := fun u => u.cell (HGY.out.row.cell 1)
         have fg2 : ∀ u : Ext Y, u.w.cell? ⟨p, 2, none⟩ = some (.slice kp kn kc) := fun u => u.cell (HGY.out.row.cell 2)
         have fg3 : ∀ u : Ext Y, u.w.cell? ⟨p, 3, none⟩ = some (.slice dp dn dc) := fun u => u.cell (HGY.out.row.cell 3)
         have fq0 : ∀ u : Ext Y, u.w.cell? ⟨s, 0, none⟩ = some (.int .i64 r.no) := fun u => u.cell (HQY.out.cell 0)
         go_wp2_with fail
         refine ext_region Y (by kernel_rfl) (by kernel_rfl) (Below.refl _ _) ?_
         repeat (go_big_quiet_step (first | (go_at_call 92; rw [← HE0.out]; exact calls_ext (key_at HKn.out (HGY.out.later (Ext.below _)).isIn.2.2.1 (by omega) J1.out)) | (go_at_call 92; rw [← HE0.out]; exact calls_ext (key_at HKn.out (HGY.out.later (Ext.below _)).isIn.2.2.1 (by omega) J2.out))))
         refine wpQuiet_nil ?_
         intro Y2 hnY2
         have HBY2 := Lib.hid (below_call HBY.out hnY2)
         have HGY2 := Lib.hid (HGY.out.later hnY2)
         have HQY2 := Lib.hid (HQY.out.below hnY2 HQY.out.lt)
         have HAY2 := Lib.hid (HAY.out.below hnY2 HAY.out.lt)
         have hzY2 := HBY2.out.size
         clear hnY2 fg0 fg1 fg2 fg3 fq0 c2
         have hcs := wd_cells (own_lat HGY2.out.words) HXk.out
         rw [Nat.zero_add] at hcs
         have HC0 := Lib.hid hcs.1
         have HC3 := Lib.hid hcs.2.2.2.1
         have HC4 : Hid (Y2.cell? ⟨wb, k * 5 + 4, none⟩ = some (.bool false)) := Lib.hid (by rw [← HUs.out]; exact hcs.2.2.2.2)
         clear hcs
         have pw1 : Y2.cell? ⟨p, 1, none⟩ = some (.slice (some ⟨wb, 0, none⟩) wn wc) := HGY2.out.row.cell 1
         have pq1 : Y2.cell? ⟨s, 1, none⟩ = some (.int .i64 r.kind) := HQY2.out.cell 1
         have fg0 : ∀ u : Ext Y2, u.w.cell? ⟨p, 0, none⟩ = some (.int .i64 g.now) := fun u => u.cell (HGY2.out.row.cell 0)
         have fg1 : ∀ u : Ext Y2, u.w.cell? ⟨p, 1, none⟩ = some (.slice (some ⟨wb, 0, none⟩) wn wc) := fun u => u.cell (HGY2.out.row.cell 1)
         have fg2 : ∀ u : Ext Y2, u.w.cell? ⟨p, 2, none⟩ = some (.slice kp kn kc) := fun u => u.cell (HGY2.out.row.cell 2)
         have fg3 : ∀ u : Ext Y2, u.w.cell? ⟨p, 3, none⟩ = some (.slice dp dn dc) := fun u => u.cell (HGY2.out.row.cell 3)
         have fe0 : ∀ u : Ext Y2, u.w.cell? ⟨wb, k * 5, none⟩ = some (.int .i64 y.no) := fun u => u.cell (HC0.out)
         have fe3 : ∀ u : Ext Y2, u.w.cell? ⟨wb, k * 5 + 3, none⟩ = some (.int .i64 y.till) := fun u => u.cell (HC3.out)
         have fe4 : ∀ u : Ext Y2, u.w.cell? ⟨wb, k * 5 + 4, none⟩ = some (.bool false) := fun u => u.cell (HC4.out)
         go_wp2_with fail
         refine ext_region Y2 (by kernel_rfl) (by kernel_rfl) (Below.refl _ _) ?_
         repeat (go_big_quiet_step ((go_at_call 118; rw [← HE0.out]; exact calls_ext (dead_at HDn.out (HGY2.out.later (Ext.below _)).isIn.2.2.2 (by omega) HDd.out))))
         refine wpQuiet_nil ?_
         intro Y3 hnY3
         have HBY3 := Lib.hid (below_call HBY2.out hnY3)
         have HGY3 := Lib.hid (HGY2.out.later hnY3)
         have HQY3 := Lib.hid (HQY2.out.below hnY3 HQY2.out.lt)
         have HAY3 := Lib.hid (HAY2.out.below hnY3 HAY2.out.lt)
         have hzY3 := HBY3.out.size
         clear hnY3 fg0 fg1 fg2 fg3 fe0 fe3 fe4 pw1 pq1
         have hcf : Y3.frozen? ⟨wb, k * 5 + 4, none⟩ = false := own_elem_free wdCf_len (x := y) HGY3.out.words
         have hce : Y3.cell? ⟨wb, k * 5 + 4, none⟩ = some (.bool false) := by
          have h := (wd_cells (own_lat HGY3.out.words) HXk.out).2.2.2.2
          rw [Nat.zero_add, HUs.out] at h
          exact h
         go_upto_region 23 with fail
         obtain ⟨Y4, hY4⟩ : ∃ Y4, Y4 = Y3.setCell ⟨wb, k * 5 + 4, none⟩ (.bool true) := ⟨_, rfl⟩
         have HGY4 : Hid (GrAt tl N Y4 p ⟨some ⟨wb, 0, none⟩, wn, wc, kp, kn, kc, dp, dn, dc⟩ ⟨g.now, g.words.set k (usedW y), g.keys, g.dead⟩) := Lib.hid (by
          rw [hY4]
          have hne : some wb ≠ (Value.slice kp kn kc).ownBlock := row_own_ne2 HGY3.out.words HGY3.out.keys (by decide)
          have hne2 : some wb ≠ (Value.slice dp dn dc).ownBlock := row_own_ne2 HGY3.out.words HGY3.out.dead (by decide)
          have hpg : p ≠ wb := fun e => (row_own_ne HGY3.out.row HGY3.out.words (by first | decide | exact tl.hW | exact tl.hK | exact tl.hI)) (by rw [e]; rfl)
          exact ⟨HGY3.out.row.setOther (g := wb) (j := k * 5 + 4) hpg _, own_elem wdCf_len HGY3.out.words HXk.out (by decide) rfl, own_set (a := ⟨wb, k * 5 + 4, none⟩) _ HGY3.out.keys hne, own_set (a := ⟨wb, k * 5 + 4, none⟩) _ HGY3.out.dead hne2, hN⟩)
         have HQY4 := Lib.hid (show Row Y4 s 29 (rqL r) by rw [hY4]; exact HQY3.out.setOther (g := wb) (j := k * 5 + 4) (by omega) _)
         have HAY4 := Lib.hid (show Row Y4 (s + 1) 33 (rsL (codeR 0)) by rw [hY4]; exact HAY3.out.setOther (g := wb) (j := k * 5 + 4) (by omega) _)
         have HKY4 : Hid (Kept w.heap.size p (blkOf (some ⟨wb, 0, none⟩) p) (blkOf kp p) w Y4) := Lib.hid (by rw [hY4]; exact (Kept.of_below HBY3.out).setCell (a := ⟨wb, k * 5 + 4, none⟩) _ (.inr (.inl rfl)))
         rw [← hY4]
         clear hcf hce hY4
         have HK9Y4 : Hid (∀ w', Below Y4.heap.size Y4 w' → w'.cell? ⟨s, 0, none⟩ = some (.int .i64 r.no) ∧ w'.cell? ⟨s, 1, none⟩ = some (.int .i64 r.kind) ∧ w'.cell? ⟨s, 2, none⟩ = some (.int .i64 r.client) ∧ w'.cell? ⟨s, 3, none⟩ = some (.int .i64 r.code) ∧ w'.cell? ⟨s, 4, none⟩ = some (.int .i64 r.token) ∧ w'.cell? ⟨s, 5, none⟩ = some (.string r.proof) ∧ w'.cell? ⟨s, 6, none⟩ = some (.int .i64 r.upTo) ∧ w'.cell? ⟨p, 0, none⟩ = some (.int .i64 g.now)) := Lib.hid (fun w' hb => ⟨(HQY4.out.below hb HQY4.out.lt).cell 0, (HQY4.out.below hb HQY4.out.lt).cell 1, (HQY4.out.below hb HQY4.out.lt).cell 2, (HQY4.out.below hb HQY4.out.lt).cell 3, (HQY4.out.below hb HQY4.out.lt).cell 4, (HQY4.out.below hb HQY4.out.lt).cell 5, (HQY4.out.below hb HQY4.out.lt).cell 6, (HGY4.out.later hb).row.cell 0⟩)
         go_wp2_with fail
         refine region_L 8 (fun _ => True) (fun w' => w'.cell? ⟨s, 0, none⟩ = some (.int .i64 r.no) ∧ w'.cell? ⟨s, 1, none⟩ = some (.int .i64 r.kind) ∧ w'.cell? ⟨s, 2, none⟩ = some (.int .i64 r.client) ∧ w'.cell? ⟨s, 3, none⟩ = some (.int .i64 r.code) ∧ w'.cell? ⟨s, 4, none⟩ = some (.int .i64 r.token) ∧ w'.cell? ⟨s, 5, none⟩ = some (.string r.proof) ∧ w'.cell? ⟨s, 6, none⟩ = some (.int .i64 r.upTo) ∧ w'.cell? ⟨p, 0, none⟩ = some (.int .i64 g.now)) (by kernel_rfl) ⟨fun _ => trivial, HK9Y4.out _ (Below.refl _ _).drew⟩ (fun hHL => ?_)
         refine wpAnyL_take (i := 0) (v := ?_) (by rfl) rfl (by kernel_rfl) (by kernel_rfl) (by kernel_rfl) (fun _ _ _ h => h) (Or.inl ⟨by rfl, ?_⟩) hHL ?_
         rotate_left
         ·intro w hSw; (try dsimp only at hSw); (first | (go_simp; done) | (go_simp; with_reducible rfl))
         clear hHL
         intro hHL
         (try simp only [Act.put, List.setIfInBounds_toArray, List.set_cons_zero, List.set_cons_succ])
         refine wpAnyL_take (i := 1) (v := ?_) (by rfl) rfl (by kernel_rfl) (by kernel_rfl) (by kernel_rfl) (fun _ _ _ h => h) (Or.inl ⟨by rfl, ?_⟩) hHL ?_
         rotate_left
         ·intro w hSw; (try dsimp only at hSw); (first | (go_simp; done) | (go_simp; with_reducible rfl))
         clear hHL
         intro hHL
         (try simp only [Act.put, List.setIfInBounds_toArray, List.set_cons_zero, List.set_cons_succ])
         refine wpAnyL_take (i := 2) (v := ?_) (by rfl) rfl (by kernel_rfl) (by kernel_rfl) (by kernel_rfl) (fun _ _ _ h => h) (Or.inl ⟨by rfl, ?_⟩) hHL ?_
         rotate_left
         ·intro w hSw; (try dsimp only at hSw); (first | (go_simp; done) | (go_simp; with_reducible rfl))
         clear hHL
         intro hHL
         (try simp only [Act.put, List.setIfInBounds_toArray, List.set_cons_zero, List.set_cons_succ])
         refine wpAnyL_take (i := 3) (v := ?_) (by rfl) rfl (by kernel_rfl) (by kernel_rfl) (by kernel_rfl) (fun _ _ _ h => h) (Or.inl ⟨by rfl, ?_⟩) hHL ?_
         rotate_left
         ·intro w hSw; (try dsimp only at hSw); (first | (go_simp; done) | (go_simp; with_reducible rfl))
         clear hHL
         intro hHL
         (try simp only [Act.put, List.setIfInBounds_toArray, List.set_cons_zero, List.set_cons_succ])
         refine wpAnyL_take (i := 4) (v := ?_) (by rfl) rfl (by kernel_rfl) (by kernel_rfl) (by kernel_rfl) (fun _ _ _ h => h) (Or.inl ⟨by rfl, ?_⟩) hHL ?_
         rotate_left
         ·intro w hSw; (try dsimp only at hSw); (first | (go_simp; done) | (go_simp; with_reducible rfl))
         clear hHL
         intro hHL
         (try simp only [Act.put, List.setIfInBounds_toArray, List.set_cons_zero, List.set_cons_succ])
         refine wpAnyL_take (i := 5) (v := ?_) (by rfl) rfl (by kernel_rfl) (by kernel_rfl) (by kernel_rfl) (fun _ _ _ h => h) (Or.inl ⟨by rfl, ?_⟩) hHL ?_
         rotate_left
         ·intro w hSw; (try dsimp only at hSw); (first | (go_simp; done) | (go_simp; with_reducible rfl))
         clear hHL
         intro hHL
         (try simp only [Act.put, List.setIfInBounds_toArray, List.set_cons_zero, List.set_cons_succ])
         refine wpAnyL_take (i := 6) (v := ?_) (by rfl) rfl (by kernel_rfl) (by kernel_rfl) (by kernel_rfl) (fun _ _ _ h => h) (Or.inl ⟨by rfl, ?_⟩) hHL ?_
         rotate_left
         ·intro w hSw; (try dsimp only at hSw); (first | (go_simp; done) | (go_simp; with_reducible rfl))
         clear hHL
         intro hHL
         (try simp only [Act.put, List.setIfInBounds_toArray, List.set_cons_zero, List.set_cons_succ])
         refine wpAnyL_ready (rs := [7]) (by kernel_rfl) (by simp) ?_
         refine AllReadyL.cons rfl (fun K hK => ?_) AllReadyL.nil
         refine step_callTo rfl 224 #[rqV r, .int .i64 y.no, .int .i64 g.now] (by kernel_rfl) (kyV (accK r y.no g.now)) (fun w' => Below Y4.drew.heap.size Y4.drew w') (access_spec r y.no g.now _ hno htm) ?_
         intro v7 hv7
         have HV7 := Lib.hid ((Below.refl Y4.heap.size Y4).drew.trans hv7)
         refine hK.out _ _ ⟨fun _ => trivial, HK9Y4.out _ HV7.out⟩ (fun hHL => ?_)
         clear hK K hv7
         (try simp only [Act.put, List.setIfInBounds_toArray, List.set_cons_zero, List.set_cons_succ])
         refine wpAnyL_ready (rs := [8]) (by kernel_rfl) (by simp) ?_
         refine AllReadyL.cons rfl (fun K hK => ?_) AllReadyL.nil
         refine step_callTo rfl 223 #[.pointer (some ⟨p, 0, none⟩), kyV (accK r y.no g.now)] (by kernel_rfl) (.tuple #[]) _ (put_spec (accK r y.no g.now) (HGY4.out.later HV7.out) (by show g.keys.length ≤ 1000; omega)) ?_
         rintro Y5 ⟨kp', kn', kc', hgn, hkn'⟩
         have hkq : Kept Y4.heap.size p p p Y4 Y5 := (Kept.of_below HV7.out).trans (hkn'.mono HV7.out.size)
         have HGY5 := Lib.hid hgn
         have HQY5 := Lib.hid (HQY4.out.kept hkq HQY4.out.lt (by omega) (by omega) (by omega))
         have HAY5 := Lib.hid (HAY4.out.kept hkq HAY4.out.lt (by omega) (by omega) (by omega))
         have HKY5 : Hid (Kept w.heap.size p (blkOf (some ⟨wb, 0, none⟩) p) (blkOf kp p) w Y5) := Lib.hid (HKY4.out.trans ⟨hkq.os, hkq.tape, hkq.output, hkq.size, fun i h1 h2 _ _ => hkq.block i (by have := HKY4.out.size; omega) h2 h2 h2⟩)
         refine hK.out _ _ ⟨fun _ => trivial, HQY5.out.cell 0, HQY5.out.cell 1, HQY5.out.cell 2, HQY5.out.cell 3, HQY5.out.cell 4, HQY5.out.cell 5, HQY5.out.cell 6, hgn.row.cell 0⟩ (fun hHL => ?_)
         clear hK K hgn hkn' hkq HV7
         refine wpAnyL_done (by kernel_rfl) ?_ _
         clear hHL
         have HK9Y5 : Hid (∀ w', Below Y5.heap.size Y5 w' → w'.cell? ⟨s, 0, none⟩ = some (.int .i64 r.no) ∧ w'.cell? ⟨s, 1, none⟩ = some (.int .i64 r.kind) ∧ w'.cell? ⟨s, 2, none⟩ = some (.int .i64 r.client) ∧ w'.cell? ⟨s, 3, none⟩ = some (.int .i64 r.code) ∧ w'.cell? ⟨s, 4, none⟩ = some (.int .i64 r.token) ∧ w'.cell? ⟨s, 5, none⟩ = some (.string r.proof) ∧ w'.cell? ⟨s, 6, none⟩ = some (.int .i64 r.upTo) ∧ w'.cell? ⟨p, 0, none⟩ = some (.int .i64 g.now)) := Lib.hid (fun w' hb => ⟨(HQY5.out.below hb HQY5.out.lt).cell 0, (HQY5.out.below hb HQY5.out.lt).cell 1, (HQY5.out.below hb HQY5.out.lt).cell 2, (HQY5.out.below hb HQY5.out.lt).cell 3, (HQY5.out.below hb HQY5.out.lt).cell 4, (HQY5.out.below hb HQY5.out.lt).cell 5, (HQY5.out.below hb HQY5.out.lt).cell 6, (HGY5.out.later hb).row.cell 0⟩)
         go_wp2_with fail
         refine region_L 8 (fun _ => True) (fun w' => w'.cell? ⟨s, 0, none⟩ = some (.int .i64 r.no) ∧ w'.cell? ⟨s, 1, none⟩ = some (.int .i64 r.kind) ∧ w'.cell? ⟨s, 2, none⟩ = some (.int .i64 r.client) ∧ w'.cell? ⟨s, 3, none⟩ = some (.int .i64 r.code) ∧ w'.cell? ⟨s, 4, none⟩ = some (.int .i64 r.token) ∧ w'.cell? ⟨s, 5, none⟩ = some (.string r.proof) ∧ w'.cell? ⟨s, 6, none⟩ = some (.int .i64 r.upTo) ∧ w'.cell? ⟨p, 0, none⟩ = some (.int .i64 g.now)) (by kernel_rfl) ⟨fun _ => trivial, HK9Y5.out _ (Below.refl _ _).drew⟩ (fun hHL => ?_)
         refine wpAnyL_take (i := 0) (v := ?_) (by rfl) rfl (by kernel_rfl) (by kernel_rfl) (by kernel_rfl) (fun _ _ _ h => h) (Or.inl ⟨by rfl, ?_⟩) hHL ?_
         rotate_left
         ·intro w hSw; (try dsimp only at hSw); (first | (go_simp; done) | (go_simp; with_reducible rfl))
         clear hHL
         intro hHL
         (try simp only [Act.put, List.setIfInBounds_toArray, List.set_cons_zero, List.set_cons_succ])
         refine wpAnyL_take (i := 1) (v := ?_) (by rfl) rfl (by kernel_rfl) (by kernel_rfl) (by kernel_rfl) (fun _ _ _ h => h) (Or.inl ⟨by rfl, ?_⟩) hHL ?_
         rotate_left
         ·intro w hSw; (try dsimp only at hSw); (first | (go_simp; done) | (go_simp; with_reducible rfl))
         clear hHL
         intro hHL
         (try simp only [Act.put, List.setIfInBounds_toArray, List.set_cons_zero, List.set_cons_succ])
         refine wpAnyL_take (i := 2) (v := ?_) (by rfl) rfl (by kernel_rfl) (by kernel_rfl) (by kernel_rfl) (fun _ _ _ h => h) (Or.inl ⟨by rfl, ?_⟩) hHL ?_
         rotate_left
         ·intro w hSw; (try dsimp only at hSw); (first | (go_simp; done) | (go_simp; with_reducible rfl))
         clear hHL
         intro hHL
         (try simp only [Act.put, List.setIfInBounds_toArray, List.set_cons_zero, List.set_cons_succ])
         refine wpAnyL_take (i := 3) (v := ?_) (by rfl) rfl (by kernel_rfl) (by kernel_rfl) (by kernel_rfl) (fun _ _ _ h => h) (Or.inl ⟨by rfl, ?_⟩) hHL ?_
         rotate_left
         ·intro w hSw; (try dsimp only at hSw); (first | (go_simp; done) | (go_simp; with_reducible rfl))
         clear hHL
         intro hHL
         (try simp only [Act.put, List.setIfInBounds_toArray, List.set_cons_zero, List.set_cons_succ])
         refine wpAnyL_take (i := 4) (v := ?_) (by rfl) rfl (by kernel_rfl) (by kernel_rfl) (by kernel_rfl) (fun _ _ _ h => h) (Or.inl ⟨by rfl, ?_⟩) hHL ?_
         rotate_left
         ·intro w hSw; (try dsimp only at hSw); (first | (go_simp; done) | (go_simp; with_reducible rfl))
         clear hHL
         intro hHL
         (try simp only [Act.put, List.setIfInBounds_toArray, List.set_cons_zero, List.set_cons_succ])
         refine wpAnyL_take (i := 5) (v := ?_) (by rfl) rfl (by kernel_rfl) (by kernel_rfl) (by kernel_rfl) (fun _ _ _ h => h) (Or.inl ⟨by rfl, ?_⟩) hHL ?_
         rotate_left
         ·intro w hSw; (try dsimp only at hSw); (first | (go_simp; done) | (go_simp; with_reducible rfl))
         clear hHL
         intro hHL
         (try simp only [Act.put, List.setIfInBounds_toArray, List.set_cons_zero, List.set_cons_succ])
         refine wpAnyL_take (i := 6) (v := ?_) (by rfl) rfl (by kernel_rfl) (by kernel_rfl) (by kernel_rfl) (fun _ _ _ h => h) (Or.inl ⟨by rfl, ?_⟩) hHL ?_
         rotate_left
         ·intro w hSw; (try dsimp only at hSw); (first | (go_simp; done) | (go_simp; with_reducible rfl))
         clear hHL
         intro hHL
         (try simp only [Act.put, List.setIfInBounds_toArray, List.set_cons_zero, List.set_cons_succ])
         refine wpAnyL_ready (rs := [7]) (by kernel_rfl) (by simp) ?_
         refine AllReadyL.cons rfl (fun K hK => ?_) AllReadyL.nil
         refine step_callTo rfl 225 #[rqV r, .int .i64 y.no, .int .i64 g.now] (by kernel_rfl) (kyV (nextK r y.no g.now)) (fun w' => Below Y5.drew.heap.size Y5.drew w') (next_spec r y.no g.now _ hno htm) ?_
         intro v7 hv7
         have HV7 := Lib.hid ((Below.refl Y5.heap.size Y5).drew.trans hv7)
         refine hK.out _ _ ⟨fun _ => trivial, HK9Y5.out _ HV7.out⟩ (fun hHL => ?_)
         clear hK K hv7
         (try simp only [Act.put, List.setIfInBounds_toArray, List.set_cons_zero, List.set_cons_succ])
         refine wpAnyL_ready (rs := [8]) (by kernel_rfl) (by simp) ?_
         refine AllReadyL.cons rfl (fun K hK => ?_) AllReadyL.nil
         refine step_callTo rfl 223 #[.pointer (some ⟨p, 0, none⟩), kyV (nextK r y.no g.now)] (by kernel_rfl) (.tuple #[]) _ (put_spec (nextK r y.no g.now) (HGY5.out.later HV7.out) (by show (insK g.keys (accK r y.no g.now)).length ≤ 1000; rw [insK_length]; omega)) ?_
         rintro Y6 ⟨kp', kn', kc', hgn, hkn'⟩
         have hkq : Kept Y5.heap.size p p p Y5 Y6 := (Kept.of_below HV7.out).trans (hkn'.mono HV7.out.size)
         have HGY6 := Lib.hid hgn
         have HQY6 := Lib.hid (HQY5.out.kept hkq HQY5.out.lt (by omega) (by omega) (by omega))
         have HAY6 := Lib.hid (HAY5.out.kept hkq HAY5.out.lt (by omega) (by omega) (by omega))
         have HKY6 : Hid (Kept w.heap.size p (blkOf (some ⟨wb, 0, none⟩) p) (blkOf kp p) w Y6) := Lib.hid (HKY5.out.trans ⟨hkq.os, hkq.tape, hkq.output, hkq.size, fun i h1 h2 _ _ => hkq.block i (by have := HKY5.out.size; omega) h2 h2 h2⟩)
         refine hK.out _ _ ⟨fun _ => trivial, HQY6.out.cell 0, HQY6.out.cell 1, HQY6.out.cell 2, HQY6.out.cell 3, HQY6.out.cell 4, HQY6.out.cell 5, HQY6.out.cell 6, hgn.row.cell 0⟩ (fun hHL => ?_)
         clear hK K hgn hkn' hkq HV7
         refine wpAnyL_done (by kernel_rfl) ?_ _
         clear hHL
         go_upto_region 25 with fail
         have q0 : Y6.cell? ⟨s, 0, none⟩ = some (.int .i64 r.no) := HQY6.out.cell 0
         go_wp2_with (refine Stop.out (p := wpList _ _ _ [{ dst := _, op := .store 33 _ _, type := _, pos := _, after := _, guard := _ }] _ _) ?_)
         constructor
         refine told_at (X := blkOf (some ⟨wb, 0, none⟩) p) (Y := blkOf kp p) HAY6.out HGY6.out (HKY6.out) (giveR r) (by omega) (by omega) rfl rfl rfl rfl rfl ?_
         intro Z HT
         go_wp2_with fail
         refine bodyPost_ret (ret_resp rfl rfl HT.out.resp) rfl ?_
         exact ⟨_, by rw [HE.out]; first | done | rfl, by rw [HE.out]; exact HT.out.gr, HT.out.kept⟩
     ·cases hwf'
  ·have e2 : (r.kind == 2) = false := by rw [hk3]; rfl
   have hkn2 : ¬ r.kind = 2 := by omega
   cases hkf : keyFor g.keys r.token r.client with
   | none =>
    have HE : Hid (doD g r = (g, codeR 6)) := Lib.hid (by rw [trade_ref hk3]; unfold refreshD; rw [if_pos HRo.out, hkf])
    have hvn : v < 0 := by have h := HFI.out; unfold foundIx at h; rw [if_neg hkn2, hkf] at h; simp only at h; omega
    clear hk3 hkf hkn2
    go_enter Tryz.func168, Tryz.ntmps168
    go_upto_region 1 with fail
    rw [← HX0.out, ← HSe.out]
    have fg0 : ∀ u : Ext X, u.w.cell? ⟨p, 0, none⟩ = some (.int .i64 g.now) := fun u => u.cell (HGX.out.row.cell 0)
    have fg1 : ∀ u : Ext X, u.w.cell? ⟨p, 1, none⟩ = some (.slice wp wn wc) := fun u => u.cell (HGX.out.row.cell 1)
    have fg2 : ∀ u : Ext X, u.w.cell? ⟨p, 2, none⟩ = some (.slice kp kn kc) := fun u => u.cell (HGX.out.row.cell 2)
    have fg3 : ∀ u : Ext X, u.w.cell? ⟨p, 3, none⟩ = some (.slice dp dn dc) := fun u => u.cell (HGX.out.row.cell 3)
    have fq0 : ∀ u : Ext X, u.w.cell? ⟨s, 0, none⟩ = some (.int .i64 r.no) := fun u => u.cell (HQX.out.cell 0)
    have fq1 : ∀ u : Ext X, u.w.cell? ⟨s, 1, none⟩ = some (.int .i64 r.kind) := fun u => u.cell (HQX.out.cell 1)
    have fq2 : ∀ u : Ext X, u.w.cell? ⟨s, 2, none⟩ = some (.int .i64 r.client) := fun u => u.cell (HQX.out.cell 2)
    have fq3 : ∀ u : Ext X, u.w.cell? ⟨s, 3, none⟩ = some (.int .i64 r.code) := fun u => u.cell (HQX.out.cell 3)
    have fq4 : ∀ u : Ext X, u.w.cell? ⟨s, 4, none⟩ = some (.int .i64 r.token) := fun u => u.cell (HQX.out.cell 4)
    have fq5 : ∀ u : Ext X, u.w.cell? ⟨s, 5, none⟩ = some (.string r.proof) := fun u => u.cell (HQX.out.cell 5)
    have fq6 : ∀ u : Ext X, u.w.cell? ⟨s, 6, none⟩ = some (.int .i64 r.upTo) := fun u => u.cell (HQX.out.cell 6)
    go_wp2_with fail
    refine ext_region X (by kernel_rfl) (by kernel_rfl) (Below.refl _ _) ?_
    repeat (go_big_quiet_step ((go_at_call 170; rw [← HE0.out, ← HRQ.out]; exact calls_ext (found_at (HGX.out.later (Ext.below _)).isIn HSm.out hp40 HFI.out))))
    refine wpQuiet_nil ?_
    intro Y hnY
    have HBY := Lib.hid (below_call HBX.out hnY)
    have HGY := Lib.hid (HGX.out.later hnY)
    have HQY := Lib.hid (HQX.out.below hnY HQX.out.lt)
    have HAY := Lib.hid (HAX.out.below hnY HAX.out.lt)
    have hzY := HBY.out.size
    clear hnY fg0 fg1 fg2 fg3 fq0 fq1 fq2 fq3 fq4 fq5 fq6
    have c2 : Y.cell? ⟨p, 2, none⟩ = some (.slice kp kn kc) := HGY.out.row.cell 2
    have fg0 : ∀ u : Ext Y, u.w.cell? ⟨p, 0, none⟩ = some (.int .i64 g.now) := fun u => u.cell (HGY.out.row.cell 0)
    have fg1 : ∀ u : Ext Y, u.w.cell? ⟨p, 1, none⟩ = some (.slice wp wn wc) := fun u => u.cell (HGY.out.row.cell 1)
    have fg2 : ∀ u : Ext Y, u.w.cell? ⟨p, 2, none⟩ = some (.slice kp kn kc) := fun u => u.cell (HGY.out.row.cell 2)
    have fg3 : ∀ u : Ext Y, u.w.cell? ⟨p, 3, none⟩ = some (.slice dp dn dc) := fun u => u.cell (HGY.out.row.cell 3)
    have fq0 : ∀ u : Ext Y, u.w.cell? ⟨s, 0, none⟩ = some (.int .i64 r.no) := fun u => u.cell (HQY.out.cell 0)
    go_wp2_with fail
    refine ext_region Y (by kernel_rfl) (by kernel_rfl) (Below.refl _ _) ?_
    repeat (go_big_quiet_step (first | (go_at_call 92; rw [← HE0.out]; exact calls_ext (key_at HKn.out (HGY.out.later (Ext.below _)).isIn.2.2.1 (by omega) J1.out)) | (go_at_call 92; rw [← HE0.out]; exact calls_ext (key_at HKn.out (HGY.out.later (Ext.below _)).isIn.2.2.1 (by omega) J2.out))))
    refine wpQuiet_nil ?_
    intro Y2 hnY2
    have HBY2 := Lib.hid (below_call HBY.out hnY2)
    have HGY2 := Lib.hid (HGY.out.later hnY2)
    have HQY2 := Lib.hid (HQY.out.below hnY2 HQY.out.lt)
    have HAY2 := Lib.hid (HAY.out.below hnY2 HAY.out.lt)
    have hzY2 := HBY2.out.size
    clear hnY2 fg0 fg1 fg2 fg3 fq0 c2
    go_wp2_with (refine Stop.out (p := wpList _ _ _ [{ dst := _, op := .store 33 _ _, type := _, pos := _, after := _, guard := _ }] _ _) ?_)
    constructor
    refine told_at (X := blkOf wp p) (Y := blkOf kp p) HAY2.out HGY2.out (Kept.of_below HBY2.out) (codeR 6) (by omega) (by omega) rfl rfl rfl rfl rfl ?_
    intro Z HT
    go_wp2_with fail
    refine bodyPost_ret (ret_resp rfl rfl HT.out.resp) rfl ?_
    exact ⟨_, by rw [HE.out]; first | done | rfl, by rw [HE.out]; exact HT.out.gr, HT.out.kept⟩
   | some x =>
    cases hrf : x.refresh with
    | false =>
     have HE : Hid (doD g r = (g, codeR 6)) := Lib.hid (by rw [trade_ref hk3]; unfold refreshD; rw [if_pos HRo.out, hkf]; simp only; rw [hrf]; rfl)
     have hvn : v < 0 := by have h := HFI.out; unfold foundIx at h; rw [if_neg hkn2, hkf] at h; simp only at h; rw [if_neg (by rw [hrf]; simp [hk3])] at h; omega
     clear hk3 hkf hkn2 hrf
     go_enter Tryz.func168, Tryz.ntmps168
     go_upto_region 1 with fail
     rw [← HX0.out, ← HSe.out]
     have fg0 : ∀ u : Ext X, u.w.cell? ⟨p, 0, none⟩ = some (.int .i64 g.now) := fun u => u.cell (HGX.out.row.cell 0)
     have fg1 : ∀ u : Ext X, u.w.cell? ⟨p, 1, none⟩ = some (.slice wp wn wc) := fun u => u.cell (HGX.out.row.cell 1)
     have fg2 : ∀ u : Ext X, u.w.cell? ⟨p, 2, none⟩ = some (.slice kp kn kc) := fun u => u.cell (HGX.out.row.cell 2)
     have fg3 : ∀ u : Ext X, u.w.cell? ⟨p, 3, none⟩ = some (.slice dp dn dc) := fun u => u.cell (HGX.out.row.cell 3)
     have fq0 : ∀ u : Ext X, u.w.cell? ⟨s, 0, none⟩ = some (.int .i64 r.no) := fun u => u.cell (HQX.out.cell 0)
     have fq1 : ∀ u : Ext X, u.w.cell? ⟨s, 1, none⟩ = some (.int .i64 r.kind) := fun u => u.cell (HQX.out.cell 1)
     have fq2 : ∀ u : Ext X, u.w.cell? ⟨s, 2, none⟩ = some (.int .i64 r.client) := fun u => u.cell (HQX.out.cell 2)
     have fq3 : ∀ u : Ext X, u.w.cell? ⟨s, 3, none⟩ = some (.int .i64 r.code) := fun u => u.cell (HQX.out.cell 3)
     have fq4 : ∀ u : Ext X, u.w.cell? ⟨s, 4, none⟩ = some (.int .i64 r.token) := fun u => u.cell (HQX.out.cell 4)
     have fq5 : ∀ u : Ext X, u.w.cell? ⟨s, 5, none⟩ = some (.string r.proof) := fun u => u.cell (HQX.out.cell 5)
     have fq6 : ∀ u : Ext X, u.w.cell? ⟨s, 6, none⟩ = some (.int .i64 r.upTo) := fun u => u.cell (HQX.out.cell 6)
     go_wp2_with fail
     refine ext_region X (by kernel_rfl) (by kernel_rfl) (Below.refl _ _) ?_
     repeat (go_big_quiet_step ((go_at_call 170; rw [← HE0.out, ← HRQ.out]; exact calls_ext (found_at (HGX.out.later (Ext.below _)).isIn HSm.out hp40 HFI.out))))
     refine wpQuiet_nil ?_
     intro Y hnY
     have HBY := Lib.hid (below_call HBX.out hnY)
     have HGY := Lib.hid (HGX.out.later hnY)
     have HQY := Lib.hid (HQX.out.below hnY HQX.out.lt)
     have HAY := Lib.hid (HAX.out.below hnY HAX.out.lt)
     have hzY := HBY.out.size
     clear hnY fg0 fg1 fg2 fg3 fq0 fq1 fq2 fq3 fq4 fq5 fq6
     have c2 : Y.cell? ⟨p, 2, none⟩ = some (.slice kp kn kc) := HGY.out.row.cell 2
     have fg0 : ∀ u : Ext Y, u.w.cell? ⟨p, 0, none⟩ = some (.int .i64 g.now) := fun u => u.cell (HGY.out.row.cell 0)
     have fg1 : ∀ u : Ext Y, u.w.cell? ⟨p, 1, none⟩ = some (.slice wp wn wc) := fun u => u.cell (HGY.out.row.cell 1)
     have fg2 : ∀ u : Ext Y, u.w.cell? ⟨p, 2, none⟩ = some (.slice kp kn kc) := fun u => u.cell (HGY.out.row.cell 2)
     have fg3 : ∀ u : Ext Y, u.w.cell? ⟨p, 3, none⟩ = some (.slice dp dn dc) := fun u => u.cell (HGY.out.row.cell 3)
     have fq0 : ∀ u : Ext Y, u.w.cell? ⟨s, 0, none⟩ = some (.int .i64 r.no) := fun u => u.cell (HQY.out.cell 0)
     go_wp2_with fail
     refine ext_region Y (by kernel_rfl) (by kernel_rfl) (Below.refl _ _) ?_
     repeat (go_big_quiet_step (first | (go_at_call 92; rw [← HE0.out]; exact calls_ext (key_at HKn.out (HGY.out.later (Ext.below _)).isIn.2.2.1 (by omega) J1.out)) | (go_at_call 92; rw [← HE0.out]; exact calls_ext (key_at HKn.out (HGY.out.later (Ext.below _)).isIn.2.2.1 (by omega) J2.out))))
     refine wpQuiet_nil ?_
     intro Y2 hnY2
     have HBY2 := Lib.hid (below_call HBY.out hnY2)
     have HGY2 := Lib.hid (HGY.out.later hnY2)
     have HQY2 := Lib.hid (HQY.out.below hnY2 HQY.out.lt)
     have HAY2 := Lib.hid (HAY.out.below hnY2 HAY.out.lt)
     have hzY2 := HBY2.out.size
     clear hnY2 fg0 fg1 fg2 fg3 fq0 c2
     go_wp2_with (refine Stop.out (p := wpList _ _ _ [{ dst := _, op := .store 33 _ _, type := _, pos := _, after := _, guard := _ }] _ _) ?_)
     constructor
     refine told_at (X := blkOf wp p) (Y := blkOf kp p) HAY2.out HGY2.out (Kept.of_below HBY2.out) (codeR 6) (by omega) (by omega) rfl rfl rfl rfl rfl ?_
     intro Z HT
     go_wp2_with fail
     refine bodyPost_ret (ret_resp rfl rfl HT.out.resp) rfl ?_
     exact ⟨_, by rw [HE.out]; first | done | rfl, by rw [HE.out]; exact HT.out.gr, HT.out.kept⟩
    | true =>
     obtain ⟨hfk, hcl⟩ := keyFor_mem hkf
     obtain ⟨k, hpl, hxk, hxn⟩ := keyIx_some hfk
     obtain rfl : v = (k : Nat) := by have h := HFI.out; unfold foundIx at h; rw [if_neg hkn2, hkf] at h; simp only at h; rw [if_pos (.inr hrf)] at h; omega
     have HXk := Lib.hid hxk
     have hkl := (List.getElem?_eq_some_iff.1 hxk).1
     have hkw : k < kn := by have := HKn.out; omega
     rcases HKx.out with ⟨_, _, _, h0⟩ | ⟨kb, hkp, hkb1, hkbl, hkb2, hkb3, hkb4⟩
     ·omega
     ·simp only at hkp
      subst hkp
      clear hkb1 hkb2 hkb3 hkb4
      have HMk := Lib.hid (markK_set HKs.out 1 hxk)
      have HRd : Hid (doD g r = if x.state == 1 then (killG g x.fam, codeR 10) else if keyOpenB g.now g.dead x then (giveG ⟨g.now, g.words, markK g.keys x.no 1, g.dead⟩ r x.fam, giveR r) else (g, codeR 8)) := Lib.hid (by rw [trade_ref hk3]; unfold refreshD; rw [if_pos HRo.out, hkf]; simp only; rw [hrf, hxn]; rfl)
      clear hk3 hkf hkn2 hrf hfk hcl hpl hxk hxn hkl
      cases hst : x.state == 1 with
      | true =>
       have HOp : Hid (keyOpenB g.now g.dead x = false) := Lib.hid (by unfold keyOpenB; rw [show (x.state == 0) = false by have := eq_of_beq hst; simp [this]]; rfl)
       have HE : Hid (doD g r = (killG g x.fam, codeR 10)) := Lib.hid (by rw [HRd.out, hst]; rfl)
       go_enter Tryz.func168, Tryz.ntmps168
       go_upto_region 1 with fail
       rw [← HX0.out, ← HSe.out]
       have fg0 : ∀ u : Ext X, u.w.cell? ⟨p, 0, none⟩ = some (.int .i64 g.now) := fun u => u.cell (HGX.out.row.cell 0)
       have fg1 : ∀ u : Ext X, u.w.cell? ⟨p, 1, none⟩ = some (.slice wp wn wc) := fun u => u.cell (HGX.out.row.cell 1)
       have fg2 : ∀ u : Ext X, u.w.cell? ⟨p, 2, none⟩ = some (.slice (some ⟨kb, 0, none⟩) kn kc) := fun u => u.cell (HGX.out.row.cell 2)
       have fg3 : ∀ u : Ext X, u.w.cell? ⟨p, 3, none⟩ = some (.slice dp dn dc) := fun u => u.cell (HGX.out.row.cell 3)
       have fq0 : ∀ u : Ext X, u.w.cell? ⟨s, 0, none⟩ = some (.int .i64 r.no) := fun u => u.cell (HQX.out.cell 0)
       have fq1 : ∀ u : Ext X, u.w.cell? ⟨s, 1, none⟩ = some (.int .i64 r.kind) := fun u => u.cell (HQX.out.cell 1)
       have fq2 : ∀ u : Ext X, u.w.cell? ⟨s, 2, none⟩ = some (.int .i64 r.client) := fun u => u.cell (HQX.out.cell 2)
       have fq3 : ∀ u : Ext X, u.w.cell? ⟨s, 3, none⟩ = some (.int .i64 r.code) := fun u => u.cell (HQX.out.cell 3)
       have fq4 : ∀ u : Ext X, u.w.cell? ⟨s, 4, none⟩ = some (.int .i64 r.token) := fun u => u.cell (HQX.out.cell 4)
       have fq5 : ∀ u : Ext X, u.w.cell? ⟨s, 5, none⟩ = some (.string r.proof) := fun u => u.cell (HQX.out.cell 5)
       have fq6 : ∀ u : Ext X, u.w.cell? ⟨s, 6, none⟩ = some (.int .i64 r.upTo) := fun u => u.cell (HQX.out.cell 6)
       go_wp2_with fail
       refine ext_region X (by kernel_rfl) (by kernel_rfl) (Below.refl _ _) ?_
       repeat (go_big_quiet_step ((go_at_call 170; rw [← HE0.out, ← HRQ.out]; exact calls_ext (found_at (HGX.out.later (Ext.below _)).isIn HSm.out hp40 HFI.out))))
       refine wpQuiet_nil ?_
       intro Y hnY
       have HBY := Lib.hid (below_call HBX.out hnY)
       have HGY := Lib.hid (HGX.out.later hnY)
       have HQY := Lib.hid (HQX.out.below hnY HQX.out.lt)
       have HAY := Lib.hid (HAX.out.below hnY HAX.out.lt)
       have hzY := HBY.out.size
       clear hnY fg0 fg1 fg2 fg3 fq0 fq1 fq2 fq3 fq4 fq5 fq6
       have c2 : Y.cell? ⟨p, 2, none⟩ = some (.slice (some ⟨kb, 0, none⟩) kn kc) := HGY.out.row.cell 2
       have fg0 : ∀ u : Ext Y, u.w.cell? ⟨p, 0, none⟩ = some (.int .i64 g.now) := fun u => u.cell (HGY.out.row.cell 0)
       have fg1 : ∀ u : Ext Y, u.w.cell? ⟨p, 1, none⟩ = some (.slice wp wn wc) := fun u => u.cell (HGY.out.row.cell 1)
       have fg2 : ∀ u : Ext Y, u.w.cell? ⟨p, 2, none⟩ = some (.slice (some ⟨kb, 0, none⟩) kn kc) := fun u => u.cell (HGY.out.row.cell 2)
       have fg3 : ∀ u : Ext Y, u.w.cell? ⟨p, 3, none⟩ = some (.slice dp dn dc) := fun u => u.cell (HGY.out.row.cell 3)
       have fq0 : ∀ u : Ext Y, u.w.cell? ⟨s, 0, none⟩ = some (.int .i64 r.no) := fun u => u.cell (HQY.out.cell 0)
       go_wp2_with fail
       refine ext_region Y (by kernel_rfl) (by kernel_rfl) (Below.refl _ _) ?_
       repeat (go_big_quiet_step (first | (go_at_call 92; rw [← HE0.out]; exact calls_ext (key_at HKn.out (HGY.out.later (Ext.below _)).isIn.2.2.1 (by omega) J1.out)) | (go_at_call 92; rw [← HE0.out]; exact calls_ext (key_at HKn.out (HGY.out.later (Ext.below _)).isIn.2.2.1 (by omega) J2.out))))
       refine wpQuiet_nil ?_
       intro Y2 hnY2
       have HBY2 := Lib.hid (below_call HBY.out hnY2)
       have HGY2 := Lib.hid (HGY.out.later hnY2)
       have HQY2 := Lib.hid (HQY.out.below hnY2 HQY.out.lt)
       have HAY2 := Lib.hid (HAY.out.below hnY2 HAY.out.lt)
       have hzY2 := HBY2.out.size
       clear hnY2 fg0 fg1 fg2 fg3 fq0 c2
       have hcs := ky_cells (own_lat HGY2.out.keys) HXk.out
       rw [Nat.zero_add] at hcs
       have HC2 := Lib.hid hcs.2.2.1
       have HC5 := Lib.hid hcs.2.2.2.2.2
       clear hcs
       have pw1 : Y2.cell? ⟨p, 2, none⟩ = some (.slice (some ⟨kb, 0, none⟩) kn kc) := HGY2.out.row.cell 2
       have pq1 : Y2.cell? ⟨s, 1, none⟩ = some (.int .i64 r.kind) := HQY2.out.cell 1
       have fg0 : ∀ u : Ext Y2, u.w.cell? ⟨p, 0, none⟩ = some (.int .i64 g.now) := fun u => u.cell (HGY2.out.row.cell 0)
       have fg1 : ∀ u : Ext Y2, u.w.cell? ⟨p, 1, none⟩ = some (.slice wp wn wc) := fun u => u.cell (HGY2.out.row.cell 1)
       have fg2 : ∀ u : Ext Y2, u.w.cell? ⟨p, 2, none⟩ = some (.slice (some ⟨kb, 0, none⟩) kn kc) := fun u => u.cell (HGY2.out.row.cell 2)
       have fg3 : ∀ u : Ext Y2, u.w.cell? ⟨p, 3, none⟩ = some (.slice dp dn dc) := fun u => u.cell (HGY2.out.row.cell 3)
       have fe2 : ∀ u : Ext Y2, u.w.cell? ⟨kb, k * 6 + 2, none⟩ = some (.int .i64 x.fam) := fun u => u.cell (HC2.out)
       have fe5 : ∀ u : Ext Y2, u.w.cell? ⟨kb, k * 6 + 5, none⟩ = some (.int .i64 x.state) := fun u => u.cell (HC5.out)
       go_wp2_with fail
       refine ext_region Y2 (by kernel_rfl) (by kernel_rfl) (Below.refl _ _) ?_
       repeat (go_big_quiet_step ((go_at_call 93; rw [← HE0.out]; exact calls_ext (opensK_at (HGY2.out.later (Ext.below _)).isIn HSm.out HXk.out HOp.out))))
       refine wpQuiet_nil ?_
       intro Y3 hnY3
       have HBY3 := Lib.hid (below_call HBY2.out hnY3)
       have HGY3 := Lib.hid (HGY2.out.later hnY3)
       have HQY3 := Lib.hid (HQY2.out.below hnY3 HQY2.out.lt)
       have HAY3 := Lib.hid (HAY2.out.below hnY3 HAY2.out.lt)
       have hzY3 := HBY3.out.size
       clear hnY3 fg0 fg1 fg2 fg3 fe2 fe5 pw1 pq1
       go_wp2_with fail
       refine (kill_spec x.fam HGY3.out (by omega)).mono ?_
       rintro e Y4 ⟨rfl, dp', dn', dc', hg4, hk4⟩
       have HGY4 := Lib.hid hg4
       have HAY4 := Lib.hid (HAY3.out.kept hk4 HAY3.out.lt (by omega) (by omega) (by omega))
       have HKY4 : Hid (Kept w.heap.size p (blkOf wp p) (blkOf (some ⟨kb, 0, none⟩) p) w Y4) := Lib.hid ((Kept.of_below HBY3.out).trans ⟨hk4.os, hk4.tape, hk4.output, hk4.size, fun i h1 h2 _ _ => hk4.block i (by have := HBY3.out.size; omega) h2 h2 h2⟩)
       clear hg4 hk4
       go_upto_region 20 with fail
       go_wp2_with (refine Stop.out (p := wpList _ _ _ [{ dst := _, op := .store 33 _ _, type := _, pos := _, after := _, guard := _ }] _ _) ?_)
       constructor
       refine told_at (X := blkOf wp p) (Y := blkOf (some ⟨kb, 0, none⟩) p) HAY4.out HGY4.out (HKY4.out) (codeR 10) (by omega) (by omega) rfl rfl rfl rfl rfl ?_
       intro Z HT
       go_wp2_with fail
       refine bodyPost_ret (ret_resp rfl rfl HT.out.resp) rfl ?_
       exact ⟨_, by rw [HE.out]; first | done | rfl, by rw [HE.out]; exact HT.out.gr, HT.out.kept⟩
      | false =>
       cases hop : keyOpenB g.now g.dead x with
       | false =>
        have HOp := Lib.hid hop
        have HE : Hid (doD g r = (g, codeR 8)) := Lib.hid (by rw [HRd.out, hst, hop]; rfl)
        clear hop
        go_enter Tryz.func168, Tryz.ntmps168
        go_upto_region 1 with fail
        rw [← HX0.out, ← HSe.out]
        have fg0 : ∀ u : Ext X, u.w.cell? ⟨p, 0, none⟩ = some (.int .i64 g.now) := fun u => u.cell (HGX.out.row.cell 0)
        have fg1 : ∀ u : Ext X, u.w.cell? ⟨p, 1, none⟩ = some (.slice wp wn wc) := fun u => u.cell (HGX.out.row.cell 1)
        have fg2 : ∀ u : Ext X, u.w.cell? ⟨p, 2, none⟩ = some (.slice (some ⟨kb, 0, none⟩) kn kc) := fun u => u.cell (HGX.out.row.cell 2)
        have fg3 : ∀ u : Ext X, u.w.cell? ⟨p, 3, none⟩ = some (.slice dp dn dc) := fun u => u.cell (HGX.out.row.cell 3)
        have fq0 : ∀ u : Ext X, u.w.cell? ⟨s, 0, none⟩ = some (.int .i64 r.no) := fun u => u.cell (HQX.out.cell 0)
        have fq1 : ∀ u : Ext X, u.w.cell? ⟨s, 1, none⟩ = some (.int .i64 r.kind) := fun u => u.cell (HQX.out.cell 1)
        have fq2 : ∀ u : Ext X, u.w.cell? ⟨s, 2, none⟩ = some (.int .i64 r.client) := fun u => u.cell (HQX.out.cell 2)
        have fq3 : ∀ u : Ext X, u.w.cell? ⟨s, 3, none⟩ = some (.int .i64 r.code) := fun u => u.cell (HQX.out.cell 3)
        have fq4 : ∀ u : Ext X, u.w.cell? ⟨s, 4, none⟩ = some (.int .i64 r.token) := fun u => u.cell (HQX.out.cell 4)
        have fq5 : ∀ u : Ext X, u.w.cell? ⟨s, 5, none⟩ = some (.string r.proof) := fun u => u.cell (HQX.out.cell 5)
        have fq6 : ∀ u : Ext X, u.w.cell? ⟨s, 6, none⟩ = some (.int .i64 r.upTo) := fun u => u.cell (HQX.out.cell 6)
        go_wp2_with fail
        refine ext_region X (by kernel_rfl) (by kernel_rfl) (Below.refl _ _) ?_
        repeat (go_big_quiet_step ((go_at_call 170; rw [← HE0.out, ← HRQ.out]; exact calls_ext (found_at (HGX.out.later (Ext.below _)).isIn HSm.out hp40 HFI.out))))
        refine wpQuiet_nil ?_
        intro Y hnY
        have HBY := Lib.hid (below_call HBX.out hnY)
        have HGY := Lib.hid (HGX.out.later hnY)
        have HQY := Lib.hid (HQX.out.below hnY HQX.out.lt)
        have HAY := Lib.hid (HAX.out.below hnY HAX.out.lt)
        have hzY := HBY.out.size
        clear hnY fg0 fg1 fg2 fg3 fq0 fq1 fq2 fq3 fq4 fq5 fq6
        have c2 : Y.cell? ⟨p, 2, none⟩ = some (.slice (some ⟨kb, 0, none⟩) kn kc) := HGY.out.row.cell 2
        have fg0 : ∀ u : Ext Y, u.w.cell? ⟨p, 0, none⟩ = some (.int .i64 g.now) := fun u => u.cell (HGY.out.row.cell 0)
        have fg1 : ∀ u : Ext Y, u.w.cell? ⟨p, 1, none⟩ = some (.slice wp wn wc) := fun u => u.cell (HGY.out.row.cell 1)
        have fg2 : ∀ u : Ext Y, u.w.cell? ⟨p, 2, none⟩ = some (.slice (some ⟨kb, 0, none⟩) kn kc) := fun u => u.cell (HGY.out.row.cell 2)
        have fg3 : ∀ u : Ext Y, u.w.cell? ⟨p, 3, none⟩ = some (.slice dp dn dc) := fun u => u.cell (HGY.out.row.cell 3)
        have fq0 : ∀ u : Ext Y, u.w.cell? ⟨s, 0, none⟩ = some (.int .i64 r.no) := fun u => u.cell (HQY.out.cell 0)
        go_wp2_with fail
        refine ext_region Y (by kernel_rfl) (by kernel_rfl) (Below.refl _ _) ?_
        repeat (go_big_quiet_step (first | (go_at_call 92; rw [← HE0.out]; exact calls_ext (key_at HKn.out (HGY.out.later (Ext.below _)).isIn.2.2.1 (by omega) J1.out)) | (go_at_call 92; rw [← HE0.out]; exact calls_ext (key_at HKn.out (HGY.out.later (Ext.below _)).isIn.2.2.1 (by omega) J2.out))))
        refine wpQuiet_nil ?_
        intro Y2 hnY2
        have HBY2 := Lib.hid (below_call HBY.out hnY2)
        have HGY2 := Lib.hid (HGY.out.later hnY2)
        have HQY2 := Lib.hid (HQY.out.below hnY2 HQY.out.lt)
        have HAY2 := Lib.hid (HAY.out.below hnY2 HAY.out.lt)
        have hzY2 := HBY2.out.size
        clear hnY2 fg0 fg1 fg2 fg3 fq0 c2
        have hcs := ky_cells (own_lat HGY2.out.keys) HXk.out
        rw [Nat.zero_add] at hcs
        have HC2 := Lib.hid hcs.2.2.1
        have HC5 := Lib.hid hcs.2.2.2.2.2
        clear hcs
        have pw1 : Y2.cell? ⟨p, 2, none⟩ = some (.slice (some ⟨kb, 0, none⟩) kn kc) := HGY2.out.row.cell 2
        have pq1 : Y2.cell? ⟨s, 1, none⟩ = some (.int .i64 r.kind) := HQY2.out.cell 1
        have fg0 : ∀ u : Ext Y2, u.w.cell? ⟨p, 0, none⟩ = some (.int .i64 g.now) := fun u => u.cell (HGY2.out.row.cell 0)
        have fg1 : ∀ u : Ext Y2, u.w.cell? ⟨p, 1, none⟩ = some (.slice wp wn wc) := fun u => u.cell (HGY2.out.row.cell 1)
        have fg2 : ∀ u : Ext Y2, u.w.cell? ⟨p, 2, none⟩ = some (.slice (some ⟨kb, 0, none⟩) kn kc) := fun u => u.cell (HGY2.out.row.cell 2)
        have fg3 : ∀ u : Ext Y2, u.w.cell? ⟨p, 3, none⟩ = some (.slice dp dn dc) := fun u => u.cell (HGY2.out.row.cell 3)
        have fe2 : ∀ u : Ext Y2, u.w.cell? ⟨kb, k * 6 + 2, none⟩ = some (.int .i64 x.fam) := fun u => u.cell (HC2.out)
        have fe5 : ∀ u : Ext Y2, u.w.cell? ⟨kb, k * 6 + 5, none⟩ = some (.int .i64 x.state) := fun u => u.cell (HC5.out)
        go_wp2_with fail
        refine ext_region Y2 (by kernel_rfl) (by kernel_rfl) (Below.refl _ _) ?_
        repeat (go_big_quiet_step ((go_at_call 93; rw [← HE0.out]; exact calls_ext (opensK_at (HGY2.out.later (Ext.below _)).isIn HSm.out HXk.out HOp.out))))
        refine wpQuiet_nil ?_
        intro Y3 hnY3
        have HBY3 := Lib.hid (below_call HBY2.out hnY3)
        have HGY3 := Lib.hid (HGY2.out.later hnY3)
        have HQY3 := Lib.hid (HQY2.out.below hnY3 HQY2.out.lt)
        have HAY3 := Lib.hid (HAY2.out.below hnY3 HAY2.out.lt)
        have hzY3 := HBY3.out.size
        clear hnY3 fg0 fg1 fg2 fg3 fe2 fe5 pw1 pq1
        go_wp2_with (refine Stop.out (p := wpList _ _ _ [{ dst := _, op := .store 33 _ _, type := _, pos := _, after := _, guard := _ }] _ _) ?_)
        constructor
        refine told_at (X := blkOf wp p) (Y := blkOf (some ⟨kb, 0, none⟩) p) HAY3.out HGY3.out (Kept.of_below HBY3.out) (codeR 8) (by omega) (by omega) rfl rfl rfl rfl rfl ?_
        intro Z HT
        go_wp2_with fail
        refine bodyPost_ret (ret_resp rfl rfl HT.out.resp) rfl ?_
        exact ⟨_, by rw [HE.out]; first | done | rfl, by rw [HE.out]; exact HT.out.gr, HT.out.kept⟩
       | true =>
        have HOp := Lib.hid hop
        have HE : Hid (doD g r = (keyG (keyG ⟨g.now, g.words, g.keys.set k (stK 1 x), g.dead⟩ (accK r x.fam g.now)) (nextK r x.fam g.now), giveR r)) := Lib.hid (by rw [HRd.out, hst, hop, HMk.out]; rfl)
        clear hop
        go_enter Tryz.func168, Tryz.ntmps168
        go_upto_region 1 with fail
        rw [← HX0.out, ← HSe.out]
        have fg0 : ∀ u : Ext X, u.w.cell? ⟨p, 0, none⟩ = some (.int .i64 g.now) := fun u => u.cell (HGX.out.row.cell 0)
        have fg1 : ∀ u : Ext X, u.w.cell? ⟨p, 1, none⟩ = some (.slice wp wn wc) := fun u => u.cell (HGX.out.row.cell 1)
        have fg2 : ∀ u : Ext X, u.w.cell? ⟨p, 2, none⟩ = some (.slice (some ⟨kb, 0, none⟩) kn kc) := fun u => u.cell (HGX.out.row.cell 2)
        have fg3 : ∀ u : Ext X, u.w.cell? ⟨p, 3, none⟩ = some (.slice dp dn dc) := fun u => u.cell (HGX.out.row.cell 3)
        have fq0 : ∀ u : Ext X, u.w.cell? ⟨s, 0, none⟩ = some (.int .i64 r.no) := fun u => u.cell (HQX.out.cell 0)
        have fq1 : ∀ u : Ext X, u.w.cell? ⟨s, 1, none⟩ = some (.int .i64 r.kind) := fun u => u.cell (HQX.out.cell 1)
        have fq2 : ∀ u : Ext X, u.w.cell? ⟨s, 2, none⟩ = some (.int .i64 r.client) := fun u => u.cell (HQX.out.cell 2)
        have fq3 : ∀ u : Ext X, u.w.cell? ⟨s, 3, none⟩ = some (.int .i64 r.code) := fun u => u.cell (HQX.out.cell 3)
        have fq4 : ∀ u : Ext X, u.w.cell? ⟨s, 4, none⟩ = some (.int .i64 r.token) := fun u => u.cell (HQX.out.cell 4)
        have fq5 : ∀ u : Ext X, u.w.cell? ⟨s, 5, none⟩ = some (.string r.proof) := fun u => u.cell (HQX.out.cell 5)
        have fq6 : ∀ u : Ext X, u.w.cell? ⟨s, 6, none⟩ = some (.int .i64 r.upTo) := fun u => u.cell (HQX.out.cell 6)
        go_wp2_with fail
        refine ext_region X (by kernel_rfl) (by kernel_rfl) (Below.refl _ _) ?_
        repeat (go_big_quiet_step ((go_at_call 170; rw [← HE0.out, ← HRQ.out]; exact calls_ext (found_at (HGX.out.later (Ext.below _)).isIn HSm.out hp40 HFI.out))))
        refine wpQuiet_nil ?_
        intro Y hnY
        have HBY := Lib.hid (below_call HBX.out hnY)
        have HGY := Lib.hid (HGX.out.later hnY)
        have HQY := Lib.hid (HQX.out.below hnY HQX.out.lt)
        have HAY := Lib.hid (HAX.out.below hnY HAX.out.lt)
        have hzY := HBY.out.size
        clear hnY fg0 fg1 fg2 fg3 fq0 fq1 fq2 fq3 fq4 fq5 fq6
        have c2 : Y.cell? ⟨p, 2, none⟩ = some (.slice (some ⟨kb, 0, none⟩) kn kc) := HGY.out.row.cell 2
        have fg0 : ∀ u : Ext Y, u.w.cell? ⟨p, 0, none⟩ = some (.int .i64 g.now) := fun u => u.cell (HGY.out.row.cell 0)
        have fg1 : ∀ u : Ext Y, u.w.cell? ⟨p, 1, none⟩ = some (.slice wp wn wc) := fun u => u.cell (HGY.out.row.cell 1)
        have fg2 : ∀ u : Ext Y, u.w.cell? ⟨p, 2, none⟩ = some (.slice (some ⟨kb, 0, none⟩) kn kc) := fun u => u.cell (HGY.out.row.cell 2)
        have fg3 : ∀ u : Ext Y, u.w.cell? ⟨p, 3, none⟩ = some (.slice dp dn dc) := fun u => u.cell (HGY.out.row.cell 3)
        have fq0 : ∀ u : Ext Y, u.w.cell? ⟨s, 0, none⟩ = some (.int .i64 r.no) := fun u => u.cell (HQY.out.cell 0)
        go_wp2_with fail
        refine ext_region Y (by kernel_rfl) (by kernel_rfl) (Below.refl _ _) ?_
        repeat (go_big_quiet_step (first | (go_at_call 92; rw [← HE0.out]; exact calls_ext (key_at HKn.out (HGY.out.later (Ext.below _)).isIn.2.2.1 (by omega) J1.out)) | (go_at_call 92; rw [← HE0.out]; exact calls_ext (key_at HKn.out (HGY.out.later (Ext.below _)).isIn.2.2.1 (by omega) J2.out))))
        refine wpQuiet_nil ?_
        intro Y2 hnY2
        have HBY2 := Lib.hid (below_call HBY.out hnY2)
        have HGY2 := Lib.hid (HGY.out.later hnY2)
        have HQY2 := Lib.hid (HQY.out.below hnY2 HQY.out.lt)
        have HAY2 := Lib.hid (HAY.out.below hnY2 HAY.out.lt)
        have hzY2 := HBY2.out.size
        clear hnY2 fg0 fg1 fg2 fg3 fq0 c2
        have hcs := ky_cells (own_lat HGY2.out.keys) HXk.out
        rw [Nat.zero_add] at hcs
        have HC2 := Lib.hid hcs.2.2.1
        have HC5 := Lib.hid hcs.2.2.2.2.2
        clear hcs
        have pw1 : Y2.cell? ⟨p, 2, none⟩ = some (.slice (some ⟨kb, 0, none⟩) kn kc) := HGY2.out.row.cell 2
        have pq1 : Y2.cell? ⟨s, 1, none⟩ = some (.int .i64 r.kind) := HQY2.out.cell 1
        have fg0 : ∀ u : Ext Y2, u.w.cell? ⟨p, 0, none⟩ = some (.int .i64 g.now) := fun u => u.cell (HGY2.out.row.cell 0)
        have fg1 : ∀ u : Ext Y2, u.w.cell? ⟨p, 1, none⟩ = some (.slice wp wn wc) := fun u => u.cell (HGY2.out.row.cell 1)
        have fg2 : ∀ u : Ext Y2, u.w.cell? ⟨p, 2, none⟩ = some (.slice (some ⟨kb, 0, none⟩) kn kc) := fun u => u.cell (HGY2.out.row.cell 2)
        have fg3 : ∀ u : Ext Y2, u.w.cell? ⟨p, 3, none⟩ = some (.slice dp dn dc) := fun u => u.cell (HGY2.out.row.cell 3)
        have fe2 : ∀ u : Ext Y2, u.w.cell? ⟨kb, k * 6 + 2, none⟩ = some (.int .i64 x.fam) := fun u => u.cell (HC2.out)
        have fe5 : ∀ u : Ext Y2, u.w.cell? ⟨kb, k * 6 + 5, none⟩ = some (.int .i64 x.state) := fun u => u.cell (HC5.out)
        go_wp2_with fail
        refine ext_region Y2 (by kernel_rfl) (by kernel_rfl) (Below.refl _ _) ?_
        repeat (go_big_quiet_step ((go_at_call 93; rw [← HE0.out]; exact calls_ext (opensK_at (HGY2.out.later (Ext.below _)).isIn HSm.out HXk.out HOp.out))))
        refine wpQuiet_nil ?_
        intro Y3 hnY3
        have HBY3 := Lib.hid (below_call HBY2.out hnY3)
        have HGY3 := Lib.hid (HGY2.out.later hnY3)
        have HQY3 := Lib.hid (HQY2.out.below hnY3 HQY2.out.lt)
        have HAY3 := Lib.hid (HAY2.out.below hnY3 HAY2.out.lt)
        have hzY3 := HBY3.out.size
        clear hnY3 fg0 fg1 fg2 fg3 fe2 fe5 pw1 pq1
        have hcf : Y3.frozen? ⟨kb, k * 6 + 5, none⟩ = false := own_elem_free kyCf_len (x := x) HGY3.out.keys
        have hce : Y3.cell? ⟨kb, k * 6 + 5, none⟩ = some (.int .i64 x.state) := by
         have h := (ky_cells (own_lat HGY3.out.keys) HXk.out).2.2.2.2.2
         rw [Nat.zero_add] at h
         exact h
        go_upto_region 23 with fail
        obtain ⟨Y4, hY4⟩ : ∃ Y4, Y4 = Y3.setCell ⟨kb, k * 6 + 5, none⟩ (.int .i64 1) := ⟨_, rfl⟩
        have HGY4 : Hid (GrAt tl N Y4 p ⟨wp, wn, wc, some ⟨kb, 0, none⟩, kn, kc, dp, dn, dc⟩ ⟨g.now, g.words, g.keys.set k (stK 1 x), g.dead⟩) := Lib.hid (by
         rw [hY4]
         have hne : some kb ≠ (Value.slice wp wn wc).ownBlock := row_own_ne2 HGY3.out.keys HGY3.out.words (by decide)
         have hne2 : some kb ≠ (Value.slice dp dn dc).ownBlock := row_own_ne2 HGY3.out.keys HGY3.out.dead (by decide)
         have hpg : p ≠ kb := fun e => (row_own_ne HGY3.out.row HGY3.out.keys (by first | decide | exact tl.hW | exact tl.hK | exact tl.hI)) (by rw [e]; rfl)
         exact ⟨HGY3.out.row.setOther (g := kb) (j := k * 6 + 5) hpg _, own_set (a := ⟨kb, k * 6 + 5, none⟩) _ HGY3.out.words hne, own_elem kyCf_len HGY3.out.keys HXk.out (by decide) rfl, own_set (a := ⟨kb, k * 6 + 5, none⟩) _ HGY3.out.dead hne2, hN⟩)
        have HQY4 := Lib.hid (show Row Y4 s 29 (rqL r) by rw [hY4]; exact HQY3.out.setOther (g := kb) (j := k * 6 + 5) (by omega) _)
        have HAY4 := Lib.hid (show Row Y4 (s + 1) 33 (rsL (codeR 0)) by rw [hY4]; exact HAY3.out.setOther (g := kb) (j := k * 6 + 5) (by omega) _)
        have HKY4 : Hid (Kept w.heap.size p (blkOf wp p) (blkOf (some ⟨kb, 0, none⟩) p) w Y4) := Lib.hid (by rw [hY4]; exact (Kept.of_below HBY3.out).setCell (a := ⟨kb, k * 6 + 5, none⟩) _ (.inr (.inr (.inl rfl))))
        rw [← hY4]
        clear hcf hce hY4
        have HK9Y4 : Hid (∀ w', Below Y4.heap.size Y4 w' → w'.cell? ⟨s, 0, none⟩ = some (.int .i64 r.no) ∧ w'.cell? ⟨s, 1, none⟩ = some (.int .i64 r.kind) ∧ w'.cell? ⟨s, 2, none⟩ = some (.int .i64 r.client) ∧ w'.cell? ⟨s, 3, none⟩ = some (.int .i64 r.code) ∧ w'.cell? ⟨s, 4, none⟩ = some (.int .i64 r.token) ∧ w'.cell? ⟨s, 5, none⟩ = some (.string r.proof) ∧ w'.cell? ⟨s, 6, none⟩ = some (.int .i64 r.upTo) ∧ w'.cell? ⟨p, 0, none⟩ = some (.int .i64 g.now)) := Lib.hid (fun w' hb => ⟨(HQY4.out.below hb HQY4.out.lt).cell 0, (HQY4.out.below hb HQY4.out.lt).cell 1, (HQY4.out.below hb HQY4.out.lt).cell 2, (HQY4.out.below hb HQY4.out.lt).cell 3, (HQY4.out.below hb HQY4.out.lt).cell 4, (HQY4.out.below hb HQY4.out.lt).cell 5, (HQY4.out.below hb HQY4.out.lt).cell 6, (HGY4.out.later hb).row.cell 0⟩)
        go_wp2_with fail
        refine region_L 8 (fun _ => True) (fun w' => w'.cell? ⟨s, 0, none⟩ = some (.int .i64 r.no) ∧ w'.cell? ⟨s, 1, none⟩ = some (.int .i64 r.kind) ∧ w'.cell? ⟨s, 2, none⟩ = some (.int .i64 r.client) ∧ w'.cell? ⟨s, 3, none⟩ = some (.int .i64 r.code) ∧ w'.cell? ⟨s, 4, none⟩ = some (.int .i64 r.token) ∧ w'.cell? ⟨s, 5, none⟩ = some (.string r.proof) ∧ w'.cell? ⟨s, 6, none⟩ = some (.int .i64 r.upTo) ∧ w'.cell? ⟨p, 0, none⟩ = some (.int .i64 g.now)) (by kernel_rfl) ⟨fun _ => trivial, HK9Y4.out _ (Below.refl _ _).drew⟩ (fun hHL => ?_)
        refine wpAnyL_take (i := 0) (v := ?_) (by rfl) rfl (by kernel_rfl) (by kernel_rfl) (by kernel_rfl) (fun _ _ _ h => h) (Or.inl ⟨by rfl, ?_⟩) hHL ?_
        rotate_left
        ·intro w hSw; (try dsimp only at hSw); (first | (go_simp; done) | (go_simp; with_reducible rfl))
        clear hHL
        intro hHL
        (try simp only [Act.put, List.setIfInBounds_toArray, List.set_cons_zero, List.set_cons_succ])
        refine wpAnyL_take (i := 1) (v := ?_) (by rfl) rfl (by kernel_rfl) (by kernel_rfl) (by kernel_rfl) (fun _ _ _ h => h) (Or.inl ⟨by rfl, ?_⟩) hHL ?_
        rotate_left
        ·intro w hSw; (try dsimp only at hSw); (first | (go_simp; done) | (go_simp; with_reducible rfl))
        clear hHL
        intro hHL
        (try simp only [Act.put, List.setIfInBounds_toArray, List.set_cons_zero, List.set_cons_succ])
        refine wpAnyL_take (i := 2) (v := ?_) (by rfl) rfl (by kernel_rfl) (by kernel_rfl) (by kernel_rfl) (fun _ _ _ h => h) (Or.inl ⟨by rfl, ?_⟩) hHL ?_
        rotate_left
        ·intro w hSw; (try dsimp only at hSw); (first | (go_simp; done) | (go_simp; with_reducible rfl))
        clear hHL
        intro hHL
        (try simp only [Act.put, List.setIfInBounds_toArray, List.set_cons_zero, List.set_cons_succ])
        refine wpAnyL_take (i := 3) (v := ?_) (by rfl) rfl (by kernel_rfl) (by kernel_rfl) (by kernel_rfl) (fun _ _ _ h => h) (Or.inl ⟨by rfl, ?_⟩) hHL ?_
        rotate_left
        ·intro w hSw; (try dsimp only at hSw); (first | (go_simp; done) | (go_simp; with_reducible rfl))
        clear hHL
        intro hHL
        (try simp only [Act.put, List.setIfInBounds_toArray, List.set_cons_zero, List.set_cons_succ])
        refine wpAnyL_take (i := 4) (v := ?_) (by rfl) rfl (by kernel_rfl) (by kernel_rfl) (by kernel_rfl) (fun _ _ _ h => h) (Or.inl ⟨by rfl, ?_⟩) hHL ?_
        rotate_left
        ·intro w hSw; (try dsimp only at hSw); (first | (go_simp; done) | (go_simp; with_reducible rfl))
        clear hHL
        intro hHL
        (try simp only [Act.put, List.setIfInBounds_toArray, List.set_cons_zero, List.set_cons_succ])
        refine wpAnyL_take (i := 5) (v := ?_) (by rfl) rfl (by kernel_rfl) (by kernel_rfl) (by kernel_rfl) (fun _ _ _ h => h) (Or.inl ⟨by rfl, ?_⟩) hHL ?_
        rotate_left
        ·intro w hSw; (try dsimp only at hSw); (first | (go_simp; done) | (go_simp; with_reducible rfl))
        clear hHL
        intro hHL
        (try simp only [Act.put, List.setIfInBounds_toArray, List.set_cons_zero, List.set_cons_succ])
        refine wpAnyL_take (i := 6) (v := ?_) (by rfl) rfl (by kernel_rfl) (by kernel_rfl) (by kernel_rfl) (fun _ _ _ h => h) (Or.inl ⟨by rfl, ?_⟩) hHL ?_
        rotate_left
        ·intro w hSw; (try dsimp only at hSw); (first | (go_simp; done) | (go_simp; with_reducible rfl))
        clear hHL
        intro hHL
        (try simp only [Act.put, List.setIfInBounds_toArray, List.set_cons_zero, List.set_cons_succ])
        refine wpAnyL_ready (rs := [7]) (by kernel_rfl) (by simp) ?_
        refine AllReadyL.cons rfl (fun K hK => ?_) AllReadyL.nil
        refine step_callTo rfl 224 #[rqV r, .int .i64 x.fam, .int .i64 g.now] (by kernel_rfl) (kyV (accK r x.fam g.now)) (fun w' => Below Y4.drew.heap.size Y4.drew w') (access_spec r x.fam g.now _ hno htm) ?_
        intro v7 hv7
        have HV7 := Lib.hid ((Below.refl Y4.heap.size Y4).drew.trans hv7)
        refine hK.out _ _ ⟨fun _ => trivial, HK9Y4.out _ HV7.out⟩ (fun hHL => ?_)
        clear hK K hv7
        (try simp only [Act.put, List.setIfInBounds_toArray, List.set_cons_zero, List.set_cons_succ])
        refine wpAnyL_ready (rs := [8]) (by kernel_rfl) (by simp) ?_
        refine AllReadyL.cons rfl (fun K hK => ?_) AllReadyL.nil
        refine step_callTo rfl 223 #[.pointer (some ⟨p, 0, none⟩), kyV (accK r x.fam g.now)] (by kernel_rfl) (.tuple #[]) _ (put_spec (accK r x.fam g.now) (HGY4.out.later HV7.out) (by show (g.keys.set k (stK 1 x)).length ≤ 1000; rw [List.length_set]; omega)) ?_
        rintro Y5 ⟨kp', kn', kc', hgn, hkn'⟩
        have hkq : Kept Y4.heap.size p p p Y4 Y5 := (Kept.of_below HV7.out).trans (hkn'.mono HV7.out.size)
        have HGY5 := Lib.hid hgn
        have HQY5 := Lib.hid (HQY4.out.kept hkq HQY4.out.lt (by omega) (by omega) (by omega))
        have HAY5 := Lib.hid (HAY4.out.kept hkq HAY4.out.lt (by omega) (by omega) (by omega))
        have HKY5 : Hid (Kept w.heap.size p (blkOf wp p) (blkOf (some ⟨kb, 0, none⟩) p) w Y5) := Lib.hid (HKY4.out.trans ⟨hkq.os, hkq.tape, hkq.output, hkq.size, fun i h1 h2 _ _ => hkq.block i (by have := HKY4.out.size; omega) h2 h2 h2⟩)
        refine hK.out _ _ ⟨fun _ => trivial, HQY5.out.cell 0, HQY5.out.cell 1, HQY5.out.cell 2, HQY5.out.cell 3, HQY5.out.cell 4, HQY5.out.cell 5, HQY5.out.cell 6, hgn.row.cell 0⟩ (fun hHL => ?_)
        clear hK K hgn hkn' hkq HV7
        refine wpAnyL_done (by kernel_rfl) ?_ _
        clear hHL
        have HK9Y5 : Hid (∀ w', Below Y5.heap.size Y5 w' → w'.cell? ⟨s, 0, none⟩ = some (.int .i64 r.no) ∧ w'.cell? ⟨s, 1, none⟩ = some (.int .i64 r.kind) ∧ w'.cell? ⟨s, 2, none⟩ = some (.int .i64 r.client) ∧ w'.cell? ⟨s, 3, none⟩ = some (.int .i64 r.code) ∧ w'.cell? ⟨s, 4, none⟩ = some (.int .i64 r.token) ∧ w'.cell? ⟨s, 5, none⟩ = some (.string r.proof) ∧ w'.cell? ⟨s, 6, none⟩ = some (.int .i64 r.upTo) ∧ w'.cell? ⟨p, 0, none⟩ = some (.int .i64 g.now)) := Lib.hid (fun w' hb => ⟨(HQY5.out.below hb HQY5.out.lt).cell 0, (HQY5.out.below hb HQY5.out.lt).cell 1, (HQY5.out.below hb HQY5.out.lt).cell 2, (HQY5.out.below hb HQY5.out.lt).cell 3, (HQY5.out.below hb HQY5.out.lt).cell 4, (HQY5.out.below hb HQY5.out.lt).cell 5, (HQY5.out.below hb HQY5.out.lt).cell 6, (HGY5.out.later hb).row.cell 0⟩)
        go_wp2_with fail
        refine region_L 8 (fun _ => True) (fun w' => w'.cell? ⟨s, 0, none⟩ = some (.int .i64 r.no) ∧ w'.cell? ⟨s, 1, none⟩ = some (.int .i64 r.kind) ∧ w'.cell? ⟨s, 2, none⟩ = some (.int .i64 r.client) ∧ w'.cell? ⟨s, 3, none⟩ = some (.int .i64 r.code) ∧ w'.cell? ⟨s, 4, none⟩ = some (.int .i64 r.token) ∧ w'.cell? ⟨s, 5, none⟩ = some (.string r.proof) ∧ w'.cell? ⟨s, 6, none⟩ = some (.int .i64 r.upTo) ∧ w'.cell? ⟨p, 0, none⟩ = some (.int .i64 g.now)) (by kernel_rfl) ⟨fun _ => trivial, HK9Y5.out _ (Below.refl _ _).drew⟩ (fun hHL => ?_)
        refine wpAnyL_take (i := 0) (v := ?_) (by rfl) rfl (by kernel_rfl) (by kernel_rfl) (by kernel_rfl) (fun _ _ _ h => h) (Or.inl ⟨by rfl, ?_⟩) hHL ?_
        rotate_left
        ·intro w hSw; (try dsimp only at hSw); (first | (go_simp; done) | (go_simp; with_reducible rfl))
        clear hHL
        intro hHL
        (try simp only [Act.put, List.setIfInBounds_toArray, List.set_cons_zero, List.set_cons_succ])
        refine wpAnyL_take (i := 1) (v := ?_) (by rfl) rfl (by kernel_rfl) (by kernel_rfl) (by kernel_rfl) (fun _ _ _ h => h) (Or.inl ⟨by rfl, ?_⟩) hHL ?_
        rotate_left
        ·intro w hSw; (try dsimp only at hSw); (first | (go_simp; done) | (go_simp; with_reducible rfl))
        clear hHL
        intro hHL
        (try simp only [Act.put, List.setIfInBounds_toArray, List.set_cons_zero, List.set_cons_succ])
        refine wpAnyL_take (i := 2) (v := ?_) (by rfl) rfl (by kernel_rfl) (by kernel_rfl) (by kernel_rfl) (fun _ _ _ h => h) (Or.inl ⟨by rfl, ?_⟩) hHL ?_
        rotate_left
        ·intro w hSw; (try dsimp only at hSw); (first | (go_simp; done) | (go_simp; with_reducible rfl))
        clear hHL
        intro hHL
        (try simp only [Act.put, List.setIfInBounds_toArray, List.set_cons_zero, List.set_cons_succ])
        refine wpAnyL_take (i := 3) (v := ?_) (by rfl) rfl (by kernel_rfl) (by kernel_rfl) (by kernel_rfl) (fun _ _ _ h => h) (Or.inl ⟨by rfl, ?_⟩) hHL ?_
        rotate_left
        ·intro w hSw; (try dsimp only at hSw); (first | (go_simp; done) | (go_simp; with_reducible rfl))
        clear hHL
        intro hHL
        (try simp only [Act.put, List.setIfInBounds_toArray, List.set_cons_zero, List.set_cons_succ])
        refine wpAnyL_take (i := 4) (v := ?_) (by rfl) rfl (by kernel_rfl) (by kernel_rfl) (by kernel_rfl) (fun _ _ _ h => h) (Or.inl ⟨by rfl, ?_⟩) hHL ?_
        rotate_left
        ·intro w hSw; (try dsimp only at hSw); (first | (go_simp; done) | (go_simp; with_reducible rfl))
        clear hHL
        intro hHL
        (try simp only [Act.put, List.setIfInBounds_toArray, List.set_cons_zero, List.set_cons_succ])
        refine wpAnyL_take (i := 5) (v := ?_) (by rfl) rfl (by kernel_rfl) (by kernel_rfl) (by kernel_rfl) (fun _ _ _ h => h) (Or.inl ⟨by rfl, ?_⟩) hHL ?_
        rotate_left
        ·intro w hSw; (try dsimp only at hSw); (first | (go_simp; done) | (go_simp; with_reducible rfl))
        clear hHL
        intro hHL
        (try simp only [Act.put, List.setIfInBounds_toArray, List.set_cons_zero, List.set_cons_succ])
        refine wpAnyL_take (i := 6) (v := ?_) (by rfl) rfl (by kernel_rfl) (by kernel_rfl) (by kernel_rfl) (fun _ _ _ h => h) (Or.inl ⟨by rfl, ?_⟩) hHL ?_
        rotate_left
        ·intro w hSw; (try dsimp only at hSw); (first | (go_simp; done) | (go_simp; with_reducible rfl))
        clear hHL
        intro hHL
        (try simp only [Act.put, List.setIfInBounds_toArray, List.set_cons_zero, List.set_cons_succ])
        refine wpAnyL_ready (rs := [7]) (by kernel_rfl) (by simp) ?_
        refine AllReadyL.cons rfl (fun K hK => ?_) AllReadyL.nil
        refine step_callTo rfl 225 #[rqV r, .int .i64 x.fam, .int .i64 g.now] (by kernel_rfl) (kyV (nextK r x.fam g.now)) (fun w' => Below Y5.drew.heap.size Y5.drew w') (next_spec r x.fam g.now _ hno htm) ?_
        intro v7 hv7
        have HV7 := Lib.hid ((Below.refl Y5.heap.size Y5).drew.trans hv7)
        refine hK.out _ _ ⟨fun _ => trivial, HK9Y5.out _ HV7.out⟩ (fun hHL => ?_)
        clear hK K hv7
        (try simp only [Act.put, List.setIfInBounds_toArray, List.set_cons_zero, List.set_cons_succ])
        refine wpAnyL_ready (rs := [8]) (by kernel_rfl) (by simp) ?_
        refine AllReadyL.cons rfl (fun K hK => ?_) AllReadyL.nil
        refine step_callTo rfl 223 #[.pointer (some ⟨p, 0, none⟩), kyV (nextK r x.fam g.now)] (by kernel_rfl) (.tuple #[]) _ (put_spec (nextK r x.fam g.now) (HGY5.out.later HV7.out) (by show (insK (g.keys.set k (stK 1 x)) (accK r x.fam g.now)).length ≤ 1000; rw [insK_length, List.length_set]; omega)) ?_
        rintro Y6 ⟨kp', kn', kc', hgn, hkn'⟩
        have hkq : Kept Y5.heap.size p p p Y5 Y6 := (Kept.of_below HV7.out).trans (hkn'.mono HV7.out.size)
        have HGY6 := Lib.hid hgn
        have HQY6 := Lib.hid (HQY5.out.kept hkq HQY5.out.lt (by omega) (by omega) (by omega))
        have HAY6 := Lib.hid (HAY5.out.kept hkq HAY5.out.lt (by omega) (by omega) (by omega))
        have HKY6 : Hid (Kept w.heap.size p (blkOf wp p) (blkOf (some ⟨kb, 0, none⟩) p) w Y6) := Lib.hid (HKY5.out.trans ⟨hkq.os, hkq.tape, hkq.output, hkq.size, fun i h1 h2 _ _ => hkq.block i (by have := HKY5.out.size; omega) h2 h2 h2⟩)
        refine hK.out _ _ ⟨fun _ => trivial, HQY6.out.cell 0, HQY6.out.cell 1, HQY6.out.cell 2, HQY6.out.cell 3, HQY6.out.cell 4, HQY6.out.cell 5, HQY6.out.cell 6, hgn.row.cell 0⟩ (fun hHL => ?_)
        clear hK K hgn hkn' hkq HV7
        refine wpAnyL_done (by kernel_rfl) ?_ _
        clear hHL
        go_upto_region 25 with fail
        have q0 : Y6.cell? ⟨s, 0, none⟩ = some (.int .i64 r.no) := HQY6.out.cell 0
        go_wp2_with (refine Stop.out (p := wpList _ _ _ [{ dst := _, op := .store 33 _ _, type := _, pos := _, after := _, guard := _ }] _ _) ?_)
        constructor
        refine told_at (X := blkOf wp p) (Y := blkOf (some ⟨kb, 0, none⟩) p) HAY6.out HGY6.out (HKY6.out) (giveR r) (by omega) (by omega) rfl rfl rfl rfl rfl ?_
        intro Z HT
        go_wp2_with fail
        refine bodyPost_ret (ret_resp rfl rfl HT.out.resp) rfl ?_
        exact ⟨_, by rw [HE.out]; first | done | rfl, by rw [HE.out]; exact HT.out.gr, HT.out.kept⟩
end Go.Proofs.YtchfgdiipjbgoaaGreat
