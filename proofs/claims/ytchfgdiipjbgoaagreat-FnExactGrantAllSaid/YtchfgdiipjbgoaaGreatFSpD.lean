/- The model: a word issued. -/
import Derived.Test.YtchfgdiipjbgoaaGreatFSpM
import Derived.Test.YtchfgdiipjbgoaaGreatFGdE
import Derived.Test.YtchfgdiipjbgoaaGreatFGrant2
import Derived.Deep.DeepCutAuto
namespace Go.Proofs.YtchfgdiipjbgoaaGreat
open Go Go.RowKit Go.Lib
set_option linter.unusedVariables false
set_option maxRecDepth 100000

def PlRelI {α : Type} (lt : α → Bool) (l : List α) (w : World) (i : Value) (wr : World) : Prop := ∃ k : Nat, k ≤ l.length ∧ i = .int .i64 k ∧ (∀ (j : Nat) (y : α), j < k → l[j]? = some y → lt y = true) ∧ Below w.heap.size w wr
theorem issue_ways (g : Gr) (r : RQ) : (20 ≤ g.words.length ∧ issueD g r = (g, codeR 9)) ∨ (g.words.length < 20 ∧ (∃ x, findW g.words r.no = some x) ∧ issueD g r = (g, codeR 7)) ∨ (g.words.length < 20 ∧ findW g.words r.no = none ∧ issueD g r = (⟨g.now, insW g.words (newW g r), g.keys, g.dead⟩, ⟨0, r.no, 0, false⟩)) := by
 unfold issueD
 by_cases h : 20 ≤ g.words.length
 ·left; exact ⟨h, if_pos h⟩
 ·right
  rw [if_neg h]
  cases hf : findW g.words r.no with
  | some x => left; exact ⟨by omega, ⟨x, rfl⟩, rfl⟩
  | none => right; exact ⟨by omega, rfl, rfl⟩
set_option maxHeartbeats 8000000 in
theorem issue_spec {tl : Tail} {N p : Nat} {h : GH} {g : Gr} {w : World} (r : RQ) (hg : GrAt tl N w p h g) (ht : 0 ≤ g.now ∧ g.now ≤ 1000000) (hlen : g.words.length ≤ 1000) : Calls Tryz.prog 167 #[.pointer (some ⟨p, 0, none⟩), rqV r] w (DoS tl N p h (issueD g r).1 (issueD g r).2 p p w) := by
 obtain ⟨wp, wn, wc, kp, kn, kc, dp, dn, dc⟩ := h
 unfold rqV
 obtain ⟨ht0, ht1⟩ := ht
 have HW10 : Hid (IntKind.i64.wrap (g.now + 10) = g.now + 10) := Lib.hid (by rw [IntKind.wrap_i64]; omega)
 have hpz := hg.row.lt
 have hN := hg.place
 obtain ⟨n, hn⟩ : ∃ n, n = g.words.length := ⟨_, rfl⟩
 have hd := hg.words
 rw [← hn] at hlen
 have HN := Lib.hid hn
 obtain ⟨ii, hi, hz0', hz1, hz2⟩ := info_parts infoWord
 obtain ⟨X, hX⟩ : ∃ X, X = (w.alloc (.cells #[.int .i64 r.no, .int .i64 r.kind, .int .i64 r.client, .int .i64 r.code, .int .i64 r.token, .string r.proof, .int .i64 r.upTo] 29)).alloc (.cells #[.int .i64 0, .int .i64 0, .int .i64 0, .bool false] 33) := ⟨_, rfl⟩
 obtain ⟨s, hs⟩ : ∃ s, s = w.heap.size := ⟨_, rfl⟩
 have hbx : Below w.heap.size w X := by rw [hX]; exact ((Below.refl _ _).alloc (Nat.le_refl _) _).alloc (by simp) _
 have hqx : Row X s 29 (rqL r) := by rw [hX, hs]; exact Row.below (heap_alloc_new w (.cells #[.int .i64 r.no, .int .i64 r.kind, .int .i64 r.client, .int .i64 r.code, .int .i64 r.token, .string r.proof, .int .i64 r.upTo] 29)) ((Below.refl (w.alloc (.cells #[.int .i64 r.no, .int .i64 r.kind, .int .i64 r.client, .int .i64 r.code, .int .i64 r.token, .string r.proof, .int .i64 r.upTo] 29)).heap.size _).alloc (Nat.le_refl _) _) (by simp)
 have hax : Row X (s + 1) 33 (rsL (codeR 0)) := by rw [hX, hs]; exact heap_alloc2_new w (.cells #[.int .i64 r.no, .int .i64 r.kind, .int .i64 r.client, .int .i64 r.code, .int .i64 r.token, .string r.proof, .int .i64 r.upTo] 29) (.cells #[.int .i64 0, .int .i64 0, .int .i64 0, .bool false] 33)
 have HX0 := Lib.hid hX
 have HSe := Lib.hid hs
 have HBx := Lib.hid hbx
 have HQx := Lib.hid hqx
 have HAx := Lib.hid hax
 have HGx := Lib.hid (hg.later hbx)
 have hzx := hbx.size
 have hps : p < s := by omega
 have hsw : w.heap.size ≤ s := by omega
 have HLn : Hid (wn = n) := Lib.hid ((own_len hd).trans hn.symm)
 have HWn : Hid (wn = g.words.length) := Lib.hid (own_len hd)
 have HWs : Hid (LIn wdCf X wp g.words) := Lib.hid (hg.later hbx).isIn.2.1
 have g1 : X.cell? ⟨p, 1, none⟩ = some (.slice wp wn wc) := (hg.later hbx).row.cell 1
 have HE0 := Lib.hid (show grV g.now ⟨wp, wn, wc, kp, kn, kc, dp, dn, dc⟩ = .agg #[.int .i64 g.now, .slice wp wn wc, .slice kp kn kc, .slice dp dn dc] from rfl)
 clear hX hs hbx hqx hax
 rcases issue_ways g r with ⟨hf, he⟩ | ⟨hf, ⟨x, hx⟩, he⟩ | ⟨hf, hx, he⟩
 ·have HE := Lib.hid he
  have hf' : 20 ≤ wn := by have := HLn.out; omega
  clear he hf hd hn hg
  go_enter Tryz.func167, Tryz.ntmps167
  go_upto_region 1 with fail
  rw [← HX0.out, ← HSe.out]
  go_wp2_with (refine Stop.out (p := wpList _ _ _ [{ dst := _, op := .store 33 _ _, type := _, pos := _, after := _, guard := _ }] _ _) ?_)
  constructor
  refine told_at (X := p) (Y := p) HAx.out HGx.out (Kept.of_below HBx.out) (codeR 9) (by omega) (by omega) rfl rfl rfl rfl rfl ?_
  intro Z HT
  go_wp2_with fail
  refine bodyPost_ret (ret_resp rfl rfl HT.out.resp) rfl ?_
  exact ⟨_, by rw [HE.out]; first | done | rfl, by rw [HE.out]; exact HT.out.gr, HT.out.kept⟩
 ·have HE := Lib.hid he
  have hf' : wn < 20 := by have := HLn.out; omega
  obtain ⟨j, hj, _⟩ := wdPl_some hx
  have HJ := Lib.hid hj
  have g0 : ∀ u : Ext X, u.w.cell? ⟨p, 0, none⟩ = some (.int .i64 g.now) := fun u => u.cell (HGx.out.row.cell 0)
  have g1' : ∀ u : Ext X, u.w.cell? ⟨p, 1, none⟩ = some (.slice wp wn wc) := fun u => u.cell (HGx.out.row.cell 1)
  have g2' : ∀ u : Ext X, u.w.cell? ⟨p, 2, none⟩ = some (.slice kp kn kc) := fun u => u.cell (HGx.out.row.cell 2)
  have g3' : ∀ u : Ext X, u.w.cell? ⟨p, 3, none⟩ = some (.slice dp dn dc) := fun u => u.cell (HGx.out.row.cell 3)
  have fb : ∀ u : Ext X, u.w.cell? ⟨s, 0, none⟩ = some (.int .i64 r.no) := fun u => u.cell (HQx.out.cell 0)
  clear he hf hd hn hg hx hj
  go_enter Tryz.func167, Tryz.ntmps167
  go_upto_region 1 with fail
  rw [← HX0.out, ← HSe.out]
  go_wp2_with fail
  refine ext_region X (by kernel_rfl) (by kernel_rfl) (Below.refl _ _) ?_
  repeat (go_big_quiet_step ((go_at_call 101; rw [← HE0.out]; exact calls_ext (word_pl (HWn.out) (HWs.out.later (Ext.below _)) (by rw [← HN.out]; omega) HJ.out))))
  refine wpQuiet_nil ?_
  intro w2 hb2
  have HB2 := Lib.hid (HBx.out.trans (hb2.mono hzx))
  have HG2 := Lib.hid (HGx.out.later hb2)
  have HA2 := Lib.hid (HAx.out.below hb2 HAx.out.lt)
  clear hb2 g1
  go_wp2_with (refine Stop.out (p := wpList _ _ _ [{ dst := _, op := .store 33 _ _, type := _, pos := _, after := _, guard := _ }] _ _) ?_)
  constructor
  refine told_at (X := p) (Y := p) HA2.out HG2.out (Kept.of_below HB2.out) (codeR 7) (by omega) (by omega) rfl rfl rfl rfl rfl ?_
  intro Z HT
  go_wp2_with fail
  refine bodyPost_ret (ret_resp rfl rfl HT.out.resp) rfl ?_
  exact ⟨_, by rw [HE.out]; first | done | rfl, by rw [HE.out]; exact HT.out.gr, HT.out.kept⟩
 ·have HE := Lib.hid he
  have hf' : n < 20 := by omega
  have HJ := Lib.hid (wdPl_none hx)
  clear he hx
  rcases own_ways hd with ⟨rfl, rfl, rfl, h0⟩ | ⟨gN, rfl, hgb, hgl, hdn, hcap, hcm⟩
  ·have hl : g.words = [] := List.eq_nil_of_length_eq_zero h0
   have HL := Lib.hid hl
   have hn0 : n = 0 := by rw [hn, h0]
   have hkn : 0 ≤ n := by omega
   have HI : Hid (insW g.words (newW g r) = g.words.take 0 ++ newW g r :: g.words.drop 0) := Lib.hid (by rw [hl]; rfl)
   clear hd hn hl hg
   have g0 : ∀ u : Ext X, u.w.cell? ⟨p, 0, none⟩ = some (.int .i64 g.now) := fun u => u.cell (HGx.out.row.cell 0)
   have g1' : ∀ u : Ext X, u.w.cell? ⟨p, 1, none⟩ = some (.slice none 0 0) := fun u => u.cell (HGx.out.row.cell 1)
   have g2' : ∀ u : Ext X, u.w.cell? ⟨p, 2, none⟩ = some (.slice kp kn kc) := fun u => u.cell (HGx.out.row.cell 2)
   have g3' : ∀ u : Ext X, u.w.cell? ⟨p, 3, none⟩ = some (.slice dp dn dc) := fun u => u.cell (HGx.out.row.cell 3)
   have fb' : ∀ u : Ext X, u.w.cell? ⟨s, 0, none⟩ = some (.int .i64 r.no) := fun u => u.cell (HQx.out.cell 0)
   go_enter Tryz.func167, Tryz.ntmps167
   go_upto_region 1 with fail
   rw [← HX0.out, ← HSe.out]
   go_wp2_with fail
   refine ext_region X (by kernel_rfl) (by kernel_rfl) (Below.refl _ _) ?_
   repeat (go_big_quiet_step ((go_at_call 101; rw [← HE0.out]; exact calls_ext (word_pl (HWn.out) (HWs.out.later (Ext.below _)) (by rw [← HN.out]; omega) HJ.out))))
   refine wpQuiet_nil ?_
   intro X1 hx1
   have HBx1 := Lib.hid (HBx.out.trans (hx1.mono hzx))
   have HGx1 := Lib.hid (HGx.out.later hx1)
   have HQx1 := Lib.hid (HQx.out.below hx1 HQx.out.lt)
   have HAx1 := Lib.hid (HAx.out.below hx1 HAx.out.lt)
   have hzx1 := HBx1.out.size
   clear hx1 g1 g0 g1' g2' g3' fb'
   go_wp2_with fail
   go_loopw [5] (ZeroW X1) (fun _ _ => 0)
   case atStart => exact ⟨rfl, Below.refl _ _⟩
   case round =>
    obtain ⟨rfl, hbel⟩ := hrel
    have HBr : Hid (Below w.heap.size w wr) := Lib.hid (HBx1.out.trans (hbel.mono hzx1))
    have hzr := HBr.out.size
    have HGr := Lib.hid (HGx1.out.later hbel)
    have HQr := Lib.hid (HQx1.out.below hbel HQx1.out.lt)
    have HAr := Lib.hid (HAx1.out.below hbel HAx1.out.lt)
    have fp : ∀ u : Ext wr, u.w.cell? ⟨p, 1, none⟩ = some (.slice none 0 0) := fun u => u.cell (HGr.out.row.cell 1)
    have fb : ∀ u : Ext wr, u.w.cell? ⟨s, 0, none⟩ = some (.int .i64 r.no) := fun u => u.cell (HQr.out.cell 0)
    clear hbel
    go_wp2_with fail
    refine ext_region wr (by kernel_rfl) (by kernel_rfl) (Below.refl _ _) ?_
    repeat (go_big_quiet_step (fail))
    refine wpQuiet_nil ?_
    intro w2 hb2
    have HB0 := Lib.hid (HBr.out.trans (hb2.mono hzr))
    have hz2' := HB0.out.size
    have HG0 := Lib.hid (HGr.out.later hb2)
    have HQ2 := Lib.hid (HQr.out.below hb2 HQr.out.lt)
    have HA2 := Lib.hid (HAr.out.below hb2 HAr.out.lt)
    clear hb2
    have hbE := (Below.refl w2.heap.size w2).alloc (Nat.le_refl _) (.cells #[] 143)
    have hSs := HG0.out.later hbE
    have HS1 : Hid (Src wdCf (w2.alloc (.cells #[] 143)) (.slice none 0 0) (g.words.take 0)) := Lib.hid (Src.nil (by rw [HL.out]; rfl))
    have HOE := Lib.hid (World.ownsRow_made (base := w2.heap.size) (size := 5) (e := 143) w2 #[] 0 (Nat.le_refl _) (Nat.zero_le _) rfl)
    have c0 : (w2.alloc (.cells #[] 143)).cell? ⟨p, 1, none⟩ = some (.slice none 0 0) := hSs.row.cell 1
    have HbE := Lib.hid hbE
    have HLE : Hid (0 + (g.words.take 0).length ≤ 1048576) := Lib.hid (by rw [List.length_take]; omega)
    have HZE : Hid (w2.heap.size ≤ (w2.alloc (.cells #[] 143)).heap.size) := Lib.hid (by simp)
    clear hbE hSs
    go_wp2_with (first
     | (at_builtin; refine wpList_apps (cf := wdCf) (l := g.words.take 0) rfl (.tmp 44) (.tmp 50) 23 143 rfl ii _ 5 48 Tryz.underlying23 hi hz0' hz1 hz2 rfl (by decide) (by decide) wdCf_len oneWd w2.heap.size _ 0 [] rfl HOE.out _ rfl HS1.out HLE.out HZE.out ?_; intro v1 w1 o1 g1; have hb1 := below_grown HbE.out HZE.out HOE.out g1; have HB1 := Lib.hid hb1; have HO1 := Lib.hid (own_cast o1 (n' := 0) (by rw [List.length_take, ← HN.out]; omega) rfl); have HZ1 := Lib.hid hb1.size; have r1 := HQ2.out.below hb1 HQ2.out.lt; have q0 : w1.cell? ⟨s, 0, none⟩ = some (.int .i64 r.no) := r1.cell 0; have q2 : w1.cell? ⟨s, 2, none⟩ = some (.int .i64 r.client) := r1.cell 2; have q5 : w1.cell? ⟨s, 5, none⟩ = some (.string r.proof) := r1.cell 5; have qn : w1.cell? ⟨p, 0, none⟩ = some (.int .i64 g.now) := (HG0.out.later hb1).row.cell 0; clear r1; clear o1 g1 hb1 c0))
    have HK9 : Hid (∀ w', Below w2.heap.size w2 w' → w'.cell? ⟨s, 0, none⟩ = some (.int .i64 r.no) ∧ w'.cell? ⟨s, 2, none⟩ = some (.int .i64 r.client) ∧ w'.cell? ⟨s, 5, none⟩ = some (.string r.proof) ∧ w'.cell? ⟨p, 0, none⟩ = some (.int .i64 g.now)) := Lib.hid (fun w' hb => ⟨(HQ2.out.below hb HQ2.out.lt).cell 0, (HQ2.out.below hb HQ2.out.lt).cell 2, (HQ2.out.below hb HQ2.out.lt).cell 5, (HG0.out.later hb).row.cell 0⟩)
    have HBd := Lib.hid (HB1.out.trans ((Below.refl w1.heap.size w1).drew.mono HZ1.out))
    clear q0 q2 q5 qn
    refine region_L 15 (fun _ => True) (fun w' => w'.cell? ⟨s, 0, none⟩ = some (.int .i64 r.no) ∧ w'.cell? ⟨s, 2, none⟩ = some (.int .i64 r.client) ∧ w'.cell? ⟨s, 5, none⟩ = some (.string r.proof) ∧ w'.cell? ⟨p, 0, none⟩ = some (.int .i64 g.now)) (by kernel_rfl) ⟨fun _ => trivial, HK9.out _ HBd.out⟩ (fun hHL => ?_)
    refine wpAnyL_take (i := 0) (v := ?_) (by rfl) rfl (by kernel_rfl) (by kernel_rfl) (by kernel_rfl) (fun _ _ _ h => h) (Or.inl ⟨by rfl, ?_⟩) hHL ?_
    rotate_left
    ·intro w hSw; (try dsimp only at hSw); (first | (go_simp; done) | (go_simp; with_reducible rfl))
    clear hHL
    intro hHL
    (try simp only [Act.put, List.setIfInBounds_toArray, List.set_cons_zero, List.set_cons_succ])
    refine wpAnyL_take (i := 1) (v := ?_) (by rfl) rfl (by kernel_rfl) (by kernel_rfl) (by kernel_rfl) (fun _ _ _ h => h) (Or.inl ⟨by rfl, ?_⟩) hHL ?_
    rotate_left
    ·intro w hSw; (try dsimp only at hSw); (first | (go_simp; done) | (go_simp; with_reducible rfl))
    clear hHL
    intro hHL
    (try simp only [Act.put, List.setIfInBounds_toArray, List.set_cons_zero, List.set_cons_succ])
    refine wpAnyL_take (i := 2) (v := ?_) (by rfl) rfl (by kernel_rfl) (by kernel_rfl) (by kernel_rfl) (fun _ _ _ h => h) (Or.inl ⟨by rfl, ?_⟩) hHL ?_
    rotate_left
    ·intro w hSw; (try dsimp only at hSw); (first | (go_simp; done) | (go_simp; with_reducible rfl))
    clear hHL
    intro hHL
    (try simp only [Act.put, List.setIfInBounds_toArray, List.set_cons_zero, List.set_cons_succ])
    refine wpAnyL_take (i := 3) (v := ?_) (by rfl) rfl (by kernel_rfl) (by kernel_rfl) (by kernel_rfl) (fun _ _ _ h => h) (Or.inl ⟨by rfl, ?_⟩) hHL ?_
    rotate_left
    ·intro w hSw; (try dsimp only at hSw); (first | (go_simp; done) | (go_simp; with_reducible rfl))
    clear hHL
    intro hHL
    (try simp only [Act.put, List.setIfInBounds_toArray, List.set_cons_zero, List.set_cons_succ])
    refine wpAnyL_take (i := 4) (v := ?_) (by rfl) rfl (by kernel_rfl) (by kernel_rfl) (by kernel_rfl) (fun _ _ _ h => h) (Or.inl ⟨by rfl, ?_⟩) hHL ?_
    rotate_left
    ·intro w hSw; (try dsimp only at hSw); (first | (go_simp; done) | (go_simp; with_reducible rfl))
    clear hHL
    intro hHL
    (try simp only [Act.put, List.setIfInBounds_toArray, List.set_cons_zero, List.set_cons_succ])
    refine wpAnyL_take (i := 5) (v := ?_) (by rfl) rfl (by kernel_rfl) (by kernel_rfl) (by kernel_rfl) (fun _ _ _ h => h) (Or.inl ⟨by rfl, ?_⟩) hHL ?_
    rotate_left
    ·intro w hSw; (try dsimp only at hSw); (first | (go_simp; done) | (go_simp; with_reducible rfl))
    clear hHL
    intro hHL
    (try simp only [Act.put, List.setIfInBounds_toArray, List.set_cons_zero, List.set_cons_succ])
    refine wpAnyL_take (i := 6) (v := ?_) (by rfl) rfl (by kernel_rfl) (by kernel_rfl) (by kernel_rfl) (fun _ _ _ h => h) (Or.inl ⟨by rfl, ?_⟩) hHL ?_
    rotate_left
    ·intro w hSw; (try dsimp only at hSw); (first | (go_simp; done) | (go_simp; with_reducible rfl))
    clear hHL
    intro hHL
    (try simp only [Act.put, List.setIfInBounds_toArray, List.set_cons_zero, List.set_cons_succ])
    refine wpAnyL_take (i := 7) (v := ?_) (by rfl) rfl (by kernel_rfl) (by kernel_rfl) (by kernel_rfl) (fun _ _ _ h => h) (Or.inl ⟨by rfl, ?_⟩) hHL ?_
    rotate_left
    ·intro w hSw; (try dsimp only at hSw); (first | (go_simp; done) | (go_simp; with_reducible rfl))
    clear hHL
    intro hHL
    (try simp only [Act.put, List.setIfInBounds_toArray, List.set_cons_zero, List.set_cons_succ])
    refine wpAnyL_take (i := 8) (v := ?_) (by rfl) rfl (by kernel_rfl) (by kernel_rfl) (by kernel_rfl) (fun _ _ _ h => h) (Or.inl ⟨by rfl, ?_⟩) hHL ?_
    rotate_left
    ·intro w hSw; (try dsimp only at hSw); (first | (go_simp; done) | (go_simp; with_reducible rfl))
    clear hHL
    intro hHL
    (try simp only [Act.put, List.setIfInBounds_toArray, List.set_cons_zero, List.set_cons_succ])
    refine wpAnyL_take (i := 9) (v := ?_) (by rfl) rfl (by kernel_rfl) (by kernel_rfl) (by kernel_rfl) (fun _ _ _ h => h) (Or.inl ⟨by rfl, ?_⟩) hHL ?_
    rotate_left
    ·intro w hSw; (try dsimp only at hSw); (first | (go_simp; done) | (go_simp; with_reducible rfl))
    clear hHL
    intro hHL
    (try simp only [Act.put, List.setIfInBounds_toArray, List.set_cons_zero, List.set_cons_succ])
    refine wpAnyL_take (i := 10) (v := ?_) (by rfl) rfl (by kernel_rfl) (by kernel_rfl) (by kernel_rfl) (fun _ _ _ h => h) (Or.inl ⟨by rfl, ?_⟩) hHL ?_
    rotate_left
    ·intro w hSw; (try dsimp only at hSw); (first | (go_simp; done) | (go_simp; with_reducible rfl))
    clear hHL
    intro hHL
    (try simp only [Act.put, List.setIfInBounds_toArray, List.set_cons_zero, List.set_cons_succ])
    refine wpAnyL_take (i := 11) (v := ?_) (by rfl) rfl (by kernel_rfl) (by kernel_rfl) (by kernel_rfl) (fun _ _ _ h => h) (Or.inl ⟨by rfl, ?_⟩) hHL ?_
    rotate_left
    ·intro w hSw; (try dsimp only at hSw); (first | (go_simp; done) | (go_simp; with_reducible rfl))
    clear hHL
    intro hHL
    (try simp only [Act.put, List.setIfInBounds_toArray, List.set_cons_zero, List.set_cons_succ])
    simp only [HW10.out]
    refine wpAnyL_ready (rs := [12]) (by kernel_rfl) (by simp) ?_
    refine AllReadyL.cons rfl (fun K hK => ?_) AllReadyL.nil
    refine step_callTo rfl 169 #[.int .i64 (g.now + 10)] (by kernel_rfl) (.int .i64 (upT (g.now + 10))) (fun w' => w' = w1.drew) (upT_spec _ _) ?_
    intro w7 hw7
    rw [hw7]
    clear hw7 w7
    refine hK.out _ _ ⟨fun _ => trivial, HK9.out _ HBd.out⟩ (fun hHL => ?_)
    clear hK K
    (try simp only [Act.put, List.setIfInBounds_toArray, List.set_cons_zero, List.set_cons_succ])
    refine wpAnyL_take (i := 13) (v := ?_) (by rfl) rfl (by kernel_rfl) (by kernel_rfl) (by kernel_rfl) (fun _ _ _ h => h) (Or.inl ⟨by rfl, ?_⟩) hHL ?_
    rotate_left
    ·intro w hSw; (try dsimp only at hSw); (first | (go_simp; done) | (go_simp; with_reducible rfl))
    clear hHL
    intro hHL
    (try simp only [Act.put, List.setIfInBounds_toArray, List.set_cons_zero, List.set_cons_succ])
    refine wpAnyL_ready (rs := [14]) (by kernel_rfl) (by simp) ?_
    refine AllReadyL.cons rfl (fun K hK => ?_) AllReadyL.nil
    go_simp
    refine hK.out _ _ ⟨fun _ => trivial, HK9.out _ (HBd.out.alloc HBd.out.size _)⟩ (fun hHL => ?_)
    clear hK K
    (try simp only [Act.put, List.setIfInBounds_toArray, List.set_cons_zero, List.set_cons_succ])
    refine wpAnyL_ready (rs := [15]) (by kernel_rfl) (by simp) ?_
    refine AllReadyL.cons rfl (fun K hK => ?_) AllReadyL.nil
    refine step_appo rfl (.tmp 52) (.tmp 66) 23 143 rfl ii _ 5 48 Tryz.underlying23 hi hz0' hz1 hz2 rfl (by decide) (by decide) w2.heap.size (by have := HBd.out.size; simp at this ⊢; omega) v1 0 _ (wdCf (newW g r)) rfl ((own_late HO1.out (Below.refl _ _).drew).alloc _) ⟨_, 0, none⟩ rfl (fun j u hj => by rw [Addr.add_mid, Nat.zero_add]; exact ((show Row _ _ _ _ from heap_alloc_new _ _).cell j).trans hj) rfl (oneWd (newW g r)) (by omega) ?_
    intro v2 w3 o2 g2
    have hb2 := below_grown (HBd.out.alloc HBd.out.size _) (by have := HBd.out.size; simp at this ⊢; omega) ((own_late HO1.out (Below.refl w1.heap.size w1).drew).alloc _) g2
    have HB2 := Lib.hid hb2
    have HO2 := Lib.hid o2
    have HZ2 := Lib.hid hb2.size
    have c2 : w3.cell? ⟨p, 1, none⟩ = some (.slice none 0 0) := (HG0.out.later hb2).row.cell 1
    refine hK.out _ _ ⟨fun _ => trivial, HK9.out _ hb2⟩ (fun hHL => ?_)
    clear hK K o2 g2 hb2
    (try simp only [Act.put, List.setIfInBounds_toArray, List.set_cons_zero, List.set_cons_succ])
    refine wpAnyL_take (i := 16) (v := ?_) (by rfl) rfl (by kernel_rfl) (by kernel_rfl) (by kernel_rfl) (fun _ _ _ h => h) (Or.inl ⟨by rfl, ?_⟩) hHL ?_
    rotate_left
    ·intro w hSw; (try dsimp only at hSw); (first | (go_simp; done) | (go_simp; with_reducible rfl))
    clear hHL
    intro hHL
    (try simp only [Act.put, List.setIfInBounds_toArray, List.set_cons_zero, List.set_cons_succ])
    refine wpAnyL_done (by kernel_rfl) ?_ _
    clear hHL
    go_wp2_with (first
     | (at_builtin; refine wpList_apps (cf := wdCf) (l := g.words.drop 0) rfl (.tmp 69) (.tmp 75) 23 143 rfl ii _ 5 48 Tryz.underlying23 hi hz0' hz1 hz2 rfl (by decide) (by decide) wdCf_len oneWd w2.heap.size v2 (0 + 1) _ rfl HO2.out _ rfl (Src.nil (by rw [HL.out]; rfl)) (by rw [List.length_drop, ← HN.out]; omega) HZ2.out ?_; intro v3 w4 o3 g3; obtain ⟨dp', dc', rfl⟩ := own_slc o3; obtain ⟨m3, hm3⟩ : ∃ m3, m3 = 0 + 1 + (g.words.drop 0).length := ⟨_, rfl⟩; rw [← hm3] at o3 ⊢; have HM3 := Lib.hid hm3; have hb3 := below_grown HB2.out HZ2.out HO2.out g3; have HB3 := Lib.hid hb3; have HO3 := Lib.hid o3; have c3' : w4.cell? ⟨p, 1, none⟩ = some (.slice none 0 0) := (HG0.out.later hb3).row.cell 1; have f3' : w4.frozen? ⟨p, 1, none⟩ = false := (HG0.out.later hb3).row.free 1; have q0 : (w4.setCell ⟨p, 1, none⟩ (.slice dp' m3 dc')).cell? ⟨s, 0, none⟩ = some (.int .i64 r.no) := ((HQ2.out.below hb3 HQ2.out.lt).setOther (g := p) (j := 1) (show s ≠ p by omega) _).cell 0; clear o3 g3 hb3 c2 hm3)
     | (refine Stop.out (p := wpList _ _ _ [{ dst := _, op := .store 33 _ _, type := _, pos := _, after := _, guard := _ }] _ _) ?_))
    constructor
    have HG3 := HG0.out.later HB3.out
    have HK3 : Hid (Kept w.heap.size p p p w (w4.setCell ⟨p, 1, none⟩ (.slice dp' m3 dc'))) := Lib.hid ((Kept.of_below (HB0.out.trans (HB3.out.mono hz2'))).setCell (a := ⟨p, 1, none⟩) _ (.inl rfl))
    have HQ4 := Lib.hid ((HA2.out.below HB3.out HA2.out.lt).setOther (g := p) (j := 1) (by omega) (.slice dp' m3 dc'))
    have HF : Hid (GrAt tl N (w4.setCell ⟨p, 1, none⟩ (.slice dp' m3 dc')) p ⟨dp', m3, dc', kp, kn, kc, dp, dn, dc⟩ ⟨g.now, insW g.words (newW g r), g.keys, g.dead⟩) := Lib.hid ⟨HG3.row.set 1 _, own_set _ (own_down (own_cast HO3.out (by
     show _ = (insW g.words (newW g r)).length
     rw [HM3.out, HI.out, List.length_append, List.length_cons, List.length_take, ← HN.out]
     omega) (by
     show _ = (insW g.words (newW g r)).flatMap wdCf
     rw [HI.out]
     simp)) (by omega)) (row_own_ne HG3.row HO3.out (by first | decide | exact tl.hW | exact tl.hK | exact tl.hI)), own_set _ HG3.keys (row_own_ne HG3.row HG3.keys (by first | decide | exact tl.hW | exact tl.hK | exact tl.hI)), own_set _ HG3.dead (row_own_ne HG3.row HG3.dead (by first | decide | exact tl.hW | exact tl.hK | exact tl.hI)), hN⟩
    clear HG3
    refine told_at (X := p) (Y := p) HQ4.out HF.out HK3.out ⟨0, r.no, 0, false⟩ (by omega) (by omega) rfl rfl rfl rfl rfl ?_
    intro Z HT
    go_wp2_with fail
    refine bodyPost_ret (ret_resp rfl rfl HT.out.resp) rfl ?_
    exact ⟨_, by rw [HE.out]; first | done | rfl, by rw [HE.out]; exact HT.out.gr, HT.out.kept⟩
  ·rw [← hn] at hdn hcap
   have hdn' := hdn.symm
   subst hdn'
   by_cases hn0 : n = 0
   ·have hl : g.words = [] := List.eq_nil_of_length_eq_zero (by omega)
    have HL := Lib.hid hl
    subst hn0
    have hkn : 0 ≤ 0 := by omega
    have HI : Hid (insW g.words (newW g r) = g.words.take 0 ++ newW g r :: g.words.drop 0) := Lib.hid (by rw [hl]; rfl)
    clear hd hn hl hg
    have g0 : ∀ u : Ext X, u.w.cell? ⟨p, 0, none⟩ = some (.int .i64 g.now) := fun u => u.cell (HGx.out.row.cell 0)
    have g1' : ∀ u : Ext X, u.w.cell? ⟨p, 1, none⟩ = some (.slice (some ⟨gN, 0, none⟩) 0 wc) := fun u => u.cell (HGx.out.row.cell 1)
    have g2' : ∀ u : Ext X, u.w.cell? ⟨p, 2, none⟩ = some (.slice kp kn kc) := fun u => u.cell (HGx.out.row.cell 2)
    have g3' : ∀ u : Ext X, u.w.cell? ⟨p, 3, none⟩ = some (.slice dp dn dc) := fun u => u.cell (HGx.out.row.cell 3)
    have fb' : ∀ u : Ext X, u.w.cell? ⟨s, 0, none⟩ = some (.int .i64 r.no) := fun u => u.cell (HQx.out.cell 0)
    go_enter Tryz.func167, Tryz.ntmps167
    go_upto_region 1 with fail
    rw [← HX0.out, ← HSe.out]
    go_wp2_with fail
    refine ext_region X (by kernel_rfl) (by kernel_rfl) (Below.refl _ _) ?_
    repeat (go_big_quiet_step ((go_at_call 101; rw [← HE0.out]; exact calls_ext (word_pl (HWn.out) (HWs.out.later (Ext.below _)) (by rw [← HN.out]; omega) HJ.out))))
    refine wpQuiet_nil ?_
    intro X1 hx1
    have HBx1 := Lib.hid (HBx.out.trans (hx1.mono hzx))
    have HGx1 := Lib.hid (HGx.out.later hx1)
    have HQx1 := Lib.hid (HQx.out.below hx1 HQx.out.lt)
    have HAx1 := Lib.hid (HAx.out.below hx1 HAx.out.lt)
    have hzx1 := HBx1.out.size
    clear hx1 g1 g0 g1' g2' g3' fb'
    go_wp2_with fail
    go_loopw [5] (ZeroW X1) (fun _ _ => 0)
    case atStart => exact ⟨rfl, Below.refl _ _⟩
    case round =>
     obtain ⟨rfl, hbel⟩ := hrel
     have HBr : Hid (Below w.heap.size w wr) := Lib.hid (HBx1.out.trans (hbel.mono hzx1))
     have hzr := HBr.out.size
     have HGr := Lib.hid (HGx1.out.later hbel)
     have HQr := Lib.hid (HQx1.out.below hbel HQx1.out.lt)
     have HAr := Lib.hid (HAx1.out.below hbel HAx1.out.lt)
     have fp : ∀ u : Ext wr, u.w.cell? ⟨p, 1, none⟩ = some (.slice (some ⟨gN, 0, none⟩) 0 wc) := fun u => u.cell (HGr.out.row.cell 1)
     have fb : ∀ u : Ext wr, u.w.cell? ⟨s, 0, none⟩ = some (.int .i64 r.no) := fun u => u.cell (HQr.out.cell 0)
     clear hbel
     go_wp2_with fail
     refine ext_region wr (by kernel_rfl) (by kernel_rfl) (Below.refl _ _) ?_
     repeat (go_big_quiet_step (fail))
     refine wpQuiet_nil ?_
     intro w2 hb2
     have HB0 := Lib.hid (HBr.out.trans (hb2.mono hzr))
     have hz2' := HB0.out.size
     have HG0 := Lib.hid (HGr.out.later hb2)
     have HQ2 := Lib.hid (HQr.out.below hb2 HQr.out.lt)
     have HA2 := Lib.hid (HAr.out.below hb2 HAr.out.lt)
     clear hb2
     have hbE := (Below.refl w2.heap.size w2).alloc (Nat.le_refl _) (.cells #[] 143)
     have hSs := HG0.out.later hbE
     have HS1 : Hid (Src wdCf (w2.alloc (.cells #[] 143)) (.slice (some ⟨gN, 0, none⟩) 0 wc) (g.words.take 0)) := Lib.hid (Src.zero (by rw [HL.out]; rfl) rfl)
     have HOE := Lib.hid (World.ownsRow_made (base := w2.heap.size) (size := 5) (e := 143) w2 #[] 0 (Nat.le_refl _) (Nat.zero_le _) rfl)
     have c0 : (w2.alloc (.cells #[] 143)).cell? ⟨p, 1, none⟩ = some (.slice (some ⟨gN, 0, none⟩) 0 wc) := hSs.row.cell 1
     have HbE := Lib.hid hbE
     have HLE : Hid (0 + (g.words.take 0).length ≤ 1048576) := Lib.hid (by rw [List.length_take]; omega)
     have HZE : Hid (w2.heap.size ≤ (w2.alloc (.cells #[] 143)).heap.size) := Lib.hid (by simp)
     clear hbE hSs
     go_wp2_with (first
      | (at_builtin; refine wpList_apps (cf := wdCf) (l := g.words.take 0) rfl (.tmp 44) (.tmp 50) 23 143 rfl ii _ 5 48 Tryz.underlying23 hi hz0' hz1 hz2 rfl (by decide) (by decide) wdCf_len oneWd w2.heap.size _ 0 [] rfl HOE.out _ rfl HS1.out HLE.out HZE.out ?_; intro v1 w1 o1 g1; have hb1 := below_grown HbE.out HZE.out HOE.out g1; have HB1 := Lib.hid hb1; have HO1 := Lib.hid (own_cast o1 (n' := 0) (by rw [List.length_take, ← HN.out]; omega) rfl); have HZ1 := Lib.hid hb1.size; have r1 := HQ2.out.below hb1 HQ2.out.lt; have q0 : w1.cell? ⟨s, 0, none⟩ = some (.int .i64 r.no) := r1.cell 0; have q2 : w1.cell? ⟨s, 2, none⟩ = some (.int .i64 r.client) := r1.cell 2; have q5 : w1.cell? ⟨s, 5, none⟩ = some (.string r.proof) := r1.cell 5; have qn : w1.cell? ⟨p, 0, none⟩ = some (.int .i64 g.now) := (HG0.out.later hb1).row.cell 0; clear r1; clear o1 g1 hb1 c0))
     have HK9 : Hid (∀ w', Below w2.heap.size w2 w' → w'.cell? ⟨s, 0, none⟩ = some (.int .i64 r.no) ∧ w'.cell? ⟨s, 2, none⟩ = some (.int .i64 r.client) ∧ w'.cell? ⟨s, 5, none⟩ = some (.string r.proof) ∧ w'.cell? ⟨p, 0, none⟩ = some (.int .i64 g.now)) := Lib.hid (fun w' hb => ⟨(HQ2.out.below hb HQ2.out.lt).cell 0, (HQ2.out.below hb HQ2.out.lt).cell 2, (HQ2.out.below hb HQ2.out.lt).cell 5, (HG0.out.later hb).row.cell 0⟩)
     have HBd := Lib.hid (HB1.out.trans ((Below.refl w1.heap.size w1).drew.mono HZ1.out))
     clear q0 q2 q5 qn
     refine region_L 15 (fun _ => True) (fun w' => w'.cell? ⟨s, 0, none⟩ = some (.int .i64 r.no) ∧ w'.cell? ⟨s, 2, none⟩ = some (.int .i64 r.client) ∧ w'.cell? ⟨s, 5, none⟩ = some (.string r.proof) ∧ w'.cell? ⟨p, 0, none⟩ = some (.int .i64 g.now)) (by kernel_rfl) ⟨fun _ => trivial, HK9.out _ HBd.out⟩ (fun hHL => ?_)
     refine wpAnyL_take (i := 0) (v := ?_) (by rfl) rfl (by kernel_rfl) (by kernel_rfl) (by kernel_rfl) (fun _ _ _ h => h) (Or.inl ⟨by rfl, ?_⟩) hHL ?_
     rotate_left
     ·intro w hSw; (try dsimp only at hSw); (first | (go_simp; done) | (go_simp; with_reducible rfl))
     clear hHL
     intro hHL
     (try simp only [Act.put, List.setIfInBounds_toArray, List.set_cons_zero, List.set_cons_succ])
     refine wpAnyL_take (i := 1) (v := ?_) (by rfl) rfl (by kernel_rfl) (by kernel_rfl) (by kernel_rfl) (fun _ _ _ h => h) (Or.inl ⟨by rfl, ?_⟩) hHL ?_
     rotate_left
     ·intro w hSw; (try dsimp only at hSw); (first | (go_simp; done) | (go_simp; with_reducible rfl))
     clear hHL
     intro hHL
     (try simp only [Act.put, List.setIfInBounds_toArray, List.set_cons_zero, List.set_cons_succ])
     refine wpAnyL_take (i := 2) (v := ?_) (by rfl) rfl (by kernel_rfl) (by kernel_rfl) (by kernel_rfl) (fun _ _ _ h => h) (Or.inl ⟨by rfl, ?_⟩) hHL ?_
     rotate_left
     ·intro w hSw; (try dsimp only at hSw); (first | (go_simp; done) | (go_simp; with_reducible rfl))
     clear hHL
     intro hHL
     (try simp only [Act.put, List.setIfInBounds_toArray, List.set_cons_zero, List.set_cons_succ])
     refine wpAnyL_take (i := 3) (v := ?_) (by rfl) rfl (by kernel_rfl) (by kernel_rfl) (by kernel_rfl) (fun _ _ _ h => h) (Or.inl ⟨by rfl, ?_⟩) hHL ?_
     rotate_left
     ·intro w hSw; (try dsimp only at hSw); (first | (go_simp; done) | (go_simp; with_reducible rfl))
     clear hHL
     intro hHL
     (try simp only [Act.put, List.setIfInBounds_toArray, List.set_cons_zero, List.set_cons_succ])
     refine wpAnyL_take (i := 4) (v := ?_) (by rfl) rfl (by kernel_rfl) (by kernel_rfl) (by kernel_rfl) (fun _ _ _ h => h) (Or.inl ⟨by rfl, ?_⟩) hHL ?_
     rotate_left
     ·intro w hSw; (try dsimp only at hSw); (first | (go_simp; done) | (go_simp; with_reducible rfl))
     clear hHL
     intro hHL
     (try simp only [Act.put, List.setIfInBounds_toArray, List.set_cons_zero, List.set_cons_succ])
     refine wpAnyL_take (i := 5) (v := ?_) (by rfl) rfl (by kernel_rfl) (by kernel_rfl) (by kernel_rfl) (fun _ _ _ h => h) (Or.inl ⟨by rfl, ?_⟩) hHL ?_
     rotate_left
     ·intro w hSw; (try dsimp only at hSw); (first | (go_simp; done) | (go_simp; with_reducible rfl))
     clear hHL
     intro hHL
     (try simp only [Act.put, List.setIfInBounds_toArray, List.set_cons_zero, List.set_cons_succ])
     refine wpAnyL_take (i := 6) (v := ?_) (by rfl) rfl (by kernel_rfl) (by kernel_rfl) (by kernel_rfl) (fun _ _ _ h => h) (Or.inl ⟨by rfl, ?_⟩) hHL ?_
     rotate_left
     ·intro w hSw; (try dsimp only at hSw); (first | (go_simp; done) | (go_simp; with_reducible rfl))
     clear hHL
     intro hHL
     (try simp only [Act.put, List.setIfInBounds_toArray, List.set_cons_zero, List.set_cons_succ])
     refine wpAnyL_take (i := 7) (v := ?_) (by rfl) rfl (by kernel_rfl) (by kernel_rfl) (by kernel_rfl) (fun _ _ _ h => h) (Or.inl ⟨by rfl, ?_⟩) hHL ?_
     rotate_left
     ·intro w hSw; (try dsimp only at hSw); (first | (go_simp; done) | (go_simp; with_reducible rfl))
     clear hHL
     intro hHL
     (try simp only [Act.put, List.setIfInBounds_toArray, List.set_cons_zero, List.set_cons_succ])
     refine wpAnyL_take (i := 8) (v := ?_) (by rfl) rfl (by kernel_rfl) (by kernel_rfl) (by kernel_rfl) (fun _ _ _ h => h) (Or.inl ⟨by rfl, ?_⟩) hHL ?_
     rotate_left
     ·intro w hSw; (try dsimp only at hSw); (first | (go_simp; done) | (go_simp; with_reducible rfl))
     clear hHL
     intro hHL
     (try simp only [Act.put, List.setIfInBounds_toArray, List.set_cons_zero, List.set_cons_succ])
     refine wpAnyL_take (i := 9) (v := ?_) (by rfl) rfl (by kernel_rfl) (by kernel_rfl) (by kernel_rfl) (fun _ _ _ h => h) (Or.inl ⟨by rfl, ?_⟩) hHL ?_
     rotate_left
     ·intro w hSw; (try dsimp only at hSw); (first | (go_simp; done) | (go_simp; with_reducible rfl))
     clear hHL
     intro hHL
     (try simp only [Act.put, List.setIfInBounds_toArray, List.set_cons_zero, List.set_cons_succ])
     refine wpAnyL_take (i := 10) (v := ?_) (by rfl) rfl (by kernel_rfl) (by kernel_rfl) (by kernel_rfl) (fun _ _ _ h => h) (Or.inl ⟨by rfl, ?_⟩) hHL ?_
     rotate_left
     ·intro w hSw; (try dsimp only at hSw); (first | (go_simp; done) | (go_simp; with_reducible rfl))
     clear hHL
     intro hHL
     (try simp only [Act.put, List.setIfInBounds_toArray, List.set_cons_zero, List.set_cons_succ])
     refine wpAnyL_take (i := 11) (v := ?_) (by rfl) rfl (by kernel_rfl) (by kernel_rfl) (by kernel_rfl) (fun _ _ _ h => h) (Or.inl ⟨by rfl, ?_⟩) hHL ?_
     rotate_left
     ·intro w hSw; (try dsimp only at hSw); (first | (go_simp; done) | (go_simp; with_reducible rfl))
     clear hHL
     intro hHL
     (try simp only [Act.put, List.setIfInBounds_toArray, List.set_cons_zero, List.set_cons_succ])
     simp only [HW10.out]
     refine wpAnyL_ready (rs := [12]) (by kernel_rfl) (by simp) ?_
     refine AllReadyL.cons rfl (fun K hK => ?_) AllReadyL.nil
     refine step_callTo rfl 169 #[.int .i64 (g.now + 10)] (by kernel_rfl) (.int .i64 (upT (g.now + 10))) (fun w' => w' = w1.drew) (upT_spec _ _) ?_
     intro w7 hw7
     rw [hw7]
     clear hw7 w7
     refine hK.out _ _ ⟨fun _ => trivial, HK9.out _ HBd.out⟩ (fun hHL => ?_)
     clear hK K
     (try simp only [Act.put, List.setIfInBounds_toArray, List.set_cons_zero, List.set_cons_succ])
     refine wpAnyL_take (i := 13) (v := ?_) (by rfl) rfl (by kernel_rfl) (by kernel_rfl) (by kernel_rfl) (fun _ _ _ h => h) (Or.inl ⟨by rfl, ?_⟩) hHL ?_
     rotate_left
     ·intro w hSw; (try dsimp only at hSw); (first | (go_simp; done) | (go_simp; with_reducible rfl))
     clear hHL
     intro hHL
     (try simp only [Act.put, List.setIfInBounds_toArray, List.set_cons_zero, List.set_cons_succ])
     refine wpAnyL_ready (rs := [14]) (by kernel_rfl) (by simp) ?_
     refine AllReadyL.cons rfl (fun K hK => ?_) AllReadyL.nil
     go_simp
     refine hK.out _ _ ⟨fun _ => trivial, HK9.out _ (HBd.out.alloc HBd.out.size _)⟩ (fun hHL => ?_)
     clear hK K
     (try simp only [Act.put, List.setIfInBounds_toArray, List.set_cons_zero, List.set_cons_succ])
     refine wpAnyL_ready (rs := [15]) (by kernel_rfl) (by simp) ?_
     refine AllReadyL.cons rfl (fun K hK => ?_) AllReadyL.nil
     refine step_appo rfl (.tmp 52) (.tmp 66) 23 143 rfl ii _ 5 48 Tryz.underlying23 hi hz0' hz1 hz2 rfl (by decide) (by decide) w2.heap.size (by have := HBd.out.size; simp at this ⊢; omega) v1 0 _ (wdCf (newW g r)) rfl ((own_late HO1.out (Below.refl _ _).drew).alloc _) ⟨_, 0, none⟩ rfl (fun j u hj => by rw [Addr.add_mid, Nat.zero_add]; exact ((show Row _ _ _ _ from heap_alloc_new _ _).cell j).trans hj) rfl (oneWd (newW g r)) (by omega) ?_
     intro v2 w3 o2 g2
     have hb2 := below_grown (HBd.out.alloc HBd.out.size _) (by have := HBd.out.size; simp at this ⊢; omega) ((own_late HO1.out (Below.refl w1.heap.size w1).drew).alloc _) g2
     have HB2 := Lib.hid hb2
     have HO2 := Lib.hid o2
     have HZ2 := Lib.hid hb2.size
     have c2 : w3.cell? ⟨p, 1, none⟩ = some (.slice (some ⟨gN, 0, none⟩) 0 wc) := (HG0.out.later hb2).row.cell 1
     refine hK.out _ _ ⟨fun _ => trivial, HK9.out _ hb2⟩ (fun hHL => ?_)
     clear hK K o2 g2 hb2
     (try simp only [Act.put, List.setIfInBounds_toArray, List.set_cons_zero, List.set_cons_succ])
     refine wpAnyL_take (i := 16) (v := ?_) (by rfl) rfl (by kernel_rfl) (by kernel_rfl) (by kernel_rfl) (fun _ _ _ h => h) (Or.inl ⟨by rfl, ?_⟩) hHL ?_
     rotate_left
     ·intro w hSw; (try dsimp only at hSw); (first | (go_simp; done) | (go_simp; with_reducible rfl))
     clear hHL
     intro hHL
     (try simp only [Act.put, List.setIfInBounds_toArray, List.set_cons_zero, List.set_cons_succ])
     refine wpAnyL_done (by kernel_rfl) ?_ _
     clear hHL
     go_wp2_with (first
      | (at_builtin; refine wpList_apps (cf := wdCf) (l := g.words.drop 0) rfl (.tmp 69) (.tmp 75) 23 143 rfl ii _ 5 48 Tryz.underlying23 hi hz0' hz1 hz2 rfl (by decide) (by decide) wdCf_len oneWd w2.heap.size v2 (0 + 1) _ rfl HO2.out _ rfl (Src.zero (by rw [HL.out]; rfl) rfl) (by rw [List.length_drop, ← HN.out]; omega) HZ2.out ?_; intro v3 w4 o3 g3; obtain ⟨dp', dc', rfl⟩ := own_slc o3; obtain ⟨m3, hm3⟩ : ∃ m3, m3 = 0 + 1 + (g.words.drop 0).length := ⟨_, rfl⟩; rw [← hm3] at o3 ⊢; have HM3 := Lib.hid hm3; have hb3 := below_grown HB2.out HZ2.out HO2.out g3; have HB3 := Lib.hid hb3; have HO3 := Lib.hid o3; have c3' : w4.cell? ⟨p, 1, none⟩ = some (.slice (some ⟨gN, 0, none⟩) 0 wc) := (HG0.out.later hb3).row.cell 1; have f3' : w4.frozen? ⟨p, 1, none⟩ = false := (HG0.out.later hb3).row.free 1; have q0 : (w4.setCell ⟨p, 1, none⟩ (.slice dp' m3 dc')).cell? ⟨s, 0, none⟩ = some (.int .i64 r.no) := ((HQ2.out.below hb3 HQ2.out.lt).setOther (g := p) (j := 1) (show s ≠ p by omega) _).cell 0; clear o3 g3 hb3 c2 hm3)
      | (refine Stop.out (p := wpList _ _ _ [{ dst := _, op := .store 33 _ _, type := _, pos := _, after := _, guard := _ }] _ _) ?_))
     constructor
     have HG3 := HG0.out.later HB3.out
     have HK3 : Hid (Kept w.heap.size p p p w (w4.setCell ⟨p, 1, none⟩ (.slice dp' m3 dc'))) := Lib.hid ((Kept.of_below (HB0.out.trans (HB3.out.mono hz2'))).setCell (a := ⟨p, 1, none⟩) _ (.inl rfl))
     have HQ4 := Lib.hid ((HA2.out.below HB3.out HA2.out.lt).setOther (g := p) (j := 1) (by omega) (.slice dp' m3 dc'))
     have HF : Hid (GrAt tl N (w4.setCell ⟨p, 1, none⟩ (.slice dp' m3 dc')) p ⟨dp', m3, dc', kp, kn, kc, dp, dn, dc⟩ ⟨g.now, insW g.words (newW g r), g.keys, g.dead⟩) := Lib.hid ⟨HG3.row.set 1 _, own_set _ (own_down (own_cast HO3.out (by
      show _ = (insW g.words (newW g r)).length
      rw [HM3.out, HI.out, List.length_append, List.length_cons, List.length_take, ← HN.out]
      omega) (by
      show _ = (insW g.words (newW g r)).flatMap wdCf
      rw [HI.out]
      simp)) (by omega)) (row_own_ne HG3.row HO3.out (by first | decide | exact tl.hW | exact tl.hK | exact tl.hI)), own_set _ HG3.keys (row_own_ne HG3.row HG3.keys (by first | decide | exact tl.hW | exact tl.hK | exact tl.hI)), own_set _ HG3.dead (row_own_ne HG3.row HG3.dead (by first | decide | exact tl.hW | exact tl.hK | exact tl.hI)), hN⟩
     clear HG3
     refine told_at (X := p) (Y := p) HQ4.out HF.out HK3.out ⟨0, r.no, 0, false⟩ (by omega) (by omega) rfl rfl rfl rfl rfl ?_
     intro Z HT
     go_wp2_with fail
     refine bodyPost_ret (ret_resp rfl rfl HT.out.resp) rfl ?_
     exact ⟨_, by rw [HE.out]; first | done | rfl, by rw [HE.out]; exact HT.out.gr, HT.out.kept⟩
   have hnp : 0 < n := by omega
   clear hn0 hd hn hg
   have g0 : ∀ u : Ext X, u.w.cell? ⟨p, 0, none⟩ = some (.int .i64 g.now) := fun u => u.cell (HGx.out.row.cell 0)
   have g1' : ∀ u : Ext X, u.w.cell? ⟨p, 1, none⟩ = some (.slice (some ⟨gN, 0, none⟩) n wc) := fun u => u.cell (HGx.out.row.cell 1)
   have g2' : ∀ u : Ext X, u.w.cell? ⟨p, 2, none⟩ = some (.slice kp kn kc) := fun u => u.cell (HGx.out.row.cell 2)
   have g3' : ∀ u : Ext X, u.w.cell? ⟨p, 3, none⟩ = some (.slice dp dn dc) := fun u => u.cell (HGx.out.row.cell 3)
   have fb' : ∀ u : Ext X, u.w.cell? ⟨s, 0, none⟩ = some (.int .i64 r.no) := fun u => u.cell (HQx.out.cell 0)
   go_enter Tryz.func167, Tryz.ntmps167
   go_upto_region 1 with fail
   rw [← HX0.out, ← HSe.out]
   go_wp2_with fail
   refine ext_region X (by kernel_rfl) (by kernel_rfl) (Below.refl _ _) ?_
   repeat (go_big_quiet_step ((go_at_call 101; rw [← HE0.out]; exact calls_ext (word_pl (HWn.out) (HWs.out.later (Ext.below _)) (by rw [← HN.out]; omega) HJ.out))))
   refine wpQuiet_nil ?_
   intro X1 hx1
   have HBx1 := Lib.hid (HBx.out.trans (hx1.mono hzx))
   have HGx1 := Lib.hid (HGx.out.later hx1)
   have HQx1 := Lib.hid (HQx.out.below hx1 HQx.out.lt)
   have HAx1 := Lib.hid (HAx.out.below hx1 HAx.out.lt)
   have hzx1 := HBx1.out.size
   clear hx1 g1 g0 g1' g2' g3' fb'
   go_wp2_with fail
   go_loopw [5] (PlRelI (fun y : Wd => decide (y.no < r.no)) g.words X1) (fun i _ => n - (RowKit.intOf i).toNat)
   case atStart => exact ⟨0, by omega, rfl, fun j y h => by omega, Below.refl _ _⟩
   case round =>
    obtain ⟨k, hk, rfl, hr, hbel⟩ := hrel
    rw [← HN.out] at hk
    have hkn := hk
    have HR := Lib.hid hr
    have HBl := Lib.hid hbel
    clear hr
    have HBr : Hid (Below w.heap.size w wr) := Lib.hid (HBx1.out.trans (hbel.mono hzx1))
    have hzr := HBr.out.size
    have HGr := Lib.hid (HGx1.out.later hbel)
    have HQr := Lib.hid (HQx1.out.below hbel HQx1.out.lt)
    have HAr := Lib.hid (HAx1.out.below hbel HAx1.out.lt)
    have fp : ∀ u : Ext wr, u.w.cell? ⟨p, 1, none⟩ = some (.slice (some ⟨gN, 0, none⟩) n wc) := fun u => u.cell (HGr.out.row.cell 1)
    have fb : ∀ u : Ext wr, u.w.cell? ⟨s, 0, none⟩ = some (.int .i64 r.no) := fun u => u.cell (HQr.out.cell 0)
    clear hbel
    by_cases hlt : k < n
    ·obtain ⟨y, hy⟩ : ∃ y, g.words[k]? = some y := ⟨_, List.getElem?_eq_getElem (by rw [← HN.out]; exact hlt)⟩
     have cy := (wd_cells (own_lat HGr.out.words) hy).1
     rw [Nat.zero_add] at cy
     have fy : ∀ u : Ext wr, u.w.cell? ⟨gN, k * 5, none⟩ = some (.int .i64 y.no) := fun u => u.cell cy
     have HY := Lib.hid hy
     clear hy cy
     by_cases h1 : y.no < r.no
     ·have e1 : decide (y.no < r.no) = true := decide_eq_true h1
      have H1 := Lib.hid h1
      clear h1
      go_wp2_with fail
      refine ext_region wr (by kernel_rfl) (by kernel_rfl) (Below.refl _ _) ?_
      repeat (go_big_quiet_step (fail))
      refine wpQuiet_nil ?_
      intro w2 hb2
      have HB0 := Lib.hid (HBr.out.trans (hb2.mono hzr))
      have hz2' := HB0.out.size
      have HG0 := Lib.hid (HGr.out.later hb2)
      have HQ2 := Lib.hid (HQr.out.below hb2 HQr.out.lt)
      have HA2 := Lib.hid (HAr.out.below hb2 HAr.out.lt)
      have HBl2 := Lib.hid (HBl.out.trans (hb2.mono HBl.out.size))
      clear hb2
      go_wp2_with fail
      go_roundw
      case rel =>
       refine ⟨k + 1, by rw [← HN.out]; omega, by go_num, fun j z hj hz => ?_, HBl2.out⟩
       by_cases e : j = k
       ·subst e
        rw [HY.out] at hz
        obtain rfl := Option.some.inj hz
        exact decide_eq_true H1.out
       ·exact HR.out j z (by omega) hz
      case measure => simp [RowKit.intOf]; omega
     ·have e1 : decide (y.no < r.no) = false := decide_eq_false h1
      have HI : Hid (insW g.words (newW g r) = g.words.take k ++ newW g r :: g.words.drop k) := Lib.hid (insW_at (fun j z hj hz => of_decide_eq_true (HR.out j z hj hz)) (fun z hz => by rw [HY.out] at hz; obtain rfl := Option.some.inj hz; exact h1) (by rw [← HN.out]; exact hk))
      clear h1
      go_wp2_with fail
      refine ext_region wr (by kernel_rfl) (by kernel_rfl) (Below.refl _ _) ?_
      repeat (go_big_quiet_step (fail))
      refine wpQuiet_nil ?_
      intro w2 hb2
      have HB0 := Lib.hid (HBr.out.trans (hb2.mono hzr))
      have hz2' := HB0.out.size
      have HG0 := Lib.hid (HGr.out.later hb2)
      have HQ2 := Lib.hid (HQr.out.below hb2 HQr.out.lt)
      have HA2 := Lib.hid (HAr.out.below hb2 HAr.out.lt)
      clear hb2
      have hbE := (Below.refl w2.heap.size w2).alloc (Nat.le_refl _) (.cells #[] 143)
      have hSs := HG0.out.later hbE
      have HS1 : Hid (Src wdCf (w2.alloc (.cells #[] 143)) (.slice (some ⟨gN, 0, none⟩) k wc) (g.words.take k)) := Lib.hid (Src.mkAt ((own_lat hSs.words).takeK k) rfl (by rw [List.length_take, ← HN.out]; omega))
      have HOE := Lib.hid (World.ownsRow_made (base := w2.heap.size) (size := 5) (e := 143) w2 #[] 0 (Nat.le_refl _) (Nat.zero_le _) rfl)
      have c0 : (w2.alloc (.cells #[] 143)).cell? ⟨p, 1, none⟩ = some (.slice (some ⟨gN, 0, none⟩) n wc) := hSs.row.cell 1
      have HbE := Lib.hid hbE
      have HLE : Hid (0 + (g.words.take k).length ≤ 1048576) := Lib.hid (by rw [List.length_take]; omega)
      have HZE : Hid (w2.heap.size ≤ (w2.alloc (.cells #[] 143)).heap.size) := Lib.hid (by simp)
      clear hbE hSs
      go_wp2_with (first
       | (at_builtin; refine wpList_apps (cf := wdCf) (l := g.words.take k) rfl (.tmp 44) (.tmp 50) 23 143 rfl ii _ 5 48 Tryz.underlying23 hi hz0' hz1 hz2 rfl (by decide) (by decide) wdCf_len oneWd w2.heap.size _ 0 [] rfl HOE.out _ rfl HS1.out HLE.out HZE.out ?_; intro v1 w1 o1 g1; have hb1 := below_grown HbE.out HZE.out HOE.out g1; have HB1 := Lib.hid hb1; have HO1 := Lib.hid (own_cast o1 (n' := k) (by rw [List.length_take, ← HN.out]; omega) rfl); have HZ1 := Lib.hid hb1.size; have r1 := HQ2.out.below hb1 HQ2.out.lt; have q0 : w1.cell? ⟨s, 0, none⟩ = some (.int .i64 r.no) := r1.cell 0; have q2 : w1.cell? ⟨s, 2, none⟩ = some (.int .i64 r.client) := r1.cell 2; have q5 : w1.cell? ⟨s, 5, none⟩ = some (.string r.proof) := r1.cell 5; have qn : w1.cell? ⟨p, 0, none⟩ = some (.int .i64 g.now) := (HG0.out.later hb1).row.cell 0; clear r1; clear o1 g1 hb1 c0))
      have HK9 : Hid (∀ w', Below w2.heap.size w2 w' → w'.cell? ⟨s, 0, none⟩ = some (.int .i64 r.no) ∧ w'.cell? ⟨s, 2, none⟩ = some (.int .i64 r.client) ∧ w'.cell? ⟨s, 5, none⟩ = some (.string r.proof) ∧ w'.cell? ⟨p, 0, none⟩ = some (.int .i64 g.now)) := Lib.hid (fun w' hb => ⟨(HQ2.out.below hb HQ2.out.lt).cell 0, (HQ2.out.below hb HQ2.out.lt).cell 2, (HQ2.out.below hb HQ2.out.lt).cell 5, (HG0.out.later hb).row.cell 0⟩)
      have HBd := Lib.hid (HB1.out.trans ((Below.refl w1.heap.size w1).drew.mono HZ1.out))
      clear q0 q2 q5 qn
      refine region_L 15 (fun _ => True) (fun w' => w'.cell? ⟨s, 0, none⟩ = some (.int .i64 r.no) ∧ w'.cell? ⟨s, 2, none⟩ = some (.int .i64 r.client) ∧ w'.cell? ⟨s, 5, none⟩ = some (.string r.proof) ∧ w'.cell? ⟨p, 0, none⟩ = some (.int .i64 g.now)) (by kernel_rfl) ⟨fun _ => trivial, HK9.out _ HBd.out⟩ (fun hHL => ?_)
      refine wpAnyL_take (i := 0) (v := ?_) (by rfl) rfl (by kernel_rfl) (by kernel_rfl) (by kernel_rfl) (fun _ _ _ h => h) (Or.inl ⟨by rfl, ?_⟩) hHL ?_
      rotate_left
      ·intro w hSw; (try dsimp only at hSw); (first | (go_simp; done) | (go_simp; with_reducible rfl))
      clear hHL
      intro hHL
      (try simp only [Act.put, List.setIfInBounds_toArray, List.set_cons_zero, List.set_cons_succ])
      refine wpAnyL_take (i := 1) (v := ?_) (by rfl) rfl (by kernel_rfl) (by kernel_rfl) (by kernel_rfl) (fun _ _ _ h => h) (Or.inl ⟨by rfl, ?_⟩) hHL ?_
      rotate_left
      ·intro w hSw; (try dsimp only at hSw); (first | (go_simp; done) | (go_simp; with_reducible rfl))
      clear hHL
      intro hHL
      (try simp only [Act.put, List.setIfInBounds_toArray, List.set_cons_zero, List.set_cons_succ])
      refine wpAnyL_take (i := 2) (v := ?_) (by rfl) rfl (by kernel_rfl) (by kernel_rfl) (by kernel_rfl) (fun _ _ _ h => h) (Or.inl ⟨by rfl, ?_⟩) hHL ?_
      rotate_left
      ·intro w hSw; (try dsimp only at hSw); (first | (go_simp; done) | (go_simp; with_reducible rfl))
      clear hHL
      intro hHL
      (try simp only [Act.put, List.setIfInBounds_toArray, List.set_cons_zero, List.set_cons_succ])
      refine wpAnyL_take (i := 3) (v := ?_) (by rfl) rfl (by kernel_rfl) (by kernel_rfl) (by kernel_rfl) (fun _ _ _ h => h) (Or.inl ⟨by rfl, ?_⟩) hHL ?_
      rotate_left
      ·intro w hSw; (try dsimp only at hSw); (first | (go_simp; done) | (go_simp; with_reducible rfl))
      clear hHL
      intro hHL
      (try simp only [Act.put, List.setIfInBounds_toArray, List.set_cons_zero, List.set_cons_succ])
      refine wpAnyL_take (i := 4) (v := ?_) (by rfl) rfl (by kernel_rfl) (by kernel_rfl) (by kernel_rfl) (fun _ _ _ h => h) (Or.inl ⟨by rfl, ?_⟩) hHL ?_
      rotate_left
      ·intro w hSw; (try dsimp only at hSw); (first | (go_simp; done) | (go_simp; with_reducible rfl))
      clear hHL
      intro hHL
      (try simp only [Act.put, List.setIfInBounds_toArray, List.set_cons_zero, List.set_cons_succ])
      refine wpAnyL_take (i := 5) (v := ?_) (by rfl) rfl (by kernel_rfl) (by kernel_rfl) (by kernel_rfl) (fun _ _ _ h => h) (Or.inl ⟨by rfl, ?_⟩) hHL ?_
      rotate_left
      ·intro w hSw; (try dsimp only at hSw); (first | (go_simp; done) | (go_simp; with_reducible rfl))
      clear hHL
      intro hHL
      (try simp only [Act.put, List.setIfInBounds_toArray, List.set_cons_zero, List.set_cons_succ])
      refine wpAnyL_take (i := 6) (v := ?_) (by rfl) rfl (by kernel_rfl) (by kernel_rfl) (by kernel_rfl) (fun _ _ _ h => h) (Or.inl ⟨by rfl, ?_⟩) hHL ?_
      rotate_left
      ·intro w hSw; (try dsimp only at hSw); (first | (go_simp; done) | (go_simp; with_reducible rfl))
      clear hHL
      intro hHL
      (try simp only [Act.put, List.setIfInBounds_toArray, List.set_cons_zero, List.set_cons_succ])
      refine wpAnyL_take (i := 7) (v := ?_) (by rfl) rfl (by kernel_rfl) (by kernel_rfl) (by kernel_rfl) (fun _ _ _ h => h) (Or.inl ⟨by rfl, ?_⟩) hHL ?_
      rotate_left
      ·intro w hSw; (try dsimp only at hSw); (first | (go_simp; done) | (go_simp; with_reducible rfl))
      clear hHL
      intro hHL
      (try simp only [Act.put, List.setIfInBounds_toArray, List.set_cons_zero, List.set_cons_succ])
      refine wpAnyL_take (i := 8) (v := ?_) (by rfl) rfl (by kernel_rfl) (by kernel_rfl) (by kernel_rfl) (fun _ _ _ h => h) (Or.inl ⟨by rfl, ?_⟩) hHL ?_
      rotate_left
      ·intro w hSw; (try dsimp only at hSw); (first | (go_simp; done) | (go_simp; with_reducible rfl))
      clear hHL
      intro hHL
      (try simp only [Act.put, List.setIfInBounds_toArray, List.set_cons_zero, List.set_cons_succ])
      refine wpAnyL_take (i := 9) (v := ?_) (by rfl) rfl (by kernel_rfl) (by kernel_rfl) (by kernel_rfl) (fun _ _ _ h => h) (Or.inl ⟨by rfl, ?_⟩) hHL ?_
      rotate_left
      ·intro w hSw; (try dsimp only at hSw); (first | (go_simp; done) | (go_simp; with_reducible rfl))
      clear hHL
      intro hHL
      (try simp only [Act.put, List.setIfInBounds_toArray, List.set_cons_zero, List.set_cons_succ])
      refine wpAnyL_take (i := 10) (v := ?_) (by rfl) rfl (by kernel_rfl) (by kernel_rfl) (by kernel_rfl) (fun _ _ _ h => h) (Or.inl ⟨by rfl, ?_⟩) hHL ?_
      rotate_left
      ·intro w hSw; (try dsimp only at hSw); (first | (go_simp; done) | (go_simp; with_reducible rfl))
      clear hHL
      intro hHL
      (try simp only [Act.put, List.setIfInBounds_toArray, List.set_cons_zero, List.set_cons_succ])
      refine wpAnyL_take (i := 11) (v := ?_) (by rfl) rfl (by kernel_rfl) (by kernel_rfl) (by kernel_rfl) (fun _ _ _ h => h) (Or.inl ⟨by rfl, ?_⟩) hHL ?_
      rotate_left
      ·intro w hSw; (try dsimp only at hSw); (first | (go_simp; done) | (go_simp; with_reducible rfl))
      clear hHL
      intro hHL
      (try simp only [Act.put, List.setIfInBounds_toArray, List.set_cons_zero, List.set_cons_succ])
      simp only [HW10.out]
      refine wpAnyL_ready (rs := [12]) (by kernel_rfl) (by simp) ?_
      refine AllReadyL.cons rfl (fun K hK => ?_) AllReadyL.nil
      refine step_callTo rfl 169 #[.int .i64 (g.now + 10)] (by kernel_rfl) (.int .i64 (upT (g.now + 10))) (fun w' => w' = w1.drew) (upT_spec _ _) ?_
      intro w7 hw7
      rw [hw7]
      clear hw7 w7
      refine hK.out _ _ ⟨fun _ => trivial, HK9.out _ HBd.out⟩ (fun hHL => ?_)
      clear hK K
      (try simp only [Act.put, List.setIfInBounds_toArray, List.set_cons_zero, List.set_cons_succ])
      refine wpAnyL_take (i := 13) (v := ?_) (by rfl) rfl (by kernel_rfl) (by kernel_rfl) (by kernel_rfl) (fun _ _ _ h => h) (Or.inl ⟨by rfl, ?_⟩) hHL ?_
      rotate_left
      ·intro w hSw; (try dsimp only at hSw); (first | (go_simp; done) | (go_simp; with_reducible rfl))
      clear hHL
      intro hHL
      (try simp only [Act.put, List.setIfInBounds_toArray, List.set_cons_zero, List.set_cons_succ])
      refine wpAnyL_ready (rs := [14]) (by kernel_rfl) (by simp) ?_
      refine AllReadyL.cons rfl (fun K hK => ?_) AllReadyL.nil
      go_simp
      refine hK.out _ _ ⟨fun _ => trivial, HK9.out _ (HBd.out.alloc HBd.out.size _)⟩ (fun hHL => ?_)
      clear hK K
      (try simp only [Act.put, List.setIfInBounds_toArray, List.set_cons_zero, List.set_cons_succ])
      refine wpAnyL_ready (rs := [15]) (by kernel_rfl) (by simp) ?_
      refine AllReadyL.cons rfl (fun K hK => ?_) AllReadyL.nil
      refine step_appo rfl (.tmp 52) (.tmp 66) 23 143 rfl ii _ 5 48 Tryz.underlying23 hi hz0' hz1 hz2 rfl (by decide) (by decide) w2.heap.size (by have := HBd.out.size; simp at this ⊢; omega) v1 k _ (wdCf (newW g r)) rfl ((own_late HO1.out (Below.refl _ _).drew).alloc _) ⟨_, 0, none⟩ rfl (fun j u hj => by rw [Addr.add_mid, Nat.zero_add]; exact ((show Row _ _ _ _ from heap_alloc_new _ _).cell j).trans hj) rfl (oneWd (newW g r)) (by omega) ?_
      intro v2 w3 o2 g2
      have hb2 := below_grown (HBd.out.alloc HBd.out.size _) (by have := HBd.out.size; simp at this ⊢; omega) ((own_late HO1.out (Below.refl w1.heap.size w1).drew).alloc _) g2
      have HB2 := Lib.hid hb2
      have HO2 := Lib.hid o2
      have HZ2 := Lib.hid hb2.size
      have c2 : w3.cell? ⟨p, 1, none⟩ = some (.slice (some ⟨gN, 0, none⟩) n wc) := (HG0.out.later hb2).row.cell 1
      refine hK.out _ _ ⟨fun _ => trivial, HK9.out _ hb2⟩ (fun hHL => ?_)
      clear hK K o2 g2 hb2
      (try simp only [Act.put, List.setIfInBounds_toArray, List.set_cons_zero, List.set_cons_succ])
      refine wpAnyL_take (i := 16) (v := ?_) (by rfl) rfl (by kernel_rfl) (by kernel_rfl) (by kernel_rfl) (fun _ _ _ h => h) (Or.inl ⟨by rfl, ?_⟩) hHL ?_
      rotate_left
      ·intro w hSw; (try dsimp only at hSw); (first | (go_simp; done) | (go_simp; with_reducible rfl))
      clear hHL
      intro hHL
      (try simp only [Act.put, List.setIfInBounds_toArray, List.set_cons_zero, List.set_cons_succ])
      refine wpAnyL_done (by kernel_rfl) ?_ _
      clear hHL
      go_wp2_with (first
       | (at_builtin; refine wpList_apps (cf := wdCf) (l := g.words.drop k) rfl (.tmp 69) (.tmp 75) 23 143 rfl ii _ 5 48 Tryz.underlying23 hi hz0' hz1 hz2 rfl (by decide) (by decide) wdCf_len oneWd w2.heap.size v2 (k + 1) _ rfl HO2.out _ rfl (Src.mkAt (LAt.dropK wdCf_len (own_lat (HG0.out.later HB2.out).words) (k := k) (by rw [← HN.out]; exact hkn)) (by simp) (by rw [List.length_drop, ← HN.out])) (by rw [List.length_drop, ← HN.out]; omega) HZ2.out ?_; intro v3 w4 o3 g3; obtain ⟨dp', dc', rfl⟩ := own_slc o3; obtain ⟨m3, hm3⟩ : ∃ m3, m3 = k + 1 + (g.words.drop k).length := ⟨_, rfl⟩; rw [← hm3] at o3 ⊢; have HM3 := Lib.hid hm3; have hb3 := below_grown HB2.out HZ2.out HO2.out g3; have HB3 := Lib.hid hb3; have HO3 := Lib.hid o3; have c3' : w4.cell? ⟨p, 1, none⟩ = some (.slice (some ⟨gN, 0, none⟩) n wc) := (HG0.out.later hb3).row.cell 1; have f3' : w4.frozen? ⟨p, 1, none⟩ = false := (HG0.out.later hb3).row.free 1; have q0 : (w4.setCell ⟨p, 1, none⟩ (.slice dp' m3 dc')).cell? ⟨s, 0, none⟩ = some (.int .i64 r.no) := ((HQ2.out.below hb3 HQ2.out.lt).setOther (g := p) (j := 1) (show s ≠ p by omega) _).cell 0; clear o3 g3 hb3 c2 hm3)
       | (refine Stop.out (p := wpList _ _ _ [{ dst := _, op := .store 33 _ _, type := _, pos := _, after := _, guard := _ }] _ _) ?_))
      constructor
      have HG3 := HG0.out.later HB3.out
      have HK3 : Hid (Kept w.heap.size p p p w (w4.setCell ⟨p, 1, none⟩ (.slice dp' m3 dc'))) := Lib.hid ((Kept.of_below (HB0.out.trans (HB3.out.mono hz2'))).setCell (a := ⟨p, 1, none⟩) _ (.inl rfl))
      have HQ4 := Lib.hid ((HA2.out.below HB3.out HA2.out.lt).setOther (g := p) (j := 1) (by omega) (.slice dp' m3 dc'))
      have HF : Hid (GrAt tl N (w4.setCell ⟨p, 1, none⟩ (.slice dp' m3 dc')) p ⟨dp', m3, dc', kp, kn, kc, dp, dn, dc⟩ ⟨g.now, insW g.words (newW g r), g.keys, g.dead⟩) := Lib.hid ⟨HG3.row.set 1 _, own_set _ (own_down (own_cast HO3.out (by
       show _ = (insW g.words (newW g r)).length
       rw [HM3.out, HI.out, List.length_append, List.length_cons, List.length_take, ← HN.out]
       omega) (by
       show _ = (insW g.words (newW g r)).flatMap wdCf
       rw [HI.out]
       simp)) (by omega)) (row_own_ne HG3.row HO3.out (by first | decide | exact tl.hW | exact tl.hK | exact tl.hI)), own_set _ HG3.keys (row_own_ne HG3.row HG3.keys (by first | decide | exact tl.hW | exact tl.hK | exact tl.hI)), own_set _ HG3.dead (row_own_ne HG3.row HG3.dead (by first | decide | exact tl.hW | exact tl.hK | exact tl.hI)), hN⟩
      clear HG3
      refine told_at (X := p) (Y := p) HQ4.out HF.out HK3.out ⟨0, r.no, 0, false⟩ (by omega) (by omega) rfl rfl rfl rfl rfl ?_
      intro Z HT
      go_wp2_with fail
      refine bodyPost_ret (ret_resp rfl rfl HT.out.resp) rfl ?_
      exact ⟨_, by rw [HE.out]; first | done | rfl, by rw [HE.out]; exact HT.out.gr, HT.out.kept⟩
    ·have HI : Hid (insW g.words (newW g r) = g.words.take k ++ newW g r :: g.words.drop k) := Lib.hid (insW_at (fun j z hj hz => of_decide_eq_true (HR.out j z hj hz)) (fun z hz => by have := (List.getElem?_eq_some_iff.1 hz).1; rw [← HN.out] at this; omega) (by rw [← HN.out]; exact hk))
     go_wp2_with fail
     refine ext_region wr (by kernel_rfl) (by kernel_rfl) (Below.refl _ _) ?_
     repeat (go_big_quiet_step (fail))
     refine wpQuiet_nil ?_
     intro w2 hb2
     have HB0 := Lib.hid (HBr.out.trans (hb2.mono hzr))
     have hz2' := HB0.out.size
     have HG0 := Lib.hid (HGr.out.later hb2)
     have HQ2 := Lib.hid (HQr.out.below hb2 HQr.out.lt)
     have HA2 := Lib.hid (HAr.out.below hb2 HAr.out.lt)
     clear hb2
     have hle : n ≤ k := by omega
     by_cases hcc : k < wc
     ·have hbE := (Below.refl w2.heap.size w2).alloc (Nat.le_refl _) (.cells #[] 143)
      have hSs := HG0.out.later hbE
      have HS1 : Hid (Src wdCf (w2.alloc (.cells #[] 143)) (.slice (some ⟨gN, 0, none⟩) k wc) (g.words.take k)) := Lib.hid (Src.mkAt ((own_lat hSs.words).takeK k) rfl (by rw [List.length_take, ← HN.out]; omega))
      have HOE := Lib.hid (World.ownsRow_made (base := w2.heap.size) (size := 5) (e := 143) w2 #[] 0 (Nat.le_refl _) (Nat.zero_le _) rfl)
      have c0 : (w2.alloc (.cells #[] 143)).cell? ⟨p, 1, none⟩ = some (.slice (some ⟨gN, 0, none⟩) n wc) := hSs.row.cell 1
      have HbE := Lib.hid hbE
      have HLE : Hid (0 + (g.words.take k).length ≤ 1048576) := Lib.hid (by rw [List.length_take]; omega)
      have HZE : Hid (w2.heap.size ≤ (w2.alloc (.cells #[] 143)).heap.size) := Lib.hid (by simp)
      clear hbE hSs
      go_wp2_with (first
       | (at_builtin; refine wpList_apps (cf := wdCf) (l := g.words.take k) rfl (.tmp 44) (.tmp 50) 23 143 rfl ii _ 5 48 Tryz.underlying23 hi hz0' hz1 hz2 rfl (by decide) (by decide) wdCf_len oneWd w2.heap.size _ 0 [] rfl HOE.out _ rfl HS1.out HLE.out HZE.out ?_; intro v1 w1 o1 g1; have hb1 := below_grown HbE.out HZE.out HOE.out g1; have HB1 := Lib.hid hb1; have HO1 := Lib.hid (own_cast o1 (n' := k) (by rw [List.length_take, ← HN.out]; omega) rfl); have HZ1 := Lib.hid hb1.size; have r1 := HQ2.out.below hb1 HQ2.out.lt; have q0 : w1.cell? ⟨s, 0, none⟩ = some (.int .i64 r.no) := r1.cell 0; have q2 : w1.cell? ⟨s, 2, none⟩ = some (.int .i64 r.client) := r1.cell 2; have q5 : w1.cell? ⟨s, 5, none⟩ = some (.string r.proof) := r1.cell 5; have qn : w1.cell? ⟨p, 0, none⟩ = some (.int .i64 g.now) := (HG0.out.later hb1).row.cell 0; clear r1; clear o1 g1 hb1 c0))
      have HK9 : Hid (∀ w', Below w2.heap.size w2 w' → w'.cell? ⟨s, 0, none⟩ = some (.int .i64 r.no) ∧ w'.cell? ⟨s, 2, none⟩ = some (.int .i64 r.client) ∧ w'.cell? ⟨s, 5, none⟩ = some (.string r.proof) ∧ w'.cell? ⟨p, 0, none⟩ = some (.int .i64 g.now)) := Lib.hid (fun w' hb => ⟨(HQ2.out.below hb HQ2.out.lt).cell 0, (HQ2.out.below hb HQ2.out.lt).cell 2, (HQ2.out.below hb HQ2.out.lt).cell 5, (HG0.out.later hb).row.cell 0⟩)
      have HBd := Lib.hid (HB1.out.trans ((Below.refl w1.heap.size w1).drew.mono HZ1.out))
      clear q0 q2 q5 qn
      refine region_L 15 (fun _ => True) (fun w' => w'.cell? ⟨s, 0, none⟩ = some (.int .i64 r.no) ∧ w'.cell? ⟨s, 2, none⟩ = some (.int .i64 r.client) ∧ w'.cell? ⟨s, 5, none⟩ = some (.string r.proof) ∧ w'.cell? ⟨p, 0, none⟩ = some (.int .i64 g.now)) (by kernel_rfl) ⟨fun _ => trivial, HK9.out _ HBd.out⟩ (fun hHL => ?_)
      refine wpAnyL_take (i := 0) (v := ?_) (by rfl) rfl (by kernel_rfl) (by kernel_rfl) (by kernel_rfl) (fun _ _ _ h => h) (Or.inl ⟨by rfl, ?_⟩) hHL ?_
      rotate_left
      ·intro w hSw; (try dsimp only at hSw); (first | (go_simp; done) | (go_simp; with_reducible rfl))
      clear hHL
      intro hHL
      (try simp only [Act.put, List.setIfInBounds_toArray, List.set_cons_zero, List.set_cons_succ])
      refine wpAnyL_take (i := 1) (v := ?_) (by rfl) rfl (by kernel_rfl) (by kernel_rfl) (by kernel_rfl) (fun _ _ _ h => h) (Or.inl ⟨by rfl, ?_⟩) hHL ?_
      rotate_left
      ·intro w hSw; (try dsimp only at hSw); (first | (go_simp; done) | (go_simp; with_reducible rfl))
      clear hHL
      intro hHL
      (try simp only [Act.put, List.setIfInBounds_toArray, List.set_cons_zero, List.set_cons_succ])
      refine wpAnyL_take (i := 2) (v := ?_) (by rfl) rfl (by kernel_rfl) (by kernel_rfl) (by kernel_rfl) (fun _ _ _ h => h) (Or.inl ⟨by rfl, ?_⟩) hHL ?_
      rotate_left
      ·intro w hSw; (try dsimp only at hSw); (first | (go_simp; done) | (go_simp; with_reducible rfl))
      clear hHL
      intro hHL
      (try simp only [Act.put, List.setIfInBounds_toArray, List.set_cons_zero, List.set_cons_succ])
      refine wpAnyL_take (i := 3) (v := ?_) (by rfl) rfl (by kernel_rfl) (by kernel_rfl) (by kernel_rfl) (fun _ _ _ h => h) (Or.inl ⟨by rfl, ?_⟩) hHL ?_
      rotate_left
      ·intro w hSw; (try dsimp only at hSw); (first | (go_simp; done) | (go_simp; with_reducible rfl))
      clear hHL
      intro hHL
      (try simp only [Act.put, List.setIfInBounds_toArray, List.set_cons_zero, List.set_cons_succ])
      refine wpAnyL_take (i := 4) (v := ?_) (by rfl) rfl (by kernel_rfl) (by kernel_rfl) (by kernel_rfl) (fun _ _ _ h => h) (Or.inl ⟨by rfl, ?_⟩) hHL ?_
      rotate_left
      ·intro w hSw; (try dsimp only at hSw); (first | (go_simp; done) | (go_simp; with_reducible rfl))
      clear hHL
      intro hHL
      (try simp only [Act.put, List.setIfInBounds_toArray, List.set_cons_zero, List.set_cons_succ])
      refine wpAnyL_take (i := 5) (v := ?_) (by rfl) rfl (by kernel_rfl) (by kernel_rfl) (by kernel_rfl) (fun _ _ _ h => h) (Or.inl ⟨by rfl, ?_⟩) hHL ?_
      rotate_left
      ·intro w hSw; (try dsimp only at hSw); (first | (go_simp; done) | (go_simp; with_reducible rfl))
      clear hHL
      intro hHL
      (try simp only [Act.put, List.setIfInBounds_toArray, List.set_cons_zero, List.set_cons_succ])
      refine wpAnyL_take (i := 6) (v := ?_) (by rfl) rfl (by kernel_rfl) (by kernel_rfl) (by kernel_rfl) (fun _ _ _ h => h) (Or.inl ⟨by rfl, ?_⟩) hHL ?_
      rotate_left
      ·intro w hSw; (try dsimp only at hSw); (first | (go_simp; done) | (go_simp; with_reducible rfl))
      clear hHL
      intro hHL
      (try simp only [Act.put, List.setIfInBounds_toArray, List.set_cons_zero, List.set_cons_succ])
      refine wpAnyL_take (i := 7) (v := ?_) (by rfl) rfl (by kernel_rfl) (by kernel_rfl) (by kernel_rfl) (fun _ _ _ h => h) (Or.inl ⟨by rfl, ?_⟩) hHL ?_
      rotate_left
      ·intro w hSw; (try dsimp only at hSw); (first | (go_simp; done) | (go_simp; with_reducible rfl))
      clear hHL
      intro hHL
      (try simp only [Act.put, List.setIfInBounds_toArray, List.set_cons_zero, List.set_cons_succ])
      refine wpAnyL_take (i := 8) (v := ?_) (by rfl) rfl (by kernel_rfl) (by kernel_rfl) (by kernel_rfl) (fun _ _ _ h => h) (Or.inl ⟨by rfl, ?_⟩) hHL ?_
      rotate_left
      ·intro w hSw; (try dsimp only at hSw); (first | (go_simp; done) | (go_simp; with_reducible rfl))
      clear hHL
      intro hHL
      (try simp only [Act.put, List.setIfInBounds_toArray, List.set_cons_zero, List.set_cons_succ])
      refine wpAnyL_take (i := 9) (v := ?_) (by rfl) rfl (by kernel_rfl) (by kernel_rfl) (by kernel_rfl) (fun _ _ _ h => h) (Or.inl ⟨by rfl, ?_⟩) hHL ?_
      rotate_left
      ·intro w hSw; (try dsimp only at hSw); (first | (go_simp; done) | (go_simp; with_reducible rfl))
      clear hHL
      intro hHL
      (try simp only [Act.put, List.setIfInBounds_toArray, List.set_cons_zero, List.set_cons_succ])
      refine wpAnyL_take (i := 10) (v := ?_) (by rfl) rfl (by kernel_rfl) (by kernel_rfl) (by kernel_rfl) (fun _ _ _ h => h) (Or.inl ⟨by rfl, ?_⟩) hHL ?_
      rotate_left
      ·intro w hSw; (try dsimp only at hSw); (first | (go_simp; done) | (go_simp; with_reducible rfl))
      clear hHL
      intro hHL
      (try simp only [Act.put, List.setIfInBounds_toArray, List.set_cons_zero, List.set_cons_succ])
      refine wpAnyL_take (i := 11) (v := ?_) (by rfl) rfl (by kernel_rfl) (by kernel_rfl) (by kernel_rfl) (fun _ _ _ h => h) (Or.inl ⟨by rfl, ?_⟩) hHL ?_
      rotate_left
      ·intro w hSw; (try dsimp only at hSw); (first | (go_simp; done) | (go_simp; with_reducible rfl))
      clear hHL
      intro hHL
      (try simp only [Act.put, List.setIfInBounds_toArray, List.set_cons_zero, List.set_cons_succ])
      simp only [HW10.out]
      refine wpAnyL_ready (rs := [12]) (by kernel_rfl) (by simp) ?_
      refine AllReadyL.cons rfl (fun K hK => ?_) AllReadyL.nil
      refine step_callTo rfl 169 #[.int .i64 (g.now + 10)] (by kernel_rfl) (.int .i64 (upT (g.now + 10))) (fun w' => w' = w1.drew) (upT_spec _ _) ?_
      intro w7 hw7
      rw [hw7]
      clear hw7 w7
      refine hK.out _ _ ⟨fun _ => trivial, HK9.out _ HBd.out⟩ (fun hHL => ?_)
      clear hK K
      (try simp only [Act.put, List.setIfInBounds_toArray, List.set_cons_zero, List.set_cons_succ])
      refine wpAnyL_take (i := 13) (v := ?_) (by rfl) rfl (by kernel_rfl) (by kernel_rfl) (by kernel_rfl) (fun _ _ _ h => h) (Or.inl ⟨by rfl, ?_⟩) hHL ?_
      rotate_left
      ·intro w hSw; (try dsimp only at hSw); (first | (go_simp; done) | (go_simp; with_reducible rfl))
      clear hHL
      intro hHL
      (try simp only [Act.put, List.setIfInBounds_toArray, List.set_cons_zero, List.set_cons_succ])
      refine wpAnyL_ready (rs := [14]) (by kernel_rfl) (by simp) ?_
      refine AllReadyL.cons rfl (fun K hK => ?_) AllReadyL.nil
      go_simp
      refine hK.out _ _ ⟨fun _ => trivial, HK9.out _ (HBd.out.alloc HBd.out.size _)⟩ (fun hHL => ?_)
      clear hK K
      (try simp only [Act.put, List.setIfInBounds_toArray, List.set_cons_zero, List.set_cons_succ])
      refine wpAnyL_ready (rs := [15]) (by kernel_rfl) (by simp) ?_
      refine AllReadyL.cons rfl (fun K hK => ?_) AllReadyL.nil
      refine step_appo rfl (.tmp 52) (.tmp 66) 23 143 rfl ii _ 5 48 Tryz.underlying23 hi hz0' hz1 hz2 rfl (by decide) (by decide) w2.heap.size (by have := HBd.out.size; simp at this ⊢; omega) v1 k _ (wdCf (newW g r)) rfl ((own_late HO1.out (Below.refl _ _).drew).alloc _) ⟨_, 0, none⟩ rfl (fun j u hj => by rw [Addr.add_mid, Nat.zero_add]; exact ((show Row _ _ _ _ from heap_alloc_new _ _).cell j).trans hj) rfl (oneWd (newW g r)) (by omega) ?_
      intro v2 w3 o2 g2
      have hb2 := below_grown (HBd.out.alloc HBd.out.size _) (by have := HBd.out.size; simp at this ⊢; omega) ((own_late HO1.out (Below.refl w1.heap.size w1).drew).alloc _) g2
      have HB2 := Lib.hid hb2
      have HO2 := Lib.hid o2
      have HZ2 := Lib.hid hb2.size
      have c2 : w3.cell? ⟨p, 1, none⟩ = some (.slice (some ⟨gN, 0, none⟩) n wc) := (HG0.out.later hb2).row.cell 1
      refine hK.out _ _ ⟨fun _ => trivial, HK9.out _ hb2⟩ (fun hHL => ?_)
      clear hK K o2 g2 hb2
      (try simp only [Act.put, List.setIfInBounds_toArray, List.set_cons_zero, List.set_cons_succ])
      refine wpAnyL_take (i := 16) (v := ?_) (by rfl) rfl (by kernel_rfl) (by kernel_rfl) (by kernel_rfl) (fun _ _ _ h => h) (Or.inl ⟨by rfl, ?_⟩) hHL ?_
      rotate_left
      ·intro w hSw; (try dsimp only at hSw); (first | (go_simp; done) | (go_simp; with_reducible rfl))
      clear hHL
      intro hHL
      (try simp only [Act.put, List.setIfInBounds_toArray, List.set_cons_zero, List.set_cons_succ])
      refine wpAnyL_done (by kernel_rfl) ?_ _
      clear hHL
      go_wp2_with (first
       | (at_builtin; refine wpList_apps (cf := wdCf) (l := g.words.drop k) rfl (.tmp 69) (.tmp 75) 23 143 rfl ii _ 5 48 Tryz.underlying23 hi hz0' hz1 hz2 rfl (by decide) (by decide) wdCf_len oneWd w2.heap.size v2 (k + 1) _ rfl HO2.out _ rfl (Src.zero (List.drop_of_length_le (by rw [← HN.out]; exact hle)) (by first | rfl | omega | simp)) (by rw [List.length_drop, ← HN.out]; omega) HZ2.out ?_; intro v3 w4 o3 g3; obtain ⟨dp', dc', rfl⟩ := own_slc o3; obtain ⟨m3, hm3⟩ : ∃ m3, m3 = k + 1 + (g.words.drop k).length := ⟨_, rfl⟩; rw [← hm3] at o3 ⊢; have HM3 := Lib.hid hm3; have hb3 := below_grown HB2.out HZ2.out HO2.out g3; have HB3 := Lib.hid hb3; have HO3 := Lib.hid o3; have c3' : w4.cell? ⟨p, 1, none⟩ = some (.slice (some ⟨gN, 0, none⟩) n wc) := (HG0.out.later hb3).row.cell 1; have f3' : w4.frozen? ⟨p, 1, none⟩ = false := (HG0.out.later hb3).row.free 1; have q0 : (w4.setCell ⟨p, 1, none⟩ (.slice dp' m3 dc')).cell? ⟨s, 0, none⟩ = some (.int .i64 r.no) := ((HQ2.out.below hb3 HQ2.out.lt).setOther (g := p) (j := 1) (show s ≠ p by omega) _).cell 0; clear o3 g3 hb3 c2 hm3)
       | (refine Stop.out (p := wpList _ _ _ [{ dst := _, op := .store 33 _ _, type := _, pos := _, after := _, guard := _ }] _ _) ?_))
      constructor
      have HG3 := HG0.out.later HB3.out
      have HK3 : Hid (Kept w.heap.size p p p w (w4.setCell ⟨p, 1, none⟩ (.slice dp' m3 dc'))) := Lib.hid ((Kept.of_below (HB0.out.trans (HB3.out.mono hz2'))).setCell (a := ⟨p, 1, none⟩) _ (.inl rfl))
      have HQ4 := Lib.hid ((HA2.out.below HB3.out HA2.out.lt).setOther (g := p) (j := 1) (by omega) (.slice dp' m3 dc'))
      have HF : Hid (GrAt tl N (w4.setCell ⟨p, 1, none⟩ (.slice dp' m3 dc')) p ⟨dp', m3, dc', kp, kn, kc, dp, dn, dc⟩ ⟨g.now, insW g.words (newW g r), g.keys, g.dead⟩) := Lib.hid ⟨HG3.row.set 1 _, own_set _ (own_down (own_cast HO3.out (by
       show _ = (insW g.words (newW g r)).length
       rw [HM3.out, HI.out, List.length_append, List.length_cons, List.length_take, ← HN.out]
       omega) (by
       show _ = (insW g.words (newW g r)).flatMap wdCf
       rw [HI.out]
       simp)) (by omega)) (row_own_ne HG3.row HO3.out (by first | decide | exact tl.hW | exact tl.hK | exact tl.hI)), own_set _ HG3.keys (row_own_ne HG3.row HG3.keys (by first | decide | exact tl.hW | exact tl.hK | exact tl.hI)), own_set _ HG3.dead (row_own_ne HG3.row HG3.dead (by first | decide | exact tl.hW | exact tl.hK | exact tl.hI)), hN⟩
      clear HG3
      refine told_at (X := p) (Y := p) HQ4.out HF.out HK3.out ⟨0, r.no, 0, false⟩ (by omega) (by omega) rfl rfl rfl rfl rfl ?_
      intro Z HT
      go_wp2_with fail
      refine bodyPost_ret (ret_resp rfl rfl HT.out.resp) rfl ?_
      exact ⟨_, by rw [HE.out]; first | done | rfl, by rw [HE.out]; exact HT.out.gr, HT.out.kept⟩
     ·have hbE := (Below.refl w2.heap.size w2).alloc (Nat.le_refl _) (.cells #[] 143)
      have hSs := HG0.out.later hbE
      have HS1 : Hid (Src wdCf (w2.alloc (.cells #[] 143)) (.slice (some ⟨gN, 0, none⟩) k wc) (g.words.take k)) := Lib.hid (Src.mkAt ((own_lat hSs.words).takeK k) rfl (by rw [List.length_take, ← HN.out]; omega))
      have HOE := Lib.hid (World.ownsRow_made (base := w2.heap.size) (size := 5) (e := 143) w2 #[] 0 (Nat.le_refl _) (Nat.zero_le _) rfl)
      have c0 : (w2.alloc (.cells #[] 143)).cell? ⟨p, 1, none⟩ = some (.slice (some ⟨gN, 0, none⟩) n wc) := hSs.row.cell 1
      have HbE := Lib.hid hbE
      have HLE : Hid (0 + (g.words.take k).length ≤ 1048576) := Lib.hid (by rw [List.length_take]; omega)
      have HZE : Hid (w2.heap.size ≤ (w2.alloc (.cells #[] 143)).heap.size) := Lib.hid (by simp)
      clear hbE hSs
      go_wp2_with (first
       | (at_builtin; refine wpList_apps (cf := wdCf) (l := g.words.take k) rfl (.tmp 44) (.tmp 50) 23 143 rfl ii _ 5 48 Tryz.underlying23 hi hz0' hz1 hz2 rfl (by decide) (by decide) wdCf_len oneWd w2.heap.size _ 0 [] rfl HOE.out _ rfl HS1.out HLE.out HZE.out ?_; intro v1 w1 o1 g1; have hb1 := below_grown HbE.out HZE.out HOE.out g1; have HB1 := Lib.hid hb1; have HO1 := Lib.hid (own_cast o1 (n' := k) (by rw [List.length_take, ← HN.out]; omega) rfl); have HZ1 := Lib.hid hb1.size; have r1 := HQ2.out.below hb1 HQ2.out.lt; have q0 : w1.cell? ⟨s, 0, none⟩ = some (.int .i64 r.no) := r1.cell 0; have q2 : w1.cell? ⟨s, 2, none⟩ = some (.int .i64 r.client) := r1.cell 2; have q5 : w1.cell? ⟨s, 5, none⟩ = some (.string r.proof) := r1.cell 5; have qn : w1.cell? ⟨p, 0, none⟩ = some (.int .i64 g.now) := (HG0.out.later hb1).row.cell 0; clear r1; clear o1 g1 hb1 c0))
      have HK9 : Hid (∀ w', Below w2.heap.size w2 w' → w'.cell? ⟨s, 0, none⟩ = some (.int .i64 r.no) ∧ w'.cell? ⟨s, 2, none⟩ = some (.int .i64 r.client) ∧ w'.cell? ⟨s, 5, none⟩ = some (.string r.proof) ∧ w'.cell? ⟨p, 0, none⟩ = some (.int .i64 g.now)) := Lib.hid (fun w' hb => ⟨(HQ2.out.below hb HQ2.out.lt).cell 0, (HQ2.out.below hb HQ2.out.lt).cell 2, (HQ2.out.below hb HQ2.out.lt).cell 5, (HG0.out.later hb).row.cell 0⟩)
      have HBd := Lib.hid (HB1.out.trans ((Below.refl w1.heap.size w1).drew.mono HZ1.out))
      clear q0 q2 q5 qn
      refine region_L 15 (fun _ => True) (fun w' => w'.cell? ⟨s, 0, none⟩ = some (.int .i64 r.no) ∧ w'.cell? ⟨s, 2, none⟩ = some (.int .i64 r.client) ∧ w'.cell? ⟨s, 5, none⟩ = some (.string r.proof) ∧ w'.cell? ⟨p, 0, none⟩ = some (.int .i64 g.now)) (by kernel_rfl) ⟨fun _ => trivial, HK9.out _ HBd.out⟩ (fun hHL => ?_)
      refine wpAnyL_take (i := 0) (v := ?_) (by rfl) rfl (by kernel_rfl) (by kernel_rfl) (by kernel_rfl) (fun _ _ _ h => h) (Or.inl ⟨by rfl, ?_⟩) hHL ?_
      rotate_left
      ·intro w hSw; (try dsimp only at hSw); (first | (go_simp; done) | (go_simp; with_reducible rfl))
      clear hHL
      intro hHL
      (try simp only [Act.put, List.setIfInBounds_toArray, List.set_cons_zero, List.set_cons_succ])
      refine wpAnyL_take (i := 1) (v := ?_) (by rfl) rfl (by kernel_rfl) (by kernel_rfl) (by kernel_rfl) (fun _ _ _ h => h) (Or.inl ⟨by rfl, ?_⟩) hHL ?_
      rotate_left
      ·intro w hSw; (try dsimp only at hSw); (first | (go_simp; done) | (go_simp; with_reducible rfl))
      clear hHL
      intro hHL
      (try simp only [Act.put, List.setIfInBounds_toArray, List.set_cons_zero, List.set_cons_succ])
      refine wpAnyL_take (i := 2) (v := ?_) (by rfl) rfl (by kernel_rfl) (by kernel_rfl) (by kernel_rfl) (fun _ _ _ h => h) (Or.inl ⟨by rfl, ?_⟩) hHL ?_
      rotate_left
      ·intro w hSw; (try dsimp only at hSw); (first | (go_simp; done) | (go_simp; with_reducible rfl))
      clear hHL
      intro hHL
      (try simp only [Act.put, List.setIfInBounds_toArray, List.set_cons_zero, List.set_cons_succ])
      refine wpAnyL_take (i := 3) (v := ?_) (by rfl) rfl (by kernel_rfl) (by kernel_rfl) (by kernel_rfl) (fun _ _ _ h => h) (Or.inl ⟨by rfl, ?_⟩) hHL ?_
      rotate_left
      ·intro w hSw; (try dsimp only at hSw); (first | (go_simp; done) | (go_simp; with_reducible rfl))
      clear hHL
      intro hHL
      (try simp only [Act.put, List.setIfInBounds_toArray, List.set_cons_zero, List.set_cons_succ])
      refine wpAnyL_take (i := 4) (v := ?_) (by rfl) rfl (by kernel_rfl) (by kernel_rfl) (by kernel_rfl) (fun _ _ _ h => h) (Or.inl ⟨by rfl, ?_⟩) hHL ?_
      rotate_left
      ·intro w hSw; (try dsimp only at hSw); (first | (go_simp; done) | (go_simp; with_reducible rfl))
      clear hHL
      intro hHL
      (try simp only [Act.put, List.setIfInBounds_toArray, List.set_cons_zero, List.set_cons_succ])
      refine wpAnyL_take (i := 5) (v := ?_) (by rfl) rfl (by kernel_rfl) (by kernel_rfl) (by kernel_rfl) (fun _ _ _ h => h) (Or.inl ⟨by rfl, ?_⟩) hHL ?_
      rotate_left
      ·intro w hSw; (try dsimp only at hSw); (first | (go_simp; done) | (go_simp; with_reducible rfl))
      clear hHL
      intro hHL
      (try simp only [Act.put, List.setIfInBounds_toArray, List.set_cons_zero, List.set_cons_succ])
      refine wpAnyL_take (i := 6) (v := ?_) (by rfl) rfl (by kernel_rfl) (by kernel_rfl) (by kernel_rfl) (fun _ _ _ h => h) (Or.inl ⟨by rfl, ?_⟩) hHL ?_
      rotate_left
      ·intro w hSw; (try dsimp only at hSw); (first | (go_simp; done) | (go_simp; with_reducible rfl))
      clear hHL
      intro hHL
      (try simp only [Act.put, List.setIfInBounds_toArray, List.set_cons_zero, List.set_cons_succ])
      refine wpAnyL_take (i := 7) (v := ?_) (by rfl) rfl (by kernel_rfl) (by kernel_rfl) (by kernel_rfl) (fun _ _ _ h => h) (Or.inl ⟨by rfl, ?_⟩) hHL ?_
      rotate_left
      ·intro w hSw; (try dsimp only at hSw); (first | (go_simp; done) | (go_simp; with_reducible rfl))
      clear hHL
      intro hHL
      (try simp only [Act.put, List.setIfInBounds_toArray, List.set_cons_zero, List.set_cons_succ])
      refine wpAnyL_take (i := 8) (v := ?_) (by rfl) rfl (by kernel_rfl) (by kernel_rfl) (by kernel_rfl) (fun _ _ _ h => h) (Or.inl ⟨by rfl, ?_⟩) hHL ?_
      rotate_left
      ·intro w hSw; (try dsimp only at hSw); (first | (go_simp; done) | (go_simp; with_reducible rfl))
      clear hHL
      intro hHL
      (try simp only [Act.put, List.setIfInBounds_toArray, List.set_cons_zero, List.set_cons_succ])
      refine wpAnyL_take (i := 9) (v := ?_) (by rfl) rfl (by kernel_rfl) (by kernel_rfl) (by kernel_rfl) (fun _ _ _ h => h) (Or.inl ⟨by rfl, ?_⟩) hHL ?_
      rotate_left
      ·intro w hSw; (try dsimp only at hSw); (first | (go_simp; done) | (go_simp; with_reducible rfl))
      clear hHL
      intro hHL
      (try simp only [Act.put, List.setIfInBounds_toArray, List.set_cons_zero, List.set_cons_succ])
      refine wpAnyL_take (i := 10) (v := ?_) (by rfl) rfl (by kernel_rfl) (by kernel_rfl) (by kernel_rfl) (fun _ _ _ h => h) (Or.inl ⟨by rfl, ?_⟩) hHL ?_
      rotate_left
      ·intro w hSw; (try dsimp only at hSw); (first | (go_simp; done) | (go_simp; with_reducible rfl))
      clear hHL
      intro hHL
      (try simp only [Act.put, List.setIfInBounds_toArray, List.set_cons_zero, List.set_cons_succ])
      refine wpAnyL_take (i := 11) (v := ?_) (by rfl) rfl (by kernel_rfl) (by kernel_rfl) (by kernel_rfl) (fun _ _ _ h => h) (Or.inl ⟨by rfl, ?_⟩) hHL ?_
      rotate_left
      ·intro w hSw; (try dsimp only at hSw); (first | (go_simp; done) | (go_simp; with_reducible rfl))
      clear hHL
      intro hHL
      (try simp only [Act.put, List.setIfInBounds_toArray, List.set_cons_zero, List.set_cons_succ])
      simp only [HW10.out]
      refine wpAnyL_ready (rs := [12]) (by kernel_rfl) (by simp) ?_
      refine AllReadyL.cons rfl (fun K hK => ?_) AllReadyL.nil
      refine step_callTo rfl 169 #[.int .i64 (g.now + 10)] (by kernel_rfl) (.int .i64 (upT (g.now + 10))) (fun w' => w' = w1.drew) (upT_spec _ _) ?_
      intro w7 hw7
      rw [hw7]
      clear hw7 w7
      refine hK.out _ _ ⟨fun _ => trivial, HK9.out _ HBd.out⟩ (fun hHL => ?_)
      clear hK K
      (try simp only [Act.put, List.setIfInBounds_toArray, List.set_cons_zero, List.set_cons_succ])
      refine wpAnyL_take (i := 13) (v := ?_) (by rfl) rfl (by kernel_rfl) (by kernel_rfl) (by kernel_rfl) (fun _ _ _ h => h) (Or.inl ⟨by rfl, ?_⟩) hHL ?_
      rotate_left
      ·intro w hSw; (try dsimp only at hSw); (first | (go_simp; done) | (go_simp; with_reducible rfl))
      clear hHL
      intro hHL
      (try simp only [Act.put, List.setIfInBounds_toArray, List.set_cons_zero, List.set_cons_succ])
      refine wpAnyL_ready (rs := [14]) (by kernel_rfl) (by simp) ?_
      refine AllReadyL.cons rfl (fun K hK => ?_) AllReadyL.nil
      go_simp
      refine hK.out _ _ ⟨fun _ => trivial, HK9.out _ (HBd.out.alloc HBd.out.size _)⟩ (fun hHL => ?_)
      clear hK K
      (try simp only [Act.put, List.setIfInBounds_toArray, List.set_cons_zero, List.set_cons_succ])
      refine wpAnyL_ready (rs := [15]) (by kernel_rfl) (by simp) ?_
      refine AllReadyL.cons rfl (fun K hK => ?_) AllReadyL.nil
      refine step_appo rfl (.tmp 52) (.tmp 66) 23 143 rfl ii _ 5 48 Tryz.underlying23 hi hz0' hz1 hz2 rfl (by decide) (by decide) w2.heap.size (by have := HBd.out.size; simp at this ⊢; omega) v1 k _ (wdCf (newW g r)) rfl ((own_late HO1.out (Below.refl _ _).drew).alloc _) ⟨_, 0, none⟩ rfl (fun j u hj => by rw [Addr.add_mid, Nat.zero_add]; exact ((show Row _ _ _ _ from heap_alloc_new _ _).cell j).trans hj) rfl (oneWd (newW g r)) (by omega) ?_
      intro v2 w3 o2 g2
      have hb2 := below_grown (HBd.out.alloc HBd.out.size _) (by have := HBd.out.size; simp at this ⊢; omega) ((own_late HO1.out (Below.refl w1.heap.size w1).drew).alloc _) g2
      have HB2 := Lib.hid hb2
      have HO2 := Lib.hid o2
      have HZ2 := Lib.hid hb2.size
      have c2 : w3.cell? ⟨p, 1, none⟩ = some (.slice (some ⟨gN, 0, none⟩) n wc) := (HG0.out.later hb2).row.cell 1
      refine hK.out _ _ ⟨fun _ => trivial, HK9.out _ hb2⟩ (fun hHL => ?_)
      clear hK K o2 g2 hb2
      (try simp only [Act.put, List.setIfInBounds_toArray, List.set_cons_zero, List.set_cons_succ])
      refine wpAnyL_take (i := 16) (v := ?_) (by rfl) rfl (by kernel_rfl) (by kernel_rfl) (by kernel_rfl) (fun _ _ _ h => h) (Or.inl ⟨by rfl, ?_⟩) hHL ?_
      rotate_left
      ·intro w hSw; (try dsimp only at hSw); (first | (go_simp; done) | (go_simp; with_reducible rfl))
      clear hHL
      intro hHL
      (try simp only [Act.put, List.setIfInBounds_toArray, List.set_cons_zero, List.set_cons_succ])
      refine wpAnyL_done (by kernel_rfl) ?_ _
      clear hHL
      go_wp2_with (first
       | (at_builtin; refine wpList_apps (cf := wdCf) (l := g.words.drop k) rfl (.tmp 69) (.tmp 75) 23 143 rfl ii _ 5 48 Tryz.underlying23 hi hz0' hz1 hz2 rfl (by decide) (by decide) wdCf_len oneWd w2.heap.size v2 (k + 1) _ rfl HO2.out _ rfl (Src.zero (List.drop_of_length_le (by rw [← HN.out]; exact hle)) (by first | rfl | omega | simp)) (by rw [List.length_drop, ← HN.out]; omega) HZ2.out ?_; intro v3 w4 o3 g3; obtain ⟨dp', dc', rfl⟩ := own_slc o3; obtain ⟨m3, hm3⟩ : ∃ m3, m3 = k + 1 + (g.words.drop k).length := ⟨_, rfl⟩; rw [← hm3] at o3 ⊢; have HM3 := Lib.hid hm3; have hb3 := below_grown HB2.out HZ2.out HO2.out g3; have HB3 := Lib.hid hb3; have HO3 := Lib.hid o3; have c3' : w4.cell? ⟨p, 1, none⟩ = some (.slice (some ⟨gN, 0, none⟩) n wc) := (HG0.out.later hb3).row.cell 1; have f3' : w4.frozen? ⟨p, 1, none⟩ = false := (HG0.out.later hb3).row.free 1; have q0 : (w4.setCell ⟨p, 1, none⟩ (.slice dp' m3 dc')).cell? ⟨s, 0, none⟩ = some (.int .i64 r.no) := ((HQ2.out.below hb3 HQ2.out.lt).setOther (g := p) (j := 1) (show s ≠ p by omega) _).cell 0; clear o3 g3 hb3 c2 hm3)
       | (refine Stop.out (p := wpList _ _ _ [{ dst := _, op := .store 33 _ _, type := _, pos := _, after := _, guard := _ }] _ _) ?_))
      constructor
      have HG3 := HG0.out.later HB3.out
      have HK3 : Hid (Kept w.heap.size p p p w (w4.setCell ⟨p, 1, none⟩ (.slice dp' m3 dc'))) := Lib.hid ((Kept.of_below (HB0.out.trans (HB3.out.mono hz2'))).setCell (a := ⟨p, 1, none⟩) _ (.inl rfl))
      have HQ4 := Lib.hid ((HA2.out.below HB3.out HA2.out.lt).setOther (g := p) (j := 1) (by omega) (.slice dp' m3 dc'))
      have HF : Hid (GrAt tl N (w4.setCell ⟨p, 1, none⟩ (.slice dp' m3 dc')) p ⟨dp', m3, dc', kp, kn, kc, dp, dn, dc⟩ ⟨g.now, insW g.words (newW g r), g.keys, g.dead⟩) := Lib.hid ⟨HG3.row.set 1 _, own_set _ (own_down (own_cast HO3.out (by
       show _ = (insW g.words (newW g r)).length
       rw [HM3.out, HI.out, List.length_append, List.length_cons, List.length_take, ← HN.out]
       omega) (by
       show _ = (insW g.words (newW g r)).flatMap wdCf
       rw [HI.out]
       simp)) (by omega)) (row_own_ne HG3.row HO3.out (by first | decide | exact tl.hW | exact tl.hK | exact tl.hI)), own_set _ HG3.keys (row_own_ne HG3.row HG3.keys (by first | decide | exact tl.hW | exact tl.hK | exact tl.hI)), own_set _ HG3.dead (row_own_ne HG3.row HG3.dead (by first | decide | exact tl.hW | exact tl.hK | exact tl.hI)), hN⟩
      clear HG3
      refine told_at (X := p) (Y := p) HQ4.out HF.out HK3.out ⟨0, r.no, 0, false⟩ (by omega) (by omega) rfl rfl rfl rfl rfl ?_
      intro Z HT
      go_wp2_with fail
      refine bodyPost_ret (ret_resp rfl rfl HT.out.resp) rfl ?_
      exact ⟨_, by rw [HE.out]; first | done | rfl, by rw [HE.out]; exact HT.out.gr, HT.out.kept⟩
end Go.Proofs.YtchfgdiipjbgoaaGreat
