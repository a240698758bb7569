/- Draws: a grant and what is asked, a list. -/
import Derived.Test.YtchfgdiipjbgoaaGreatFGdL
import Derived.Test.YtchfgdiipjbgoaaGreatFGdE
import Derived.Test.YtchfgdiipjbgoaaGreatFGdT
import Derived.Deep.DeepCutAuto
namespace Go.Proofs.YtchfgdiipjbgoaaGreat
open Go Go.RowKit Go.Lib
set_option linter.unusedVariables false
set_option maxRecDepth 100000

def DrawnGA (w : World) (e : Ending) (w' : World) : Prop := ∃ (k : GH) (gr : Gr) (b c : Nat) (l : List RQ), e = .returned (.tuple #[grV gr.now k, .slice (some ⟨b, 0, none⟩) l.length c]) ∧ GrOwn w.heap.size gr k w' ∧ GrWf gr ∧ GrSmall gr ∧ LAt rqCf w' b 0 l ∧ l.length ≤ 10 ∧ l.length ≤ c ∧ c ≤ maxLen ∧ (∀ r ∈ l, r.proof.size ≤ maxLen) ∧ Below w.heap.size w w'
theorem own_srcG {g E K n : Nat} {w w' : World} {v : Value} {x : List Value} (h : w.ownsRow (g + 1) E K v n x) (hg : w.grownBy w' (some g)) : w'.ownsRow (g + 1) E K v n x := by
 refine h.kept hg ?_
 rcases hb : v.ownBlock with _ | q
 ·exact Or.inl rfl
 ·exact Or.inr (fun e => by have := (h.lt q hb).1; have := Option.some.inj e; omega)
structure GaL (g : Nat) (w : World) (n : Nat) (l : List RQ) (v : Value) (wr : World) : Prop where
 sum : n + l.length ≤ 10
 own : wr.ownsRow (g + 1) 29 7 v l.length (l.flatMap rqCf)
 at0 : ∃ b c, v = .slice (some ⟨b, 0, none⟩) l.length c
 sm : ∀ r ∈ l, r.proof.size ≤ maxLen
 src : SrcAt g wr
 bel : Below w.heap.size w wr
 zero : Row wr w.heap.size 27 (grL 0 zH)
theorem oneRq (r : RQ) : ∀ u ∈ rqCf r, u.oneCell' = true := by intro u hu; simp [rqCf] at hu; rcases hu with rfl | rfl | rfl | rfl | rfl | rfl | rfl <;> rfl
theorem rq_small {r : RQ} (h : rightB r = true) : r.proof.size ≤ maxLen := Nat.le_trans (rq_facts h).2.2.2.2.2.2 (by unfold maxLen; omega)
theorem GaL.kept {g n : Nat} {w w1 w2 : World} {l : List RQ} {v : Value} (h : GaL g w n l v w1) (hs : SrcAt g w2) (hg : w1.grownBy w2 (some g)) (hge : w.heap.size < g) : GaL g w n l v w2 :=
 ⟨h.sum, own_srcG h.own hg, h.at0, h.sm, hs, ⟨hg.os.trans h.bel.os, hg.tape.trans h.bel.tape, hg.output.trans h.bel.output, Nat.le_trans h.bel.size hg.size, fun k hk => (hg.block k (Nat.lt_of_lt_of_le hk h.bel.size) (fun e => by have := Option.some.inj e; omega)).trans (h.bel.block k hk)⟩, h.zero.grw hg (fun e => by have := Option.some.inj e; omega)⟩
theorem GaL.later {g n : Nat} {w w1 w2 : World} {l : List RQ} {v : Value} (h : GaL g w n l v w1) (hb : Below w1.heap.size w1 w2) : GaL g w n l v w2 :=
 ⟨h.sum, own_late h.own hb, h.at0, h.sm, h.src.below hb, h.bel.trans (hb.mono h.bel.size), h.zero.below hb h.zero.lt⟩
/-- One request more. -/
theorem GaL.app {g n m : Nat} {w w1 w2 : World} {l : List RQ} {v v' : Value} {r : RQ} (h : GaL g w n l v w1) (ho : w2.ownsRow (g + 1) 29 7 v' (l.length + 1) (l.flatMap rqCf ++ rqCf r)) (hg : w1.grownBy w2 v.ownBlock) (hge : w.heap.size < g) (hr : r.proof.size ≤ maxLen) (hm : m + (l.length + 1) ≤ 10) : GaL g w m (l ++ [r]) v' w2 := by
 have hz := row_own_ne h.zero h.own (by decide)
 refine ⟨by simp; omega, by simpa [List.flatMap_append] using ho, ?_, fun y hy => ?_, h.src.grown hg (fun q hq => by have := (h.own.lt q hq).1; omega), ?_, h.zero.grw hg (fun e => hz e.symm)⟩
 ·rcases ho.2 with ⟨_, h2⟩ | ⟨b, c, cur, h1, _⟩
  ·omega
  ·exact ⟨b, c, by simpa using h1⟩
 ·rcases List.mem_append.1 hy with hy | hy
  ·exact h.sm y hy
  ·obtain rfl : y = r := by simpa using hy
   exact hr
 ·exact ⟨hg.os.trans h.bel.os, hg.tape.trans h.bel.tape, hg.output.trans h.bel.output, Nat.le_trans h.bel.size hg.size, fun k hk => (hg.block k (Nat.lt_of_lt_of_le hk h.bel.size) (fun e => by have := (h.own.lt k e.symm).1; omega)).trans (h.bel.block k hk)⟩
theorem GaL.at_ {g n : Nat} {w wr : World} {l : List RQ} {b c : Nat} (h : GaL g w n l (.slice (some ⟨b, 0, none⟩) l.length c) wr) : LAt rqCf wr b 0 l ∧ l.length ≤ c ∧ c ≤ maxLen := by
 refine ⟨fun j v hj => ?_, ?_⟩
 ·have := h.own.cells (g := b) rfl j v hj
  rwa [Addr.add_mid] at this
 ·rcases h.own.2 with ⟨e, _⟩ | ⟨b', c', cur, e, _, _, h1, h2, _⟩
  ·cases e
  ·obtain ⟨_, rfl⟩ : b = b' ∧ c = c' := by simpa using e
   exact ⟨h1, h2⟩
set_option maxHeartbeats 4000000 in
theorem drawGA_any (w : World) (a : Option Addr) (len cap : Nat) (zs : List Int) (hl : len ≤ 1048576) (h : IsRow .u8 w a len cap zs) : Calls Tryz.prog 14 #[.slice a len cap] w (DrawnGA w) := by
 obtain ⟨W, hW⟩ : ∃ W, W = w.alloc (.cells #[.int .i64 0, .slice none 0 0, .slice none 0 0, .slice none 0 0] 27) := ⟨_, rfl⟩
 have hb0 : Below w.heap.size w W := by rw [hW]; go_grown
 have r0 : Row W w.heap.size 27 (grL 0 zH) := by rw [hW]; exact heap_alloc_new w _
 have hsz : W.heap.size = w.heap.size + 1 := by rw [hW]; simp
 have HW := Lib.hid hW
 have HB := Lib.hid hb0
 have R0 := Lib.hid r0
 have HC := Lib.hid (h.later hb0)
 clear hW hb0 r0 h
 go_enter Tryz.func14, Tryz.ntmps14
 go_wp2_with fail
 rw [← HW.out]
 refine (source_any W a len cap zs (by omega) HC.out).mono ?_
 rintro e w1 ⟨g, hge, rfl, hs1, hb1⟩
 have hge' : w.heap.size < g := by omega
 have hb2 : Below w1.heap.size w1 (w1.alloc (.cells #[] 29)) := (Below.refl _ _).alloc (Nat.le_refl _) _
 have hgl := hs1.lt
 have HX : Hid (GaL g w 0 [] (.slice (some ⟨w1.heap.size, 0, none⟩) 0 0) (w1.alloc (.cells #[] 29))) := Lib.hid
  ⟨by simp, World.ownsRow_made (base := g + 1) (size := 7) (e := 29) w1 #[] 0 (by omega) (Nat.zero_le _) rfl, ⟨_, _, rfl⟩, fun r hr => by simp at hr, hs1.below hb2, (HB.out.trans (hb1.mono HB.out.size)).trans (hb2.mono (Nat.le_trans HB.out.size hb1.size)), (R0.out.below hb1 R0.out.lt).below hb2 (Nat.lt_of_lt_of_le R0.out.lt hb1.size)⟩
 clear hs1 hb1 hb2 HC R0 hge
 go_upto_region 3 with fail
 generalize w1.alloc (.cells #[] 29) = w2 at HX ⊢
 generalize w1.heap.size = b0 at HX ⊢
 clear hgl HW HB hsz
 go_wp2_with fail
 refine (n_is g _ 9 (by omega) (by omega) HX.out.src).mono ?_
 rintro e w3 ⟨y, rfl, ⟨y0, y1⟩, hs3, hg3⟩
 obtain ⟨n0, rfl⟩ := Int.eq_ofNat_of_zero_le y0
 have HX3 : Hid (GaL g w n0 [] (.slice (some ⟨b0, 0, none⟩) 0 0) w3) := Lib.hid (by
  have h := HX.out.kept hs3 hg3 hge'
  exact ⟨by simp; omega, h.own, h.at0, h.sm, h.src, h.bel, h.zero⟩)
 clear hs3 hg3 HX
 go_wp2_with fail
 go_loopw [5, 6] (fun v i wr => ∃ (n : Nat) (l : List RQ), i = .int .i64 n ∧ n + l.length ≤ 9 ∧ GaL g w n l v wr) (fun _ i _ => (RowKit.intOf i).toNat)
 case atStart => exact ⟨n0, [], rfl, by simp; omega, HX3.out⟩
 case round =>
  obtain ⟨n, l, rfl, hsum, hx⟩ := hrel
  obtain ⟨b, c, rfl⟩ := hx.at0
  have HXr := Lib.hid hx
  clear hx HX3 y0 y1
  by_cases hn0 : 0 < n
  ·go_wp2_with fail
   refine (n_is g _ 20 (by omega) (by omega) HXr.out.src).mono ?_
   rintro e w5 ⟨z, rfl, ⟨z0, z1⟩, hs5, hg5⟩
   have ez : IntKind.i64.wrap ((3 : Int) + z) = 3 + z := by rw [IntKind.wrap_i64]; omega
   have HX5 := Lib.hid (HXr.out.kept hs5 hg5 hge')
   clear hs5 hg5 HXr
   go_wp2_with fail
   refine (reqR_any g (3 + z) _ ⟨by omega, by omega⟩ HX5.out.src).mono ?_
   rintro e w6 ⟨_, ⟨r, hr64, hrR, rfl⟩, rfl, hs6, hg6⟩
   have HX6 := Lib.hid (HX5.out.kept hs6 hg6 hge')
   have HV := Lib.hid (show rqV r = .agg #[.int .i64 r.no, .int .i64 r.kind, .int .i64 r.client, .int .i64 r.code, .int .i64 r.token, .string r.proof, .int .i64 r.upTo] from rfl)
   have hbl : Below w6.heap.size w6 (w6.alloc (.cells #[.int .i64 r.no, .int .i64 r.kind, .int .i64 r.client, .int .i64 r.code, .int .i64 r.token, .string r.proof, .int .i64 r.upTo] 29)) := (Below.refl _ _).alloc (Nat.le_refl _) _
   have HX7 := Lib.hid (HX6.out.later hbl)
   have HOw := Lib.hid HX6.out.own
   have hgs : g + 1 ≤ w6.heap.size := hs6.lt
   have HRs := Lib.hid (rq_small hrR)
   obtain ⟨ii, hi, hz0, hz1, hz2⟩ := info_parts infoReq
   rw [HV.out]
   clear hs6 hg6 hr64 hrR hbl HX5 ez
   go_wp2_with (at_builtin; refine wpList_appo rfl (.tmp 16) (.tmp 22) 37 29 rfl ii _ 7 64 Tryz.underlying37 hi hz0 hz1 hz2 rfl (by decide) (by decide) (g + 1) hgs (.slice (some ⟨b, 0, none⟩) l.length c) l.length _ (rqCf r) rfl HOw.out _ rfl rfl rfl (oneRq r) (by omega) ?_; intro v7 w7 ho7 hg7; have HX8 := Lib.hid (HX7.out.app (m := n - 1) ho7 hg7 hge' HRs.out (by omega)); clear ho7 hg7)
   go_roundw
   case rel => exact ⟨n - 1, l ++ [r], by go_num, by simp; omega, HX8.out⟩
   case measure => simp [RowKit.intOf]; omega
  ·have hn1 : n = 0 := by omega
   subst hn1
   go_upto_if 25 with (go_at_call 86; refine (one_any g _ 8 (by omega) HXr.out.src).mono ?_; rintro e w5 ⟨_, ⟨cc, rfl⟩, rfl, hs5, hg5⟩)
   have HX5 := Lib.hid (HXr.out.kept hs5 hg5 hge')
   clear hs5 hg5 HXr
   go_cut [5] (fun v wx => ∃ (l : List RQ), ∃ m : Nat, l.length ≤ 10 ∧ GaL g w 0 l v wx)
   case first =>
    cases cc with
    | false =>
     go_wp2_with fail
     go_meet
     exact ⟨l, 0, by omega, HX5.out⟩
    | true =>
     go_wp2_with fail
     refine (req_any g _ HX5.out.src).mono ?_
     rintro e w6 ⟨_, ⟨r, hr64, rfl⟩, rfl, hs6, hg6⟩
     have HX6 := Lib.hid (HX5.out.kept hs6 hg6 hge')
     have HV := Lib.hid (show rqV r = .agg #[.int .i64 r.no, .int .i64 r.kind, .int .i64 r.client, .int .i64 r.code, .int .i64 r.token, .string r.proof, .int .i64 r.upTo] from rfl)
     have hbl : Below w6.heap.size w6 (w6.alloc (.cells #[.int .i64 r.no, .int .i64 r.kind, .int .i64 r.client, .int .i64 r.code, .int .i64 r.token, .string r.proof, .int .i64 r.upTo] 29)) := (Below.refl _ _).alloc (Nat.le_refl _) _
     have HX7 := Lib.hid (HX6.out.later hbl)
     have HOw := Lib.hid HX6.out.own
     have hgs : g + 1 ≤ w6.heap.size := hs6.lt
     have HRs := Lib.hid hr64.2.2.2.2.2.1
     obtain ⟨ii, hi, hz0, hz1, hz2⟩ := info_parts infoReq
     rw [HV.out]
     clear hs6 hg6 hr64 hbl
     go_wp2_with (at_builtin; refine wpList_appo rfl (.tmp 26) (.tmp 29) 37 29 rfl ii _ 7 64 Tryz.underlying37 hi hz0 hz1 hz2 rfl (by decide) (by decide) (g + 1) hgs (.slice (some ⟨b, 0, none⟩) l.length c) l.length _ (rqCf r) rfl HOw.out _ rfl rfl rfl (oneRq r) (by omega) ?_; intro v7 w7 ho7 hg7; have HX8 := Lib.hid (HX7.out.app (m := 0) ho7 hg7 hge' HRs.out (by omega)); clear ho7 hg7)
     go_meet
     exact ⟨l ++ [r], 0, by simp; omega, HX8.out⟩
   case rest =>
    obtain ⟨l9, _, hl9, hx9⟩ := hcut
    generalize l9 = l at hl9 hx9
    obtain ⟨b, c, rfl⟩ := hx9.at0
    have HX9 := Lib.hid hx9
    clear hx9
    go_wp2_with fail
    refine (grantL_is g _ HX9.out.src).mono ?_
    rintro e w9 ⟨⟨k, gr⟩, rfl, ho, hwf, hsm, hs9, hg9⟩
    have HXz := Lib.hid (HX9.out.kept hs9 hg9 hge')
    have HO := Lib.hid ho
    have HWf := Lib.hid hwf
    have HSm := Lib.hid hsm
    have hwl : w.heap.size ≤ wc.heap.size := HX9.out.bel.size
    have hwz := HX9.out.zero.lt
    have HVk := Lib.hid (show grV gr.now k = .agg #[.int .i64 gr.now, .slice k.wp k.wn k.wc, .slice k.kp k.kn k.kc, .slice k.dp k.dn k.dc] from rfl)
    simp only []
    rw [HVk.out]
    clear ho hwf hsm hs9 hg9
    go_wp2_with (refine Stop.out (p := wpList _ _ _ [{ dst := none, op := .store 27 (.tmp 2) (.tmp 32), type := _, pos := _, after := _, guard := _ }, _] _ _) ?_)
    constructor
    refine wpList_store_to rfl 27 (.tmp 2) (.tmp 32) rfl w.heap.size 0 #[.int .i64 gr.now, .slice k.wp k.wn k.wc, .slice k.kp k.kn k.kc, .slice k.dp k.dn k.dc] rfl rfl (HXz.out.zero.there 0 4 (by show 0 + 4 ≤ 4; omega)) sizeGrantZ (oneGrantZ gr.now k) ?_
    intro Z hZ
    have hk7 : Kept w9.heap.size w.heap.size w.heap.size w.heap.size w9 Z := by rw [hZ]; exact Kept.setCells (.inl rfl) _ 0 (Kept.refl _ _ _ _ _)
    have z1 : Row Z w.heap.size 27 (grL gr.now k) := by rw [hZ]; exact HXz.out.zero.setCells _ 0
    have hO := own_move (M := w.heap.size) HO.out hk7 (by omega) (by omega)
    have hLA := HXz.out.at_
    have hbne : b ≠ w.heap.size := fun e => row_own_ne HXz.out.zero HXz.out.own (by decide) (by rw [e]; rfl)
    have hbl9 : b < w9.heap.size := by
     have := HXz.out.own.lt b rfl
     omega
    have hLz : LAt rqCf Z b 0 l := fun j v hj => (World.cell?_of_block (hk7.block b hbl9 hbne hbne hbne)).trans (hLA.1 j v hj)
    have HL := Lib.hid hLz
    have HCc := Lib.hid hLA.2
    have HBz := Lib.hid (HXz.out.bel.trans (hk7.below (B := w.heap.size) HXz.out.bel.size (Nat.le_refl _) (Nat.le_refl _) (Nat.le_refl _)))
    have HOz := Lib.hid hO
    have HSs := Lib.hid HXz.out.sm
    have d0 : Z.cell? ⟨w.heap.size, 0, none⟩ = some (.int .i64 gr.now) := z1.cell 0
    have d1 : Z.cell? ⟨w.heap.size, 1, none⟩ = some (.slice k.wp k.wn k.wc) := z1.cell 1
    have d2 : Z.cell? ⟨w.heap.size, 2, none⟩ = some (.slice k.kp k.kn k.kc) := z1.cell 2
    have d3 : Z.cell? ⟨w.heap.size, 3, none⟩ = some (.slice k.dp k.dn k.dc) := z1.cell 3
    clear hZ hk7 z1 hO hLA hLz hbne hbl9
    go_wp2_with fail
    refine bodyPost_ret (v := .tuple #[grV gr.now k, .slice (some ⟨b, 0, none⟩) l.length c]) (by simp [results, Tryz.results14, go_sem, d0, d1, d2, d3, grV]; try rfl) rfl ?_
    exact ⟨k, gr, b, c, l, rfl, HOz.out, HWf.out, HSm.out, HL.out, hl9, HCc.out.1, HCc.out.2, HSs.out, HBz.out⟩
end Go.Proofs.YtchfgdiipjbgoaaGreat
