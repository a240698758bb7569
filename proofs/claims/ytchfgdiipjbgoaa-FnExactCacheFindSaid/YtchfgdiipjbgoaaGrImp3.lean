/- GrantRight: the program answers as the model. -/
import Derived.Test.YtchfgdiipjbgoaaGrImp2
import Derived.OpenShut
import Derived.WideShapes
import Derived.DataShut
namespace Go.Proofs.Ytchfgdiipjbgoaa
open Go Go.RowKit Go.Lib
set_option linter.unusedVariables false

/-- The numbers that are looked up in a grant are within int64. -/
def GrWf (g : Gr) : Prop := (∀ x ∈ g.keys, (Lit.int .i64 x.fam).wf = true) ∧ ∀ x ∈ g.dead, (Lit.int .i64 x).wf = true
def NosRel (l : List Wd) (g : Nat) (W : World) (i : Value) (wr : World) : Prop := ∃ k N : Nat, k ≤ l.length ∧ N ≤ k ∧ i = .int .i64 k ∧ IMap Try.prog 2 wr g N (noF (l.take k)) ∧ Below g W wr
theorem noF_step {l : List Wd} {k : Nat} {x : Wd} (hx : l[k]? = some x) (i : Int) : setAt (noF (l.take k)) x.no (.bool true) i = noF (l.take (k + 1)) i := by
  unfold setAt noF hasNo
  rw [List.take_add_one, hx, Option.toList_some, List.any_append, List.any_cons, List.any_nil, Bool.or_false]
  by_cases h : i = x.no
  · subst h; simp
  · have h2 : (x.no == i) = false := beq_eq_false_iff_ne.2 (fun e => h e.symm)
    rw [if_neg h, h2, Bool.or_false]
theorem grow_le (N : Nat) (o : Option Value) : grow N o ≤ N + 1 := by unfold grow; split <;> omega
theorem wf_small {n : Int} (h0 : 0 ≤ n) (h1 : n ≤ 1000000) : (Lit.int .i64 n).wf = true := (Lit.wf_int_iff .i64 n).2 ⟨by show -9223372036854775808 ≤ n; omega, by show n ≤ 9223372036854775807; omega⟩
theorem wordsOk_all {l : List Wd} : ∀ {b : Int}, wordsOk b l = true → ∀ x ∈ l, b < x.no ∧ x.no ≤ 99 := by
  induction l with
  | nil => intro b _ x hx; cases hx
  | cons y r ih =>
    intro b h
    unfold wordsOk wordOk at h
    simp only [Bool.and_eq_true, decide_eq_true_eq] at h
    intro x hx
    rcases List.mem_cons.1 hx with rfl | hx
    · omega
    · have := ih h.2 x hx
      omega
theorem gr_and (now : Int) (ws : List Wd) (ks : List Ky) (ds : List Int) : grantB ⟨now, ws, ks, ds⟩ = (isB now 0 1000000 && (decide (ws.length ≤ 20) && wordsOk 0 ws) && (decide (ks.length ≤ 40) && keysOk ws 0 ks) && deadOk ws 0 ds) := by
  unfold grantB
  simp only
  generalize isB now 0 1000000 = a
  generalize decide (ws.length ≤ 20) = b
  generalize decide (ks.length ≤ 40) = c
  generalize wordsOk 0 ws = d
  generalize keysOk ws 0 ks = e
  generalize deadOk ws 0 ds = f
  revert a b c d e f
  decide

set_option maxRecDepth 100000 in
set_option maxHeartbeats 2000000 in
theorem grant_imp (g : Gr) (h : GH) (w : World) (hin : GrIn w h g) (hs : GrSmall g) (hf : GrWf g) : Calls Try.prog 33 #[grV g.now h] w (Ret (.bool (grantB g)) w) := by
  obtain ⟨wp, wn, wc, kp, kn, kc, dp, dn, dc⟩ := h
  obtain ⟨now, ws, ks, ds⟩ := g
  obtain ⟨⟨hn1, hn2, hn3⟩, hl1, hl2, hl3⟩ := hin
  obtain ⟨hc1, hc2, hc3, hsh⟩ := hs
  obtain ⟨hf1, hf2⟩ := hf
  simp only at hn1 hn2 hn3 hl1 hl2 hl3 hc1 hc2 hc3 hsh hf1 hf2 ⊢
  rw [gr_and]
  unfold grV
  simp only
  have b1 : wn ≤ 1048576 := by omega
  have b2 : kn ≤ 1048576 := by omega
  have b3 : dn ≤ 1048576 := by omega
  have HN1 := Lib.hid hn1
  have HN2 := Lib.hid hn2
  have HN3 := Lib.hid hn3
  have HF1 := Lib.hid hf1
  have HF2 := Lib.hid hf2
  have hb0 := (Below.refl w.heap.size w).alloc (Nat.le_refl _) (.cells #[.int .i64 now, .slice wp wn wc, .slice kp kn kc, .slice dp dn dc] 37)
  have hrow : Row (w.alloc (.cells #[.int .i64 now, .slice wp wn wc, .slice kp kn kc, .slice dp dn dc] 37)) w.heap.size 37 [.int .i64 now, .slice wp wn wc, .slice kp kn kc, .slice dp dn dc] := heap_alloc_new w _
  obtain ⟨W, hW⟩ : ∃ W, W = w.alloc (.cells #[.int .i64 now, .slice wp wn wc, .slice kp kn kc, .slice dp dn dc] 37) := ⟨_, rfl⟩
  rw [← hW] at hb0 hrow
  have HW := Lib.hid hW
  have HR := Lib.hid hrow
  have HL1 := Lib.hid (hl1.later hb0)
  have HL2 := Lib.hid (hl2.later hb0)
  have HL3 := Lib.hid (hl3.later hb0)
  have HB := Lib.hid hb0
  have HS := Lib.hid hsh
  have hz := hb0.size
  have hgl := hrow.lt
  have hmm := fun h w => run_makeMap_hintI (P := Try.prog) Try.underlying110 .i64 h w
  clear hn1 hn2 hn3 hl1 hl2 hl3 hc1 hc2 hc3 hsh hf1 hf2 hb0 hrow hW
  cases t0 : isB now 0 1000000 with
  | false =>
    go_enter Try.func33, Try.ntmps33
    go_wp2_with (go_at_call 34; refine (isTime_at t0).mono ?_; rintro e w' ⟨rfl, rfl⟩)
    go_ret
    exact ⟨rfl, by go_grown⟩
  | true =>
  cases tw : (decide (ws.length ≤ 20) && wordsOk 0 ws) with
  | false =>
    go_enter Try.func33, Try.ntmps33
    go_wp2_with (go_at_call 34; refine (isTime_at t0).mono ?_; rintro e w' ⟨rfl, rfl⟩)
    rw [← HW.out]
    refine (words_imp wp wn wc ws _ HN1.out HL1.out b1 HS.out).mono ?_
    rw [tw]
    rintro e w2 ⟨rfl, hb2⟩
    have HB2 := Lib.hid (HB.out.trans (hb2.mono hz))
    clear hb2
    go_wp2_with fail
    go_ret
    exact ⟨rfl, HB2.out⟩
  | true =>
  have TW := Lib.hid tw
  have htw : ws.length ≤ 20 ∧ wordsOk 0 ws = true := by simpa using tw
  have HWa := Lib.hid (wordsOk_all htw.2)
  have hw20 : wn ≤ 20 := by have := HN1.out; omega
  clear htw tw
  go_enter Try.func33, Try.ntmps33
  go_wp2_with (go_at_call 34; refine (isTime_at t0).mono ?_; rintro e w' ⟨rfl, rfl⟩)
  rw [← HW.out]
  refine (words_imp wp wn wc ws _ HN1.out HL1.out b1 HS.out).mono ?_
  rw [TW.out]
  rintro e w2 ⟨rfl, hb2⟩
  have HR2 := Lib.hid (HR.out.below hb2 hgl)
  have HB2 := Lib.hid (HB.out.trans (hb2.mono hz))
  have g1 : w2.cell? ⟨w.heap.size, 1, none⟩ = some (.slice wp wn wc) := HR2.out.cell 1
  have hz2 := HB2.out.size
  have hgl2 := HR2.out.lt
  have hm0 := IMap.made w2 Try.prog 2
  have hb3 := (Below.refl w2.heap.size w2).alloc (Nat.le_refl _) (.map #[] 0)
  obtain ⟨V, hV⟩ : ∃ V, V = w2.alloc (.map #[] 0) := ⟨_, rfl⟩
  rw [← hV] at hm0 hb3
  have HV := Lib.hid hV
  have HL1w := Lib.hid (HL1.out.later hb2)
  have HB3 := Lib.hid hb3
  have HL2w := Lib.hid (HL2.out.later hb2)
  have HL3w := Lib.hid (HL3.out.later hb2)
  have HRv := Lib.hid (HR2.out.below hb3 hgl2)
  have HBv := Lib.hid (HB2.out.trans (hb3.mono hz2))
  have g1v : V.cell? ⟨w.heap.size, 1, none⟩ = some (.slice wp wn wc) := HRv.out.cell 1
  obtain ⟨g, hg⟩ : ∃ g, g = w2.heap.size := ⟨_, rfl⟩
  rw [← hg] at hm0
  have HM := Lib.hid hm0
  have hgV := hm0.lt
  have hzv := HBv.out.size
  have hgv := HRv.out.lt
  have hgg : w.heap.size < g := by omega
  have HGe := Lib.hid hg
  clear hb2 hb3 hm0 hV
  go_wp2_with fail
  rw [← HV.out, ← hg]
  clear g1 hmm hg
  go_loopw [23] (NosRel ws g V) (fun i _ => wn - (RowKit.intOf i).toNat)
  case atStart => exact ⟨0, 0, by omega, by omega, rfl, HM.out.same (fun i => rfl), Below.refl _ _⟩
  case round =>
    obtain ⟨k, N, hk, hNk, rfl, hm, hbel⟩ := hrel
    rw [← HN1.out] at hk
    have HBl := Lib.hid hbel
    have HMk := Lib.hid hm
    have hzr := hbel.size
    have hgr : g < wr.heap.size := hm.lt
    have hgw : w.heap.size < wr.heap.size := by omega
    have HRr := Lib.hid (HRv.out.below hbel hgg)
    clear hbel hm
    by_cases hlt : k < wn
    · obtain ⟨x, hx⟩ : ∃ x, ws[k]? = some x := ⟨_, List.getElem?_eq_getElem (by rw [← HN1.out]; exact hlt)⟩
      obtain ⟨b, o, rfl, hat⟩ := HL1w.out.some hx
      obtain ⟨a0, a1, a2, a3, a4⟩ := wd_cells hat hx
      have hbW : b < w2.heap.size := World.block_lt_of_cell? w2 _ a0
      have hbg : b < g := by rw [HGe.out]; exact hbW
      have c0 := (HBl.out.cell (p := ⟨b, o + k * 5, none⟩) hbg).trans ((HB3.out.cell (p := ⟨b, o + k * 5, none⟩) hbW).trans a0)
      have c1 := (HBl.out.cell (p := ⟨b, o + k * 5 + 1, none⟩) hbg).trans ((HB3.out.cell (p := ⟨b, o + k * 5 + 1, none⟩) hbW).trans a1)
      have c2 := (HBl.out.cell (p := ⟨b, o + k * 5 + 2, none⟩) hbg).trans ((HB3.out.cell (p := ⟨b, o + k * 5 + 2, none⟩) hbW).trans a2)
      have c3 := (HBl.out.cell (p := ⟨b, o + k * 5 + 3, none⟩) hbg).trans ((HB3.out.cell (p := ⟨b, o + k * 5 + 3, none⟩) hbW).trans a3)
      have c4 := (HBl.out.cell (p := ⟨b, o + k * 5 + 4, none⟩) hbg).trans ((HB3.out.cell (p := ⟨b, o + k * 5 + 4, none⟩) hbW).trans a4)
      have hwf := HWa.out x (List.mem_of_getElem? hx)
      have HWf := Lib.hid (wf_small (n := x.no) (by omega) (by omega))
      have HX := Lib.hid hx
      clear a0 a1 a2 a3 a4 hx hat hwf
      go_wp2_with (at_mapUpdate; refine wpList_put_I rfl (.tmp 27) (.tmp 29) (.const (.bool true)) 110 rfl Try.underlying110 Try.underlying2 rfl (HMk.out.alloc _) (by unfold maxLen; omega) x.no rfl HWf.out (.bool true) rfl ?_; intro w4 hm4 hg4)
      have HM4 := Lib.hid (hm4.same (noF_step HX.out))
      have hN4 := grow_le N (noF (List.take k ws) x.no)
      have HB4 := Lib.hid ((HBl.out.alloc (by omega) (.cells #[.int .i64 x.no, .int .i64 x.client, .string x.shade, .int .i64 x.till, .bool x.used] 101)).grown hg4 (by simp; omega) (fun j hj => by cases hj; omega))
      clear hm4 hg4
      go_wp2_with fail
      go_roundw
      case rel => exact ⟨k + 1, _, by rw [← HN1.out]; omega, by omega, by go_num, HM4.out, HB4.out⟩
      case measure => simp [RowKit.intOf]; omega
    · have hM : IMap Try.prog 2 wr g N (noF ws) := by have h := HMk.out; rwa [List.take_of_length_le (by rw [← HN1.out]; omega)] at h
      have HMa := Lib.hid hM
      have HBa := Lib.hid (HBv.out.trans (HBl.out.mono (by omega)))
      have HL2r : Hid (LIn kyCf wr kp ks) := Lib.hid (by
        rcases HL2w.out with h | ⟨b, o, h1, h2⟩
        · exact .inl h
        · have h3 := LAt.later h2 HB3.out
          cases ks with
          | nil => exact .inl rfl
          | cons y r =>
            have hb : b < w2.heap.size := rangeAt_lt h2 (by simp [kyCf])
            exact .inr ⟨b, o, h1, h3.below HBl.out (by rw [HGe.out]; exact hb)⟩)
      have HL3r : Hid (LIn inCf wr dp ds) := Lib.hid (by
        rcases HL3w.out with h | ⟨b, o, h1, h2⟩
        · exact .inl h
        · have h3 := LAt.later h2 HB3.out
          cases ds with
          | nil => exact .inl rfl
          | cons y r =>
            have hb : b < w2.heap.size := rangeAt_lt h2 (by simp [inCf])
            exact .inr ⟨b, o, h1, h3.below HBl.out (by rw [HGe.out]; exact hb)⟩)
      have q2 : wr.cell? ⟨w.heap.size, 2, none⟩ = some (.slice kp kn kc) := HRr.out.cell 2
      have hza := HBa.out.size
      clear hM
      cases tk : (decide (ks.length ≤ 40) && keysOk ws 0 ks) with
      | false =>
        have TK := Lib.hid tk
        go_wp2_with fail
        refine (keys_imp kp kn kc ks ws g N _ HN2.out HL2r.out b2 HMa.out HF1.out).mono ?_
        rw [tk]
        rintro e w5 ⟨rfl, hb5⟩
        have HB5 := Lib.hid (HBa.out.trans (hb5.mono hza))
        clear hb5
        go_wp2_with fail
        go_ret
        exact ⟨by rw [TK.out]; rfl, HB5.out⟩
      | true =>
        have TK := Lib.hid tk
        go_wp2_with fail
        refine (keys_imp kp kn kc ks ws g N _ HN2.out HL2r.out b2 HMa.out HF1.out).mono ?_
        rw [tk]
        rintro e w5 ⟨rfl, hb5⟩
        have HB5 := Lib.hid (HBa.out.trans (hb5.mono hza))
        have q3 : w5.cell? ⟨w.heap.size, 3, none⟩ = some (.slice dp dn dc) := (HRr.out.below hb5 HRr.out.lt).cell 3
        have HM5 := Lib.hid (HMa.out.later hb5)
        have HL5 := Lib.hid (HL3r.out.later hb5)
        clear hb5 q2
        go_wp2_with fail
        refine (dead_imp dp dn dc ds ws g N _ HN3.out HL5.out b3 HM5.out HF2.out).mono ?_
        rintro e w6 ⟨rfl, rfl⟩
        go_wp2_with fail
        go_ret
        exact ⟨by rw [TK.out]; rfl, HB5.out⟩
end Go.Proofs.Ytchfgdiipjbgoaa
