/- Honest: the program's side. -/
import Derived.Test.YtjccnjfdeedneaaGreatSHo2
import Derived.Test.YtjccnjfdeedneaaGreatSStImp
namespace Go.Proofs.YtjccnjfdeedneaaGreat
open Go Go.RowKit Go.Lib Go.MuLone
set_option linter.unusedVariables false
set_option linter.unusedSimpArgs false
set_option maxRecDepth 100000

def honC (g : Gr) (v : Int) (l : List En) : Bool := l.all fun x => x.ver != v || vouchB g x
def honB (s : St) : Bool := storeB s && (Int.tmod s.ver 2 != 0 || honC s.gr s.ver s.cache)
theorem honC_at {g : Gr} {v : Int} {l : List En} {k : Nat} {x : En} (hx : l[k]? = some x) : honC g v (l.take (k + 1)) = (honC g v (l.take k) && (x.ver != v || vouchB g x)) := by
 unfold honC
 rw [List.take_add_one, hx, Option.toList_some, List.all_append]
 simp
theorem honC_false {g : Gr} {v : Int} {l : List En} {k : Nat} {x : En} (hx : l[k]? = some x) (h : (x.ver != v || vouchB g x) = false) : honC g v l = false := by
 unfold honC
 rw [List.all_eq_false]
 exact ⟨x, List.mem_of_getElem? hx, by rw [h]; simp⟩
theorem honC_end {g : Gr} {v : Int} {l : List En} {k : Nat} (hk : l.length ≤ k) : honC g v (l.take k) = honC g v l := by rw [List.take_of_length_le hk]
theorem cacheOk_entry : ∀ {l seen : List En}, cacheOk seen l = true → ∀ x ∈ l, entryB x = true
 | [], _, _, x, hx => by simp at hx
 | y :: r, seen, h, x, hx => by
  unfold cacheOk at h
  simp only [Bool.and_eq_true] at h
  rcases List.mem_cons.1 hx with rfl | hx
  ·exact h.1.1
  ·exact cacheOk_entry h.2 x hx
theorem even_any (v : Int) (w : World) : Calls Tryz.prog 137 #[.int .i64 v] w fun e w' => e = .returned (.bool (Int.tmod v 2 == 0)) ∧ w' = w := by
 go_enter Tryz.func137, Tryz.ntmps137
 go_wp2_with fail
 go_ret
 exact ⟨rfl, rfl⟩
theorem even_at {v : Int} {b : Bool} (h : (Int.tmod v 2 == 0) = b) (w : World) : Calls Tryz.prog 137 #[.int .i64 v] w fun e w' => e = .returned (.bool b) ∧ w' = w := by
 subst h
 exact even_any v w
def HonRel (g : Gr) (v : Int) (l : List En) (w : World) (i : Value) (wr : World) : Prop := ∃ k : Nat, k ≤ l.length ∧ i = .int .i64 k ∧ honC g v (l.take k) = true ∧ Below w.heap.size w wr
set_option maxHeartbeats 4000000 in
theorem honest_any {h : ShH} {M base c' : Nat} {q : Option Addr} {l : List En} {g : Gr} {td : Int → Int} {ver hold : Int} {w : World} (hS : ShAt w h M g td ver hold (.slice q l.length c'))
  (ho : w.ownsRow base 50 4 (.slice q l.length c') l.length (l.flatMap enCf)) (hne : ∀ k, (Value.slice q l.length c').ownBlock = some k → k ≠ h.sb) (hl : l.length ≤ 1048576) (hen : ∀ x ∈ l, entryB x = true) :
  Calls Tryz.prog 74 #[.pointer (some ⟨h.sb, 0, none⟩)] w (Ret (.bool (Int.tmod ver 2 != 0 || honC g ver l)) w) := by
 have HSh := Lib.hid hS
 have HAll := Lib.hid (all_any hS.1 ho hne hl)
 have HEn := Lib.hid hen
 have c1 : w.cell? ⟨h.sb, 1, none⟩ = some (.int .i64 ver) := hS.1.cell 1
 clear hS ho hne hen
 go_enter Tryz.func74, Tryz.ntmps74
 go_wp2_with fail
 refine (ld64 h.sb 1 ver _ c1).mono ?_
 rintro e w1 ⟨rfl, hw1⟩
 rw [hw1]
 clear hw1 w1 c1
 cases hv : (Int.tmod ver 2 == 0) with
 | false =>
  have HT : Hid ((Int.tmod ver 2 != 0 || honC g ver l) = true) := Lib.hid (by rw [bne, hv]; rfl)
  have HV := Lib.hid hv
  clear hv
  go_wp2_with fail
  refine (even_at HV.out _).mono ?_
  rintro e w1 ⟨rfl, hw1⟩
  rw [hw1]
  clear hw1 w1
  go_wp2_with fail
  go_ret
  exact ⟨by rw [HT.out]; rfl, Below.refl _ _⟩
 | true =>
  have HT : Hid ((Int.tmod ver 2 != 0 || honC g ver l) = honC g ver l) := Lib.hid (by rw [bne, hv]; rfl)
  have HV := Lib.hid hv
  clear hv
  go_wp2_with fail
  refine (even_at HV.out _).mono ?_
  rintro e w1 ⟨rfl, hw1⟩
  rw [hw1]
  clear hw1 w1
  go_wp2_with fail
  refine HAll.out.mono ?_
  rintro e W ⟨q2, c2, rfl, ho2, hr2, hg2⟩
  have hb : Below w.heap.size w W := below_back hg2 HSh.out.1 hr2
  have HS2 : Hid (ShAt W h M g td ver hold (.slice q l.length c')) := Lib.hid (HSh.out.later hb)
  have HL := Lib.hid (LIn.of_own ho2)
  have HB := Lib.hid hb
  obtain ⟨n, hn⟩ : ∃ n, n = l.length := ⟨_, rfl⟩
  rw [← hn] at hl ⊢
  have HN := Lib.hid hn
  clear ho2 hr2 hg2 hb hn
  go_wp2_with fail
  go_loopw [18] (HonRel g ver l W) (fun i _ => n - (RowKit.intOf i).toNat)
  case atStart => exact ⟨0, by omega, rfl, rfl, Below.refl _ _⟩
  case round =>
   obtain ⟨k, hk, rfl, he, hbel⟩ := hrel
   rw [← HN.out] at hk
   have HEq := Lib.hid he
   have HBl := Lib.hid (HB.out.trans (hbel.mono HB.out.size))
   have HBw := Lib.hid hbel
   have HLr := Lib.hid (HL.out.later hbel)
   have HSr := Lib.hid (HS2.out.later hbel)
   clear he hbel
   by_cases hlt : k < n
   ·obtain ⟨x, hx⟩ : ∃ x, l[k]? = some x := ⟨_, List.getElem?_eq_getElem (by rw [← HN.out]; exact hlt)⟩
    obtain ⟨b, o, rfl, hat⟩ := HLr.out.some hx
    obtain ⟨c0, c1, c2', c3⟩ := en_cells hat hx
    have hxe := HEn.out x (List.mem_of_getElem? hx)
    have HX := Lib.hid hx
    have HXe := Lib.hid hxe
    have HEv := Lib.hid (show enV x = .agg #[.int .i64 x.token, .int .i64 x.client, .int .i64 x.till, .int .i64 x.ver] from rfl)
    obtain ⟨V, hV⟩ : ∃ V, V = wr.alloc (.cells #[.int .i64 x.token, .int .i64 x.client, .int .i64 x.till, .int .i64 x.ver] 50) := ⟨_, rfl⟩
    have hbx : Below wr.heap.size wr V := by rw [hV]; exact (Below.refl _ _).alloc (Nat.le_refl _) _
    have HV := Lib.hid hV
    have HBV := Lib.hid (HBl.out.trans (hbx.mono HBl.out.size))
    have HBVw := Lib.hid (HBw.out.trans (hbx.mono HBw.out.size))
    have HSV := Lib.hid (HSr.out.later hbx)
    clear hx hat hxe hbx hV
    cases hxv : (x.ver == ver) with
    | false =>
     have HNx : Hid (honC g ver (l.take (k + 1)) = true) := Lib.hid (by rw [honC_at HX.out, HEq.out, bne, hxv]; rfl)
     go_wp2_with fail
     rw [← HV.out]
     go_roundw
     case rel => exact ⟨k + 1, by rw [← HN.out]; omega, by go_num, HNx.out, HBVw.out⟩
     case measure => simp [RowKit.intOf]; omega
    | true =>
     go_wp2_with fail
     rw [← HV.out, ← HEv.out]
     refine (vouch_any HSV.out HXe.out).mono ?_
     rintro e w3 ⟨rfl, hb3⟩
     have HB3 := Lib.hid (HBV.out.trans (hb3.mono HBV.out.size))
     have HB3w := Lib.hid (HBVw.out.trans (hb3.mono HBVw.out.size))
     clear hb3
     cases hvb : vouchB g x with
     | false =>
      have HF : Hid (honC g ver l = false) := Lib.hid (honC_false HX.out (by rw [bne, hxv, hvb]; rfl))
      clear hvb hxv
      go_wp2_with fail
      go_ret
      exact ⟨by rw [HT.out, HF.out]; rfl, HB3.out⟩
     | true =>
      have HNx : Hid (honC g ver (l.take (k + 1)) = true) := Lib.hid (by rw [honC_at HX.out, HEq.out, hvb]; simp)
      clear hvb hxv
      go_wp2_with fail
      go_roundw
      case rel => exact ⟨k + 1, by rw [← HN.out]; omega, by go_num, HNx.out, HB3w.out⟩
      case measure => simp [RowKit.intOf]; omega
   ·have HF : Hid (honC g ver l = true) := Lib.hid (by rw [← honC_end (k := k) (by rw [← HN.out]; omega)]; exact HEq.out)
    go_wp2_with fail
    go_ret
    exact ⟨by rw [HT.out, HF.out]; rfl, HBl.out⟩
set_option maxHeartbeats 4000000 in
theorem hon_impl (s : St) (h : SH) (w : World) (hin : StIn w h s) (hs : StSmall s) (hf : GrWf s.gr) (hcap : h.cn ≤ h.cc ∧ h.cc ≤ 1048576) (hsrc : Src enCf w (.slice h.cp h.cn h.cc) s.cache) : Calls Tryz.prog 24 #[stV s h] w (Ret (.bool (honB s)) w) := by
 obtain ⟨W, hW⟩ : ∃ W, W = w.alloc (.cells #[.int .i64 s.gr.now, .slice h.gh.wp h.gh.wn h.gh.wc, .slice h.gh.kp h.gh.kn h.gh.kc, .slice h.gh.dp h.gh.dn h.gh.dc, .int .i64 s.ver, .int .i64 s.lock, .slice h.cp h.cn h.cc] 34) := ⟨_, rfl⟩
 have hb0 : Below w.heap.size w W := by rw [hW]; exact (Below.refl _ _).alloc (Nat.le_refl _) _
 have r0 : Row W w.heap.size 34 (stL s h) := by rw [hW]; exact heap_alloc_new w _
 have HW := Lib.hid hW
 have HIN := Lib.hid (StIn.later hin hb0)
 have HB := Lib.hid hb0
 have HR0 := Lib.hid r0
 have HE := Lib.hid (show stV s h = .agg #[.int .i64 s.gr.now, .slice h.gh.wp h.gh.wn h.gh.wc, .slice h.gh.kp h.gh.kn h.gh.kc, .slice h.gh.dp h.gh.dn h.gh.dc, .int .i64 s.ver, .int .i64 s.lock, .slice h.cp h.cn h.cc] from rfl)
 have HSR := Lib.hid (Src.later hsrc hb0)
 have HP := Lib.hid (store_imp s h W HIN.out hs hf hcap)
 clear hin hb0 r0 hW hsrc
 rw [HE.out]
 go_enter Tryz.func24, Tryz.ntmps24
 go_wp2_with fail
 rw [← HW.out, ← HE.out]
 refine HP.out.mono ?_
 rintro e W2 ⟨rfl, hb2⟩
 have HB2 := Lib.hid (HB.out.trans (hb2.mono HB.out.size))
 have HS2 := Lib.hid (HR0.out.below hb2 HR0.out.lt)
 have HIN2 := Lib.hid (StIn.later HIN.out hb2)
 have HSR2 := Lib.hid (Src.later HSR.out hb2)
 clear hb2
 cases hst : storeB s with
 | false =>
  have HH : Hid (honB s = false) := Lib.hid (by simp [honB, hst])
  clear hst
  go_wp2_with fail
  go_ret
  exact ⟨by rw [HH.out]; rfl, HB2.out⟩
 | true =>
  have HH : Hid (honB s = (Int.tmod s.ver 2 != 0 || honC s.gr s.ver s.cache)) := Lib.hid (by simp [honB, hst])
  have hgb : grantB s.gr = true ∧ cacheOk [] s.cache = true := by
   unfold storeB at hst
   simp only [Bool.and_eq_true] at hst
   exact ⟨hst.1.1.1.1, hst.2⟩
  have HGB := Lib.hid hgb
  have a0 : W2.cell? ⟨w.heap.size, 0, none⟩ = some (.int .i64 s.gr.now) := HS2.out.cell 0
  have a1 : W2.cell? ⟨w.heap.size, 1, none⟩ = some (.slice h.gh.wp h.gh.wn h.gh.wc) := HS2.out.cell 1
  have a2 : W2.cell? ⟨w.heap.size, 2, none⟩ = some (.slice h.gh.kp h.gh.kn h.gh.kc) := HS2.out.cell 2
  have a3 : W2.cell? ⟨w.heap.size, 3, none⟩ = some (.slice h.gh.dp h.gh.dn h.gh.dc) := HS2.out.cell 3
  have a4 : W2.cell? ⟨w.heap.size, 4, none⟩ = some (.int .i64 s.ver) := HS2.out.cell 4
  have a5 : W2.cell? ⟨w.heap.size, 5, none⟩ = some (.int .i64 s.lock) := HS2.out.cell 5
  have a6 : W2.cell? ⟨w.heap.size, 6, none⟩ = some (.slice h.cp h.cn h.cc) := HS2.out.cell 6
  clear hgb hst
  go_wp2_with fail
  rw [← HE.out]
  refine (sharedOf_any s h W2 HIN2.out HSR2.out HGB.out.1 hs.2).mono ?_
  rintro e W3 ⟨H, td, q, c', rfl, hsb, hrise, hrow, hmaps, htd, ho, hqb, hb3⟩
  have HB3 := Lib.hid (HB2.out.trans (hb3.mono HB2.out.size))
  have HHo := Lib.hid (honest_any (h := H) (M := 60) (td := td) (hold := s.lock) ⟨hrow, hrise, hmaps, htd, HGB.out.1⟩ ho (fun k hk => by have := hqb k hk; omega) hs.2 (cacheOk_entry HGB.out.2))
  clear hb3 hrise hrow hmaps htd ho hqb hsb a0 a1 a2 a3 a4 a5 a6
  go_wp2_with fail
  refine HHo.out.mono ?_
  rintro e W4 ⟨rfl, hb4⟩
  have HB4 := Lib.hid (HB3.out.trans (hb4.mono HB3.out.size))
  clear hb4
  go_wp2_with fail
  go_ret
  exact ⟨by rw [HH.out]; rfl, HB4.out⟩
end Go.Proofs.YtjccnjfdeedneaaGreat
