/- spec.FormRead: the walk. -/
import Derived.Test.YtjoobpieomhklaaDoorReadForm
namespace Go.Proofs.YtjoobpieomhklaaDoor
open Go Go.RowKit Go.Lib
set_option linter.unusedVariables false

theorem readL_get {s : ByteArray} {k : Nat} {p : List UInt8} (hp : (splitL s.data.toList)[k]? = some p) : (readL s)[k]? = some (partP p) := by
  rw [readL, List.getElem?_map, hp]; rfl
def SpRel (s : ByteArray) (W1 : World) (v i : Value) (wr : World) : Prop := ∃ k : Nat, k ≤ (readL s).length ∧ i = .int .i64 k ∧ Own 32 2 W1 wr v k (((readL s).take k).flatMap pairCf) ∧ v ≠ .slice none 0 0 ∧ Apart (readL s) k
theorem fr_spec_big (s : ByteArray) (w : World) (hs : s.size ≤ maxLen) (h : 8000 < s.size) : Calls Tryd.prog 4 #[.string s] w (FrOut s w) := by
  unfold maxLen at hs
  go_enter Tryd.func4, Tryd.ntmps4
  go_wp2_with fail
  refine bodyPost_ret (v := .agg #[.slice none 0 0, .int .i64 2]) (by simp [results, Tryd.results4, go_sem]) rfl ⟨2, [], _, .inl ⟨h, rfl, rfl⟩, rfl, .inl ⟨rfl, rfl⟩, ?_⟩
  exact (Below.refl _ _).alloc (Nat.le_refl _) _
theorem not_empty {s : ByteArray} (h : s ≠ ⟨#[]⟩) : s.toList.isEmpty = false := by
  rw [ByteArray.toList_eq]
  cases hs : s.data.toList with
  | nil => exact absurd (Go.WideShapes.bytes_inj (by rw [hs])) h
  | cons _ _ => rfl
theorem apart_not {l : List Pr} {k : Nat} {p q : Pr} {j : Nat} (hp : l[k]? = some p) (hj : j < k) (hq : l[j]? = some q) (he : q.1 = p.1) : ¬ Apart l l.length := fun h =>
  h k p (List.getElem?_eq_some_iff.1 hp).1 hp j q hj hq he
theorem apart_next {l : List Pr} {k : Nat} {p : Pr} (hp : l[k]? = some p) (h : Apart l k) (hn : ∀ (i : Nat) (q : Pr), (l.take k)[i]? = some q → q.1 ≠ p.1) : Apart l (k + 1) :=
  apart_step hp h fun ⟨i, q, hi, hq, he⟩ => hn i q (by rw [List.getElem?_take_of_lt hi]; exact hq) he

set_option maxRecDepth 100000 in
set_option maxHeartbeats 1000000 in
theorem fr_spec_small (s : ByteArray) (w : World) (hs : s.size ≤ 8000) : Calls Tryd.prog 4 #[.string s] w (FrOut s w) := by
  obtain ⟨i5, hi, hz0, hz1, hz2⟩ := info_parts pairInfo
  have hb0 := (Below.refl w.heap.size w).alloc (Nat.le_refl _) (.cells #[Value.slice none 0 0, Value.int .i64 0] 24)
  have hR0 : Row (w.alloc (.cells #[Value.slice none 0 0, Value.int .i64 0] 24)) w.heap.size 24 [Value.slice none 0 0, Value.int .i64 0] := heap_alloc_new w _
  have HR0 := Lib.hid hR0
  have HB0 := Lib.hid hb0
  have hz0' : w.heap.size < (w.alloc (.cells #[Value.slice none 0 0, Value.int .i64 0] 24)).heap.size := by simp
  clear hb0 hR0
  go_enter Tryd.func4, Tryd.ntmps4
  go_wp2_with fail
  refine (split_spec s _ hs).mono ?_
  rintro e w1 ⟨g0, cap0, n, rfl, hn, hg0, hg0', hparts, hb1⟩
  have HR1 := Lib.hid (HR0.out.below hb1 hz0')
  have HB1 := Lib.hid (HB0.out.trans (hb1.mono (Nat.le_of_lt hz0')))
  have hz1w := HB1.out.size
  have hw1 : w.heap.size < w1.heap.size := Nat.lt_of_lt_of_le hz0' hb1.size
  have HPt := Lib.hid hparts
  have HN := Lib.hid (show n = (readL s).length by rw [hn, readL, List.length_map])
  have HNs := Lib.hid hn
  have hn1 : n ≤ 8001 := by have := readL_len s; have := HN.out; omega
  clear hb1 hparts hn hg0
  go_wp2_with fail
  go_loopw [4, 5] (SpRel s w1) (fun _ i _ => n - (RowKit.intOf i).toNat)
  case atStart => exact ⟨0, by omega, rfl, by rw [List.take_zero]; exact Own.lit _ _ (Below.refl _ _), by simp, fun j p h => by omega⟩
  case round =>
    obtain ⟨k, hk, rfl, hown, hne, hap⟩ := hrel
    rw [← HN.out] at hk
    obtain ⟨g, cap, rfl, hgw, hgl, hkc, hcm, hrg, hfz⟩ : ∃ g cap, _ ∧ _ := by
      rcases hown.open with ⟨h, _⟩ | h
      · exact absurd h hne
      · exact h
    have HO := Lib.hid hown
    have HA := Lib.hid hap
    have HG := Lib.hid (show PairsAt wr g 0 ((readL s).take k) from hrg)
    have hzr := hown.2.size
    clear hown hap hrg hfz hne
    by_cases hlt : k < n
    · obtain ⟨p, hp⟩ : ∃ p, (splitL s.data.toList)[k]? = some p := ⟨_, List.getElem?_eq_getElem (by rw [← HNs.out]; exact hlt)⟩
      have c0 : wr.cell? ⟨g0, k, none⟩ = some (.string (bs p)) := by
        have h := rangeAt_below HPt.out HO.out.2 hg0' k (strV p) (by rw [List.getElem?_map, hp]; rfl)
        rwa [Nat.zero_add] at h
      have HP := Lib.hid (readL_get hp)
      have hps : (bs p).size ≤ 8000 := part_small hs p (List.mem_of_getElem? hp)
      have HD := Lib.hid (bs_data p)
      obtain ⟨q, hq⟩ : ∃ q, q = bs p := ⟨_, rfl⟩
      rw [← hq] at c0 hps HD
      clear hp hq
      go_wp2_with fail
      refine (part_spec q _ hps).mono ?_
      rw [HD.out]
      rintro e w2 ⟨rfl, hb2⟩
      obtain ⟨x, y, hxy⟩ : ∃ x y, partP p = (x, y) := ⟨_, _, rfl⟩
      rw [hxy] at HP ⊢
      have HO2 := Lib.hid (HO.out.later hb2)
      have HG2 := Lib.hid (HG.out.later hb2)
      have hzz2 := hb2.size
      clear hb2 hxy
      have hbp := (Below.refl w2.heap.size w2).alloc (Nat.le_refl _) (.cells #[Value.string x, Value.string y] 32)
      have HO3 := Lib.hid (HO2.out.alloc (.cells #[Value.string x, Value.string y] 32))
      have HG3 := Lib.hid (HG2.out.later hbp)
      have HR3 := Lib.hid (HR1.out.below HO3.out.2 hw1)
      have HB3 := Lib.hid (HB1.out.trans (HO3.out.2.mono hz1w))
      have HTl : Hid (k = ((readL s).take k).length) := Lib.hid (by rw [List.length_take, Nat.min_eq_left (by rw [← HN.out]; omega)])
      have hk1 : k ≤ 1048576 := by omega
      clear hbp
      go_wp2_with fail
      refine (at_spec g 0 k cap ((readL s).take k) x _ HTl.out HG3.out hk1).mono ?_
      rintro e w3 ⟨r, hr, rfl, rfl⟩
      rcases hr with ⟨rfl, hr⟩ | ⟨k', p', rfl, hp', he', _⟩
      · have HAp := Lib.hid (apart_next HP.out HA.out hr)
        have HST : Hid (((readL s).take (k + 1)).flatMap pairCf = ((readL s).take k).flatMap pairCf ++ [.string x, .string y]) := Lib.hid (by
          rw [List.take_add_one, HP.out, Option.toList_some, List.flatMap_append]
          simp [pairCf])
        clear hr
        go_wp2_with (at_builtin; refine wpList_app_at rfl (.tmp 31) (.tmp 33) 22 32 rfl i5 _ 2 32 Tryd.underlying22 hi hz0 hz1 hz2 rfl (by omega) (by omega) w1 _ k _ [.string x, .string y] rfl HO3.out _ rfl _ rfl (by simp) rfl two_one (by omega) ?_)
        intro v' w4 hown4 _ hne4
        rw [← HST.out] at hown4
        have HO4 := Lib.hid hown4
        have HNe4 := Lib.hid hne4
        clear hown4 hne4
        go_wp2_with fail
        go_roundw
        case rel => exact ⟨k + 1, by rw [← HN.out]; omega, by go_num, HO4.out, HNe4.out, HAp.out⟩
        case measure => simp [RowKit.intOf]; omega
      · have HNa : Hid (¬ Apart (readL s) (readL s).length) := Lib.hid (by
          have hk' : k' < k := by have := (List.getElem?_eq_some_iff.1 hp').1; have := HTl.out; omega
          rw [List.getElem?_take_of_lt hk'] at hp'
          exact apart_not HP.out hk' hp' he')
        have c0' : (w2.alloc (.cells #[Value.string x, Value.string y] 32)).cell? ⟨w.heap.size, 0, none⟩ = some (.slice none 0 0) := HR3.out.cell 0
        have c1' : (w2.alloc (.cells #[Value.string x, Value.string y] 32)).cell? ⟨w.heap.size, 1, none⟩ = some (.int .i64 0) := HR3.out.cell 1
        have f0' : (w2.alloc (.cells #[Value.string x, Value.string y] 32)).frozen? ⟨w.heap.size, 0, none⟩ = false := HR3.out.free 0
        have f1' : (w2.alloc (.cells #[Value.string x, Value.string y] 32)).frozen? ⟨w.heap.size, 1, none⟩ = false := HR3.out.free 1
        clear hp' he'
        generalize w2.alloc (.cells #[Value.string x, Value.string y] 32) = w5 at *
        go_wp2_with fail
        refine bodyPost_ret (v := .agg #[.slice none 0 0, .int .i64 7]) (by simp [results, Tryd.results4, go_sem, c0', c1']) rfl ⟨7, [], _, .inr (.inl ⟨hs, HNa.out, rfl, rfl⟩), rfl, .inl ⟨rfl, rfl⟩, ?_⟩
        exact (HB3.out.setCell (p := ⟨w.heap.size, 0, none⟩) (Nat.le_refl _) _).setCell (p := ⟨w.heap.size, 1, none⟩) (Nat.le_refl _) _
    · obtain rfl : k = n := by omega
      have hall : (readL s).take k = readL s := List.take_of_length_le (by rw [← HN.out]; exact Nat.le_refl _)
      rw [hall] at HG HO
      have HAp := Lib.hid (HN.out ▸ HA.out)
      have HSm := Lib.hid (readL_small hs)
      have hk1 : k ≤ 1048576 := by omega
      have HR3 := Lib.hid (HR1.out.below HO.out.2 hw1)
      have HB3 := Lib.hid (HB1.out.trans (HO.out.2.mono hz1w))
      have HTh := Lib.hid (show wr.there g 0 ((readL s).length * 2) from by
        obtain ⟨g', cap', sp, he, _, hrow⟩ := row_of_own HO.out (by simp)
        simp only [Value.slice.injEq, Option.some.injEq, Addr.mk.injEq] at he
        obtain ⟨⟨rfl, _, _⟩, _, _⟩ := he
        exact (pairsAt_of_row hrow).2)
      have hwr : w.heap.size < wr.heap.size := by omega
      have hgw' : w.heap.size < g := by omega
      clear hall
      go_wp2_with fail
      by_cases hf : FormP (readL s)
      · have HF := Lib.hid hf
        clear hf
        refine (text_spec g 0 k cap (readL s) _ HN.out HG.out HSm.out hk1 HF.out).mono ?_
        rintro e w2 ⟨rfl, hb2⟩
        have hr2 := HR3.out.below hb2 hwr
        have c0' : w2.cell? ⟨w.heap.size, 0, none⟩ = some (.slice none 0 0) := hr2.cell 0
        have c1' : w2.cell? ⟨w.heap.size, 1, none⟩ = some (.int .i64 0) := hr2.cell 1
        have f0' : w2.frozen? ⟨w.heap.size, 0, none⟩ = false := hr2.free 0
        have f1' : w2.frozen? ⟨w.heap.size, 1, none⟩ = false := hr2.free 1
        have HB4 := Lib.hid (HB3.out.trans (hb2.mono (Nat.le_of_lt hwr)))
        have HPV := Lib.hid (show PairsV w1 w2 (readL s) (.slice (some ⟨g, 0, none⟩) k cap) from .inr ⟨g, cap, by rw [HN.out], hgw, Nat.lt_of_lt_of_le hgl hb2.size, HG.out.later hb2, there_below HTh.out hb2 hgl⟩)
        have HPV2 := Lib.hid ((HPV.out.set2 hw1 (.slice (some ⟨g, 0, none⟩) k cap) (.int .i64 0)).weaken hz1w)
        clear hb2 hr2
        by_cases ht : formT (readL s) = s
        · have e1 := list_eq ht
          have e2 : s.toList.isEmpty = false := not_empty (by rw [← ht]; exact formT_ne HF.out)
          have HT := Lib.hid ht
          clear ht
          go_wp2_with fail
          refine bodyPost_ret (v := .agg #[.slice (some ⟨g, 0, none⟩) k cap, .int .i64 0]) (by simp [results, Tryd.results4, go_sem, c0', c1']) rfl ⟨0, readL s, _, .inr (.inr (.inr ⟨hs, HAp.out, ⟨HF.out, HT.out⟩, rfl, rfl⟩)), rfl, HPV2.out, ?_⟩
          exact (HB4.out.setCell (p := ⟨w.heap.size, 0, none⟩) (Nat.le_refl _) _).setCell (p := ⟨w.heap.size, 1, none⟩) (Nat.le_refl _) _
        · have e1 := list_ne ht
          have HT := Lib.hid ht
          clear ht
          go_wp2_with fail
          refine bodyPost_ret (v := .agg #[.slice none 0 0, .int .i64 3]) (by simp [results, Tryd.results4, go_sem, c0', c1']) rfl ⟨3, [], _, .inr (.inr (.inl ⟨hs, HAp.out, fun h => HT.out h.2, rfl, rfl⟩)), rfl, .inl ⟨rfl, rfl⟩, ?_⟩
          exact (HB4.out.setCell (p := ⟨w.heap.size, 0, none⟩) (Nat.le_refl _) _).setCell (p := ⟨w.heap.size, 1, none⟩) (Nat.le_refl _) _
      · have HF := Lib.hid hf
        clear hf
        refine (text_spec_no g 0 k cap (readL s) _ HN.out HG.out HSm.out hk1 HF.out).mono ?_
        rintro e w2 ⟨rfl, hb2⟩
        have hr2 := HR3.out.below hb2 hwr
        have c0' : w2.cell? ⟨w.heap.size, 0, none⟩ = some (.slice none 0 0) := hr2.cell 0
        have c1' : w2.cell? ⟨w.heap.size, 1, none⟩ = some (.int .i64 0) := hr2.cell 1
        have f0' : w2.frozen? ⟨w.heap.size, 0, none⟩ = false := hr2.free 0
        have f1' : w2.frozen? ⟨w.heap.size, 1, none⟩ = false := hr2.free 1
        have HB4 := Lib.hid (HB3.out.trans (hb2.mono (Nat.le_of_lt hwr)))
        have HPV := Lib.hid (show PairsV w1 w2 (readL s) (.slice (some ⟨g, 0, none⟩) k cap) from .inr ⟨g, cap, by rw [HN.out], hgw, Nat.lt_of_lt_of_le hgl hb2.size, HG.out.later hb2, there_below HTh.out hb2 hgl⟩)
        have HPV2 := Lib.hid ((HPV.out.set2 hw1 (.slice (some ⟨g, 0, none⟩) k cap) (.int .i64 0)).weaken hz1w)
        clear hb2 hr2
        by_cases ht : (⟨#[]⟩ : ByteArray) = s
        · subst ht
          go_wp2_with fail
          refine bodyPost_ret (v := .agg #[.slice none 0 0, .int .i64 3]) (by simp [results, Tryd.results4, go_sem, c0', c1']) rfl ⟨3, [], _, .inr (.inr (.inl ⟨hs, HAp.out, fun h => HF.out h.1, rfl, rfl⟩)), rfl, .inl ⟨rfl, rfl⟩, ?_⟩
          exact (HB4.out.setCell (p := ⟨w.heap.size, 0, none⟩) (Nat.le_refl _) _).setCell (p := ⟨w.heap.size, 1, none⟩) (Nat.le_refl _) _
        · have e1 : s.toList.isEmpty = false := not_empty (fun h => ht h.symm)
          clear ht
          go_wp2_with fail
          refine bodyPost_ret (v := .agg #[.slice none 0 0, .int .i64 3]) (by simp [results, Tryd.results4, go_sem, c0', c1']) rfl ⟨3, [], _, .inr (.inr (.inl ⟨hs, HAp.out, fun h => HF.out h.1, rfl, rfl⟩)), rfl, .inl ⟨rfl, rfl⟩, ?_⟩
          exact (HB4.out.setCell (p := ⟨w.heap.size, 0, none⟩) (Nat.le_refl _) _).setCell (p := ⟨w.heap.size, 1, none⟩) (Nat.le_refl _) _
theorem fr_spec (s : ByteArray) (w : World) (hs : s.size ≤ maxLen) : Calls Tryd.prog 4 #[.string s] w (FrOut s w) := by
  by_cases h : s.size ≤ 8000
  · exact fr_spec_small s w h
  · exact fr_spec_big s w hs (by omega)
end Go.Proofs.YtjoobpieomhklaaDoor
