/- FormText: the program's side. -/
import Derived.Test.YtjoobpieomhklaaDoorText2
namespace Go.Proofs.YtjoobpieomhklaaDoor
open Go Go.RowKit Go.Lib
set_option linter.unusedVariables false

theorem text_spec_no (b o n cap : Nat) (l : List Pr) (w : World) (hn : n = l.length) (hl : PairsAt w b o l) (hs : ∀ p ∈ l, SmallPr p) (hc : n ≤ 1048576) (hf : ¬ FormP l) :
    Calls Tryd.prog 12 #[.slice (some ⟨b, o, none⟩) n cap] w fun e w' => e = .returned (.string ⟨#[]⟩) ∧ Below w.heap.size w w' := by
  have HL := Lib.hid hl
  have HN := Lib.hid hn
  have HS := Lib.hid hs
  have HF := Lib.hid hf
  clear hl hn hs hf
  go_enter Tryd.func12, Tryd.ntmps12
  go_wp2_with (go_at_call 19; refine (form_spec b o n cap l _ HN.out HL.out HS.out hc).mono ?_; rintro e w1 ⟨c, hcc, rfl, rfl⟩; obtain rfl : c = false := bool_no hcc HF.out; clear hcc)
  go_ret
  exact ⟨rfl, Below.refl _ _⟩
theorem text_impl_no (b o n cap : Nat) (l : List Pr) (w : World) (hn : n = l.length) (hl : PairsAt w b o l) (hs : ∀ p ∈ l, SmallPr p) (hc : n ≤ 1048576) (hf : ¬ FormP l) :
    Calls Tryd.prog 26 #[.slice (some ⟨b, o, none⟩) n cap] w fun e w' => e = .returned (.string ⟨#[]⟩) ∧ Below w.heap.size w w' := by
  have HL := Lib.hid hl
  have HN := Lib.hid hn
  have HS := Lib.hid hs
  have HF := Lib.hid hf
  clear hl hn hs hf
  go_enter Tryd.func26, Tryd.ntmps26
  go_wp2_with (go_at_call 25; refine (form_impl b o n cap l _ HN.out HL.out HS.out hc).mono ?_; rintro e w1 ⟨c, hcc, rfl, hb1⟩; obtain rfl : c = false := bool_no hcc HF.out; clear hcc; have HB1 := Lib.hid hb1; clear hb1)
  go_ret
  exact ⟨rfl, HB1.out⟩

theorem cell_of_block {w : World} {q : Nat} {x y : Value} {T : TypeId} (h : w.heap[q]? = some (.cells #[x, y] T (0, 0))) (j : Nat) : w.cell? ⟨q, j, none⟩ = #[x, y][j]? := by
  simp [World.cell?, h]
theorem heap_old {w : World} {q : Nat} {ob : Obj} (h : w.heap[q]? = some ob) (o : Obj) : (w.alloc o).heap[q]? = some ob := by
  rw [Below.heap_alloc w o q (Array.getElem?_eq_some_iff.1 h).1]
  exact h
set_option maxRecDepth 100000 in
theorem text_impl (b o n cap : Nat) (l : List Pr) (w : World) (hn : n = l.length) (hl : PairsAt w b o l) (hs : ∀ p ∈ l, SmallPr p) (hc : n ≤ 1048576) (hf : FormP l) :
    Calls Tryd.prog 26 #[.slice (some ⟨b, o, none⟩) n cap] w fun e w' => e = .returned (.string (formT l)) ∧ Below w.heap.size w w' := by
  obtain ⟨i5, hi, hz0, hz1, hz2⟩ := info_parts info5
  have HL := Lib.hid hl
  have HN := Lib.hid hn
  have HS := Lib.hid hs
  have HF := Lib.hid hf
  have h8 : n ≤ 8 := by have := hf.2.1; omega
  clear hl hn hs hf
  go_enter Tryd.func26, Tryd.ntmps26
  go_wp2_with (go_at_call 25; refine (form_impl b o n cap l _ HN.out HL.out HS.out hc).mono ?_; rintro e w1 ⟨c, hcc, rfl, hb1⟩; obtain rfl : c = true := hcc.2 HF.out; clear hcc; have HB1 := Lib.hid hb1; clear hb1)
  go_loopw [3, 11] (TextRel l n w) (fun _ i _ => n - (RowKit.intOf i).toNat)
  case atStart => exact ⟨0, by omega, rfl, Buf.nil _ HB1.out⟩
  case round =>
    obtain ⟨k, hk, rfl, hbf⟩ := hrel
    by_cases hlt : k < n
    · obtain ⟨p, hp⟩ : ∃ p, l[k]? = some p := ⟨_, List.getElem?_eq_getElem (by rw [← HN.out]; exact hlt)⟩
      obtain ⟨a0, a1⟩ := HL.out.cells hp
      have s40 := (HF.out.2.2 k p hp).2.1
      have n12 := (HF.out.2.2 k p hp).1.2.1
      have hbl : b < w.heap.size := World.block_lt_of_cell? w _ a0
      have ht := textTo_len HF.out k
      have HT := Lib.hid (show textTo l (k + 1) = (textTo l k ++ sepL k) ++ pairL p by rw [textTo, pairAtL_some hp])
      have hsl : (textTo l k ++ sepL k).length ≤ 134 * k + 1 := by have := sepL_len k; rw [List.length_append]; omega
      have c0 := (hbf.below.cell (p := ⟨b, o + k * 2, none⟩) hbl).trans a0
      have c1 := (hbf.below.cell (p := ⟨b, o + k * 2 + 1, none⟩) hbl).trans a1
      have hz := hbf.below.size
      have HXp : Hid ((p.1.data.toList ++ [61]) ++ codeL p.2.data.toList = pairL p) := Lib.hid rfl
      have HB0 := Lib.hid hbf
      have s1 : p.1.size ≤ 1048576 := by omega
      clear a0 a1 hp hbf
      by_cases hk0 : k = 0
      · subst hk0
        have HX0 : Hid (textTo l 0 ++ sepL 0 = []) := Lib.hid rfl
        have c0' : wr.cell? ⟨b, o, none⟩ = some (.string p.1) := c0
        have c1' : wr.cell? ⟨b, o + 1, none⟩ = some (.string p.2) := c1
        rw [HX0.out] at HT
        obtain ⟨X, hX⟩ : ∃ X : List UInt8, X = [] := ⟨_, rfl⟩
        rw [← hX] at HT
        have HBp : Hid (Buf 5 w (wr.alloc (.cells #[Value.string p.1, Value.string p.2] 32)) u3 X) := Lib.hid (hX ▸ HB0.out.alloc _)
        have HQ := Lib.hid (heap_alloc_new wr (.cells #[Value.string p.1, Value.string p.2] 32 (0, 0)))
        have hl1 : X.length + p.1.size ≤ 140737488355328 := by rw [hX]; simp; omega
        have hl2 : (X ++ p.1.data.toList).length + 1 ≤ 140737488355328 := by rw [hX, List.length_append, ← size_eq]; simp; omega
        have hl3 : (X ++ (p.1.data.toList ++ [61])).length ≤ 1048576 := by rw [hX, List.length_append, List.length_append, ← size_eq, List.length_singleton]; simp; omega
        clear c0 c1 hX
        go_wp2_with (at_builtin; refine wpList_text_g rfl (.tmp 21) (.tmp 23) 45 9 5 rfl i5 Tryd.underlying45 Tryd.underlying9 hi hz0 hz1 hz2 w _ _ _ rfl HBp.out rfl hl1 ?_)
        intro v1 w1 hb1 hg1
        have hq1 := HBp.out.keeps HQ.out (by decide) hg1
        have HB1a := Lib.hid hb1
        have HQ1 := Lib.hid hq1
        have q1 := cell_of_block hq1 1
        have z1 := (Array.getElem?_eq_some_iff.1 hq1).1
        clear hb1 hg1 hq1
        go_wp2_with (at_builtin; refine wpList_push_const_g rfl (.tmp 25) (.tmp 26) 45 5 rfl i5 Tryd.underlying45 hi hz0 hz1 hz2 w _ _ _ 61 61 rfl rfl HB1a.out _ rfl (by simp) hl2 ?_)
        intro v2 w2 hb2 hg2
        have hq2 := (HB1a.out.alloc (.cells #[.int .u8 61] 5)).keeps (heap_old HQ1.out _) (by decide) hg2
        have HB2a := Lib.hid hb2
        have q2 := cell_of_block hq2 1
        clear hb2 hg2 hq2
        go_wp2_with fail
        refine (esc_impl p.2 _ _ w _ (by omega) hl3 HB2a.out).mono ?_
        rintro e w3 ⟨v3, rfl, hb3⟩
        rw [List.append_assoc X, HXp.out, ← HT.out] at hb3
        have HB3 := Lib.hid hb3
        clear hb3
        go_wp2_with fail
        go_roundw
        case rel => exact ⟨1, by omega, rfl, HB3.out⟩
        case measure => simp [RowKit.intOf]; omega
      · have H0 := Lib.hid (show textTo l k ++ sepL k = textTo l k ++ [38] by unfold sepL; rw [if_neg hk0])
        have hkp : 0 < k := by omega
        have HBo := Lib.hid (HB0.out.alloc (.cells #[Value.string p.1, Value.string p.2] 32))
        have HQo := Lib.hid (heap_alloc_new wr (.cells #[Value.string p.1, Value.string p.2] 32 (0, 0)))
        have ht1 : (textTo l k).length + 1 ≤ 140737488355328 := by omega
        go_wp2_with (at_builtin; refine wpList_push_const_g rfl (.tmp 18) (.tmp 19) 45 5 rfl i5 Tryd.underlying45 hi hz0 hz1 hz2 w _ _ _ 38 38 rfl rfl HBo.out _ rfl (by simp) ht1 ?_)
        intro v0 w0 hb0 hg0
        have hq0 := (HBo.out.alloc (.cells #[.int .u8 38] 5)).keeps (heap_old HQo.out _) (by decide) hg0
        rw [← H0.out] at hb0
        obtain ⟨X, hX⟩ : ∃ X : List UInt8, X = textTo l k ++ sepL k := ⟨_, rfl⟩
        rw [← hX] at HT hb0
        have HBp := Lib.hid hb0
        have HQ := Lib.hid hq0
        have q0 := cell_of_block hq0 0
        have z0 := (Array.getElem?_eq_some_iff.1 hq0).1
        have hl1 : X.length + p.1.size ≤ 140737488355328 := by rw [hX]; omega
        have hl2 : (X ++ p.1.data.toList).length + 1 ≤ 140737488355328 := by rw [hX, List.length_append, ← size_eq]; omega
        have hl3 : (X ++ (p.1.data.toList ++ [61])).length ≤ 1048576 := by have hXl : X.length ≤ 134 * k + 1 := by { rw [hX]; exact hsl }; rw [List.length_append, List.length_append, ← size_eq, List.length_singleton]; omega
        clear hb0 hg0 hq0 hX
        go_wp2_with (at_builtin; refine wpList_text_g rfl (.tmp 21) (.tmp 23) 45 9 5 rfl i5 Tryd.underlying45 Tryd.underlying9 hi hz0 hz1 hz2 w _ _ _ rfl HBp.out rfl hl1 ?_)
        intro v1 w1 hb1 hg1
        have hq1 := HBp.out.keeps HQ.out (by decide) hg1
        have HB1a := Lib.hid hb1
        have HQ1 := Lib.hid hq1
        have q1 := cell_of_block hq1 1
        have z1 := (Array.getElem?_eq_some_iff.1 hq1).1
        clear hb1 hg1 hq1
        go_wp2_with (at_builtin; refine wpList_push_const_g rfl (.tmp 25) (.tmp 26) 45 5 rfl i5 Tryd.underlying45 hi hz0 hz1 hz2 w _ _ _ 61 61 rfl rfl HB1a.out _ rfl (by simp) hl2 ?_)
        intro v2 w2 hb2 hg2
        have hq2 := (HB1a.out.alloc (.cells #[.int .u8 61] 5)).keeps (heap_old HQ1.out _) (by decide) hg2
        have HB2a := Lib.hid hb2
        have q2 := cell_of_block hq2 1
        clear hb2 hg2 hq2
        go_wp2_with fail
        refine (esc_impl p.2 _ _ w _ (by omega) hl3 HB2a.out).mono ?_
        rintro e w3 ⟨v3, rfl, hb3⟩
        rw [List.append_assoc X, HXp.out, ← HT.out] at hb3
        have HB3 := Lib.hid hb3
        clear hb3
        go_wp2_with fail
        go_roundw
        case rel => exact ⟨k + 1, by omega, by go_num, HB3.out⟩
        case measure => simp [RowKit.intOf]; omega
    · obtain rfl : k = n := by omega
      have HB := Lib.hid hbf
      have HE : Hid ((⟨(textTo l k).toArray⟩ : ByteArray) = formT l) := Lib.hid (by unfold formT; rw [HN.out])
      clear hbf
      go_wp2_with (refine wpList_buf_str rfl (.tmp 33) 45 9 5 rfl Tryd.underlying45 Tryd.underlying5 Tryd.underlying9 w _ _ rfl HB.out ?_)
      go_wp2_with fail
      go_ret
      exact ⟨ret_str HE.out, HB.out.below⟩
end Go.Proofs.YtjoobpieomhklaaDoor
