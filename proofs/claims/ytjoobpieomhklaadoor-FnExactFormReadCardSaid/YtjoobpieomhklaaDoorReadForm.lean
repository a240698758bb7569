/- impl.readForm and impl.FormRead: the walks. -/
import Derived.Test.YtjoobpieomhklaaDoorReadMath
import Derived.Test.YtjoobpieomhklaaDoorCodeOf
import Derived.Test.YtjoobpieomhklaaDoorJoin
namespace Go.Proofs.YtjoobpieomhklaaDoor
open Go Go.RowKit Go.Lib
set_option linter.unusedVariables false

theorem join_empty (s : ByteArray) : s ++ (⟨#[]⟩ : ByteArray) = s := by
  apply Go.WideShapes.bytes_inj
  simp
/-- What readForm hands back: the pairs, and nil or a fault. -/
def ErrV (code : Int) (v : Value) : Prop := (code = 0 ∧ v = .nilIface) ∨ (code ≠ 0 ∧ v = .iface 47 (.agg #[.int .i64 code]))
def PairsV (w0 w : World) (l : List Pr) (v : Value) : Prop := (l = [] ∧ v = .slice none 0 0) ∨ ∃ g cap, v = .slice (some ⟨g, 0, none⟩) l.length cap ∧ w0.heap.size ≤ g ∧ g < w.heap.size ∧ PairsAt w g 0 l ∧ w.there g 0 (l.length * 2)
def RdOut (s : ByteArray) (w : World) (e : Ending) (w' : World) : Prop := ∃ code l va vb, ReadR s code l ∧ e = .returned (.tuple #[va, vb]) ∧ PairsV w w' l va ∧ ErrV code vb ∧ Below w.heap.size w w'

theorem row_of_own {E : TypeId} {K : Nat} {W0 w : World} {v : Value} {n : Nat} {xs : List Value} (h : Own E K W0 w v n xs) (hv : v ≠ .slice none 0 0) : ∃ g cap sp, v = .slice (some ⟨g, 0, none⟩) n cap ∧ W0.heap.size ≤ g ∧ Row w g E (xs ++ sp) := by
  obtain ⟨h1, h2 | ⟨g, cap, cur, hv', hg, hc, hn, hm, hs, ht⟩⟩ := h.1
  · exact absurd h2.1 hv
  · refine ⟨g, cap, cur.toList.drop (n * K), hv', hg, ?_⟩
    unfold Row
    rw [hc, ← ht, List.take_append_drop]
theorem pairsAt_of_row {w : World} {g : Nat} {E : TypeId} {l : List Pr} {sp : List Value} (h : Row w g E (l.flatMap pairCf ++ sp)) : PairsAt w g 0 l ∧ w.there g 0 (l.length * 2) := by
  refine ⟨fun j v hv => h.range j v (by rw [List.getElem?_append_left (List.getElem?_eq_some_iff.1 hv).1]; exact hv), h.there _ _ (by rw [List.length_append, flat_len pairCf_len]; omega)⟩
theorem there_below {w w' : World} {B b o n : Nat} (h : w.there b o n) (hb : Below B w w') (hB : b < B) : w'.there b o n := fun j hj => by
  obtain ⟨h1, h2⟩ := h j hj
  exact ⟨by rw [hb.cell (p := ⟨b, o + j, none⟩) hB]; exact h1, by rw [hb.frozen (p := ⟨b, o + j, none⟩) hB]; exact h2⟩
def UnRelR (a b : List Pr) (g : Nat) (sp : List Value) (w : World) (i : Value) (wr : World) : Prop := ∃ k : Nat, k ≤ a.length ∧ i = .int .i64 k ∧ Row wr g 32 ((mixL a b k).flatMap pairCf ++ sp) ∧ Below w.heap.size w wr

theorem un_step {s : ByteArray} {g k : Nat} {sp : List Value} {w wr wl : World} {p1 p2 : ByteArray} (hp : (rawL s)[k]? = some (p1, p2)) (hrow : Row wr g 32 ((mixL (readL s) (rawL s) k).flatMap pairCf ++ sp)) (hb : Below w.heap.size w wr) (hz : w.heap.size ≤ wr.heap.size) (hg : w.heap.size ≤ g) (hx : Below wr.heap.size wr wl) :
    UnRelR (readL s) (rawL s) g sp w (.int .i64 (k + 1 : Nat)) ((wl.setCell ⟨g, k * 2, none⟩ (.string (p1 ++ { data := #[] }))).setCell ⟨g, k * 2 + 1, none⟩ (.string { data := (decL p2.data.toList).toArray })) := by
  have hl : (readL s).length = (rawL s).length := by simp [readL, rawL]
  have hk : k < (rawL s).length := (List.getElem?_eq_some_iff.1 hp).1
  have h := (hrow.below hx hrow.lt).setCells (pairCf (p1, ⟨(decL p2.data.toList).toArray⟩)) (k * 2)
  rw [(mix_cells hl hp (rawL_get hp) sp).1] at h
  rw [show p1 ++ ({ data := #[] } : ByteArray) = p1 from join_empty p1]
  exact ⟨k + 1, by omega, rfl, h, ((hb.trans (hx.mono hz)).setCell (p := ⟨g, k * 2, none⟩) hg _).setCell (p := ⟨g, k * 2 + 1, none⟩) hg _⟩
theorem rd_big (s : ByteArray) (w : World) (hs : s.size ≤ maxLen) (h : 8000 < s.size) : Calls Tryd.prog 13 #[.string s] w (RdOut s w) := by
  unfold maxLen at hs
  go_enter Tryd.func13, Tryd.ntmps13
  go_wp2_with fail
  go_ret2
  exact ⟨2, [], _, _, .inl ⟨h, rfl, rfl⟩, rfl, .inl ⟨rfl, rfl⟩, .inr ⟨by omega, rfl⟩, Below.refl _ _⟩

set_option maxRecDepth 100000 in
set_option maxHeartbeats 1000000 in
theorem rd_small (s : ByteArray) (w : World) (hs : s.size ≤ 8000) (hg : MaxG w) : Calls Tryd.prog 13 #[.string s] w (RdOut s w) := by
  have HG := Lib.hid hg
  clear hg
  go_enter Tryd.func13, Tryd.ntmps13
  go_wp2_with fail
  refine (parts_impl s _ hs HG.out).mono ?_
  rintro e w1 ⟨v, rfl, hown, hne⟩
  have hlen : (rawL s).length = (splitL s.data.toList).length := by simp [rawL]
  have hcells : (splitL s.data.toList).flatMap rawCf = (rawL s).flatMap pairCf := by
    unfold rawL rawCf
    rw [List.flatMap_map]
  rw [hcells, ← hlen] at hown
  obtain ⟨g, cap, sp, rfl, hgw, hrow⟩ := row_of_own hown hne
  have HB1 := Lib.hid hown.2
  have hz1 := hown.2.size
  have HR := Lib.hid hrow
  have hgl := hrow.lt
  have HLr := Lib.hid (show (readL s).length = (rawL s).length by simp [rawL, readL])
  have HLn := Lib.hid (readL_len s)
  obtain ⟨n, hn⟩ : ∃ n, n = (rawL s).length := ⟨_, rfl⟩
  have hn1 : n ≤ 1048576 := by have := HLn.out; have := HLr.out; omega
  rw [← hn]
  have HN := Lib.hid hn
  have HSr := Lib.hid (rawL_small hs)
  have HS0 := Lib.hid (show ∀ p ∈ rawL s, SmallPr p from fun p hp => by have := rawL_small hs p hp; unfold SmallPr maxLen; omega)
  clear hown hne hcells hlen hrow hn
  go_wp2_with fail
  refine (twice_any g 0 n cap (rawL s) _ HN.out (pairsAt_of_row HR.out).1 HS0.out hn1).mono ?_
  rintro e w2 ⟨c, hcc, rfl, hb2⟩
  have HB2 := Lib.hid (HB1.out.trans (hb2.mono hz1))
  have HR2 := Lib.hid (HR.out.below hb2 hgl)
  have hz2 := HB2.out.size
  have hgl2 := HR2.out.lt
  have HC := Lib.hid (show c = true ↔ ¬ Apart (readL s) (readL s).length by rw [hcc, HN.out, apart_raw])
  clear hcc hb2
  by_cases hap : Apart (readL s) (readL s).length
  · obtain rfl : c = false := bool_no HC.out (fun h => h hap)
    have HAp := Lib.hid hap
    clear hap
    go_wp2_with fail
    go_loopw [20] (UnRelR (readL s) (rawL s) g sp w) (fun i _ => n - (RowKit.intOf i).toNat)
    case atStart => exact ⟨0, by omega, rfl, by simpa [mixL] using HR2.out, HB2.out⟩
    case round =>
      obtain ⟨k, hk, rfl, hrow, hbel⟩ := hrel
      have HRk := Lib.hid hrow
      have HBk := Lib.hid hbel
      have hgk := hrow.lt
      have hzk := hbel.size
      rw [HLr.out, ← HN.out] at hk
      clear hrow hbel
      by_cases hlt : k < n
      · obtain ⟨p, hp⟩ : ∃ p, (rawL s)[k]? = some p := ⟨_, List.getElem?_eq_getElem (by rw [← HN.out]; exact hlt)⟩
        obtain ⟨p1, p2⟩ := p
        have hmx := (mix_cells (a := readL s) (b := rawL s) HLr.out hp (rawL_get hp) sp).2
        have hla : (((readL s).take k).flatMap pairCf).length = k * 2 := by rw [flat_len pairCf_len, List.length_take, Nat.min_eq_left (by rw [HLr.out, ← HN.out]; omega)]
        have c0 : wr.cell? ⟨g, k * 2, none⟩ = some (.string p1) := by
          rw [HRk.out.cell, hmx, List.getElem?_append_right (by omega), hla, Nat.sub_self]; rfl
        have c1 : wr.cell? ⟨g, k * 2 + 1, none⟩ = some (.string p2) := by
          rw [HRk.out.cell, hmx, List.getElem?_append_right (by omega), hla, Nat.add_sub_cancel_left]; rfl
        have f0 : wr.frozen? ⟨g, k * 2, none⟩ = false := HRk.out.free _
        have f1 : wr.frozen? ⟨g, k * 2 + 1, none⟩ = false := HRk.out.free _
        have HP := Lib.hid hp
        obtain ⟨t1, t2⟩ := HSr.out _ (List.mem_of_getElem? hp)
        have t1' : p1.size ≤ 8000 := t1
        have t2' : p2.size ≤ 1048576 := by have : p2.size ≤ 8000 := t2; omega
        clear hp hmx hla t1 t2
        go_wp2_with fail
        have hgk' : g < (wr.alloc (.cells #[Value.string p1, Value.string p2] 32)).heap.size := by simp; omega
        have hqk : wr.heap.size < (wr.alloc (.cells #[Value.string p1, Value.string p2] 32)).heap.size := by simp
        have hbw := (Below.refl wr.heap.size wr).alloc (Nat.le_refl _) (.cells #[Value.string p1, Value.string p2] 32)
        have hRn : Row (wr.alloc (.cells #[Value.string p1, Value.string p2] 32)) wr.heap.size 32 [.string p1, .string p2] := heap_alloc_new wr _
        have q0 := hRn.cell 0
        have q1 := hRn.cell 1
        have d0 := (hbw.cell (p := ⟨g, k * 2, none⟩) hgk).trans c0
        have d1 := (hbw.cell (p := ⟨g, k * 2 + 1, none⟩) hgk).trans c1
        have e0 := (hbw.frozen (p := ⟨g, k * 2, none⟩) hgk).trans f0
        have e1 := (hbw.frozen (p := ⟨g, k * 2 + 1, none⟩) hgk).trans f1
        have HBw := Lib.hid hbw
        have hkn : (k : Int) < (n : Int) := by omega
        have hk0 : (0 : Int) ≤ (k : Int) := by omega
        clear hbw hRn c0 c1 f0 f1
        obtain ⟨wx, hwx⟩ : ∃ wx, wx = wr.alloc (.cells #[Value.string p1, Value.string p2] 32) := ⟨_, rfl⟩
        rw [← hwx] at hgk' hqk q0 q1 d0 d1 e0 e1 HBw ⊢
        clear hwx
        go_region_with (first
            | (go_at_call 23; refine (join_any p1 ⟨#[]⟩ _ (by show p1.size + 0 ≤ _; omega)).mono ?_; rintro e wj ⟨rfl, hbj⟩; have zj := hbj.size; try rw [heap_drew] at zj
               have j0 := (hbj.cell (p := ⟨wr.heap.size, 0, none⟩) (by first | (simp; omega) | omega)).trans (show _ = some (.string p1) by assumption); have j1 := (hbj.cell (p := ⟨wr.heap.size, 1, none⟩) (by first | (simp; omega) | omega)).trans (show _ = some (.string p2) by assumption); have j2 := (hbj.cell (p := ⟨g, k * 2, none⟩) (by first | (simp; omega) | omega)).trans (show _ = some (.string p1) by assumption); have j3 := (hbj.cell (p := ⟨g, k * 2 + 1, none⟩) (by first | (simp; omega) | omega)).trans (show _ = some (.string p2) by assumption); have j4 := (hbj.frozen (p := ⟨g, k * 2, none⟩) (by first | (simp; omega) | omega)).trans (show _ = false by assumption); have j5 := (hbj.frozen (p := ⟨g, k * 2 + 1, none⟩) (by first | (simp; omega) | omega)).trans (show _ = false by assumption))
            | (go_at_call 24; refine (unescape_any p2 _ t2').mono ?_; rintro e wu ⟨rfl, hbu⟩; have zu := hbu.size; try rw [heap_drew] at zu
               have u0 := (hbu.cell (p := ⟨wr.heap.size, 0, none⟩) (by first | (simp; omega) | omega)).trans (show _ = some (.string p1) by assumption); have u1 := (hbu.cell (p := ⟨wr.heap.size, 1, none⟩) (by first | (simp; omega) | omega)).trans (show _ = some (.string p2) by assumption); have u2 := (hbu.cell (p := ⟨g, k * 2, none⟩) (by first | (simp; omega) | omega)).trans (show _ = some (.string p1) by assumption); have u3 := (hbu.cell (p := ⟨g, k * 2 + 1, none⟩) (by first | (simp; omega) | omega)).trans (show _ = some (.string p2) by assumption); have u4 := (hbu.frozen (p := ⟨g, k * 2, none⟩) (by first | (simp; omega) | omega)).trans (show _ = false by assumption); have u5 := (hbu.frozen (p := ⟨g, k * 2 + 1, none⟩) (by first | (simp; omega) | omega)).trans (show _ = false by assumption)))
        all_goals
          first
            | (have HX := Lib.hid ((HBw.out.drew.trans (hbj.mono (Nat.le_of_lt hqk))).trans (hbu.mono (show wr.heap.size ≤ wj.heap.size by omega)))
               clear hbj hbu j0 j1 j2 j3 j4 j5 u0 u1 u2 u3 u4 u5 q0 q1 d0 d1 e0 e1)
            | (have HX := Lib.hid ((HBw.out.drew.trans (hbu.mono (Nat.le_of_lt hqk))).trans (hbj.mono (show wr.heap.size ≤ wu.heap.size by omega)))
               clear hbj hbu j0 j1 j2 j3 j4 j5 u0 u1 u2 u3 u4 u5 q0 q1 d0 d1 e0 e1)
          go_wp2_with fail
          go_roundw
          case rel => exact un_step HP.out HRk.out HBk.out hzk hgw HX.out
          case measure => simp [RowKit.intOf]; omega
      · obtain rfl : k = n := by omega
        have HPA := Lib.hid (show PairsAt wr g 0 (readL s) ∧ wr.there g 0 ((readL s).length * 2) by
          have h := HRk.out
          unfold mixL at h
          rw [List.take_of_length_le (by rw [HLr.out, ← HN.out]; exact Nat.le_refl _), List.drop_eq_nil_of_le (by rw [← HN.out]; exact Nat.le_refl _), List.append_nil] at h
          exact pairsAt_of_row h)
        have HNl : Hid (k = (readL s).length) := Lib.hid (by rw [HLr.out, ← HN.out])
        have HSm := Lib.hid (readL_small hs)
        by_cases hf : FormP (readL s)
        · have HF := Lib.hid hf
          clear hf
          go_wp2_with (first | (go_at_call 25; refine (form_impl g 0 k cap (readL s) _ HNl.out HPA.out.1 HSm.out hn1).mono ?_; rintro e w3 ⟨c, hcc, rfl, hb3⟩; obtain rfl : c = true := hcc.2 HF.out; clear hcc) | fail)
          have hz3 := hb3.size
          have HB3 := Lib.hid (HBk.out.trans (hb3.mono hzk))
          have HPA3 := Lib.hid (show PairsAt w3 g 0 (readL s) ∧ w3.there g 0 ((readL s).length * 2) from ⟨HPA.out.1.later hb3, there_below HPA.out.2 hb3 HRk.out.lt⟩)
          have hg3 : g < w3.heap.size := Nat.lt_of_lt_of_le hgk hz3
          have hzw := HB3.out.size
          clear hb3
          refine (text_impl g 0 k cap (readL s) _ HNl.out HPA3.out.1 HSm.out hn1 HF.out).mono ?_
          rintro e w4 ⟨rfl, hb4⟩
          have hz4 := hb4.size
          have HB4 := Lib.hid (HB3.out.trans (hb4.mono hzw))
          have HPA4 := Lib.hid (show PairsAt w4 g 0 (readL s) ∧ w4.there g 0 ((readL s).length * 2) from ⟨HPA3.out.1.later hb4, there_below HPA3.out.2 hb4 hg3⟩)
          have hg4 : g < w4.heap.size := Nat.lt_of_lt_of_le hg3 hz4
          clear hb4
          by_cases ht : formT (readL s) = s
          · have e1 := list_eq ht
            have HT := Lib.hid ht
            clear ht
            go_wp2_with fail
            go_ret2
            exact ⟨0, readL s, _, _, .inr (.inr (.inr ⟨hs, HAp.out, ⟨HF.out, HT.out⟩, rfl, rfl⟩)), rfl, .inr ⟨g, cap, congrArg (fun n => Value.slice (some ⟨g, 0, none⟩) n cap) HNl.out, hgw, hg4, HPA4.out.1, HPA4.out.2⟩, .inl ⟨rfl, rfl⟩, HB4.out⟩
          · have e1 := list_ne ht
            have HT := Lib.hid ht
            clear ht
            go_wp2_with fail
            go_ret2
            exact ⟨3, [], _, _, .inr (.inr (.inl ⟨hs, HAp.out, fun h => HT.out h.2, rfl, rfl⟩)), rfl, .inl ⟨rfl, rfl⟩, .inr ⟨by omega, rfl⟩, HB4.out⟩
        · have HF := Lib.hid hf
          clear hf
          go_wp2_with (first | (go_at_call 25; refine (form_impl g 0 k cap (readL s) _ HNl.out HPA.out.1 HSm.out hn1).mono ?_; rintro e w3 ⟨c, hcc, rfl, hb3⟩; obtain rfl : c = false := bool_no hcc HF.out; clear hcc) | fail)
          have HB3 := Lib.hid (HBk.out.trans (hb3.mono hzk))
          clear hb3
          go_ret2
          exact ⟨3, [], _, _, .inr (.inr (.inl ⟨hs, HAp.out, fun h => HF.out h.1, rfl, rfl⟩)), rfl, .inl ⟨rfl, rfl⟩, .inr ⟨by omega, rfl⟩, HB3.out⟩
  · obtain rfl : c = true := HC.out.2 hap
    go_wp2_with fail
    go_ret2
    exact ⟨7, [], _, _, .inr (.inl ⟨hs, hap, rfl, rfl⟩), rfl, .inl ⟨rfl, rfl⟩, .inr ⟨by omega, rfl⟩, HB2.out⟩
theorem rd_any (s : ByteArray) (w : World) (hs : s.size ≤ maxLen) (hg : MaxG w) : Calls Tryd.prog 13 #[.string s] w (RdOut s w) := by
  by_cases h : s.size ≤ 8000
  · exact rd_small s w h hg
  · exact rd_big s w hs (by omega)

/-- What FormRead answers: the pairs and the code. -/
def FrOut (s : ByteArray) (w : World) (e : Ending) (w' : World) : Prop := ∃ code l va, ReadR s code l ∧ e = .returned (.agg #[va, .int .i64 code]) ∧ PairsV w w' l va ∧ Below w.heap.size w w'
theorem PairsV.later {w0 w w1 : World} {l : List Pr} {v : Value} (h : PairsV w0 w l v) (hb : Below w.heap.size w w1) : PairsV w0 w1 l v := by
  rcases h with h | ⟨g, cap, h1, h2, h3, h4, h5⟩
  · exact .inl h
  · exact .inr ⟨g, cap, h1, h2, Nat.lt_of_lt_of_le h3 hb.size, h4.later hb, there_below h5 hb h3⟩
theorem PairsV.slice {w0 w : World} {l : List Pr} {v : Value} (h : PairsV w0 w l v) : ∃ p n cap, v = .slice p n cap := by
  rcases h with ⟨_, rfl⟩ | ⟨g, cap, rfl, _⟩
  · exact ⟨_, _, _, rfl⟩
  · exact ⟨_, _, _, rfl⟩
theorem PairsV.weaken {w0 w00 w : World} {l : List Pr} {v : Value} (h : PairsV w0 w l v) (hz : w00.heap.size ≤ w0.heap.size) : PairsV w00 w l v := by
  rcases h with h | ⟨g, cap, h1, h2, h3⟩
  · exact .inl h
  · exact .inr ⟨g, cap, h1, Nat.le_trans hz h2, h3⟩
/-- A struct's two cells written, in a block that no pairs lie in. -/
theorem PairsV.set2 {w0 w : World} {l : List Pr} {v : Value} (h : PairsV w0 w l v) {q : Nat} (hq : q < w0.heap.size) (x y : Value) : PairsV w0 ((w.setCell ⟨q, 0, none⟩ x).setCell ⟨q, 1, none⟩ y) l v := by
  rcases h with h | ⟨g, cap, h1, h2, h3, h4, h5⟩
  · exact .inl h
  · refine .inr ⟨g, cap, h1, h2, by simpa using h3, ?_, ?_⟩
    · exact World.rangeAt_setCells_apart (w := w) h4 q 0 [x, y] (.inl (by omega))
    · exact World.there_setCells (w := w) h5 q 0 [x, y]
set_option maxRecDepth 100000 in
theorem fr_impl (s : ByteArray) (w : World) (hs : s.size ≤ maxLen) (hg : MaxG w) (hG : Glob w) : Calls Tryd.prog 5 #[.string s] w (FrOut s w) := by
  have HG := Lib.hid hg
  have HGl := Lib.hid hG
  clear hg hG
  have hb0 := (Below.refl w.heap.size w).alloc (Nat.le_refl _) (.cells #[Value.slice none 0 0, Value.int .i64 0] 24)
  have HG1 := Lib.hid (HG.out.later hb0)
  have HGl1 := Lib.hid (HGl.out.grow hb0)
  have hR0 : Row (w.alloc (.cells #[Value.slice none 0 0, Value.int .i64 0] 24)) w.heap.size 24 [Value.slice none 0 0, Value.int .i64 0] := heap_alloc_new w _
  have HR0 := Lib.hid hR0
  have HB0 := Lib.hid hb0
  have hz0 : w.heap.size < (w.alloc (.cells #[Value.slice none 0 0, Value.int .i64 0] 24)).heap.size := by simp
  clear hb0 hR0
  go_enter Tryd.func5, Tryd.ntmps5
  go_wp2_with fail
  refine (rd_any s _ hs HG1.out).mono ?_
  rintro e w1 ⟨code, l, va, vb, hr, rfl, hpv, herr, hb1⟩
  have HRd := Lib.hid hr
  have HPV := Lib.hid hpv
  obtain ⟨pp, nn, cc, rfl⟩ := hpv.slice
  have HR1 := Lib.hid (HR0.out.below hb1 hz0)
  have HGl2 := Lib.hid (HGl1.out.grow hb1)
  have HB1 := Lib.hid (HB0.out.trans (hb1.mono (Nat.le_of_lt hz0)))
  have hz1 := HB1.out.size
  have hw1 : w.heap.size < w1.heap.size := Nat.lt_of_lt_of_le hz0 hb1.size
  clear hr hpv hb1
  rcases herr with ⟨rfl, rfl⟩ | ⟨hne, rfl⟩
  · go_wp2_with fail
    refine (code_nil _).mono ?_
    rintro e w2 ⟨rfl, hb2⟩
    have hr2 := HR1.out.below hb2 hw1
    have c0 : w2.cell? ⟨w.heap.size, 0, none⟩ = some (.slice none 0 0) := hr2.cell 0
    have c1 : w2.cell? ⟨w.heap.size, 1, none⟩ = some (.int .i64 0) := hr2.cell 1
    have f0 : w2.frozen? ⟨w.heap.size, 0, none⟩ = false := hr2.free 0
    have f1 : w2.frozen? ⟨w.heap.size, 1, none⟩ = false := hr2.free 1
    have HPV2 := Lib.hid (((HPV.out.later hb2).set2 hz0 (.slice pp nn cc) (.int .i64 0)).weaken (Nat.le_of_lt hz0))
    have HB2 := Lib.hid (HB1.out.trans (hb2.mono hz1))
    clear hb2 hr2
    go_wp2_with fail
    refine bodyPost_ret (v := .agg #[.slice pp nn cc, .int .i64 0]) (by simp [results, Tryd.results5, go_sem, c0, c1]) rfl ⟨0, l, _, HRd.out, rfl, HPV2.out, ?_⟩
    exact (HB2.out.setCell (p := ⟨w.heap.size, 0, none⟩) (Nat.le_refl _) _).setCell (p := ⟨w.heap.size, 1, none⟩) (Nat.le_refl _) _
  · clear hne
    go_wp2_with fail
    refine (code_fault code _ HGl2.out).mono ?_
    rintro e w2 ⟨rfl, hb2⟩
    have hr2 := HR1.out.below hb2 hw1
    have c0 : w2.cell? ⟨w.heap.size, 0, none⟩ = some (.slice none 0 0) := hr2.cell 0
    have c1 : w2.cell? ⟨w.heap.size, 1, none⟩ = some (.int .i64 0) := hr2.cell 1
    have f0 : w2.frozen? ⟨w.heap.size, 0, none⟩ = false := hr2.free 0
    have f1 : w2.frozen? ⟨w.heap.size, 1, none⟩ = false := hr2.free 1
    have HPV2 := Lib.hid (((HPV.out.later hb2).set2 hz0 (.slice pp nn cc) (.int .i64 code)).weaken (Nat.le_of_lt hz0))
    have HB2 := Lib.hid (HB1.out.trans (hb2.mono hz1))
    clear hb2 hr2
    go_wp2_with fail
    refine bodyPost_ret (v := .agg #[.slice pp nn cc, .int .i64 code]) (by simp [results, Tryd.results5, go_sem, c0, c1]) rfl ⟨code, l, _, HRd.out, rfl, HPV2.out, ?_⟩
    exact (HB2.out.setCell (p := ⟨w.heap.size, 0, none⟩) (Nat.le_refl _) _).setCell (p := ⟨w.heap.size, 1, none⟩) (Nat.le_refl _) _
end Go.Proofs.YtjoobpieomhklaaDoor
