/- GetText: the walks. -/
import Derived.Test.YtghcolobjfgfgaaDoorGet2
import Derived.Test.YtghcolobjfgfgaaDoorJoin
import Derived.RegionTactic
import Derived.BigRegion
namespace Go.Proofs.YtghcolobjfgfgaaDoor
open Go Go.RowKit

theorem rd_bound (s : ByteArray) (p : Nat) : ∀ (f k u : Nat) (n q c : Int), Rd.rd s p f k u = (n, q, c) → (c = 0 → 0 ≤ q ∧ q ≤ s.size) ∧ (c ≠ 0 → n = 0 ∧ q = 0) := by
  intro f
  induction f with
  | zero =>
    intro k u n q c h
    simp only [Rd.rd, Prod.mk.injEq] at h
    obtain ⟨rfl, rfl, rfl⟩ := h
    exact ⟨fun h => by omega, fun _ => ⟨rfl, rfl⟩⟩
  | succ f ih =>
    intro k u n q c h
    rw [Rd.rd] at h
    split at h
    · rename_i hlt
      split at h
      · simp only [Prod.mk.injEq] at h
        obtain ⟨rfl, rfl, rfl⟩ := h
        exact ⟨fun h => by omega, fun _ => ⟨rfl, rfl⟩⟩
      · split at h
        · split at h
          · simp only [Prod.mk.injEq] at h
            obtain ⟨rfl, rfl, rfl⟩ := h
            exact ⟨fun h => by omega, fun _ => ⟨rfl, rfl⟩⟩
          · simp only [Prod.mk.injEq] at h
            obtain ⟨rfl, rfl, rfl⟩ := h
            exact ⟨fun _ => by omega, fun h => absurd rfl h⟩
        · exact ih _ _ _ _ _ h
    · simp only [Prod.mk.injEq] at h
      obtain ⟨rfl, rfl, rfl⟩ := h
      exact ⟨fun h => by omega, fun _ => ⟨rfl, rfl⟩⟩
theorem num_bound (s : ByteArray) (p n q c : Int) (h : numR s p = (n, q, c)) : (c = 0 → 0 ≤ q ∧ q ≤ s.size ∧ s.size ≤ 8000) ∧ (c ≠ 0 → n = 0 ∧ q = 0) := by
  unfold numR at h
  split at h
  · simp only [Prod.mk.injEq] at h
    obtain ⟨rfl, rfl, rfl⟩ := h
    exact ⟨fun h => by omega, fun _ => ⟨rfl, rfl⟩⟩
  · split at h
    · simp only [Prod.mk.injEq] at h
      obtain ⟨rfl, rfl, rfl⟩ := h
      exact ⟨fun h => by omega, fun _ => ⟨rfl, rfl⟩⟩
    · have := rd_bound s p.toNat 10 0 0 n q c h
      exact ⟨fun hc => ⟨(this.1 hc).1, (this.1 hc).2, by omega⟩, this.2⟩

/-- What GetText answers. -/
def textR (s : ByteArray) (p : Int) : ByteArray × Int × Int :=
  if (numR s p).2.2 ≠ 0 then (⟨#[]⟩, 0, (numR s p).2.2)
  else if (numR s p).1 < 0 ∨ 8000 < (numR s p).1 then (⟨#[]⟩, 0, 3)
  else if s.size < (numR s p).2.1 + (numR s p).1 then (⟨#[]⟩, 0, 4)
  else (s.extract (numR s p).2.1.toNat ((numR s p).2.1 + (numR s p).1).toNat, (numR s p).2.1 + (numR s p).1, 0)
def textOut (r : ByteArray × Int × Int) : Value := .agg #[.string r.1, .int .i64 r.2.1, .int .i64 r.2.2]
def rtOut (r : ByteArray × Int × Int) : Value := .tuple #[.string r.1, .int .i64 r.2.1, if r.2.2 = 0 then .nilIface else errV r.2.2]

/-- The four ways. -/
theorem text_ways (s : ByteArray) (p : Int) :
    (∃ c : Int, c ≠ 0 ∧ numR s p = (0, 0, c) ∧ textR s p = (⟨#[]⟩, 0, c)) ∨
    (∃ n q : Int, (n < 0 ∨ 8000 < n) ∧ 0 ≤ q ∧ q ≤ 8000 ∧ numR s p = (n, q, 0) ∧ textR s p = (⟨#[]⟩, 0, 3)) ∨
    (∃ n q : Nat, n ≤ 8000 ∧ q ≤ 8000 ∧ s.size ≤ 8000 ∧ s.size < q + n ∧ numR s p = ((n : Int), (q : Int), 0) ∧ textR s p = (⟨#[]⟩, 0, 4)) ∨
    (∃ n q : Nat, n ≤ 8000 ∧ s.size ≤ 8000 ∧ q + n ≤ s.size ∧ numR s p = ((n : Int), (q : Int), 0) ∧ textR s p = (s.extract q (q + n), (q : Int) + n, 0)) := by
  generalize hr : numR s p = R
  obtain ⟨n, q, c⟩ := R
  have hb := num_bound s p n q c hr
  have ht : textR s p = if c ≠ 0 then (⟨#[]⟩, 0, c) else if n < 0 ∨ 8000 < n then (⟨#[]⟩, 0, 3) else if (s.size : Int) < q + n then (⟨#[]⟩, 0, 4) else (s.extract q.toNat (q + n).toNat, q + n, 0) := by
    unfold textR; rw [hr]
  by_cases hc : c = 0
  · subst hc
    rw [if_neg (by omega)] at ht
    have hb1 := hb.1 rfl
    by_cases hn : n < 0 ∨ 8000 < n
    · rw [if_pos hn] at ht
      exact Or.inr (Or.inl ⟨n, q, hn, hb1.1, by omega, rfl, ht⟩)
    · rw [if_neg hn] at ht
      obtain ⟨n, rfl⟩ := Int.eq_ofNat_of_zero_le (show 0 ≤ n by omega)
      obtain ⟨q, rfl⟩ := Int.eq_ofNat_of_zero_le hb1.1
      by_cases hs : (s.size : Int) < q + n
      · rw [if_pos hs] at ht
        exact Or.inr (Or.inr (Or.inl ⟨n, q, by omega, by omega, hb1.2.2, by omega, rfl, ht⟩))
      · rw [if_neg hs] at ht
        exact Or.inr (Or.inr (Or.inr ⟨n, q, by omega, hb1.2.2, by omega, rfl, ht⟩))
  · rw [if_pos hc] at ht
    obtain ⟨rfl, rfl⟩ := hb.2 hc
    exact Or.inl ⟨c, hc, rfl, ht⟩

theorem rt_of {r : ByteArray × Int × Int} {v : Value} (h : v = rtOut r) : Ending.returned v = .returned (rtOut r) := by rw [h]
theorem txt_of {r r' : ByteArray × Int × Int} (h : r = r') : Ending.returned (textOut r) = .returned (textOut r') := by rw [h]

theorem app_empty (a : ByteArray) : a ++ (⟨#[]⟩ : ByteArray) = a := ByteArray.append_empty
theorem ext_small (s : ByteArray) (a b : Nat) (h : s.size ≤ 8000) : (s.extract a b).size + (⟨#[]⟩ : ByteArray).size ≤ 140737488355328 := by
  rw [ByteArray.size_extract]
  show min b s.size - a + 0 ≤ _
  omega
set_option maxRecDepth 100000 in
theorem rtext_any (s : ByteArray) (p : Int) (w : World) (hs : s.size ≤ maxLen) (hp : p ≤ 9223372036854775807) :
    Calls Tryd.prog 40 #[.string s, .int .i64 p] w fun e w' => e = .returned (rtOut (textR s p)) ∧ Below w.heap.size w w' := by
  have HR := Lib.hid (fun w => read_any s p w hs hp)
  rcases text_ways s p with ⟨c, hc, hn, ht⟩ | ⟨n, q, hnb, hq0, hq1, hn, ht⟩ | ⟨n, q, hn1, hq1, hs1, hlt, hn, ht⟩ | ⟨n, q, hn1, hs1, hle, hn, ht⟩
  · rw [hn] at HR
    have HT := Lib.hid ht
    have HO : Hid (rdOut (0, 0, c) = .tuple #[.int .i64 0, .int .i64 0, .iface 69 (.agg #[.int .i64 c])]) := Lib.hid (by simp [rdOut, hc, errV])
    have HO2 : Hid (rtOut (⟨#[]⟩, 0, c) = .tuple #[.string ⟨#[]⟩, .int .i64 0, .iface 69 (.agg #[.int .i64 c])]) := Lib.hid (by simp [rtOut, hc, errV])
    clear hn ht hc hs hp
    go_enter Tryd.func40, Tryd.ntmps40
    go_wp2_with fail
    refine (HR.out _).mono ?_
    rintro e w' ⟨rfl, rfl⟩
    rw [HO.out]
    go_wp2_with fail
    go_ret3
    exact ⟨by rw [HT.out, HO2.out]; rfl, Below.refl _ _⟩
  · rw [hn] at HR
    have HT := Lib.hid ht
    have HO : Hid (rdOut ((n : Int), (q : Int), 0) = .tuple #[.int .i64 n, .int .i64 q, .nilIface]) := Lib.hid rfl
    clear hn ht hs hp
    by_cases h0 : n < 0
    · go_enter Tryd.func40, Tryd.ntmps40
      go_wp2_with fail
      refine (HR.out _).mono ?_
      rintro e w' ⟨rfl, rfl⟩
      rw [HO.out]
      go_wp2_with fail
      go_ret3
      exact ⟨by rw [HT.out]; rfl, Below.refl _ _⟩
    · have d0 : decide (n < 0) = false := decide_eq_false h0
      have h8 : 8000 < n := by omega
      clear hnb
      go_enter Tryd.func40, Tryd.ntmps40
      go_wp2_with fail
      refine (HR.out _).mono ?_
      rintro e w' ⟨rfl, rfl⟩
      rw [HO.out]
      go_wp2_with fail
      go_ret3
      exact ⟨by rw [HT.out]; rfl, Below.refl _ _⟩
  · rw [hn] at HR
    have HT := Lib.hid ht
    have HO : Hid (rdOut ((n : Int), (q : Int), 0) = .tuple #[.int .i64 n, .int .i64 q, .nilIface]) := Lib.hid rfl
    have d0 : decide ((n : Int) < 0) = false := decide_eq_false (by omega)
    have d1 : decide (8000 < (n : Int)) = false := decide_eq_false (by omega)
    clear hn ht hs hp
    go_enter Tryd.func40, Tryd.ntmps40
    go_wp2_with fail
    refine (HR.out _).mono ?_
    rintro e w' ⟨rfl, rfl⟩
    rw [HO.out]
    go_wp2_with fail
    go_ret3
    exact ⟨by rw [HT.out]; rfl, Below.refl _ _⟩
  · rw [hn] at HR
    have HT := Lib.hid ht
    have HO : Hid (rdOut ((n : Int), (q : Int), 0) = .tuple #[.int .i64 n, .int .i64 q, .nilIface]) := Lib.hid rfl
    have d0 : decide ((n : Int) < 0) = false := decide_eq_false (by omega)
    have d1 : decide (8000 < (n : Int)) = false := decide_eq_false (by omega)
    have d2 : decide ((s.size : Int) < (q : Int) + n) = false := decide_eq_false (by omega)
    clear hn ht hs hp
    go_enter Tryd.func40, Tryd.ntmps40
    go_wp2_with fail
    refine (HR.out _).mono ?_
    rintro e w' ⟨rfl, rfl⟩
    rw [HO.out]
    go_wp2_with fail
    refine (join_any _ _ _ (ext_small s q (q + n) hs1)).mono ?_
    rintro e w1 ⟨rfl, hb1⟩
    rw [app_empty]
    have HB1 := Lib.hid hb1
    clear hb1
    go_wp2_with fail
    go_ret3
    exact ⟨by rw [HT.out]; rfl, HB1.out⟩

theorem gtext_impl (s : ByteArray) (p : Int) (w : World) (hg : Glob w) (hs : s.size ≤ maxLen) (hp : p ≤ 9223372036854775807) :
    Calls Tryd.prog 15 #[.string s, .int .i64 p] w fun e w' => e = .returned (textOut (textR s p)) ∧ Below w.heap.size w w' := by
  have hb0 := (Below.refl w.heap.size w).alloc (Nat.le_refl _) (.cells #[.string ⟨#[]⟩, .int .i64 0, .int .i64 0] 31)
  have HG := Lib.hid (hg.below hb0 hg.1)
  clear hg hb0
  generalize hr : textR s p = R
  have HR := Lib.hid (hr ▸ rtext_any s p (w.alloc (.cells #[.string ⟨#[]⟩, .int .i64 0, .int .i64 0] 31)) hs hp)
  clear hr
  obtain ⟨n, q, c⟩ := R
  obtain ⟨E, hE⟩ : ∃ E : Value, E = if c = 0 then .nilIface else errV c := ⟨_, rfl⟩
  have HC := Lib.hid (fun w hg => hE ▸ code_any c w hg)
  have HO : Hid (rtOut (n, q, c) = .tuple #[.string n, .int .i64 q, E]) := Lib.hid (by rw [hE]; rfl)
  clear hE
  go_enter Tryd.func15, Tryd.ntmps15
  go_wp2_with fail
  refine HR.out.mono ?_
  rintro e w1 ⟨rfl, hb1⟩
  rw [HO.out]
  have HG1 := Lib.hid (HG.out.grow hb1)
  have HB1 := Lib.hid hb1
  clear hb1
  go_wp2_with fail
  refine (HC.out _ HG1.out).mono ?_
  rintro e w2 ⟨rfl, hb2⟩
  have hb1 := below_two HB1.out hb2
  have hc0 := hb1.cell (p := ⟨w.heap.size, 0, none⟩) (by simp)
  have hc1 := hb1.cell (p := ⟨w.heap.size, 1, none⟩) (by simp)
  have hc2 := hb1.cell (p := ⟨w.heap.size, 2, none⟩) (by simp)
  have hf0 := hb1.frozen (p := ⟨w.heap.size, 0, none⟩) (by simp)
  have hf1 := hb1.frozen (p := ⟨w.heap.size, 1, none⟩) (by simp)
  have hf2 := hb1.frozen (p := ⟨w.heap.size, 2, none⟩) (by simp)
  simp at hc0 hc1 hc2 hf0 hf1 hf2
  have HB := Lib.hid (((Below.refl w.heap.size w).alloc (Nat.le_refl _) (.cells #[.string ⟨#[]⟩, .int .i64 0, .int .i64 0] 31)).trans (hb1.mono (by simp)))
  clear hb1 hb2
  go_wp2_with fail
  refine bodyPost_ret (v := textOut (n, q, c)) (by simp [results, Tryd.results15, go_sem, textOut, hc0, hc1, hc2]) rfl ⟨rfl, ?_⟩
  exact ((HB.out.setCell (by simp) _).setCell (by simp) _).setCell (by simp) _

theorem res_cells (w1 : World) (b : Nat) (o : Obj) (hlt : b < w1.heap.size) (x0 x1 x2 y0 y1 y2 : Value) (h0 : w1.cell? ⟨b, 0, none⟩ = some x0) (h1 : w1.cell? ⟨b, 1, none⟩ = some x1) (h2 : w1.cell? ⟨b, 2, none⟩ = some x2) :
    ((((w1.setCell ⟨b, 0, none⟩ y0).setCell ⟨b, 1, none⟩ y1).setCell ⟨b, 2, none⟩ y2).alloc o).cell? ⟨b, 0, none⟩ = some y0 ∧
    ((((w1.setCell ⟨b, 0, none⟩ y0).setCell ⟨b, 1, none⟩ y1).setCell ⟨b, 2, none⟩ y2).alloc o).cell? ⟨b, 1, none⟩ = some y1 ∧
    ((((w1.setCell ⟨b, 0, none⟩ y0).setCell ⟨b, 1, none⟩ y1).setCell ⟨b, 2, none⟩ y2).alloc o).cell? ⟨b, 2, none⟩ = some y2 := by
  refine ⟨?_, ?_, ?_⟩
  all_goals
    rw [World.cell?_alloc_lt _ _ _ (by simpa using hlt)]
    simp [h0, h1, h2, go_sem]
set_option maxRecDepth 100000 in
set_option maxHeartbeats 2000000 in
theorem gtext_spec (s : ByteArray) (p : Int) (w : World) (hs : s.size ≤ maxLen) (hp : p ≤ 9223372036854775807) :
    Calls Tryd.prog 27 #[.string s, .int .i64 p] w fun e w' => e = .returned (textOut (textR s p)) ∧ Below w.heap.size w w' := by
  have HR := Lib.hid (get_spec s p (w.alloc (.cells #[.string ⟨#[]⟩, .int .i64 0, .int .i64 0] 31)) hs hp)
  generalize hz : numR s p = R at HR
  obtain ⟨n, q, c⟩ := R
  have HN := Lib.hid hz
  clear hz
  have HO : Hid (numOut (n, q, c) = .agg #[.int .i64 n, .int .i64 q, .int .i64 c]) := Lib.hid rfl
  have hs' : s.size ≤ 9223372036854775807 := by unfold maxLen at hs; omega
  clear hs hp
  go_enter Tryd.func27, Tryd.ntmps27
  go_wp2_with fail
  refine HR.out.mono ?_
  rintro e w1 ⟨rfl, hb1⟩
  rw [HO.out]
  have hc0 := hb1.cell (p := ⟨w.heap.size, 0, none⟩) (by simp)
  have hc1 := hb1.cell (p := ⟨w.heap.size, 1, none⟩) (by simp)
  have hc2 := hb1.cell (p := ⟨w.heap.size, 2, none⟩) (by simp)
  have hf0 := hb1.frozen (p := ⟨w.heap.size, 0, none⟩) (by simp)
  have hf1 := hb1.frozen (p := ⟨w.heap.size, 1, none⟩) (by simp)
  have hf2 := hb1.frozen (p := ⟨w.heap.size, 2, none⟩) (by simp)
  have hzz := hb1.size
  simp at hc0 hc1 hc2 hf0 hf1 hf2 hzz
  have hlt : w.heap.size < w1.heap.size := by omega
  have HB := Lib.hid (((Below.refl w.heap.size w).alloc (Nat.le_refl _) (.cells #[.string ⟨#[]⟩, .int .i64 0, .int .i64 0] 31)).trans (hb1.mono (by simp)))
  have HB2 := Lib.hid (HB.out.alloc HB.out.size (.cells #[.int .i64 n, .int .i64 q, .int .i64 c] 26))
  clear hb1 hzz
  rcases text_ways s p with ⟨c', hc, hn, ht⟩ | ⟨n', q', hnb, hq0, hq1, hn, ht⟩ | ⟨n', q', hn1, hq1, hs1, hle, hn, ht⟩ | ⟨n', q', hn1, hs1, hle, hn, ht⟩
  · rw [HN.out] at hn
    simp only [Prod.mk.injEq] at hn
    obtain ⟨rfl, rfl, rfl⟩ := hn
    have HT := Lib.hid ht
    have e1 : (c != 0) = true := by rw [bne_iff_ne]; exact hc
    clear hc ht
    go_wp2_with fail
    have k := res_cells w1 w.heap.size (.cells #[.int .i64 0, .int .i64 0, .int .i64 c] 26) hlt _ _ _ (.string ⟨#[]⟩) (.int .i64 0) (.int .i64 c) hc0 hc1 hc2
    obtain ⟨k0, k1, k2⟩ := k
    refine bodyPost_ret (v := textOut (⟨#[]⟩, 0, c)) (by simp [results, Tryd.results27, go_sem, textOut, k0, k1, k2]) rfl ⟨txt_of HT.out.symm, ?_⟩
    exact (((HB.out.setCell (by simp) _).setCell (by simp) _).setCell (by simp) _).alloc (by have := HB.out.size; simp; omega) _
  · rw [HN.out] at hn
    simp only [Prod.mk.injEq] at hn
    obtain ⟨rfl, rfl, rfl⟩ := hn
    have HT := Lib.hid ht
    clear ht
    by_cases h0 : n < 0
    · clear hnb
      go_wp2_with fail
      have k := res_cells w1 w.heap.size (.cells #[.int .i64 n, .int .i64 q, .int .i64 0] 26) hlt _ _ _ (.string ⟨#[]⟩) (.int .i64 0) (.int .i64 3) hc0 hc1 hc2
      obtain ⟨k0, k1, k2⟩ := k
      refine bodyPost_ret (v := textOut (⟨#[]⟩, 0, 3)) (by simp [results, Tryd.results27, go_sem, textOut, k0, k1, k2]) rfl ⟨txt_of HT.out.symm, ?_⟩
      exact (((HB.out.setCell (by simp) _).setCell (by simp) _).setCell (by simp) _).alloc (by have := HB.out.size; simp; omega) _
    · have d0 : decide (n < 0) = false := decide_eq_false h0
      have h8 : 8000 < n := by omega
      clear hnb
      go_wp2_with fail
      have k := res_cells w1 w.heap.size (.cells #[.int .i64 n, .int .i64 q, .int .i64 0] 26) hlt _ _ _ (.string ⟨#[]⟩) (.int .i64 0) (.int .i64 3) hc0 hc1 hc2
      obtain ⟨k0, k1, k2⟩ := k
      refine bodyPost_ret (v := textOut (⟨#[]⟩, 0, 3)) (by simp [results, Tryd.results27, go_sem, textOut, k0, k1, k2]) rfl ⟨txt_of HT.out.symm, ?_⟩
      exact (((HB.out.setCell (by simp) _).setCell (by simp) _).setCell (by simp) _).alloc (by have := HB.out.size; simp; omega) _
  · rw [HN.out] at hn
    simp only [Prod.mk.injEq] at hn
    obtain ⟨rfl, rfl, rfl⟩ := hn
    have HT := Lib.hid ht
    clear ht
    have d0 : decide ((n' : Int) < 0) = false := decide_eq_false (by omega)
    have d1 : decide (8000 < (n' : Int)) = false := decide_eq_false (by omega)
    have d2 : decide ((s.size : Int) - n' < (q' : Int)) = true := decide_eq_true (by omega)
    go_wp2_with fail
    have k := res_cells w1 w.heap.size (.cells #[.int .i64 n', .int .i64 q', .int .i64 0] 26) hlt _ _ _ (.string ⟨#[]⟩) (.int .i64 0) (.int .i64 4) hc0 hc1 hc2
    obtain ⟨k0, k1, k2⟩ := k
    refine bodyPost_ret (v := textOut (⟨#[]⟩, 0, 4)) (by simp [results, Tryd.results27, go_sem, textOut, k0, k1, k2]) rfl ⟨txt_of HT.out.symm, ?_⟩
    exact (((HB.out.setCell (by simp) _).setCell (by simp) _).setCell (by simp) _).alloc (by have := HB.out.size; simp; omega) _
  · rw [HN.out] at hn
    simp only [Prod.mk.injEq] at hn
    obtain ⟨rfl, rfl, rfl⟩ := hn
    have HT := Lib.hid ht
    clear ht
    have d0 : decide ((n' : Int) < 0) = false := decide_eq_false (by omega)
    have d1 : decide (8000 < (n' : Int)) = false := decide_eq_false (by omega)
    have d2 : decide ((s.size : Int) - n' < (q' : Int)) = false := decide_eq_false (by omega)
    go_wp2_with fail
    go_region
    go_wp2_with fail
    have k := res_cells w1 w.heap.size (.cells #[.int .i64 n', .int .i64 q', .int .i64 0] 26) hlt _ _ _ (.string (s.extract q' (q' + n'))) (.int .i64 ((q' : Int) + n')) (.int .i64 0) hc0 hc1 hc2
    obtain ⟨k0, k1, k2⟩ := k
    refine bodyPost_ret (v := textOut (s.extract q' (q' + n'), (q' : Int) + n', 0)) (by simp [results, Tryd.results27, go_sem, textOut, k0, k1, k2]) rfl ⟨txt_of HT.out.symm, ?_⟩
    exact ((((HB.out.setCell (by simp) _).setCell (by simp) _).setCell (by simp) _).alloc (by have := HB.out.size; simp; omega) _).drew

theorem eqText (t : ByteArray) (q c : Int) (w : World) : Calls Tryd.prog 28 #[.agg #[.string t, .int .i64 q, .int .i64 c], .agg #[.string t, .int .i64 q, .int .i64 c]] w fun e w' => e = .returned (.bool true) ∧ Below w.heap.size w w' := by
  have e2 : (q != q) = false := by simp
  have e3 : (c != c) = false := by simp
  go_enter Tryd.func28, Tryd.ntmps28
  go_wp2
  go_ret
  exact ⟨rfl, by go_grown⟩

theorem lawGetText (s : ByteArray) (p : Int) (w : World) (hg : Glob w) (hs : s.size ≤ maxLen) (hp : (Lit.int .i64 p).wf = true) :
    Calls Tryd.prog 6 #[.string s, .int .i64 p] w fun e w' => e = .returned (.bool true) ∧ Below w.heap.size w w' := by
  have hb : p ≤ 9223372036854775807 := by
    simp only [Lit.wf, Bool.and_eq_true, decide_eq_true_eq] at hp
    exact hp.2
  have HP := Lib.hid hb
  clear hp hb
  have hs' := hs
  unfold maxLen at hs'
  by_cases hbig : 1048576 < s.size
  · go_enter Tryd.func6, Tryd.ntmps6
    go_wp2
    go_ret
    exact ⟨rfl, Below.refl _ _⟩
  · have HS := Lib.hid (fun w => gtext_spec s p w hs HP.out)
    have HI := Lib.hid (fun w hg => gtext_impl s p w hg hs HP.out)
    generalize textR s p = R at *
    obtain ⟨n, q, c⟩ := R
    have HN : Hid (textOut (n, q, c) = .agg #[.string n, .int .i64 q, .int .i64 c]) := Lib.hid rfl
    have HG := Lib.hid hg
    clear hg
    go_enter Tryd.func6, Tryd.ntmps6
    go_wp2_with fail
    refine (HS.out _).mono ?_
    rintro e w1 ⟨rfl, hb1⟩
    rw [HN.out]
    have HB1 := Lib.hid (hb1.alloc hb1.size (.cells #[.string n, .int .i64 q, .int .i64 c] 31))
    have HG1 := Lib.hid (HG.out.grow HB1.out)
    clear hb1
    go_wp2_with fail
    refine (HI.out _ HG1.out).mono ?_
    rintro e w2 ⟨rfl, hb2⟩
    rw [HN.out]
    have hc0 := hb2.cell (p := ⟨w1.heap.size, 0, none⟩) (by simp)
    have hc1 := hb2.cell (p := ⟨w1.heap.size, 1, none⟩) (by simp)
    have hc2 := hb2.cell (p := ⟨w1.heap.size, 2, none⟩) (by simp)
    have hz := hb2.size
    simp at hc0 hc1 hc2 hz
    have hne : w1.heap.size < w2.heap.size := by omega
    have HB2 := Lib.hid (below_two HB1.out hb2)
    clear hb2
    go_wp2_with fail
    refine (eqText n q c _).mono ?_
    rintro e w3 ⟨rfl, hb3⟩
    have HB3 := Lib.hid ((HB2.out.alloc HB2.out.size (.cells #[.string n, .int .i64 q, .int .i64 c] 31)).trans (hb3.mono (by have := HB2.out.size; simp; omega)))
    clear hb3
    go_wp2_with fail
    go_ret
    exact ⟨rfl, HB3.out⟩
end Go.Proofs.YtghcolobjfgfgaaDoor
