/- Unseal: the model's function and the law. -/
import Derived.Test.YtghcolobjfgfgaaDoorUns
namespace Go.Proofs.YtghcolobjfgfgaaDoor
open Go Go.RowKit
theorem res_cells' (w1 : World) (b : Nat) (x0 x1 x2 y0 y1 y2 : Value) (h0 : w1.cell? ⟨b, 0, none⟩ = some x0) (h1 : w1.cell? ⟨b, 1, none⟩ = some x1) (h2 : w1.cell? ⟨b, 2, none⟩ = some x2) :
    (((w1.setCell ⟨b, 0, none⟩ y0).setCell ⟨b, 1, none⟩ y1).setCell ⟨b, 2, none⟩ y2).cell? ⟨b, 0, none⟩ = some y0 ∧
    (((w1.setCell ⟨b, 0, none⟩ y0).setCell ⟨b, 1, none⟩ y1).setCell ⟨b, 2, none⟩ y2).cell? ⟨b, 1, none⟩ = some y1 ∧
    (((w1.setCell ⟨b, 0, none⟩ y0).setCell ⟨b, 1, none⟩ y1).setCell ⟨b, 2, none⟩ y2).cell? ⟨b, 2, none⟩ = some y2 := by
  refine ⟨?_, ?_, ?_⟩ <;> simp [h0, h1, h2, go_sem]
set_option maxRecDepth 100000 in
set_option maxHeartbeats 2000000 in
theorem uns_spec (s : ByteArray) (w : World) (hs : s.size ≤ maxLen) :
    Calls Tryd.prog 29 #[.string s] w fun e w' => e = .returned (textOut (unR s)) ∧ Below w.heap.size w w' := by
  have hs' := hs
  unfold maxLen at hs'
  by_cases h8 : 8000 < s.size
  · have HN : Hid (unR s = (⟨#[]⟩, 0, 2)) := Lib.hid (by unfold unR; rw [if_pos h8])
    go_enter Tryd.func29, Tryd.ntmps29
    go_wp2_with fail
    exact bodyPost_ret (v := textOut (⟨#[]⟩, 0, 2)) (by simp [results, Tryd.results29, go_sem, textOut]) rfl ⟨txt_of HN.out.symm, (Below.refl _ _).alloc (Nat.le_refl _) _⟩
  by_cases h4 : s.size < 4
  · have HN : Hid (unR s = (⟨#[]⟩, 0, 4)) := Lib.hid (by unfold unR; rw [if_neg h8, if_pos h4])
    go_enter Tryd.func29, Tryd.ntmps29
    go_wp2_with fail
    exact bodyPost_ret (v := textOut (⟨#[]⟩, 0, 4)) (by simp [results, Tryd.results29, go_sem, textOut]) rfl ⟨txt_of HN.out.symm, (Below.refl _ _).alloc (Nat.le_refl _) _⟩
  have h8' : s.size ≤ 8000 := by omega
  have h4' : 4 ≤ s.size := by omega
  have hsz : ((s.size : Int) - 4) = ((s.size - 4 : Nat) : Int) := by omega
  have HB8 : Hid ((body s).size ≤ maxLen) := Lib.hid (by have := body_size s h8'; unfold maxLen; omega)
  have HM : Hid (more 0 (body s) < 4294967296) := Lib.hid (by unfold more; omega)
  by_cases hf : fits s = true
  · have HN : Hid (unR s = (body s, 0, 0)) := Lib.hid (by unfold unR; rw [if_neg h8, if_neg h4, if_pos hf])
    have hx : (!((four (more 0 (body s))).toList == (s.extract (s.size - 4) s.size).toList)) = false := by unfold fits tail4 at hf; rw [hf]; rfl
    have HX := Lib.hid hx
    clear h8 h4 hf hx
    have hw : IntKind.i64.wrap ((s.size - 4 : Nat) : Int) = ((s.size - 4 : Nat) : Int) := by rw [IntKind.wrap_i64]; omega
    have hw2 : (0 : Int) ≤ ((s.size - 4 : Nat) : Int) := by omega
    have hw3 : ((s.size - 4 : Nat) : Int) ≤ s.size := by omega
    go_enter Tryd.func29, Tryd.ntmps29
    go_wp2_with fail
    go_region_with (first | (go_at_call 43; refine (crc_spec_in 0 (body s) _ HB8.out (by decide)).mono ?_; rintro e w1 ⟨rfl, rfl⟩) | (go_at_call 42; refine (four_spec _ _ HM.out).mono ?_; rintro e w1 ⟨rfl, hb1⟩; have HB1 : Hid (Below (w.alloc (.cells #[.string ⟨#[]⟩, .int .i64 0, .int .i64 0] 31)).heap.size (w.alloc (.cells #[.string ⟨#[]⟩, .int .i64 0, .int .i64 0] 31)) w1) := Lib.hid ((Below.refl (w.alloc (.cells #[.string ⟨#[]⟩, .int .i64 0, .int .i64 0] 31)).heap.size (w.alloc (.cells #[.string ⟨#[]⟩, .int .i64 0, .int .i64 0] 31))).drew.trans hb1); clear hb1))
    have hb1 := HB1.out
    have hc0 := hb1.cell (p := ⟨w.heap.size, 0, none⟩) (by simp)
    have hc1 := hb1.cell (p := ⟨w.heap.size, 1, none⟩) (by simp)
    have hc2 := hb1.cell (p := ⟨w.heap.size, 2, none⟩) (by simp)
    have hf0 := hb1.frozen (p := ⟨w.heap.size, 0, none⟩) (by simp)
    have hf1 := hb1.frozen (p := ⟨w.heap.size, 1, none⟩) (by simp)
    have hf2 := hb1.frozen (p := ⟨w.heap.size, 2, none⟩) (by simp)
    simp at hc0 hc1 hc2 hf0 hf1 hf2
    have HB := Lib.hid (((Below.refl w.heap.size w).alloc (Nat.le_refl _) (.cells #[.string ⟨#[]⟩, .int .i64 0, .int .i64 0] 31)).trans (hb1.mono (by simp)))
    clear hb1 hw hw2 hw3 hsz
    go_wp2_with fail
    · have hb : (!((four (more 0 (body s))).toList == (s.extract (s.size - 4) s.size).toList)) = true := by assumption
      rw [HX.out] at hb
      cases hb
    · have k := res_cells' w1 w.heap.size _ _ _ (.string (s.extract 0 (s.size - 4))) (.int .i64 0) (.int .i64 0) hc0 hc1 hc2
      obtain ⟨k0, k1, k2⟩ := k
      refine bodyPost_ret (v := textOut (s.extract 0 (s.size - 4), 0, 0)) (by simp [results, Tryd.results29, go_sem, textOut, k0, k1, k2]) rfl ⟨txt_of HN.out.symm, ?_⟩
      exact ((HB.out.setCell (by simp) _).setCell (by simp) _).setCell (by simp) _
  · have HN : Hid (unR s = (⟨#[]⟩, 0, 5)) := Lib.hid (by unfold unR; rw [if_neg h8, if_neg h4, if_neg hf])
    have hx : (!((four (more 0 (body s))).toList == (s.extract (s.size - 4) s.size).toList)) = true := by unfold fits tail4 at hf; rw [Bool.not_eq_true] at hf; rw [hf]; rfl
    have HX := Lib.hid hx
    clear h8 h4 hf hx
    have hw : IntKind.i64.wrap ((s.size - 4 : Nat) : Int) = ((s.size - 4 : Nat) : Int) := by rw [IntKind.wrap_i64]; omega
    have hw2 : (0 : Int) ≤ ((s.size - 4 : Nat) : Int) := by omega
    have hw3 : ((s.size - 4 : Nat) : Int) ≤ s.size := by omega
    go_enter Tryd.func29, Tryd.ntmps29
    go_wp2_with fail
    go_region_with (first | (go_at_call 43; refine (crc_spec_in 0 (body s) _ HB8.out (by decide)).mono ?_; rintro e w1 ⟨rfl, rfl⟩) | (go_at_call 42; refine (four_spec _ _ HM.out).mono ?_; rintro e w1 ⟨rfl, hb1⟩; have HB1 : Hid (Below (w.alloc (.cells #[.string ⟨#[]⟩, .int .i64 0, .int .i64 0] 31)).heap.size (w.alloc (.cells #[.string ⟨#[]⟩, .int .i64 0, .int .i64 0] 31)) w1) := Lib.hid ((Below.refl (w.alloc (.cells #[.string ⟨#[]⟩, .int .i64 0, .int .i64 0] 31)).heap.size (w.alloc (.cells #[.string ⟨#[]⟩, .int .i64 0, .int .i64 0] 31))).drew.trans hb1); clear hb1))
    have hb1 := HB1.out
    have hc0 := hb1.cell (p := ⟨w.heap.size, 0, none⟩) (by simp)
    have hc1 := hb1.cell (p := ⟨w.heap.size, 1, none⟩) (by simp)
    have hc2 := hb1.cell (p := ⟨w.heap.size, 2, none⟩) (by simp)
    have hf0 := hb1.frozen (p := ⟨w.heap.size, 0, none⟩) (by simp)
    have hf1 := hb1.frozen (p := ⟨w.heap.size, 1, none⟩) (by simp)
    have hf2 := hb1.frozen (p := ⟨w.heap.size, 2, none⟩) (by simp)
    simp at hc0 hc1 hc2 hf0 hf1 hf2
    have HB := Lib.hid (((Below.refl w.heap.size w).alloc (Nat.le_refl _) (.cells #[.string ⟨#[]⟩, .int .i64 0, .int .i64 0] 31)).trans (hb1.mono (by simp)))
    clear hb1 hw hw2 hw3 hsz
    go_wp2_with fail
    · have k := res_cells' w1 w.heap.size _ _ _ (.string ⟨#[]⟩) (.int .i64 0) (.int .i64 5) hc0 hc1 hc2
      obtain ⟨k0, k1, k2⟩ := k
      refine bodyPost_ret (v := textOut (⟨#[]⟩, 0, 5)) (by simp [results, Tryd.results29, go_sem, textOut, k0, k1, k2]) rfl ⟨txt_of HN.out.symm, ?_⟩
      exact ((HB.out.setCell (by simp) _).setCell (by simp) _).setCell (by simp) _
    · have hb : (!((four (more 0 (body s))).toList == (s.extract (s.size - 4) s.size).toList)) = false := by assumption
      rw [HX.out] at hb
      cases hb

theorem lawUnseal (s : ByteArray) (w : World) (hg : Glob w) (hs : s.size ≤ maxLen) :
    Calls Tryd.prog 7 #[.string s] w fun e w' => e = .returned (.bool true) ∧ Below w.heap.size w w' := by
  have hs' := hs
  unfold maxLen at hs'
  by_cases hbig : 1048576 < s.size
  · go_enter Tryd.func7, Tryd.ntmps7
    go_wp2
    go_ret
    exact ⟨rfl, Below.refl _ _⟩
  · have HS := Lib.hid (fun w => uns_spec s w hs)
    have HI := Lib.hid (fun w hg => uns_impl s w hg hs)
    generalize unR s = R at *
    obtain ⟨n, q, c⟩ := R
    have HN : Hid (textOut (n, q, c) = .agg #[.string n, .int .i64 q, .int .i64 c]) := Lib.hid rfl
    have HG := Lib.hid hg
    clear hg
    go_enter Tryd.func7, Tryd.ntmps7
    go_wp2_with fail
    refine (HS.out _).mono ?_
    rintro e w1 ⟨rfl, hb1⟩
    rw [HN.out]
    have HB1 := Lib.hid (hb1.alloc hb1.size (.cells #[.string n, .int .i64 q, .int .i64 c] 31))
    have HG1 := Lib.hid (HG.out.grow HB1.out)
    clear hb1
    go_wp2_with fail
    refine (HI.out _ HG1.out).mono ?_
    rintro e w2 ⟨rfl, hb2⟩
    rw [HN.out]
    have hc0 := hb2.cell (p := ⟨w1.heap.size, 0, none⟩) (by simp)
    have hc1 := hb2.cell (p := ⟨w1.heap.size, 1, none⟩) (by simp)
    have hc2 := hb2.cell (p := ⟨w1.heap.size, 2, none⟩) (by simp)
    have hz := hb2.size
    simp at hc0 hc1 hc2 hz
    have hne : w1.heap.size < w2.heap.size := by omega
    have HB2 := Lib.hid (below_two HB1.out hb2)
    clear hb2
    go_wp2_with fail
    refine (eqText n q c _).mono ?_
    rintro e w3 ⟨rfl, hb3⟩
    have HB3 := Lib.hid ((HB2.out.alloc HB2.out.size (.cells #[.string n, .int .i64 q, .int .i64 c] 31)).trans (hb3.mono (by have := HB2.out.size; simp; omega)))
    clear hb3
    go_wp2_with fail
    go_ret
    exact ⟨rfl, HB3.out⟩
end Go.Proofs.YtghcolobjfgfgaaDoor
