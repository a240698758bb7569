/- GetNum: the program's function, and the law. -/
import Derived.Test.YtghcolobjfgfgaaDoorRead
import Derived.Handy
namespace Go.Proofs.YtghcolobjfgfgaaDoor
open Go Go.RowKit
attribute [local go_sem] Jumps_ret Jumps_normal Jumps_goto

/-- What GetNum answers. -/
def numR (s : ByteArray) (p : Int) : Int × Int × Int := if 8000 < s.size then (0, 0, 2) else if p < 0 then (0, 0, 1) else Rd.rd s p.toNat 10 0 0

set_option maxRecDepth 100000 in
theorem read_any (s : ByteArray) (p : Int) (w : World) (hs : s.size ≤ maxLen) (hp : p ≤ 9223372036854775807) :
    Calls Tryd.prog 34 #[.string s, .int .i64 p] w fun e w' => e = .returned (rdOut (numR s p)) ∧ w = w' := by
  by_cases h8 : 8000 < s.size
  · have HN : Hid (numR s p = (0, 0, 2)) := Lib.hid (by unfold numR; rw [if_pos h8])
    go_enter Tryd.func34, Tryd.ntmps34
    go_wp2_with fail
    refine wp_scope_labels (fun _ _ _ => False) (fun _ _ _ => 0) ?_ (fun _ _ _ h => h.elim)
    go_wp2_with (go_at_call 48; refine (place_big s p _ hs h8).mono ?_; rintro e w' ⟨rfl, rfl⟩)
    simp only [Jumps_ret]
    go_ret3
    exact ⟨by rw [HN.out]; rfl, rfl⟩
  · by_cases h0 : p < 0
    · have HN : Hid (numR s p = (0, 0, 1)) := Lib.hid (by unfold numR; rw [if_neg h8, if_pos h0])
      go_enter Tryd.func34, Tryd.ntmps34
      go_wp2_with fail
      refine wp_scope_labels (fun _ _ _ => False) (fun _ _ _ => 0) ?_ (fun _ _ _ h => h.elim)
      go_wp2_with (go_at_call 48; refine (place_neg s p _ (by omega) h0).mono ?_; rintro e w' ⟨rfl, rfl⟩)
      simp only [Jumps_ret]
      go_ret3
      exact ⟨by rw [HN.out]; rfl, rfl⟩
    · obtain ⟨n, rfl⟩ := Int.eq_ofNat_of_zero_le (show 0 ≤ p by omega)
      have e : numR s (n : Int) = Rd.rd s n 10 0 0 := by unfold numR; rw [if_neg h8, if_neg h0]; rfl
      rw [e]
      exact read_in s n w (by omega) (by omega)

theorem code_any (c : Int) (w : World) (hg : Glob w) :
    Calls Tryd.prog 35 #[if c = 0 then .nilIface else errV c] w fun e w' => e = .returned (.int .i64 c) ∧ Below w.heap.size w w' := by
  by_cases h : c = 0
  · subst h
    rw [if_pos rfl]
    exact code_nil w
  · rw [if_neg h]
    exact code_fault c w hg

theorem get_impl (s : ByteArray) (p : Int) (w : World) (hg : Glob w) (hs : s.size ≤ maxLen) (hp : p ≤ 9223372036854775807) :
    Calls Tryd.prog 11 #[.string s, .int .i64 p] w fun e w' => e = .returned (numOut (numR s p)) ∧ Below w.heap.size w w' := by
  have hb0 := (Below.refl w.heap.size w).alloc (Nat.le_refl _) (.cells #[.int .i64 0, .int .i64 0, .int .i64 0] 26)
  have HG := Lib.hid (hg.below hb0 hg.1)
  clear hg hb0
  generalize hr : numR s p = R
  have HR := Lib.hid (hr ▸ read_any s p (w.alloc (.cells #[.int .i64 0, .int .i64 0, .int .i64 0] 26)) hs hp)
  clear hr
  obtain ⟨n, q, c⟩ := R
  obtain ⟨E, hE⟩ : ∃ E : Value, E = if c = 0 then .nilIface else errV c := ⟨_, rfl⟩
  have HC := Lib.hid (hE ▸ code_any c (w.alloc (.cells #[.int .i64 0, .int .i64 0, .int .i64 0] 26)) HG.out)
  have HO : Hid (rdOut (n, q, c) = .tuple #[.int .i64 n, .int .i64 q, E]) := Lib.hid (by rw [hE]; rfl)
  clear hE
  go_enter Tryd.func11, Tryd.ntmps11
  go_wp2_with fail
  refine HR.out.mono ?_
  rintro e w' ⟨rfl, rfl⟩
  rw [HO.out]
  go_wp2_with fail
  refine HC.out.mono ?_
  rintro e w1 ⟨rfl, hb1⟩
  have hc0 := hb1.cell (p := ⟨w.heap.size, 0, none⟩) (by simp)
  have hc1 := hb1.cell (p := ⟨w.heap.size, 1, none⟩) (by simp)
  have hc2 := hb1.cell (p := ⟨w.heap.size, 2, none⟩) (by simp)
  have hf0 := hb1.frozen (p := ⟨w.heap.size, 0, none⟩) (by simp)
  have hf1 := hb1.frozen (p := ⟨w.heap.size, 1, none⟩) (by simp)
  have hf2 := hb1.frozen (p := ⟨w.heap.size, 2, none⟩) (by simp)
  simp at hc0 hc1 hc2 hf0 hf1 hf2
  have HB := Lib.hid (((Below.refl w.heap.size w).alloc (Nat.le_refl _) (.cells #[.int .i64 0, .int .i64 0, .int .i64 0] 26)).trans (hb1.mono (by simp)))
  clear hb1
  go_wp2_with fail
  refine bodyPost_ret (v := numOut (n, q, c)) (by simp [results, Tryd.results11, go_sem, numOut, hc0, hc1, hc2]) rfl ⟨rfl, ?_⟩
  exact ((HB.out.setCell (by simp) _).setCell (by simp) _).setCell (by simp) _

set_option maxRecDepth 100000 in
theorem get_spec (s : ByteArray) (p : Int) (w : World) (hs : s.size ≤ maxLen) (hp : p ≤ 9223372036854775807) :
    Calls Tryd.prog 25 #[.string s, .int .i64 p] w fun e w' => e = .returned (numOut (numR s p)) ∧ Below w.heap.size w w' := by
  have hs' := hs
  unfold maxLen at hs'
  by_cases h8 : 8000 < s.size
  · have HN : Hid (numR s p = (0, 0, 2)) := Lib.hid (by unfold numR; rw [if_pos h8])
    go_enter Tryd.func25, Tryd.ntmps25
    go_wp2_with fail
    exact bodyPost_ret (v := numOut (0, 0, 2)) (by simp [results, Tryd.results25, go_sem, numOut]) rfl ⟨numOut_of (by rw [HN.out]), (Below.refl _ _).alloc (Nat.le_refl _) _⟩
  · by_cases h0 : p < 0
    · have HN : Hid (numR s p = (0, 0, 1)) := Lib.hid (by unfold numR; rw [if_neg h8, if_pos h0])
      go_enter Tryd.func25, Tryd.ntmps25
      go_wp2_with fail
      exact bodyPost_ret (v := numOut (0, 0, 1)) (by simp [results, Tryd.results25, go_sem, numOut]) rfl ⟨numOut_of (by rw [HN.out]), (Below.refl _ _).alloc (Nat.le_refl _) _⟩
    · obtain ⟨n, rfl⟩ := Int.eq_ofNat_of_zero_le (show 0 ≤ p by omega)
      have e : numR s (n : Int) = Rd.rd s n 10 0 0 := by unfold numR; rw [if_neg h8, if_neg h0]; rfl
      rw [e]
      exact get_spec_in s n w (by omega) (by omega)

theorem below_two {w w1 w2 : World} (h1 : Below w.heap.size w w1) (h2 : Below w1.heap.size w1 w2) : Below w.heap.size w w2 := h1.trans (h2.mono h1.size)
theorem eqNum (n q c : Int) (w : World) : Calls Tryd.prog 26 #[.agg #[.int .i64 n, .int .i64 q, .int .i64 c], .agg #[.int .i64 n, .int .i64 q, .int .i64 c]] w fun e w' => e = .returned (.bool true) ∧ Below w.heap.size w w' := by
  have e1 : (n != n) = false := by simp
  have e2 : (q != q) = false := by simp
  have e3 : (c != c) = false := by simp
  go_enter Tryd.func26, Tryd.ntmps26
  go_wp2
  go_ret
  exact ⟨rfl, by go_grown⟩

theorem lawGetNum (s : ByteArray) (p : Int) (w : World) (hg : Glob w) (hs : s.size ≤ maxLen) (hp : (Lit.int .i64 p).wf = true) :
    Calls Tryd.prog 5 #[.string s, .int .i64 p] w fun e w' => e = .returned (.bool true) ∧ Below w.heap.size w w' := by
  have hb : p ≤ 9223372036854775807 := by
    simp only [Lit.wf, Bool.and_eq_true, decide_eq_true_eq] at hp
    exact hp.2
  have HP := Lib.hid hb
  clear hp hb
  have hs' := hs
  unfold maxLen at hs'
  by_cases hbig : 1048576 < s.size
  · go_enter Tryd.func5, Tryd.ntmps5
    go_wp2
    go_ret
    exact ⟨rfl, Below.refl _ _⟩
  · have HS := Lib.hid (fun w => get_spec s p w hs HP.out)
    have HI := Lib.hid (fun w hg => get_impl s p w hg hs HP.out)
    generalize numR s p = R at *
    obtain ⟨n, q, c⟩ := R
    have HN : Hid (numOut (n, q, c) = .agg #[.int .i64 n, .int .i64 q, .int .i64 c]) := Lib.hid rfl
    have HG := Lib.hid hg
    clear hg
    go_enter Tryd.func5, Tryd.ntmps5
    go_wp2_with fail
    refine (HS.out _).mono ?_
    rintro e w1 ⟨rfl, hb1⟩
    rw [HN.out]
    have HB1 := Lib.hid (hb1.alloc hb1.size (.cells #[.int .i64 n, .int .i64 q, .int .i64 c] 26))
    have HG1 := Lib.hid (HG.out.grow HB1.out)
    clear hb1
    go_wp2_with fail
    refine (HI.out _ HG1.out).mono ?_
    rintro e w2 ⟨rfl, hb2⟩
    rw [HN.out]
    have hc0 := hb2.cell (p := ⟨w1.heap.size, 0, none⟩) (by simp)
    have hc1 := hb2.cell (p := ⟨w1.heap.size, 1, none⟩) (by simp)
    have hc2 := hb2.cell (p := ⟨w1.heap.size, 2, none⟩) (by simp)
    have hz := hb2.size
    simp at hc0 hc1 hc2 hz
    have hne : w1.heap.size < w2.heap.size := by omega
    have HB2 := Lib.hid (below_two HB1.out hb2)
    clear hb2
    go_wp2_with fail
    refine (eqNum n q c _).mono ?_
    rintro e w3 ⟨rfl, hb3⟩
    have HB3 := Lib.hid ((HB2.out.alloc HB2.out.size (.cells #[.int .i64 n, .int .i64 q, .int .i64 c] 26)).trans (hb3.mono (by have := HB2.out.size; simp; omega)))
    clear hb3
    go_wp2_with fail
    go_ret
    exact ⟨rfl, HB3.out⟩
end Go.Proofs.YtghcolobjfgfgaaDoor
