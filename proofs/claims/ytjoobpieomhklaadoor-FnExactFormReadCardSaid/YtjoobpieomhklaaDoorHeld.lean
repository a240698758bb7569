/- The marks looked for; two answers of FormRead compared. -/
import Derived.Test.YtjoobpieomhklaaDoorMark
import Derived.Test.YtjoobpieomhklaaDoorReadSpec
namespace Go.Proofs.YtjoobpieomhklaaDoor
open Go Go.RowKit Go.Lib
set_option linter.unusedVariables false

def HeldRel (n k0 : Nat) (w : World) (x i : Value) (wr : World) : Prop := ∃ k : Nat, k ≤ n ∧ i = .int .i64 k ∧ x = .int .i64 ((k0 + 2 * k : Nat) : Int) ∧ Below w.heap.size w wr
set_option maxRecDepth 100000 in
set_option maxHeartbeats 800000 in
theorem heldPairS_some (g n cap k0 : Nat) (w : World) (hk0 : 1 ≤ k0) (hk : k0 + 2 * n < 100000) (hp : PairsAt w g 0 (marksL k0 n)) (hgl : g < w.heap.size) :
    Calls Tryd.prog 17 #[.slice (some ⟨g, 0, none⟩) n cap, .int .i64 (k0 : Int)] w fun e w' => e = .returned (.int .i64 ((k0 + 2 * n : Nat) : Int)) ∧ Below w.heap.size w w' := by
  have HP := Lib.hid hp
  clear hp
  go_enter Tryd.func17, Tryd.ntmps17
  go_wp2_with fail
  go_loopw [1, 5] (HeldRel n k0 w) (fun _ i _ => n - (RowKit.intOf i).toNat)
  case atStart => exact ⟨0, by omega, rfl, rfl, Below.refl _ _⟩
  case round =>
    obtain ⟨k, hkn, rfl, rfl, hbel⟩ := hrel
    have HB := Lib.hid hbel
    have hz := hbel.size
    by_cases hlt : k < n
    · have hkk : k0 + 2 * k < 100000 := by omega
      have hk1 : 1 ≤ k0 + 2 * k := by omega
      obtain ⟨a0, a1⟩ := HP.out.cells (marksL_get k0 n k hlt)
      obtain ⟨m, hm⟩ : ∃ m, m = k0 + 2 * k := ⟨_, rfl⟩
      rw [← hm] at hkk hk1 a0 a1
      rw [← hm]
      have HM := Lib.hid hm
      rw [Nat.zero_add] at a0 a1
      have c0 : wr.cell? ⟨g, k * 2, none⟩ = some (.string (markT m)) := (hbel.cell (p := ⟨g, k * 2, none⟩) hgl).trans a0
      have c1 : wr.cell? ⟨g, k * 2 + 1, none⟩ = some (.string (markT (m + 1))) := (hbel.cell (p := ⟨g, k * 2 + 1, none⟩) hgl).trans a1
      have e0 : ((markT m).toList == (markT m).toList) = true := list_eq rfl
      have e1 : ((markT (m + 1)).toList == (markT (m + 1)).toList) = true := list_eq rfl
      have hgr : g < wr.heap.size := by omega
      have HC1 := Lib.hid c1
      clear hm a0 a1 hbel
      go_wp2_with fail
      go_region_with (go_at_call 29; refine (markText_any m _ hk1 hkk).mono ?_; rintro e w1 ⟨rfl, hb1⟩; have q0 := (hb1.cell (p := ⟨g, k * 2, none⟩) (by simp; omega)).trans c0)
      all_goals
        have c1' : w1.cell? ⟨g, k * 2 + 1, none⟩ = some (.string (markT (m + 1))) := (hb1.cell (p := ⟨g, k * 2 + 1, none⟩) hgr).trans HC1.out
        have HB1 := Lib.hid (HB.out.drew.trans (hb1.mono hz))
        have hgr1 : g < w1.heap.size := Nat.lt_of_lt_of_le hgr hb1.size
        have hz1 := HB1.out.size
        have hm1 : m + 1 < 100000 := by have := HM.out; omega
        have hm0 : 1 ≤ m + 1 := by omega
        clear hb1 q0 c0 c1
        go_wp2_with fail
        go_region_with (go_at_call 29; refine (markText_any (m + 1) _ hm0 hm1).mono ?_; rintro e w2 ⟨rfl, hb2⟩; have q1 := (hb2.cell (p := ⟨g, k * 2 + 1, none⟩) (by simp; omega)).trans c1')
        all_goals
          have HB2 := Lib.hid (HB1.out.drew.trans (hb2.mono hz1))
          have HEq : Hid (((k0 + 2 * (k + 1) : Nat) : Int) = (m : Int) + 1 + 1) := Lib.hid (by have := HM.out; omega)
          clear hb2 q1 c1'
          go_wp2_with fail
          go_roundw
          case rel => exact ⟨k + 1, by omega, by go_num, by rw [HEq.out], HB2.out⟩
          case measure => simp [RowKit.intOf]; omega
    · obtain rfl : k = n := by omega
      go_wp2_with fail
      go_ret
      exact ⟨rfl, HB.out⟩

theorem eqPairS_nil (p p' : Option Addr) (cap cap' : Nat) (w : World) : Calls Tryd.prog 15 #[.slice p 0 cap, .slice p' 0 cap'] w fun e w' => e = .returned (.bool true) ∧ w = w' := by
  go_enter Tryd.func15, Tryd.ntmps15
  go_wp2_with fail
  go_loop [5] (fun i => i = .int .i64 0) (fun _ => 0)
  case atStart => exact rfl
  case round =>
    obtain rfl := hrel
    go_wp2_with fail
    go_ret
    exact ⟨rfl, rfl⟩
theorem eqPairS_V {w0 w0' w : World} {l : List Pr} {va vb : Value} (ha : PairsV w0 w l va) (hb : PairsV w0' w l vb) (hl : l.length ≤ 1048576) : Calls Tryd.prog 15 #[va, vb] w fun e w' => e = .returned (.bool true) ∧ Below w.heap.size w w' := by
  rcases ha with ⟨rfl, rfl⟩ | ⟨g, cap, rfl, _, _, h1, _⟩
  · rcases hb with ⟨_, rfl⟩ | ⟨g', cap', rfl, _, _, h2, _⟩
    · exact (eqPairS_nil _ _ _ _ w).mono fun _ _ ⟨h, e⟩ => ⟨h, e ▸ Below.refl _ _⟩
    · exact (eqPairS_nil _ _ _ _ w).mono fun _ _ ⟨h, e⟩ => ⟨h, e ▸ Below.refl _ _⟩
  · rcases hb with ⟨rfl, rfl⟩ | ⟨g', cap', rfl, _, _, h2, _⟩
    · exact (eqPairS_nil _ _ _ _ w).mono fun _ _ ⟨h, e⟩ => ⟨h, e ▸ Below.refl _ _⟩
    · exact eqPairS_same g 0 g' 0 _ _ _ _ l w rfl rfl h1 h2 hl

set_option maxRecDepth 100000 in
theorem eqFO {w0 w0' w : World} {l : List Pr} {va vb : Value} {c : Int} (ha : PairsV w0 w l va) (hb : PairsV w0' w l vb) (hl : l.length ≤ 1048576) : Calls Tryd.prog 6 #[.agg #[va, .int .i64 c], .agg #[vb, .int .i64 c]] w fun e w' => e = .returned (.bool true) ∧ Below w.heap.size w w' := by
  obtain ⟨pa, na, ca, rfl⟩ := ha.slice
  obtain ⟨pb, nb, cb, rfl⟩ := hb.slice
  have h2 := (((Below.refl w.heap.size w).alloc (Nat.le_refl _) (.cells #[Value.slice pa na ca, Value.int .i64 c] 24)).alloc (by simp) (.cells #[Value.slice pb nb cb, Value.int .i64 c] 24))
  have HA := Lib.hid (ha.later h2)
  have HB := Lib.hid (hb.later h2)
  have HB2 := Lib.hid h2
  have hz2 := h2.size
  clear h2 ha hb
  go_enter Tryd.func6, Tryd.ntmps6
  go_wp2_with fail
  refine (eqPairS_V HA.out HB.out hl).mono ?_
  rintro e w1 ⟨rfl, hb1⟩
  have hRa : Row ((w.alloc (.cells #[Value.slice pa na ca, Value.int .i64 c] 24)).alloc (.cells #[Value.slice pb nb cb, Value.int .i64 c] 24)) w.heap.size 24 [Value.slice pa na ca, Value.int .i64 c] := heap_old (heap_alloc_new w _) _
  have hRb : Row ((w.alloc (.cells #[Value.slice pa na ca, Value.int .i64 c] 24)).alloc (.cells #[Value.slice pb nb cb, Value.int .i64 c] 24)) (w.heap.size + 1) 24 [Value.slice pb nb cb, Value.int .i64 c] := by
    have h := heap_alloc_new (w.alloc (.cells #[Value.slice pa na ca, Value.int .i64 c] 24)) (.cells #[Value.slice pb nb cb, Value.int .i64 c] 24)
    rwa [show (w.alloc (.cells #[Value.slice pa na ca, Value.int .i64 c] 24)).heap.size = w.heap.size + 1 by simp] at h
  have c1 : w1.cell? ⟨w.heap.size, 1, none⟩ = some (.int .i64 c) := (hRa.below hb1 hRa.lt).cell 1
  have c2 : w1.cell? ⟨w.heap.size + 1, 1, none⟩ = some (.int .i64 c) := (hRb.below hb1 hRb.lt).cell 1
  have HB3 := Lib.hid (HB2.out.trans (hb1.mono hz2))
  clear hb1 hRa hRb
  go_wp2_with fail
  go_ret
  exact ⟨rfl, HB3.out⟩

def MarkFO (g n k0 : Nat) (w : World) (e : Ending) (w' : World) : Prop := e = .returned (.int .i64 ((k0 + 2 * n : Nat) : Int)) ∧ PairsAt w' g 0 (marksL k0 n) ∧ w.grownBy w' (some g)
theorem markFO_some (g n cap k0 : Nat) (c : Int) (w : World) (hk0 : 1 ≤ k0) (hk : k0 + 2 * n < 100000) (ht : w.there g 0 (n * 2)) (hgl : g < w.heap.size) : Calls Tryd.prog 7 #[.agg #[.slice (some ⟨g, 0, none⟩) n cap, .int .i64 c], .int .i64 (k0 : Int)] w (MarkFO g n k0 w) := by
  have hb := (Below.refl w.heap.size w).alloc (Nat.le_refl _) (.cells #[Value.slice (some ⟨g, 0, none⟩) n cap, Value.int .i64 c] 24)
  have HT := Lib.hid (there_below' ht hb hgl)
  have HG := Lib.hid (grown_of_below (r := some g) hb)
  clear hb ht
  go_enter Tryd.func7, Tryd.ntmps7
  go_wp2_with fail
  refine (markPairS_some g n cap k0 _ hk0 hk HT.out (by simp; omega)).mono ?_
  rintro e w1 ⟨rfl, h1, h2⟩
  have H1 := Lib.hid h1
  have H2 := Lib.hid (grown_trans HG.out h2)
  clear h1 h2
  go_wp2_with fail
  go_ret
  exact ⟨rfl, H1.out, H2.out⟩
theorem markFO_nil (p : Option Addr) (cap k0 : Nat) (c : Int) (w : World) (hk : k0 < 100000) : Calls Tryd.prog 7 #[.agg #[.slice p 0 cap, .int .i64 c], .int .i64 (k0 : Int)] w fun e w' => e = .returned (.int .i64 (k0 : Int)) ∧ Below w.heap.size w w' := by
  go_enter Tryd.func7, Tryd.ntmps7
  go_wp2_with (go_at_call 16; refine (markPairS_nil p cap k0 _ hk).mono ?_; rintro e w1 ⟨rfl, rfl⟩)
  go_ret
  exact ⟨rfl, (Below.refl _ _).alloc (Nat.le_refl _) _⟩
theorem heldFO_some (g n cap k0 : Nat) (c : Int) (w : World) (hk0 : 1 ≤ k0) (hk : k0 + 2 * n < 100000) (hp : PairsAt w g 0 (marksL k0 n)) (hgl : g < w.heap.size) : Calls Tryd.prog 8 #[.agg #[.slice (some ⟨g, 0, none⟩) n cap, .int .i64 c], .int .i64 (k0 : Int)] w fun e w' => e = .returned (.int .i64 ((k0 + 2 * n : Nat) : Int)) ∧ Below w.heap.size w w' := by
  have hb := (Below.refl w.heap.size w).alloc (Nat.le_refl _) (.cells #[Value.slice (some ⟨g, 0, none⟩) n cap, Value.int .i64 c] 24)
  have HP := Lib.hid (PairsAt.later hp hb)
  have HB := Lib.hid hb
  have hz := hb.size
  clear hb hp
  go_enter Tryd.func8, Tryd.ntmps8
  go_wp2_with fail
  refine (heldPairS_some g n cap k0 _ hk0 hk HP.out (by simp; omega)).mono ?_
  rintro e w1 ⟨rfl, h1⟩
  have H1 := Lib.hid (HB.out.trans (h1.mono hz))
  have hn : ¬ ((k0 + 2 * n : Nat) : Int) < 0 := by omega
  obtain ⟨m, hm⟩ : ∃ m : Nat, m = k0 + 2 * n := ⟨_, rfl⟩
  rw [← hm] at hn ⊢
  have HM := Lib.hid hm
  clear h1 hm
  go_wp2_with fail
  go_ret
  exact ⟨by rw [← HM.out]; rfl, H1.out⟩
theorem heldFO_nil (p : Option Addr) (cap k0 : Nat) (c : Int) (w : World) (hk : k0 < 100000) : Calls Tryd.prog 8 #[.agg #[.slice p 0 cap, .int .i64 c], .int .i64 (k0 : Int)] w fun e w' => e = .returned (.int .i64 (k0 : Int)) ∧ Below w.heap.size w w' := by
  go_enter Tryd.func8, Tryd.ntmps8
  go_wp2_with (go_at_call 17; refine (heldPairS_nil p cap k0 _ hk).mono ?_; rintro e w1 ⟨rfl, rfl⟩)
  go_ret
  exact ⟨rfl, (Below.refl _ _).alloc (Nat.le_refl _) _⟩
end Go.Proofs.YtjoobpieomhklaaDoor
