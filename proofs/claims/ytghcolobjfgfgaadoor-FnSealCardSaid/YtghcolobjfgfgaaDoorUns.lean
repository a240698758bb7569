/- Unseal: the walks. -/
import Derived.Test.YtghcolobjfgfgaaDoorTxt
import Derived.Test.YtghcolobjfgfgaaDoorSeal
import Derived.Deep.RegionWith
namespace Go.Proofs.YtghcolobjfgfgaaDoor
open Go Go.RowKit

def body (s : ByteArray) : ByteArray := s.extract 0 (s.size - 4)
def tail4 (s : ByteArray) : ByteArray := s.extract (s.size - 4) s.size
def fits (s : ByteArray) : Bool := (four (more 0 (body s))).toList == (tail4 s).toList
/-- What Unseal answers. -/
def unR (s : ByteArray) : ByteArray × Int × Int :=
  if 8000 < s.size then (⟨#[]⟩, 0, 2) else if s.size < 4 then (⟨#[]⟩, 0, 4) else if fits s = true then (body s, 0, 0) else (⟨#[]⟩, 0, 5)
theorem body_size (s : ByteArray) (h : s.size ≤ 8000) : (body s).size ≤ 8000 := by unfold body; rw [ByteArray.size_extract]; omega

def ruOut (r : ByteArray × Int × Int) : Value := .tuple #[.string r.1, if r.2.2 = 0 then .nilIface else errV r.2.2]

set_option maxRecDepth 100000 in
set_option maxHeartbeats 2000000 in
theorem open_any (s : ByteArray) (w : World) (hs : s.size ≤ maxLen) :
    Calls Tryd.prog 44 #[.string s] w fun e w' => e = .returned (ruOut (unR s)) ∧ Below w.heap.size w w' := by
  have hs' := hs
  unfold maxLen at hs'
  by_cases h8 : 8000 < s.size
  · have HN : Hid (unR s = (⟨#[]⟩, 0, 2)) := Lib.hid (by unfold unR; rw [if_pos h8])
    go_enter Tryd.func44, Tryd.ntmps44
    go_wp2_with fail
    go_ret2
    exact ⟨by rw [HN.out]; rfl, Below.refl _ _⟩
  by_cases h4 : s.size < 4
  · have HN : Hid (unR s = (⟨#[]⟩, 0, 4)) := Lib.hid (by unfold unR; rw [if_neg h8, if_pos h4])
    go_enter Tryd.func44, Tryd.ntmps44
    go_wp2_with fail
    go_ret2
    exact ⟨by rw [HN.out]; rfl, Below.refl _ _⟩
  have h8' : s.size ≤ 8000 := by omega
  have h4' : 4 ≤ s.size := by omega
  have hsz : ((s.size : Int) - 4) = ((s.size - 4 : Nat) : Int) := by omega
  have HB8 := body_size s h8'
  by_cases hf : fits s = true
  · have HN : Hid (unR s = (body s, 0, 0)) := Lib.hid (by unfold unR; rw [if_neg h8, if_neg h4, if_pos hf])
    have hx : (!((four (more 0 (body s))).toList == (s.extract (s.size - 4) s.size).toList)) = false := by unfold fits tail4 at hf; rw [hf]; rfl
    have HX := Lib.hid hx
    clear h8 h4 hf hx
    go_enter Tryd.func44, Tryd.ntmps44
    go_wp2_with fail
    go_region_with (go_at_call 41; refine (sum_impl (body s) _ HB8).mono ?_; rintro e w1 ⟨rfl, hb1⟩; have HB1 : Hid (Below w.heap.size w w1) := Lib.hid ((Below.refl w.heap.size w).drew.trans hb1); clear hb1)
    go_wp2_with fail
    · have hb : (!((four (more 0 (body s))).toList == (s.extract (s.size - 4) s.size).toList)) = true := by assumption
      rw [HX.out] at hb
      cases hb
    refine (join_any _ _ _ (ext_small s 0 (s.size - 4) h8')).mono ?_
    rintro e w2 ⟨rfl, hb2⟩
    rw [app_empty]
    have HB2 := Lib.hid (below_two HB1.out hb2)
    clear hb2
    go_wp2_with fail
    go_ret2
    exact ⟨by rw [HN.out]; rfl, HB2.out⟩
  · have HN : Hid (unR s = (⟨#[]⟩, 0, 5)) := Lib.hid (by unfold unR; rw [if_neg h8, if_neg h4, if_neg hf])
    have hx : (!((four (more 0 (body s))).toList == (s.extract (s.size - 4) s.size).toList)) = true := by unfold fits tail4 at hf; rw [Bool.not_eq_true] at hf; rw [hf]; rfl
    have HX := Lib.hid hx
    clear h8 h4 hf hx
    go_enter Tryd.func44, Tryd.ntmps44
    go_wp2_with fail
    go_region_with (go_at_call 41; refine (sum_impl (body s) _ HB8).mono ?_; rintro e w1 ⟨rfl, hb1⟩; have HB1 : Hid (Below w.heap.size w w1) := Lib.hid ((Below.refl w.heap.size w).drew.trans hb1); clear hb1)
    go_wp2_with fail
    · go_ret2
      exact ⟨by rw [HN.out]; rfl, HB1.out⟩
    · have hb : (!((four (more 0 (body s))).toList == (s.extract (s.size - 4) s.size).toList)) = false := by assumption
      rw [HX.out] at hb
      cases hb

theorem uns_impl (s : ByteArray) (w : World) (hg : Glob w) (hs : s.size ≤ maxLen) :
    Calls Tryd.prog 20 #[.string s] w fun e w' => e = .returned (textOut (unR s)) ∧ Below w.heap.size w w' := by
  have hb0 := (Below.refl w.heap.size w).alloc (Nat.le_refl _) (.cells #[.string ⟨#[]⟩, .int .i64 0, .int .i64 0] 31)
  have HG := Lib.hid (hg.below hb0 hg.1)
  clear hg hb0
  have hq : (unR s).2.1 = 0 := by unfold unR; split <;> (try rfl); split <;> (try rfl); split <;> rfl
  generalize hr : unR s = R at hq ⊢
  have HR := Lib.hid (hr ▸ open_any s (w.alloc (.cells #[.string ⟨#[]⟩, .int .i64 0, .int .i64 0] 31)) hs)
  clear hr
  obtain ⟨n, q, c⟩ := R
  obtain rfl : q = 0 := hq
  obtain ⟨E, hE⟩ : ∃ E : Value, E = if c = 0 then .nilIface else errV c := ⟨_, rfl⟩
  have HC := Lib.hid (fun w hg => hE ▸ code_any c w hg)
  have HO : Hid (ruOut (n, 0, c) = .tuple #[.string n, E]) := Lib.hid (by rw [hE]; rfl)
  clear hE
  go_enter Tryd.func20, Tryd.ntmps20
  go_wp2_with fail
  refine HR.out.mono ?_
  rintro e w1 ⟨rfl, hb1⟩
  rw [HO.out]
  have HG1 := Lib.hid (HG.out.grow hb1)
  have HB1 := Lib.hid hb1
  clear hb1
  go_wp2_with fail
  refine (HC.out _ HG1.out).mono ?_
  rintro e w2 ⟨rfl, hb2⟩
  have hb1 := below_two HB1.out hb2
  have hc0 := hb1.cell (p := ⟨w.heap.size, 0, none⟩) (by simp)
  have hc1 := hb1.cell (p := ⟨w.heap.size, 1, none⟩) (by simp)
  have hc2 := hb1.cell (p := ⟨w.heap.size, 2, none⟩) (by simp)
  have hf0 := hb1.frozen (p := ⟨w.heap.size, 0, none⟩) (by simp)
  have hf1 := hb1.frozen (p := ⟨w.heap.size, 1, none⟩) (by simp)
  have hf2 := hb1.frozen (p := ⟨w.heap.size, 2, none⟩) (by simp)
  simp at hc0 hc1 hc2 hf0 hf1 hf2
  have HB := Lib.hid (((Below.refl w.heap.size w).alloc (Nat.le_refl _) (.cells #[.string ⟨#[]⟩, .int .i64 0, .int .i64 0] 31)).trans (hb1.mono (by simp)))
  clear hb1 hb2
  go_wp2_with fail
  refine bodyPost_ret (v := textOut (n, 0, c)) (by simp [results, Tryd.results20, go_sem, textOut, hc0, hc1, hc2]) rfl ⟨rfl, ?_⟩
  exact ((HB.out.setCell (by simp) _).setCell (by simp) _).setCell (by simp) _

end Go.Proofs.YtghcolobjfgfgaaDoor
