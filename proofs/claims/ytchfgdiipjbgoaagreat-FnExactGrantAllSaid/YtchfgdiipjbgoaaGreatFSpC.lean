/- The model: a key put in its place. -/
import Derived.Test.YtchfgdiipjbgoaaGreatFSpB
import Derived.Test.YtchfgdiipjbgoaaGreatFGdA
namespace Go.Proofs.YtchfgdiipjbgoaaGreat
open Go Go.RowKit Go.Lib
set_option linter.unusedVariables false
set_option maxRecDepth 100000

def keyG (g : Gr) (x : Ky) : Gr := ⟨g.now, g.words, insK g.keys x, g.dead⟩
def PutS (tl : Tail) (N p : Nat) (h : GH) (g : Gr) (x : Ky) (w : World) (e : Ending) (w' : World) : Prop := e = .returned (.tuple #[]) ∧ ∃ kp kn kc, GrAt tl N w' p ⟨h.wp, h.wn, h.wc, kp, kn, kc, h.dp, h.dn, h.dc⟩ (keyG g x) ∧ Kept w.heap.size p p p w w'
def PlRelW {α : Type} (lt : α → Bool) (l : List α) (w : World) (i : Value) (wr : World) : Prop := ∃ k : Nat, k ≤ l.length ∧ i = .int .i64 k ∧ (∀ (j : Nat) (y : α), j < k → l[j]? = some y → lt y = true) ∧ Below w.heap.size w wr
def ZeroW (w : World) (i : Value) (wr : World) : Prop := i = .int .i64 0 ∧ Below w.heap.size w wr
set_option maxHeartbeats 4000000 in
theorem put_spec {tl : Tail} {N p : Nat} {h : GH} {g : Gr} {w : World} (x : Ky) (hg : GrAt tl N w p h g) (hlen : g.keys.length ≤ 1000) : Calls Tryz.prog 223 #[.pointer (some ⟨p, 0, none⟩), kyV x] w (PutS tl N p h g x w) := by
 obtain ⟨wp, wn, wc, kp, kn, kc, dp, dn, dc⟩ := h
 unfold kyV
 have hpz := hg.row.lt
 have hN := hg.place
 obtain ⟨n, hn⟩ : ∃ n, n = g.keys.length := ⟨_, rfl⟩
 have hd := hg.keys
 rw [← hn] at hlen
 have HN := Lib.hid hn
 obtain ⟨ii, hi, hz0', hz1, hz2⟩ := info_parts infoKey
 obtain ⟨X, hX⟩ : ∃ X, X = w.alloc (.cells #[.int .i64 x.no, .int .i64 x.client, .int .i64 x.fam, .bool x.refresh, .int .i64 x.till, .int .i64 x.state] 138) := ⟨_, rfl⟩
 obtain ⟨s, hs⟩ : ∃ s, s = w.heap.size := ⟨_, rfl⟩
 have hbx : Below w.heap.size w X := by rw [hX]; exact (Below.refl _ _).alloc (Nat.le_refl _) _
 have hrx : Row X s 138 (kyCf x) := by rw [hX, hs]; exact heap_alloc_new w _
 have HX0 := Lib.hid hX
 have HSe := Lib.hid hs
 have HBx := Lib.hid hbx
 have HRBx := Lib.hid hrx
 have HGx := Lib.hid (hg.later hbx)
 have hzx := hbx.size
 clear hX hs hbx hrx
 rcases own_ways hd with ⟨rfl, rfl, rfl, h0⟩ | ⟨gN, rfl, hgb, hgl, hdn, hcap, hcm⟩
 ·have hl : g.keys = [] := List.eq_nil_of_length_eq_zero h0
  have HL := Lib.hid hl
  have hn0 : n = 0 := by rw [hn, h0]
  have hkn : 0 ≤ n := by omega
  have HI : Hid (insK g.keys x = g.keys.take 0 ++ x :: g.keys.drop 0) := Lib.hid (by rw [hl]; rfl)
  clear hd hn hl hg
  go_enter Tryz.func223, Tryz.ntmps223
  go_wp2_with fail
  rw [← HX0.out, ← HSe.out]
  go_loopw [4] (ZeroW X) (fun _ _ => 0)
  case atStart => exact ⟨rfl, Below.refl _ _⟩
  case round =>
   obtain ⟨rfl, hbel⟩ := hrel
   obtain HBr : Hid (Below w.heap.size w wr) := Lib.hid (HBx.out.trans (hbel.mono hzx))
   have hzr := HBr.out.size
   have HGr := Lib.hid (HGx.out.later hbel)
   have HRB := Lib.hid (HRBx.out.below hbel HRBx.out.lt)
   have fp : ∀ u : Ext wr, u.w.cell? ⟨p, 2, none⟩ = some (.slice none 0 0) := fun u => u.cell (HGr.out.row.cell 2)
   have fb : ∀ u : Ext wr, u.w.cell? ⟨s, 0, none⟩ = some (.int .i64 x.no) := fun u => u.cell (HRB.out.cell 0)
   clear hbel
   go_wp2_with fail
   refine ext_region wr (by kernel_rfl) (by kernel_rfl) (Below.refl _ _) ?_
   repeat (go_big_quiet_step (fail))
   refine wpQuiet_nil ?_
   intro w2 hb2
   have HB0 := Lib.hid (HBr.out.trans (hb2.mono hzr))
   have hz2' := HB0.out.size
   have HG0 := Lib.hid (HGr.out.later hb2)
   have HRB2 := Lib.hid (HRB.out.below hb2 HRB.out.lt)
   clear hb2
   have hbE := (Below.refl w2.heap.size w2).alloc (Nat.le_refl _) (.cells #[] 138)
   have hSs := HG0.out.later hbE
   have HS1 : Hid (Src kyCf (w2.alloc (.cells #[] 138)) (.slice none 0 0) (g.keys.take 0)) := Lib.hid (Src.nil (by rw [HL.out]; rfl))
   have HOE := Lib.hid (World.ownsRow_made (base := w2.heap.size) (size := 6) (e := 138) w2 #[] 0 (Nat.le_refl _) (Nat.zero_le _) rfl)
   have c0 : (w2.alloc (.cells #[] 138)).cell? ⟨p, 2, none⟩ = some (.slice none 0 0) := hSs.row.cell 2
   have HbE := Lib.hid hbE
   have HLE : Hid (0 + (g.keys.take 0).length ≤ 1048576) := Lib.hid (by rw [List.length_take]; omega)
   have HZE : Hid (w2.heap.size ≤ (w2.alloc (.cells #[] 138)).heap.size) := Lib.hid (by simp)
   clear hbE hSs
   go_wp2_with (first
    | (at_builtin; refine wpList_apps (cf := kyCf) (l := g.keys.take 0) rfl (.tmp 28) (.tmp 34) 24 138 rfl ii _ 6 48 Tryz.underlying24 hi hz0' hz1 hz2 rfl (by decide) (by decide) kyCf_len oneKy w2.heap.size _ 0 [] rfl HOE.out _ rfl HS1.out HLE.out HZE.out ?_; intro v1 w1 o1 g1; have hb1 := below_grown HbE.out HZE.out HOE.out g1; have HB1 := Lib.hid hb1; have HO1 := Lib.hid (own_cast o1 (n' := 0) (by rw [List.length_take, ← HN.out]; omega) rfl); have HZ1 := Lib.hid hb1.size; have r1 := HRB2.out.below hb1 HRB2.out.lt; have q0 : w1.cell? ⟨s, 0, none⟩ = some (.int .i64 x.no) := r1.cell 0; have q1 : w1.cell? ⟨s, 1, none⟩ = some (.int .i64 x.client) := r1.cell 1; have q2 : w1.cell? ⟨s, 2, none⟩ = some (.int .i64 x.fam) := r1.cell 2; have q3 : w1.cell? ⟨s, 3, none⟩ = some (.bool x.refresh) := r1.cell 3; have q4 : w1.cell? ⟨s, 4, none⟩ = some (.int .i64 x.till) := r1.cell 4; have q5 : w1.cell? ⟨s, 5, none⟩ = some (.int .i64 x.state) := r1.cell 5; clear r1; clear o1 g1 hb1 c0)
    | (at_builtin; refine wpList_app1 rfl (.tmp 36) (.tmp 38) 24 138 rfl ii _ 6 48 Tryz.underlying24 hi hz0' hz1 hz2 rfl (by decide) (by decide) w2.heap.size HZ1.out v1 0 _ (kyCf x) rfl HO1.out _ rfl rfl rfl (oneKy x) (by omega) ?_; intro v2 w3 o2 g2; have hb2 := below_grown (HB1.out.alloc HZ1.out _) (by have := HZ1.out; simp; omega) (HO1.out.alloc _) g2; have HB2 := Lib.hid hb2; have HO2 := Lib.hid o2; have HZ2 := Lib.hid hb2.size; have c2 : w3.cell? ⟨p, 2, none⟩ = some (.slice none 0 0) := (HG0.out.later hb2).row.cell 2; clear o2 g2 hb2 q0 q1 q2 q3 q4 q5)
    | (at_builtin; refine wpList_apps (cf := kyCf) (l := g.keys.drop 0) rfl (.tmp 41) (.tmp 47) 24 138 rfl ii _ 6 48 Tryz.underlying24 hi hz0' hz1 hz2 rfl (by decide) (by decide) kyCf_len oneKy w2.heap.size v2 (0 + 1) _ rfl HO2.out _ rfl (Src.nil (by rw [HL.out]; rfl)) (by rw [List.length_drop, ← HN.out]; omega) HZ2.out ?_; intro v3 w4 o3 g3; obtain ⟨dp', dc', rfl⟩ := own_slc o3; obtain ⟨m3, hm3⟩ : ∃ m3, m3 = 0 + 1 + (g.keys.drop 0).length := ⟨_, rfl⟩; rw [← hm3] at o3 ⊢; have HM3 := Lib.hid hm3; have hb3 := below_grown HB2.out HZ2.out HO2.out g3; have HB3 := Lib.hid hb3; have HO3 := Lib.hid o3; have c3' : w4.cell? ⟨p, 2, none⟩ = some (.slice none 0 0) := (HG0.out.later hb3).row.cell 2; have f3' : w4.frozen? ⟨p, 2, none⟩ = false := (HG0.out.later hb3).row.free 2; clear o3 g3 hb3 c2 hm3))
   go_returns
   have HG3 := HG0.out.later HB3.out
   refine ⟨rfl, dp', m3, dc', ⟨HG3.row.set 2 _, own_set _ HG3.words (row_own_ne HG3.row HG3.words (by first | decide | exact tl.hW | exact tl.hK | exact tl.hI)), own_set _ (own_down (own_cast HO3.out ?_ ?_) (by omega)) (row_own_ne HG3.row HO3.out (by first | decide | exact tl.hW | exact tl.hK | exact tl.hI)), own_set _ HG3.dead (row_own_ne HG3.row HG3.dead (by first | decide | exact tl.hW | exact tl.hK | exact tl.hI)), hN⟩, (Kept.of_below (HB0.out.trans (HB3.out.mono hz2'))).setCell (a := ⟨p, 2, none⟩) _ (.inl rfl)⟩
   ·show _ = (insK g.keys x).length
    rw [HM3.out, HI.out, List.length_append, List.length_cons, List.length_take, ← HN.out]
    omega
   ·show _ = (insK g.keys x).flatMap kyCf
    rw [HI.out]
    simp
 ·rw [← hn] at hdn hcap
  have hdn' := hdn.symm
  subst hdn'
  by_cases hn0 : n = 0
  ·have hl : g.keys = [] := List.eq_nil_of_length_eq_zero (by omega)
   have HL := Lib.hid hl
   subst hn0
   have hkn : 0 ≤ 0 := by omega
   have HI : Hid (insK g.keys x = g.keys.take 0 ++ x :: g.keys.drop 0) := Lib.hid (by rw [hl]; rfl)
   clear hd hn hl hg
   go_enter Tryz.func223, Tryz.ntmps223
   go_wp2_with fail
   rw [← HX0.out, ← HSe.out]
   go_loopw [4] (ZeroW X) (fun _ _ => 0)
   case atStart => exact ⟨rfl, Below.refl _ _⟩
   case round =>
    obtain ⟨rfl, hbel⟩ := hrel
    obtain HBr : Hid (Below w.heap.size w wr) := Lib.hid (HBx.out.trans (hbel.mono hzx))
    have hzr := HBr.out.size
    have HGr := Lib.hid (HGx.out.later hbel)
    have HRB := Lib.hid (HRBx.out.below hbel HRBx.out.lt)
    have fp : ∀ u : Ext wr, u.w.cell? ⟨p, 2, none⟩ = some (.slice (some ⟨gN, 0, none⟩) 0 kc) := fun u => u.cell (HGr.out.row.cell 2)
    have fb : ∀ u : Ext wr, u.w.cell? ⟨s, 0, none⟩ = some (.int .i64 x.no) := fun u => u.cell (HRB.out.cell 0)
    clear hbel
    go_wp2_with fail
    refine ext_region wr (by kernel_rfl) (by kernel_rfl) (Below.refl _ _) ?_
    repeat (go_big_quiet_step (fail))
    refine wpQuiet_nil ?_
    intro w2 hb2
    have HB0 := Lib.hid (HBr.out.trans (hb2.mono hzr))
    have hz2' := HB0.out.size
    have HG0 := Lib.hid (HGr.out.later hb2)
    have HRB2 := Lib.hid (HRB.out.below hb2 HRB.out.lt)
    clear hb2
    have hbE := (Below.refl w2.heap.size w2).alloc (Nat.le_refl _) (.cells #[] 138)
    have hSs := HG0.out.later hbE
    have HS1 : Hid (Src kyCf (w2.alloc (.cells #[] 138)) (.slice (some ⟨gN, 0, none⟩) 0 kc) (g.keys.take 0)) := Lib.hid (Src.zero (by rw [HL.out]; rfl) rfl)
    have HOE := Lib.hid (World.ownsRow_made (base := w2.heap.size) (size := 6) (e := 138) w2 #[] 0 (Nat.le_refl _) (Nat.zero_le _) rfl)
    have c0 : (w2.alloc (.cells #[] 138)).cell? ⟨p, 2, none⟩ = some (.slice (some ⟨gN, 0, none⟩) 0 kc) := hSs.row.cell 2
    have HbE := Lib.hid hbE
    have HLE : Hid (0 + (g.keys.take 0).length ≤ 1048576) := Lib.hid (by rw [List.length_take]; omega)
    have HZE : Hid (w2.heap.size ≤ (w2.alloc (.cells #[] 138)).heap.size) := Lib.hid (by simp)
    clear hbE hSs
    go_wp2_with (first
     | (at_builtin; refine wpList_apps (cf := kyCf) (l := g.keys.take 0) rfl (.tmp 28) (.tmp 34) 24 138 rfl ii _ 6 48 Tryz.underlying24 hi hz0' hz1 hz2 rfl (by decide) (by decide) kyCf_len oneKy w2.heap.size _ 0 [] rfl HOE.out _ rfl HS1.out HLE.out HZE.out ?_; intro v1 w1 o1 g1; have hb1 := below_grown HbE.out HZE.out HOE.out g1; have HB1 := Lib.hid hb1; have HO1 := Lib.hid (own_cast o1 (n' := 0) (by rw [List.length_take, ← HN.out]; omega) rfl); have HZ1 := Lib.hid hb1.size; have r1 := HRB2.out.below hb1 HRB2.out.lt; have q0 : w1.cell? ⟨s, 0, none⟩ = some (.int .i64 x.no) := r1.cell 0; have q1 : w1.cell? ⟨s, 1, none⟩ = some (.int .i64 x.client) := r1.cell 1; have q2 : w1.cell? ⟨s, 2, none⟩ = some (.int .i64 x.fam) := r1.cell 2; have q3 : w1.cell? ⟨s, 3, none⟩ = some (.bool x.refresh) := r1.cell 3; have q4 : w1.cell? ⟨s, 4, none⟩ = some (.int .i64 x.till) := r1.cell 4; have q5 : w1.cell? ⟨s, 5, none⟩ = some (.int .i64 x.state) := r1.cell 5; clear r1; clear o1 g1 hb1 c0)
     | (at_builtin; refine wpList_app1 rfl (.tmp 36) (.tmp 38) 24 138 rfl ii _ 6 48 Tryz.underlying24 hi hz0' hz1 hz2 rfl (by decide) (by decide) w2.heap.size HZ1.out v1 0 _ (kyCf x) rfl HO1.out _ rfl rfl rfl (oneKy x) (by omega) ?_; intro v2 w3 o2 g2; have hb2 := below_grown (HB1.out.alloc HZ1.out _) (by have := HZ1.out; simp; omega) (HO1.out.alloc _) g2; have HB2 := Lib.hid hb2; have HO2 := Lib.hid o2; have HZ2 := Lib.hid hb2.size; have c2 : w3.cell? ⟨p, 2, none⟩ = some (.slice (some ⟨gN, 0, none⟩) 0 kc) := (HG0.out.later hb2).row.cell 2; clear o2 g2 hb2 q0 q1 q2 q3 q4 q5)
     | (at_builtin; refine wpList_apps (cf := kyCf) (l := g.keys.drop 0) rfl (.tmp 41) (.tmp 47) 24 138 rfl ii _ 6 48 Tryz.underlying24 hi hz0' hz1 hz2 rfl (by decide) (by decide) kyCf_len oneKy w2.heap.size v2 (0 + 1) _ rfl HO2.out _ rfl (Src.zero (by rw [HL.out]; rfl) rfl) (by rw [List.length_drop, ← HN.out]; omega) HZ2.out ?_; intro v3 w4 o3 g3; obtain ⟨dp', dc', rfl⟩ := own_slc o3; obtain ⟨m3, hm3⟩ : ∃ m3, m3 = 0 + 1 + (g.keys.drop 0).length := ⟨_, rfl⟩; rw [← hm3] at o3 ⊢; have HM3 := Lib.hid hm3; have hb3 := below_grown HB2.out HZ2.out HO2.out g3; have HB3 := Lib.hid hb3; have HO3 := Lib.hid o3; have c3' : w4.cell? ⟨p, 2, none⟩ = some (.slice (some ⟨gN, 0, none⟩) 0 kc) := (HG0.out.later hb3).row.cell 2; have f3' : w4.frozen? ⟨p, 2, none⟩ = false := (HG0.out.later hb3).row.free 2; clear o3 g3 hb3 c2 hm3))
    go_returns
    have HG3 := HG0.out.later HB3.out
    refine ⟨rfl, dp', m3, dc', ⟨HG3.row.set 2 _, own_set _ HG3.words (row_own_ne HG3.row HG3.words (by first | decide | exact tl.hW | exact tl.hK | exact tl.hI)), own_set _ (own_down (own_cast HO3.out ?_ ?_) (by omega)) (row_own_ne HG3.row HO3.out (by first | decide | exact tl.hW | exact tl.hK | exact tl.hI)), own_set _ HG3.dead (row_own_ne HG3.row HG3.dead (by first | decide | exact tl.hW | exact tl.hK | exact tl.hI)), hN⟩, (Kept.of_below (HB0.out.trans (HB3.out.mono hz2'))).setCell (a := ⟨p, 2, none⟩) _ (.inl rfl)⟩
    ·show _ = (insK g.keys x).length
     rw [HM3.out, HI.out, List.length_append, List.length_cons, List.length_take, ← HN.out]
     omega
    ·show _ = (insK g.keys x).flatMap kyCf
     rw [HI.out]
     simp
  have hnp : 0 < n := by omega
  clear hn0 hd hn hg
  go_enter Tryz.func223, Tryz.ntmps223
  go_wp2_with fail
  rw [← HX0.out, ← HSe.out]
  go_loopw [4] (PlRelW (fun y : Ky => decide (y.no < x.no)) g.keys X) (fun i _ => n - (RowKit.intOf i).toNat)
  case atStart => exact ⟨0, by omega, rfl, fun j y h => by omega, Below.refl _ _⟩
  case round =>
   obtain ⟨k, hk, rfl, hr, hbel⟩ := hrel
   rw [← HN.out] at hk
   have hkn := hk
   have HR := Lib.hid hr
   have HBl := Lib.hid hbel
   clear hr
   obtain HBr : Hid (Below w.heap.size w wr) := Lib.hid (HBx.out.trans (hbel.mono hzx))
   have hzr := HBr.out.size
   have HGr := Lib.hid (HGx.out.later hbel)
   have HRB := Lib.hid (HRBx.out.below hbel HRBx.out.lt)
   have fp : ∀ u : Ext wr, u.w.cell? ⟨p, 2, none⟩ = some (.slice (some ⟨gN, 0, none⟩) n kc) := fun u => u.cell (HGr.out.row.cell 2)
   have fb : ∀ u : Ext wr, u.w.cell? ⟨s, 0, none⟩ = some (.int .i64 x.no) := fun u => u.cell (HRB.out.cell 0)
   clear hbel
   by_cases hlt : k < n
   ·obtain ⟨y, hy⟩ : ∃ y, g.keys[k]? = some y := ⟨_, List.getElem?_eq_getElem (by rw [← HN.out]; exact hlt)⟩
    have cy := (ky_cells (own_lat HGr.out.keys) hy).1
    rw [Nat.zero_add] at cy
    have fy : ∀ u : Ext wr, u.w.cell? ⟨gN, k * 6, none⟩ = some (.int .i64 y.no) := fun u => u.cell cy
    have HY := Lib.hid hy
    clear hy cy
    by_cases h1 : y.no < x.no
    ·have e1 : decide (y.no < x.no) = true := decide_eq_true h1
     have H1 := Lib.hid h1
     clear h1
     go_wp2_with fail
     refine ext_region wr (by kernel_rfl) (by kernel_rfl) (Below.refl _ _) ?_
     repeat (go_big_quiet_step (fail))
     refine wpQuiet_nil ?_
     intro w2 hb2
     have HB0 := Lib.hid (HBr.out.trans (hb2.mono hzr))
     have hz2' := HB0.out.size
     have HG0 := Lib.hid (HGr.out.later hb2)
     have HRB2 := Lib.hid (HRB.out.below hb2 HRB.out.lt)
     have HBl2 := Lib.hid (HBl.out.trans (hb2.mono HBl.out.size))
     clear hb2
     go_wp2_with fail
     go_roundw
     case rel =>
      refine ⟨k + 1, by rw [← HN.out]; omega, by go_num, fun j z hj hz => ?_, HBl2.out⟩
      by_cases e : j = k
      ·subst e
       rw [HY.out] at hz
       obtain rfl := Option.some.inj hz
       exact decide_eq_true H1.out
      ·exact HR.out j z (by omega) hz
     case measure => simp [RowKit.intOf]; omega
    ·have e1 : decide (y.no < x.no) = false := decide_eq_false h1
     have HI : Hid (insK g.keys x = g.keys.take k ++ x :: g.keys.drop k) := Lib.hid (insK_at (fun j z hj hz => of_decide_eq_true (HR.out j z hj hz)) (fun z hz => by rw [HY.out] at hz; obtain rfl := Option.some.inj hz; exact h1) (by rw [← HN.out]; exact hk))
     clear h1
     go_wp2_with fail
     refine ext_region wr (by kernel_rfl) (by kernel_rfl) (Below.refl _ _) ?_
     repeat (go_big_quiet_step (fail))
     refine wpQuiet_nil ?_
     intro w2 hb2
     have HB0 := Lib.hid (HBr.out.trans (hb2.mono hzr))
     have hz2' := HB0.out.size
     have HG0 := Lib.hid (HGr.out.later hb2)
     have HRB2 := Lib.hid (HRB.out.below hb2 HRB.out.lt)
     clear hb2
     have hbE := (Below.refl w2.heap.size w2).alloc (Nat.le_refl _) (.cells #[] 138)
     have hSs := HG0.out.later hbE
     have HS1 : Hid (Src kyCf (w2.alloc (.cells #[] 138)) (.slice (some ⟨gN, 0, none⟩) k kc) (g.keys.take k)) := Lib.hid (Src.mkAt ((own_lat hSs.keys).takeK k) rfl (by rw [List.length_take, ← HN.out]; omega))
     have HOE := Lib.hid (World.ownsRow_made (base := w2.heap.size) (size := 6) (e := 138) w2 #[] 0 (Nat.le_refl _) (Nat.zero_le _) rfl)
     have c0 : (w2.alloc (.cells #[] 138)).cell? ⟨p, 2, none⟩ = some (.slice (some ⟨gN, 0, none⟩) n kc) := hSs.row.cell 2
     have HbE := Lib.hid hbE
     have HLE : Hid (0 + (g.keys.take k).length ≤ 1048576) := Lib.hid (by rw [List.length_take]; omega)
     have HZE : Hid (w2.heap.size ≤ (w2.alloc (.cells #[] 138)).heap.size) := Lib.hid (by simp)
     clear hbE hSs
     go_wp2_with (first
      | (at_builtin; refine wpList_apps (cf := kyCf) (l := g.keys.take k) rfl (.tmp 28) (.tmp 34) 24 138 rfl ii _ 6 48 Tryz.underlying24 hi hz0' hz1 hz2 rfl (by decide) (by decide) kyCf_len oneKy w2.heap.size _ 0 [] rfl HOE.out _ rfl HS1.out HLE.out HZE.out ?_; intro v1 w1 o1 g1; have hb1 := below_grown HbE.out HZE.out HOE.out g1; have HB1 := Lib.hid hb1; have HO1 := Lib.hid (own_cast o1 (n' := k) (by rw [List.length_take, ← HN.out]; omega) rfl); have HZ1 := Lib.hid hb1.size; have r1 := HRB2.out.below hb1 HRB2.out.lt; have q0 : w1.cell? ⟨s, 0, none⟩ = some (.int .i64 x.no) := r1.cell 0; have q1 : w1.cell? ⟨s, 1, none⟩ = some (.int .i64 x.client) := r1.cell 1; have q2 : w1.cell? ⟨s, 2, none⟩ = some (.int .i64 x.fam) := r1.cell 2; have q3 : w1.cell? ⟨s, 3, none⟩ = some (.bool x.refresh) := r1.cell 3; have q4 : w1.cell? ⟨s, 4, none⟩ = some (.int .i64 x.till) := r1.cell 4; have q5 : w1.cell? ⟨s, 5, none⟩ = some (.int .i64 x.state) := r1.cell 5; clear r1; clear o1 g1 hb1 c0)
      | (at_builtin; refine wpList_app1 rfl (.tmp 36) (.tmp 38) 24 138 rfl ii _ 6 48 Tryz.underlying24 hi hz0' hz1 hz2 rfl (by decide) (by decide) w2.heap.size HZ1.out v1 k _ (kyCf x) rfl HO1.out _ rfl rfl rfl (oneKy x) (by omega) ?_; intro v2 w3 o2 g2; have hb2 := below_grown (HB1.out.alloc HZ1.out _) (by have := HZ1.out; simp; omega) (HO1.out.alloc _) g2; have HB2 := Lib.hid hb2; have HO2 := Lib.hid o2; have HZ2 := Lib.hid hb2.size; have c2 : w3.cell? ⟨p, 2, none⟩ = some (.slice (some ⟨gN, 0, none⟩) n kc) := (HG0.out.later hb2).row.cell 2; clear o2 g2 hb2 q0 q1 q2 q3 q4 q5)
      | (at_builtin; refine wpList_apps (cf := kyCf) (l := g.keys.drop k) rfl (.tmp 41) (.tmp 47) 24 138 rfl ii _ 6 48 Tryz.underlying24 hi hz0' hz1 hz2 rfl (by decide) (by decide) kyCf_len oneKy w2.heap.size v2 (k + 1) _ rfl HO2.out _ rfl (Src.mkAt (LAt.dropK kyCf_len (own_lat (HG0.out.later HB2.out).keys) (k := k) (by rw [← HN.out]; exact hkn)) (by simp) (by rw [List.length_drop, ← HN.out])) (by rw [List.length_drop, ← HN.out]; omega) HZ2.out ?_; intro v3 w4 o3 g3; obtain ⟨dp', dc', rfl⟩ := own_slc o3; obtain ⟨m3, hm3⟩ : ∃ m3, m3 = k + 1 + (g.keys.drop k).length := ⟨_, rfl⟩; rw [← hm3] at o3 ⊢; have HM3 := Lib.hid hm3; have hb3 := below_grown HB2.out HZ2.out HO2.out g3; have HB3 := Lib.hid hb3; have HO3 := Lib.hid o3; have c3' : w4.cell? ⟨p, 2, none⟩ = some (.slice (some ⟨gN, 0, none⟩) n kc) := (HG0.out.later hb3).row.cell 2; have f3' : w4.frozen? ⟨p, 2, none⟩ = false := (HG0.out.later hb3).row.free 2; clear o3 g3 hb3 c2 hm3))
     go_returns
     have HG3 := HG0.out.later HB3.out
     refine ⟨rfl, dp', m3, dc', ⟨HG3.row.set 2 _, own_set _ HG3.words (row_own_ne HG3.row HG3.words (by first | decide | exact tl.hW | exact tl.hK | exact tl.hI)), own_set _ (own_down (own_cast HO3.out ?_ ?_) (by omega)) (row_own_ne HG3.row HO3.out (by first | decide | exact tl.hW | exact tl.hK | exact tl.hI)), own_set _ HG3.dead (row_own_ne HG3.row HG3.dead (by first | decide | exact tl.hW | exact tl.hK | exact tl.hI)), hN⟩, (Kept.of_below (HB0.out.trans (HB3.out.mono hz2'))).setCell (a := ⟨p, 2, none⟩) _ (.inl rfl)⟩
     ·show _ = (insK g.keys x).length
      rw [HM3.out, HI.out, List.length_append, List.length_cons, List.length_take, ← HN.out]
      omega
     ·show _ = (insK g.keys x).flatMap kyCf
      rw [HI.out]
      simp
   ·have HI : Hid (insK g.keys x = g.keys.take k ++ x :: g.keys.drop k) := Lib.hid (insK_at (fun j z hj hz => of_decide_eq_true (HR.out j z hj hz)) (fun z hz => by have := (List.getElem?_eq_some_iff.1 hz).1; rw [← HN.out] at this; omega) (by rw [← HN.out]; exact hk))
    go_wp2_with fail
    refine ext_region wr (by kernel_rfl) (by kernel_rfl) (Below.refl _ _) ?_
    repeat (go_big_quiet_step (fail))
    refine wpQuiet_nil ?_
    intro w2 hb2
    have HB0 := Lib.hid (HBr.out.trans (hb2.mono hzr))
    have hz2' := HB0.out.size
    have HG0 := Lib.hid (HGr.out.later hb2)
    have HRB2 := Lib.hid (HRB.out.below hb2 HRB.out.lt)
    clear hb2
    have hle : n ≤ k := by omega
    by_cases hcc : k < kc
    ·have hbE := (Below.refl w2.heap.size w2).alloc (Nat.le_refl _) (.cells #[] 138)
     have hSs := HG0.out.later hbE
     have HS1 : Hid (Src kyCf (w2.alloc (.cells #[] 138)) (.slice (some ⟨gN, 0, none⟩) k kc) (g.keys.take k)) := Lib.hid (Src.mkAt ((own_lat hSs.keys).takeK k) rfl (by rw [List.length_take, ← HN.out]; omega))
     have HOE := Lib.hid (World.ownsRow_made (base := w2.heap.size) (size := 6) (e := 138) w2 #[] 0 (Nat.le_refl _) (Nat.zero_le _) rfl)
     have c0 : (w2.alloc (.cells #[] 138)).cell? ⟨p, 2, none⟩ = some (.slice (some ⟨gN, 0, none⟩) n kc) := hSs.row.cell 2
     have HbE := Lib.hid hbE
     have HLE : Hid (0 + (g.keys.take k).length ≤ 1048576) := Lib.hid (by rw [List.length_take]; omega)
     have HZE : Hid (w2.heap.size ≤ (w2.alloc (.cells #[] 138)).heap.size) := Lib.hid (by simp)
     clear hbE hSs
     go_wp2_with (first
      | (at_builtin; refine wpList_apps (cf := kyCf) (l := g.keys.take k) rfl (.tmp 28) (.tmp 34) 24 138 rfl ii _ 6 48 Tryz.underlying24 hi hz0' hz1 hz2 rfl (by decide) (by decide) kyCf_len oneKy w2.heap.size _ 0 [] rfl HOE.out _ rfl HS1.out HLE.out HZE.out ?_; intro v1 w1 o1 g1; have hb1 := below_grown HbE.out HZE.out HOE.out g1; have HB1 := Lib.hid hb1; have HO1 := Lib.hid (own_cast o1 (n' := k) (by rw [List.length_take, ← HN.out]; omega) rfl); have HZ1 := Lib.hid hb1.size; have r1 := HRB2.out.below hb1 HRB2.out.lt; have q0 : w1.cell? ⟨s, 0, none⟩ = some (.int .i64 x.no) := r1.cell 0; have q1 : w1.cell? ⟨s, 1, none⟩ = some (.int .i64 x.client) := r1.cell 1; have q2 : w1.cell? ⟨s, 2, none⟩ = some (.int .i64 x.fam) := r1.cell 2; have q3 : w1.cell? ⟨s, 3, none⟩ = some (.bool x.refresh) := r1.cell 3; have q4 : w1.cell? ⟨s, 4, none⟩ = some (.int .i64 x.till) := r1.cell 4; have q5 : w1.cell? ⟨s, 5, none⟩ = some (.int .i64 x.state) := r1.cell 5; clear r1; clear o1 g1 hb1 c0)
      | (at_builtin; refine wpList_app1 rfl (.tmp 36) (.tmp 38) 24 138 rfl ii _ 6 48 Tryz.underlying24 hi hz0' hz1 hz2 rfl (by decide) (by decide) w2.heap.size HZ1.out v1 k _ (kyCf x) rfl HO1.out _ rfl rfl rfl (oneKy x) (by omega) ?_; intro v2 w3 o2 g2; have hb2 := below_grown (HB1.out.alloc HZ1.out _) (by have := HZ1.out; simp; omega) (HO1.out.alloc _) g2; have HB2 := Lib.hid hb2; have HO2 := Lib.hid o2; have HZ2 := Lib.hid hb2.size; have c2 : w3.cell? ⟨p, 2, none⟩ = some (.slice (some ⟨gN, 0, none⟩) n kc) := (HG0.out.later hb2).row.cell 2; clear o2 g2 hb2 q0 q1 q2 q3 q4 q5)
      | (at_builtin; refine wpList_apps (cf := kyCf) (l := g.keys.drop k) rfl (.tmp 41) (.tmp 47) 24 138 rfl ii _ 6 48 Tryz.underlying24 hi hz0' hz1 hz2 rfl (by decide) (by decide) kyCf_len oneKy w2.heap.size v2 (k + 1) _ rfl HO2.out _ rfl (Src.zero (List.drop_of_length_le (by rw [← HN.out]; exact hle)) (by first | rfl | omega | simp)) (by rw [List.length_drop, ← HN.out]; omega) HZ2.out ?_; intro v3 w4 o3 g3; obtain ⟨dp', dc', rfl⟩ := own_slc o3; obtain ⟨m3, hm3⟩ : ∃ m3, m3 = k + 1 + (g.keys.drop k).length := ⟨_, rfl⟩; rw [← hm3] at o3 ⊢; have HM3 := Lib.hid hm3; have hb3 := below_grown HB2.out HZ2.out HO2.out g3; have HB3 := Lib.hid hb3; have HO3 := Lib.hid o3; have c3' : w4.cell? ⟨p, 2, none⟩ = some (.slice (some ⟨gN, 0, none⟩) n kc) := (HG0.out.later hb3).row.cell 2; have f3' : w4.frozen? ⟨p, 2, none⟩ = false := (HG0.out.later hb3).row.free 2; clear o3 g3 hb3 c2 hm3))
     go_returns
     have HG3 := HG0.out.later HB3.out
     refine ⟨rfl, dp', m3, dc', ⟨HG3.row.set 2 _, own_set _ HG3.words (row_own_ne HG3.row HG3.words (by first | decide | exact tl.hW | exact tl.hK | exact tl.hI)), own_set _ (own_down (own_cast HO3.out ?_ ?_) (by omega)) (row_own_ne HG3.row HO3.out (by first | decide | exact tl.hW | exact tl.hK | exact tl.hI)), own_set _ HG3.dead (row_own_ne HG3.row HG3.dead (by first | decide | exact tl.hW | exact tl.hK | exact tl.hI)), hN⟩, (Kept.of_below (HB0.out.trans (HB3.out.mono hz2'))).setCell (a := ⟨p, 2, none⟩) _ (.inl rfl)⟩
     ·show _ = (insK g.keys x).length
      rw [HM3.out, HI.out, List.length_append, List.length_cons, List.length_take, ← HN.out]
      omega
     ·show _ = (insK g.keys x).flatMap kyCf
      rw [HI.out]
      simp
    ·have hbE := (Below.refl w2.heap.size w2).alloc (Nat.le_refl _) (.cells #[] 138)
     have hSs := HG0.out.later hbE
     have HS1 : Hid (Src kyCf (w2.alloc (.cells #[] 138)) (.slice (some ⟨gN, 0, none⟩) k kc) (g.keys.take k)) := Lib.hid (Src.mkAt ((own_lat hSs.keys).takeK k) rfl (by rw [List.length_take, ← HN.out]; omega))
     have HOE := Lib.hid (World.ownsRow_made (base := w2.heap.size) (size := 6) (e := 138) w2 #[] 0 (Nat.le_refl _) (Nat.zero_le _) rfl)
     have c0 : (w2.alloc (.cells #[] 138)).cell? ⟨p, 2, none⟩ = some (.slice (some ⟨gN, 0, none⟩) n kc) := hSs.row.cell 2
     have HbE := Lib.hid hbE
     have HLE : Hid (0 + (g.keys.take k).length ≤ 1048576) := Lib.hid (by rw [List.length_take]; omega)
     have HZE : Hid (w2.heap.size ≤ (w2.alloc (.cells #[] 138)).heap.size) := Lib.hid (by simp)
     clear hbE hSs
     go_wp2_with (first
      | (at_builtin; refine wpList_apps (cf := kyCf) (l := g.keys.take k) rfl (.tmp 28) (.tmp 34) 24 138 rfl ii _ 6 48 Tryz.underlying24 hi hz0' hz1 hz2 rfl (by decide) (by decide) kyCf_len oneKy w2.heap.size _ 0 [] rfl HOE.out _ rfl HS1.out HLE.out HZE.out ?_; intro v1 w1 o1 g1; have hb1 := below_grown HbE.out HZE.out HOE.out g1; have HB1 := Lib.hid hb1; have HO1 := Lib.hid (own_cast o1 (n' := k) (by rw [List.length_take, ← HN.out]; omega) rfl); have HZ1 := Lib.hid hb1.size; have r1 := HRB2.out.below hb1 HRB2.out.lt; have q0 : w1.cell? ⟨s, 0, none⟩ = some (.int .i64 x.no) := r1.cell 0; have q1 : w1.cell? ⟨s, 1, none⟩ = some (.int .i64 x.client) := r1.cell 1; have q2 : w1.cell? ⟨s, 2, none⟩ = some (.int .i64 x.fam) := r1.cell 2; have q3 : w1.cell? ⟨s, 3, none⟩ = some (.bool x.refresh) := r1.cell 3; have q4 : w1.cell? ⟨s, 4, none⟩ = some (.int .i64 x.till) := r1.cell 4; have q5 : w1.cell? ⟨s, 5, none⟩ = some (.int .i64 x.state) := r1.cell 5; clear r1; clear o1 g1 hb1 c0)
      | (at_builtin; refine wpList_app1 rfl (.tmp 36) (.tmp 38) 24 138 rfl ii _ 6 48 Tryz.underlying24 hi hz0' hz1 hz2 rfl (by decide) (by decide) w2.heap.size HZ1.out v1 k _ (kyCf x) rfl HO1.out _ rfl rfl rfl (oneKy x) (by omega) ?_; intro v2 w3 o2 g2; have hb2 := below_grown (HB1.out.alloc HZ1.out _) (by have := HZ1.out; simp; omega) (HO1.out.alloc _) g2; have HB2 := Lib.hid hb2; have HO2 := Lib.hid o2; have HZ2 := Lib.hid hb2.size; have c2 : w3.cell? ⟨p, 2, none⟩ = some (.slice (some ⟨gN, 0, none⟩) n kc) := (HG0.out.later hb2).row.cell 2; clear o2 g2 hb2 q0 q1 q2 q3 q4 q5)
      | (at_builtin; refine wpList_apps (cf := kyCf) (l := g.keys.drop k) rfl (.tmp 41) (.tmp 47) 24 138 rfl ii _ 6 48 Tryz.underlying24 hi hz0' hz1 hz2 rfl (by decide) (by decide) kyCf_len oneKy w2.heap.size v2 (k + 1) _ rfl HO2.out _ rfl (Src.zero (List.drop_of_length_le (by rw [← HN.out]; exact hle)) (by first | rfl | omega | simp)) (by rw [List.length_drop, ← HN.out]; omega) HZ2.out ?_; intro v3 w4 o3 g3; obtain ⟨dp', dc', rfl⟩ := own_slc o3; obtain ⟨m3, hm3⟩ : ∃ m3, m3 = k + 1 + (g.keys.drop k).length := ⟨_, rfl⟩; rw [← hm3] at o3 ⊢; have HM3 := Lib.hid hm3; have hb3 := below_grown HB2.out HZ2.out HO2.out g3; have HB3 := Lib.hid hb3; have HO3 := Lib.hid o3; have c3' : w4.cell? ⟨p, 2, none⟩ = some (.slice (some ⟨gN, 0, none⟩) n kc) := (HG0.out.later hb3).row.cell 2; have f3' : w4.frozen? ⟨p, 2, none⟩ = false := (HG0.out.later hb3).row.free 2; clear o3 g3 hb3 c2 hm3))
     go_returns
     have HG3 := HG0.out.later HB3.out
     refine ⟨rfl, dp', m3, dc', ⟨HG3.row.set 2 _, own_set _ HG3.words (row_own_ne HG3.row HG3.words (by first | decide | exact tl.hW | exact tl.hK | exact tl.hI)), own_set _ (own_down (own_cast HO3.out ?_ ?_) (by omega)) (row_own_ne HG3.row HO3.out (by first | decide | exact tl.hW | exact tl.hK | exact tl.hI)), own_set _ HG3.dead (row_own_ne HG3.row HG3.dead (by first | decide | exact tl.hW | exact tl.hK | exact tl.hI)), hN⟩, (Kept.of_below (HB0.out.trans (HB3.out.mono hz2'))).setCell (a := ⟨p, 2, none⟩) _ (.inl rfl)⟩
     ·show _ = (insK g.keys x).length
      rw [HM3.out, HI.out, List.length_append, List.length_cons, List.length_take, ← HN.out]
      omega
     ·show _ = (insK g.keys x).flatMap kyCf
      rw [HI.out]
      simp
end Go.Proofs.YtchfgdiipjbgoaaGreat
