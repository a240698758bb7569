/- Draws: a grant and what is asked of it. -/
import Derived.Test.YtchfgdiipjbgoaaGreatFGdL
namespace Go.Proofs.YtchfgdiipjbgoaaGreat
open Go Go.RowKit Go.Lib
set_option linter.unusedVariables false
set_option maxRecDepth 100000

def DrawnOp (w : World) (e : Ending) (w' : World) : Prop := ∃ (k : GH) (gr : Gr) (no client : Int), e = .returned (.tuple #[grV gr.now k, .int .i64 no, .int .i64 client]) ∧ GrOwn w.heap.size gr k w' ∧ GrWf gr ∧ GrSmall gr ∧ (Lit.int .i64 no).wf = true ∧ Below w.heap.size w w'
def opL : List Int := [11, 12, 21, 31, 32, 99]
theorem op_get {j : Nat} {kk : Int} (h : (opL.map (Value.int .i64))[j]? = some (.int .i64 kk)) (hj : j < 6) : ([.int .i64 11, .int .i64 12, .int .i64 21, .int .i64 31, .int .i64 32, .int .i64 99] : List Value)[j]'hj = .int .i64 kk := (List.getElem?_eq_some_iff.1 h).2
theorem small_wf {n : Int} (h : small n) : (Lit.int .i64 n).wf = true := (Lit.wf_int_iff .i64 n).2 h
/-- What is carried along. -/
structure OpX (g : Nat) (w wr : World) : Prop where
 src : SrcAt g wr
 bel : Below w.heap.size w wr
 zero : Row wr w.heap.size 27 (grL 0 zH)
theorem OpX.kept {g : Nat} {w w1 w2 : World} (h : OpX g w w1) (hs : SrcAt g w2) (hg : w1.grownBy w2 (some g)) (hge : w.heap.size < g) : OpX g w w2 :=
 ⟨hs, ⟨hg.os.trans h.bel.os, hg.tape.trans h.bel.tape, hg.output.trans h.bel.output, Nat.le_trans h.bel.size hg.size, fun k hk => (hg.block k (Nat.lt_of_lt_of_le hk h.bel.size) (fun e => by have := Option.some.inj e; omega)).trans (h.bel.block k hk)⟩, h.zero.grw hg (fun e => by have := Option.some.inj e; omega)⟩
theorem OpX.later {g : Nat} {w w1 w2 : World} (h : OpX g w w1) (hb : Below w1.heap.size w1 w2) : OpX g w w2 := ⟨h.src.below hb, h.bel.trans (hb.mono h.bel.size), h.zero.below hb h.zero.lt⟩
set_option maxHeartbeats 8000000 in
theorem drawOp_any (w : World) (a : Option Addr) (len cap : Nat) (zs : List Int) (hl : len ≤ 1048576) (h : IsRow .u8 w a len cap zs) : Calls Tryz.prog 16 #[.slice a len cap] w (DrawnOp w) := by
 obtain ⟨W, hW⟩ : ∃ W, W = w.alloc (.cells #[.int .i64 0, .slice none 0 0, .slice none 0 0, .slice none 0 0] 27) := ⟨_, rfl⟩
 have hb0 : Below w.heap.size w W := by rw [hW]; go_grown
 have r0 : Row W w.heap.size 27 (grL 0 zH) := by rw [hW]; exact heap_alloc_new w _
 have hsz : W.heap.size = w.heap.size + 1 := by rw [hW]; simp
 have HW := Lib.hid hW
 have HB := Lib.hid hb0
 have R0 := Lib.hid r0
 have HC := Lib.hid (h.later hb0)
 clear hW hb0 r0 h
 go_enter Tryz.func16, Tryz.ntmps16
 go_wp2_with fail
 rw [← HW.out]
 refine (source_any W a len cap zs (by omega) HC.out).mono ?_
 rintro e w1 ⟨g, hge, rfl, hs1, hb1⟩
 have hge' : w.heap.size < g := by omega
 have HX : Hid (OpX g w w1) := Lib.hid ⟨hs1, HB.out.trans (hb1.mono HB.out.size), R0.out.below hb1 R0.out.lt⟩
 clear hs1 hb1 HC R0 hge HW HB hsz
 go_upto_region 2 with fail
 go_cut [6, 7] (fun v6 v7 wx => ∃ n c : Int, v6 = .int .i64 n ∧ v7 = .int .i64 c ∧ (Lit.int .i64 n).wf = true ∧ OpX g w wx)
 case first =>
  have HXd := Lib.hid (HX.out.later ((Below.refl w1.heap.size w1).drew))
  refine region_L 8 (fun _ => True) (fun _ => True) (by kernel_rfl) ⟨fun _ => trivial, trivial⟩ (fun hHL => ?_)
  refine wpAnyL_take (i := 1) (v := ?_) (by rfl) rfl (by kernel_rfl) (by kernel_rfl) (by kernel_rfl) (fun _ _ _ h => h) (Or.inl ⟨by rfl, ?_⟩) hHL ?_
  rotate_left
  ·intro w hSw; (try dsimp only at hSw); (first | (go_simp; done) | (go_simp; with_reducible rfl))
  clear hHL
  intro hHL
  (try simp only [Act.put, List.setIfInBounds_toArray, List.set_cons_zero, List.set_cons_succ])
  refine wpAnyL_take (i := 5) (v := ?_) (by rfl) rfl (by kernel_rfl) (by kernel_rfl) (by kernel_rfl) (fun _ _ _ h => h) (Or.inl ⟨by rfl, ?_⟩) hHL ?_
  rotate_left
  ·intro w hSw; (try dsimp only at hSw); (first | (go_simp; done) | (go_simp; with_reducible rfl))
  clear hHL
  intro hHL
  (try simp only [Act.put, List.setIfInBounds_toArray, List.set_cons_zero, List.set_cons_succ])
  refine wpAnyL_take (i := 7) (v := ?_) (by rfl) rfl (by kernel_rfl) (by kernel_rfl) (by kernel_rfl) (fun _ _ _ h => h) (Or.inl ⟨by rfl, ?_⟩) hHL ?_
  rotate_left
  ·intro w hSw; (try dsimp only at hSw); (first | (go_simp; done) | (go_simp; with_reducible rfl))
  clear hHL
  intro hHL
  (try simp only [Act.put, List.setIfInBounds_toArray, List.set_cons_zero, List.set_cons_succ])
  refine wpAnyL_ready (rs := [0, 2]) (by kernel_rfl) (by simp) ?_
  refine AllReadyL.cons rfl (fun K hK => ?_) (AllReadyL.cons rfl (fun K hK => ?_) AllReadyL.nil)
  ·go_simp
   have hb2 : Below w1.drew.heap.size w1.drew (w1.drew.alloc (.cells (opL.map (Value.int .i64)).toArray 2)) := (Below.refl _ _).alloc (Nat.le_refl _) _
   have HX2 := Lib.hid (HXd.out.later hb2)
   have HR2 : Hid (Row (w1.drew.alloc (.cells (opL.map (Value.int .i64)).toArray 2)) w1.drew.heap.size 2 (opL.map (Value.int .i64))) := Lib.hid (heap_alloc_new w1.drew _)
   have hgb2 : g < w1.drew.heap.size := HXd.out.src.lt
   refine hK.out _ _ ⟨fun _ => trivial, trivial⟩ (fun hHL => ?_)
   clear hK K hb2
   (try simp only [Act.put, List.setIfInBounds_toArray, List.set_cons_zero, List.set_cons_succ])
   refine wpAnyL_ready (rs := [2]) (by kernel_rfl) (by simp) ?_
   refine AllReadyL.cons rfl (fun K hK => ?_) AllReadyL.nil
   refine step_callX rfl 84 #[.pointer (some ⟨g, 0, none⟩), .int .i64 6] (by kernel_rfl) (fun r : Int => .int .i64 r) _ (n_is g _ 6 (by omega) (by omega) HX2.out.src) ?_
   rintro z2 w3 ⟨⟨z2a, z2b⟩, hs3, hg3⟩
   have HX3 := Lib.hid (HX2.out.kept hs3 hg3 hge')
   have HR3 := Lib.hid (HR2.out.grw hg3 (fun e => by have := Option.some.inj e; omega))
   obtain ⟨j, rfl⟩ := Int.eq_ofNat_of_zero_le z2a
   have hj : j < 6 := by omega
   obtain ⟨kk, hkk, hkc⟩ := ints_at opL (by decide) j hj
   have HKK := Lib.hid hkk
   have HKc := Lib.hid hkc
   clear hkk hkc
   refine hK.out _ _ ⟨fun _ => trivial, trivial⟩ (fun hHL => ?_)
   clear hK K hs3 hg3
   (try simp only [Act.put, List.setIfInBounds_toArray, List.set_cons_zero, List.set_cons_succ])
   refine wpAnyL_take (i := 3) (v := ?_) (by rfl) rfl (by kernel_rfl) (by kernel_rfl) (by kernel_rfl) (fun _ _ _ h => h) (Or.inl ⟨by rfl, ?_⟩) hHL ?_
   rotate_left
   ·intro w hSw; (try dsimp only at hSw); (first | (go_simp; done) | (go_simp; with_reducible rfl))
   clear hHL
   intro hHL
   (try simp only [Act.put, List.setIfInBounds_toArray, List.set_cons_zero, List.set_cons_succ])
   refine wpAnyL_ready (rs := [4, 6]) (by kernel_rfl) (by simp) ?_
   refine AllReadyL.cons rfl (fun K hK => ?_) (AllReadyL.cons rfl (fun K hK => ?_) AllReadyL.nil)
   ·have c4 : w3.cell? ⟨w1.heap.size, j, none⟩ = some (.int .i64 kk) := (HR3.out.cell j).trans HKc.out
    go_simp
    refine hK.out _ _ ⟨fun _ => trivial, trivial⟩ (fun hHL => ?_)
    clear hK K
    (try simp only [Act.put, List.setIfInBounds_toArray, List.set_cons_zero, List.set_cons_succ])
    refine wpAnyL_ready (rs := [6]) (by kernel_rfl) (by simp) ?_
    refine AllReadyL.cons rfl (fun K hK => ?_) AllReadyL.nil
    refine step_callX rfl 84 #[.pointer (some ⟨g, 0, none⟩), .int .i64 2] (by kernel_rfl) (fun r : Int => .int .i64 r) _ (n_is g _ 2 (by omega) (by omega) HX3.out.src) ?_
    rintro z6 w5 ⟨⟨z6a, z6b⟩, hs5, hg5⟩
    have HX5 := Lib.hid (HX3.out.kept hs5 hg5 hge')
    have HR5 := Lib.hid (HR3.out.grw hg5 (fun e => by have := Option.some.inj e; omega))
    refine hK.out _ _ ⟨fun _ => trivial, trivial⟩ (fun hHL => ?_)
    clear hK K hs5 hg5
    (try simp only [Act.put, List.setIfInBounds_toArray, List.set_cons_zero, List.set_cons_succ])
    refine wpAnyL_ready (rs := [8]) (by kernel_rfl) (by simp) ?_
    refine AllReadyL.cons rfl (fun K hK => ?_) AllReadyL.nil
    refine step_callX rfl 84 #[.pointer (some ⟨g, 0, none⟩), .int .i64 2] (by kernel_rfl) (fun r : Int => .int .i64 r) _ (n_is g _ 2 (by omega) (by omega) HX5.out.src) ?_
    rintro z8 w6 ⟨⟨z8a, z8b⟩, hs6, hg6⟩
    have HX6 := Lib.hid (HX5.out.kept hs6 hg6 hge')
    have HR6 := Lib.hid (HR5.out.grw hg6 (fun e => by have := Option.some.inj e; omega))
    refine hK.out _ _ ⟨fun _ => trivial, trivial⟩ (fun hHL => ?_)
    clear hK K hs6 hg6
    (try simp only [Act.put, List.setIfInBounds_toArray, List.set_cons_zero, List.set_cons_succ])
    refine wpAnyL_take (i := 9) (v := ?_) (by rfl) rfl (by kernel_rfl) (by kernel_rfl) (by kernel_rfl) (fun _ _ _ h => h) (Or.inl ⟨by rfl, ?_⟩) hHL ?_
    rotate_left
    ·intro w hSw; (try dsimp only at hSw); (first | (go_simp; done) | (go_simp; with_reducible rfl))
    clear hHL
    intro hHL
    (try simp only [Act.put, List.setIfInBounds_toArray, List.set_cons_zero, List.set_cons_succ])
    refine wpAnyL_take (i := 10) (v := ?_) (by rfl) rfl (by kernel_rfl) (by kernel_rfl) (by kernel_rfl) (fun _ _ _ h => h) (Or.inl ⟨by rfl, ?_⟩) hHL ?_
    rotate_left
    ·intro w hSw; (try dsimp only at hSw); (first | (go_simp; done) | (go_simp; with_reducible rfl))
    clear hHL
    intro hHL
    (try simp only [Act.put, List.setIfInBounds_toArray, List.set_cons_zero, List.set_cons_succ])
    refine wpAnyL_take (i := 11) (v := ?_) (by rfl) rfl (by kernel_rfl) (by kernel_rfl) (by kernel_rfl) (fun _ _ _ h => h) (Or.inl ⟨by rfl, ?_⟩) hHL ?_
    rotate_left
    ·intro w hSw; (try dsimp only at hSw); (first | (go_simp; done) | (go_simp; with_reducible rfl))
    clear hHL
    intro hHL
    (try simp only [Act.put, List.setIfInBounds_toArray, List.set_cons_zero, List.set_cons_succ])
    refine wpAnyL_take (i := 12) (v := ?_) (by rfl) rfl (by kernel_rfl) (by kernel_rfl) (by kernel_rfl) (fun _ _ _ h => h) (Or.inl ⟨by rfl, ?_⟩) hHL ?_
    rotate_left
    ·intro w hSw; (try dsimp only at hSw); (first | (go_simp; done) | (go_simp; with_reducible rfl))
    clear hHL
    intro hHL
    (try simp only [Act.put, List.setIfInBounds_toArray, List.set_cons_zero, List.set_cons_succ])
    refine wpAnyL_done (by kernel_rfl) ?_ _
    clear hHL
    go_wp2_with fail
    go_meet
    first | exact ⟨kk, _, rfl, rfl, small_wf HKK.out, HX6.out⟩ | exact ⟨kk, _, op_get HKc.out _, rfl, small_wf HKK.out, HX6.out⟩
   ·refine step_callX rfl 84 #[.pointer (some ⟨g, 0, none⟩), .int .i64 2] (by kernel_rfl) (fun r : Int => .int .i64 r) _ (n_is g _ 2 (by omega) (by omega) HX3.out.src) ?_
    rintro z6 w4 ⟨⟨z6a, z6b⟩, hs4, hg4⟩
    have HX4 := Lib.hid (HX3.out.kept hs4 hg4 hge')
    have HR4 := Lib.hid (HR3.out.grw hg4 (fun e => by have := Option.some.inj e; omega))
    refine hK.out _ _ ⟨fun _ => trivial, trivial⟩ (fun hHL => ?_)
    clear hK K hs4 hg4
    (try simp only [Act.put, List.setIfInBounds_toArray, List.set_cons_zero, List.set_cons_succ])
    refine wpAnyL_ready (rs := [4, 8]) (by kernel_rfl) (by simp) ?_
    refine AllReadyL.cons rfl (fun K hK => ?_) (AllReadyL.cons rfl (fun K hK => ?_) AllReadyL.nil)
    ·have c4 : w4.cell? ⟨w1.heap.size, j, none⟩ = some (.int .i64 kk) := (HR4.out.cell j).trans HKc.out
     go_simp
     refine hK.out _ _ ⟨fun _ => trivial, trivial⟩ (fun hHL => ?_)
     clear hK K
     (try simp only [Act.put, List.setIfInBounds_toArray, List.set_cons_zero, List.set_cons_succ])
     refine wpAnyL_ready (rs := [8]) (by kernel_rfl) (by simp) ?_
     refine AllReadyL.cons rfl (fun K hK => ?_) AllReadyL.nil
     refine step_callX rfl 84 #[.pointer (some ⟨g, 0, none⟩), .int .i64 2] (by kernel_rfl) (fun r : Int => .int .i64 r) _ (n_is g _ 2 (by omega) (by omega) HX4.out.src) ?_
     rintro z8 w6 ⟨⟨z8a, z8b⟩, hs6, hg6⟩
     have HX6 := Lib.hid (HX4.out.kept hs6 hg6 hge')
     have HR6 := Lib.hid (HR4.out.grw hg6 (fun e => by have := Option.some.inj e; omega))
     refine hK.out _ _ ⟨fun _ => trivial, trivial⟩ (fun hHL => ?_)
     clear hK K hs6 hg6
     (try simp only [Act.put, List.setIfInBounds_toArray, List.set_cons_zero, List.set_cons_succ])
     refine wpAnyL_take (i := 9) (v := ?_) (by rfl) rfl (by kernel_rfl) (by kernel_rfl) (by kernel_rfl) (fun _ _ _ h => h) (Or.inl ⟨by rfl, ?_⟩) hHL ?_
     rotate_left
     ·intro w hSw; (try dsimp only at hSw); (first | (go_simp; done) | (go_simp; with_reducible rfl))
     clear hHL
     intro hHL
     (try simp only [Act.put, List.setIfInBounds_toArray, List.set_cons_zero, List.set_cons_succ])
     refine wpAnyL_take (i := 10) (v := ?_) (by rfl) rfl (by kernel_rfl) (by kernel_rfl) (by kernel_rfl) (fun _ _ _ h => h) (Or.inl ⟨by rfl, ?_⟩) hHL ?_
     rotate_left
     ·intro w hSw; (try dsimp only at hSw); (first | (go_simp; done) | (go_simp; with_reducible rfl))
     clear hHL
     intro hHL
     (try simp only [Act.put, List.setIfInBounds_toArray, List.set_cons_zero, List.set_cons_succ])
     refine wpAnyL_take (i := 11) (v := ?_) (by rfl) rfl (by kernel_rfl) (by kernel_rfl) (by kernel_rfl) (fun _ _ _ h => h) (Or.inl ⟨by rfl, ?_⟩) hHL ?_
     rotate_left
     ·intro w hSw; (try dsimp only at hSw); (first | (go_simp; done) | (go_simp; with_reducible rfl))
     clear hHL
     intro hHL
     (try simp only [Act.put, List.setIfInBounds_toArray, List.set_cons_zero, List.set_cons_succ])
     refine wpAnyL_take (i := 12) (v := ?_) (by rfl) rfl (by kernel_rfl) (by kernel_rfl) (by kernel_rfl) (fun _ _ _ h => h) (Or.inl ⟨by rfl, ?_⟩) hHL ?_
     rotate_left
     ·intro w hSw; (try dsimp only at hSw); (first | (go_simp; done) | (go_simp; with_reducible rfl))
     clear hHL
     intro hHL
     (try simp only [Act.put, List.setIfInBounds_toArray, List.set_cons_zero, List.set_cons_succ])
     refine wpAnyL_done (by kernel_rfl) ?_ _
     clear hHL
     go_wp2_with fail
     go_meet
     first | exact ⟨kk, _, rfl, rfl, small_wf HKK.out, HX6.out⟩ | exact ⟨kk, _, op_get HKc.out _, rfl, small_wf HKK.out, HX6.out⟩
    ·refine step_callX rfl 84 #[.pointer (some ⟨g, 0, none⟩), .int .i64 2] (by kernel_rfl) (fun r : Int => .int .i64 r) _ (n_is g _ 2 (by omega) (by omega) HX4.out.src) ?_
     rintro z8 w5 ⟨⟨z8a, z8b⟩, hs5, hg5⟩
     have HX5 := Lib.hid (HX4.out.kept hs5 hg5 hge')
     have HR5 := Lib.hid (HR4.out.grw hg5 (fun e => by have := Option.some.inj e; omega))
     refine hK.out _ _ ⟨fun _ => trivial, trivial⟩ (fun hHL => ?_)
     clear hK K hs5 hg5
     (try simp only [Act.put, List.setIfInBounds_toArray, List.set_cons_zero, List.set_cons_succ])
     refine wpAnyL_take (i := 9) (v := ?_) (by rfl) rfl (by kernel_rfl) (by kernel_rfl) (by kernel_rfl) (fun _ _ _ h => h) (Or.inl ⟨by rfl, ?_⟩) hHL ?_
     rotate_left
     ·intro w hSw; (try dsimp only at hSw); (first | (go_simp; done) | (go_simp; with_reducible rfl))
     clear hHL
     intro hHL
     (try simp only [Act.put, List.setIfInBounds_toArray, List.set_cons_zero, List.set_cons_succ])
     refine wpAnyL_take (i := 10) (v := ?_) (by rfl) rfl (by kernel_rfl) (by kernel_rfl) (by kernel_rfl) (fun _ _ _ h => h) (Or.inl ⟨by rfl, ?_⟩) hHL ?_
     rotate_left
     ·intro w hSw; (try dsimp only at hSw); (first | (go_simp; done) | (go_simp; with_reducible rfl))
     clear hHL
     intro hHL
     (try simp only [Act.put, List.setIfInBounds_toArray, List.set_cons_zero, List.set_cons_succ])
     refine wpAnyL_ready (rs := [4]) (by kernel_rfl) (by simp) ?_
     refine AllReadyL.cons rfl (fun K hK => ?_) AllReadyL.nil
     have c4 : w5.cell? ⟨w1.heap.size, j, none⟩ = some (.int .i64 kk) := (HR5.out.cell j).trans HKc.out
     go_simp
     refine hK.out _ _ ⟨fun _ => trivial, trivial⟩ (fun hHL => ?_)
     clear hK K
     (try simp only [Act.put, List.setIfInBounds_toArray, List.set_cons_zero, List.set_cons_succ])
     refine wpAnyL_take (i := 11) (v := ?_) (by rfl) rfl (by kernel_rfl) (by kernel_rfl) (by kernel_rfl) (fun _ _ _ h => h) (Or.inl ⟨by rfl, ?_⟩) hHL ?_
     rotate_left
     ·intro w hSw; (try dsimp only at hSw); (first | (go_simp; done) | (go_simp; with_reducible rfl))
     clear hHL
     intro hHL
     (try simp only [Act.put, List.setIfInBounds_toArray, List.set_cons_zero, List.set_cons_succ])
     refine wpAnyL_take (i := 12) (v := ?_) (by rfl) rfl (by kernel_rfl) (by kernel_rfl) (by kernel_rfl) (fun _ _ _ h => h) (Or.inl ⟨by rfl, ?_⟩) hHL ?_
     rotate_left
     ·intro w hSw; (try dsimp only at hSw); (first | (go_simp; done) | (go_simp; with_reducible rfl))
     clear hHL
     intro hHL
     (try simp only [Act.put, List.setIfInBounds_toArray, List.set_cons_zero, List.set_cons_succ])
     refine wpAnyL_done (by kernel_rfl) ?_ _
     clear hHL
     go_wp2_with fail
     go_meet
     first | exact ⟨kk, _, rfl, rfl, small_wf HKK.out, HX5.out⟩ | exact ⟨kk, _, op_get HKc.out _, rfl, small_wf HKK.out, HX5.out⟩
  ·refine step_callX rfl 84 #[.pointer (some ⟨g, 0, none⟩), .int .i64 6] (by kernel_rfl) (fun r : Int => .int .i64 r) _ (n_is g _ 6 (by omega) (by omega) HXd.out.src) ?_
   rintro z2 w2 ⟨⟨z2a, z2b⟩, hs2, hg2⟩
   have HX2 := Lib.hid (HXd.out.kept hs2 hg2 hge')
   obtain ⟨j, rfl⟩ := Int.eq_ofNat_of_zero_le z2a
   have hj : j < 6 := by omega
   obtain ⟨kk, hkk, hkc⟩ := ints_at opL (by decide) j hj
   have HKK := Lib.hid hkk
   have HKc := Lib.hid hkc
   clear hkk hkc
   refine hK.out _ _ ⟨fun _ => trivial, trivial⟩ (fun hHL => ?_)
   clear hK K hs2 hg2
   (try simp only [Act.put, List.setIfInBounds_toArray, List.set_cons_zero, List.set_cons_succ])
   refine wpAnyL_ready (rs := [0, 6]) (by kernel_rfl) (by simp) ?_
   refine AllReadyL.cons rfl (fun K hK => ?_) (AllReadyL.cons rfl (fun K hK => ?_) AllReadyL.nil)
   ·go_simp
    have hb3 : Below w2.heap.size w2 (w2.alloc (.cells (opL.map (Value.int .i64)).toArray 2)) := (Below.refl _ _).alloc (Nat.le_refl _) _
    have HX3 := Lib.hid (HX2.out.later hb3)
    have HR3 : Hid (Row (w2.alloc (.cells (opL.map (Value.int .i64)).toArray 2)) w2.heap.size 2 (opL.map (Value.int .i64))) := Lib.hid (heap_alloc_new w2 _)
    have hgb3 : g < w2.heap.size := HX2.out.src.lt
    refine hK.out _ _ ⟨fun _ => trivial, trivial⟩ (fun hHL => ?_)
    clear hK K hb3
    (try simp only [Act.put, List.setIfInBounds_toArray, List.set_cons_zero, List.set_cons_succ])
    refine wpAnyL_take (i := 3) (v := ?_) (by rfl) rfl (by kernel_rfl) (by kernel_rfl) (by kernel_rfl) (fun _ _ _ h => h) (Or.inl ⟨by rfl, ?_⟩) hHL ?_
    rotate_left
    ·intro w hSw; (try dsimp only at hSw); (first | (go_simp; done) | (go_simp; with_reducible rfl))
    clear hHL
    intro hHL
    (try simp only [Act.put, List.setIfInBounds_toArray, List.set_cons_zero, List.set_cons_succ])
    refine wpAnyL_ready (rs := [4, 6]) (by kernel_rfl) (by simp) ?_
    refine AllReadyL.cons rfl (fun K hK => ?_) (AllReadyL.cons rfl (fun K hK => ?_) AllReadyL.nil)
    ·have c4 : (w2.alloc (.cells (opL.map (Value.int .i64)).toArray 2)).cell? ⟨w2.heap.size, j, none⟩ = some (.int .i64 kk) := (HR3.out.cell j).trans HKc.out
     go_simp
     refine hK.out _ _ ⟨fun _ => trivial, trivial⟩ (fun hHL => ?_)
     clear hK K
     (try simp only [Act.put, List.setIfInBounds_toArray, List.set_cons_zero, List.set_cons_succ])
     refine wpAnyL_ready (rs := [6]) (by kernel_rfl) (by simp) ?_
     refine AllReadyL.cons rfl (fun K hK => ?_) AllReadyL.nil
     refine step_callX rfl 84 #[.pointer (some ⟨g, 0, none⟩), .int .i64 2] (by kernel_rfl) (fun r : Int => .int .i64 r) _ (n_is g _ 2 (by omega) (by omega) HX3.out.src) ?_
     rintro z6 w5 ⟨⟨z6a, z6b⟩, hs5, hg5⟩
     have HX5 := Lib.hid (HX3.out.kept hs5 hg5 hge')
     have HR5 := Lib.hid (HR3.out.grw hg5 (fun e => by have := Option.some.inj e; omega))
     refine hK.out _ _ ⟨fun _ => trivial, trivial⟩ (fun hHL => ?_)
     clear hK K hs5 hg5
     (try simp only [Act.put, List.setIfInBounds_toArray, List.set_cons_zero, List.set_cons_succ])
     refine wpAnyL_ready (rs := [8]) (by kernel_rfl) (by simp) ?_
     refine AllReadyL.cons rfl (fun K hK => ?_) AllReadyL.nil
     refine step_callX rfl 84 #[.pointer (some ⟨g, 0, none⟩), .int .i64 2] (by kernel_rfl) (fun r : Int => .int .i64 r) _ (n_is g _ 2 (by omega) (by omega) HX5.out.src) ?_
     rintro z8 w6 ⟨⟨z8a, z8b⟩, hs6, hg6⟩
     have HX6 := Lib.hid (HX5.out.kept hs6 hg6 hge')
     have HR6 := Lib.hid (HR5.out.grw hg6 (fun e => by have := Option.some.inj e; omega))
     refine hK.out _ _ ⟨fun _ => trivial, trivial⟩ (fun hHL => ?_)
     clear hK K hs6 hg6
     (try simp only [Act.put, List.setIfInBounds_toArray, List.set_cons_zero, List.set_cons_succ])
     refine wpAnyL_take (i := 9) (v := ?_) (by rfl) rfl (by kernel_rfl) (by kernel_rfl) (by kernel_rfl) (fun _ _ _ h => h) (Or.inl ⟨by rfl, ?_⟩) hHL ?_
     rotate_left
     ·intro w hSw; (try dsimp only at hSw); (first | (go_simp; done) | (go_simp; with_reducible rfl))
     clear hHL
     intro hHL
     (try simp only [Act.put, List.setIfInBounds_toArray, List.set_cons_zero, List.set_cons_succ])
     refine wpAnyL_take (i := 10) (v := ?_) (by rfl) rfl (by kernel_rfl) (by kernel_rfl) (by kernel_rfl) (fun _ _ _ h => h) (Or.inl ⟨by rfl, ?_⟩) hHL ?_
     rotate_left
     ·intro w hSw; (try dsimp only at hSw); (first | (go_simp; done) | (go_simp; with_reducible rfl))
     clear hHL
     intro hHL
     (try simp only [Act.put, List.setIfInBounds_toArray, List.set_cons_zero, List.set_cons_succ])
     refine wpAnyL_take (i := 11) (v := ?_) (by rfl) rfl (by kernel_rfl) (by kernel_rfl) (by kernel_rfl) (fun _ _ _ h => h) (Or.inl ⟨by rfl, ?_⟩) hHL ?_
     rotate_left
     ·intro w hSw; (try dsimp only at hSw); (first | (go_simp; done) | (go_simp; with_reducible rfl))
     clear hHL
     intro hHL
     (try simp only [Act.put, List.setIfInBounds_toArray, List.set_cons_zero, List.set_cons_succ])
     refine wpAnyL_take (i := 12) (v := ?_) (by rfl) rfl (by kernel_rfl) (by kernel_rfl) (by kernel_rfl) (fun _ _ _ h => h) (Or.inl ⟨by rfl, ?_⟩) hHL ?_
     rotate_left
     ·intro w hSw; (try dsimp only at hSw); (first | (go_simp; done) | (go_simp; with_reducible rfl))
     clear hHL
     intro hHL
     (try simp only [Act.put, List.setIfInBounds_toArray, List.set_cons_zero, List.set_cons_succ])
     refine wpAnyL_done (by kernel_rfl) ?_ _
     clear hHL
     go_wp2_with fail
     go_meet
     first | exact ⟨kk, _, rfl, rfl, small_wf HKK.out, HX6.out⟩ | exact ⟨kk, _, op_get HKc.out _, rfl, small_wf HKK.out, HX6.out⟩
    ·refine step_callX rfl 84 #[.pointer (some ⟨g, 0, none⟩), .int .i64 2] (by kernel_rfl) (fun r : Int => .int .i64 r) _ (n_is g _ 2 (by omega) (by omega) HX3.out.src) ?_
     rintro z6 w4 ⟨⟨z6a, z6b⟩, hs4, hg4⟩
     have HX4 := Lib.hid (HX3.out.kept hs4 hg4 hge')
     have HR4 := Lib.hid (HR3.out.grw hg4 (fun e => by have := Option.some.inj e; omega))
     refine hK.out _ _ ⟨fun _ => trivial, trivial⟩ (fun hHL => ?_)
     clear hK K hs4 hg4
     (try simp only [Act.put, List.setIfInBounds_toArray, List.set_cons_zero, List.set_cons_succ])
     refine wpAnyL_ready (rs := [4, 8]) (by kernel_rfl) (by simp) ?_
     refine AllReadyL.cons rfl (fun K hK => ?_) (AllReadyL.cons rfl (fun K hK => ?_) AllReadyL.nil)
     ·have c4 : w4.cell? ⟨w2.heap.size, j, none⟩ = some (.int .i64 kk) := (HR4.out.cell j).trans HKc.out
      go_simp
      refine hK.out _ _ ⟨fun _ => trivial, trivial⟩ (fun hHL => ?_)
      clear hK K
      (try simp only [Act.put, List.setIfInBounds_toArray, List.set_cons_zero, List.set_cons_succ])
      refine wpAnyL_ready (rs := [8]) (by kernel_rfl) (by simp) ?_
      refine AllReadyL.cons rfl (fun K hK => ?_) AllReadyL.nil
      refine step_callX rfl 84 #[.pointer (some ⟨g, 0, none⟩), .int .i64 2] (by kernel_rfl) (fun r : Int => .int .i64 r) _ (n_is g _ 2 (by omega) (by omega) HX4.out.src) ?_
      rintro z8 w6 ⟨⟨z8a, z8b⟩, hs6, hg6⟩
      have HX6 := Lib.hid (HX4.out.kept hs6 hg6 hge')
      have HR6 := Lib.hid (HR4.out.grw hg6 (fun e => by have := Option.some.inj e; omega))
      refine hK.out _ _ ⟨fun _ => trivial, trivial⟩ (fun hHL => ?_)
      clear hK K hs6 hg6
      (try simp only [Act.put, List.setIfInBounds_toArray, List.set_cons_zero, List.set_cons_succ])
      refine wpAnyL_take (i := 9) (v := ?_) (by rfl) rfl (by kernel_rfl) (by kernel_rfl) (by kernel_rfl) (fun _ _ _ h => h) (Or.inl ⟨by rfl, ?_⟩) hHL ?_
      rotate_left
      ·intro w hSw; (try dsimp only at hSw); (first | (go_simp; done) | (go_simp; with_reducible rfl))
      clear hHL
      intro hHL
      (try simp only [Act.put, List.setIfInBounds_toArray, List.set_cons_zero, List.set_cons_succ])
      refine wpAnyL_take (i := 10) (v := ?_) (by rfl) rfl (by kernel_rfl) (by kernel_rfl) (by kernel_rfl) (fun _ _ _ h => h) (Or.inl ⟨by rfl, ?_⟩) hHL ?_
      rotate_left
      ·intro w hSw; (try dsimp only at hSw); (first | (go_simp; done) | (go_simp; with_reducible rfl))
      clear hHL
      intro hHL
      (try simp only [Act.put, List.setIfInBounds_toArray, List.set_cons_zero, List.set_cons_succ])
      refine wpAnyL_take (i := 11) (v := ?_) (by rfl) rfl (by kernel_rfl) (by kernel_rfl) (by kernel_rfl) (fun _ _ _ h => h) (Or.inl ⟨by rfl, ?_⟩) hHL ?_
      rotate_left
      ·intro w hSw; (try dsimp only at hSw); (first | (go_simp; done) | (go_simp; with_reducible rfl))
      clear hHL
      intro hHL
      (try simp only [Act.put, List.setIfInBounds_toArray, List.set_cons_zero, List.set_cons_succ])
      refine wpAnyL_take (i := 12) (v := ?_) (by rfl) rfl (by kernel_rfl) (by kernel_rfl) (by kernel_rfl) (fun _ _ _ h => h) (Or.inl ⟨by rfl, ?_⟩) hHL ?_
      rotate_left
      ·intro w hSw; (try dsimp only at hSw); (first | (go_simp; done) | (go_simp; with_reducible rfl))
      clear hHL
      intro hHL
      (try simp only [Act.put, List.setIfInBounds_toArray, List.set_cons_zero, List.set_cons_succ])
      refine wpAnyL_done (by kernel_rfl) ?_ _
      clear hHL
      go_wp2_with fail
      go_meet
      first | exact ⟨kk, _, rfl, rfl, small_wf HKK.out, HX6.out⟩ | exact ⟨kk, _, op_get HKc.out _, rfl, small_wf HKK.out, HX6.out⟩
     ·refine step_callX rfl 84 #[.pointer (some ⟨g, 0, none⟩), .int .i64 2] (by kernel_rfl) (fun r : Int => .int .i64 r) _ (n_is g _ 2 (by omega) (by omega) HX4.out.src) ?_
      rintro z8 w5 ⟨⟨z8a, z8b⟩, hs5, hg5⟩
      have HX5 := Lib.hid (HX4.out.kept hs5 hg5 hge')
      have HR5 := Lib.hid (HR4.out.grw hg5 (fun e => by have := Option.some.inj e; omega))
      refine hK.out _ _ ⟨fun _ => trivial, trivial⟩ (fun hHL => ?_)
      clear hK K hs5 hg5
      (try simp only [Act.put, List.setIfInBounds_toArray, List.set_cons_zero, List.set_cons_succ])
      refine wpAnyL_take (i := 9) (v := ?_) (by rfl) rfl (by kernel_rfl) (by kernel_rfl) (by kernel_rfl) (fun _ _ _ h => h) (Or.inl ⟨by rfl, ?_⟩) hHL ?_
      rotate_left
      ·intro w hSw; (try dsimp only at hSw); (first | (go_simp; done) | (go_simp; with_reducible rfl))
      clear hHL
      intro hHL
      (try simp only [Act.put, List.setIfInBounds_toArray, List.set_cons_zero, List.set_cons_succ])
      refine wpAnyL_take (i := 10) (v := ?_) (by rfl) rfl (by kernel_rfl) (by kernel_rfl) (by kernel_rfl) (fun _ _ _ h => h) (Or.inl ⟨by rfl, ?_⟩) hHL ?_
      rotate_left
      ·intro w hSw; (try dsimp only at hSw); (first | (go_simp; done) | (go_simp; with_reducible rfl))
      clear hHL
      intro hHL
      (try simp only [Act.put, List.setIfInBounds_toArray, List.set_cons_zero, List.set_cons_succ])
      refine wpAnyL_ready (rs := [4]) (by kernel_rfl) (by simp) ?_
      refine AllReadyL.cons rfl (fun K hK => ?_) AllReadyL.nil
      have c4 : w5.cell? ⟨w2.heap.size, j, none⟩ = some (.int .i64 kk) := (HR5.out.cell j).trans HKc.out
      go_simp
      refine hK.out _ _ ⟨fun _ => trivial, trivial⟩ (fun hHL => ?_)
      clear hK K
      (try simp only [Act.put, List.setIfInBounds_toArray, List.set_cons_zero, List.set_cons_succ])
      refine wpAnyL_take (i := 11) (v := ?_) (by rfl) rfl (by kernel_rfl) (by kernel_rfl) (by kernel_rfl) (fun _ _ _ h => h) (Or.inl ⟨by rfl, ?_⟩) hHL ?_
      rotate_left
      ·intro w hSw; (try dsimp only at hSw); (first | (go_simp; done) | (go_simp; with_reducible rfl))
      clear hHL
      intro hHL
      (try simp only [Act.put, List.setIfInBounds_toArray, List.set_cons_zero, List.set_cons_succ])
      refine wpAnyL_take (i := 12) (v := ?_) (by rfl) rfl (by kernel_rfl) (by kernel_rfl) (by kernel_rfl) (fun _ _ _ h => h) (Or.inl ⟨by rfl, ?_⟩) hHL ?_
      rotate_left
      ·intro w hSw; (try dsimp only at hSw); (first | (go_simp; done) | (go_simp; with_reducible rfl))
      clear hHL
      intro hHL
      (try simp only [Act.put, List.setIfInBounds_toArray, List.set_cons_zero, List.set_cons_succ])
      refine wpAnyL_done (by kernel_rfl) ?_ _
      clear hHL
      go_wp2_with fail
      go_meet
      first | exact ⟨kk, _, rfl, rfl, small_wf HKK.out, HX5.out⟩ | exact ⟨kk, _, op_get HKc.out _, rfl, small_wf HKK.out, HX5.out⟩
   ·refine step_callX rfl 84 #[.pointer (some ⟨g, 0, none⟩), .int .i64 2] (by kernel_rfl) (fun r : Int => .int .i64 r) _ (n_is g _ 2 (by omega) (by omega) HX2.out.src) ?_
    rintro z6 w3 ⟨⟨z6a, z6b⟩, hs3, hg3⟩
    have HX3 := Lib.hid (HX2.out.kept hs3 hg3 hge')
    refine hK.out _ _ ⟨fun _ => trivial, trivial⟩ (fun hHL => ?_)
    clear hK K hs3 hg3
    (try simp only [Act.put, List.setIfInBounds_toArray, List.set_cons_zero, List.set_cons_succ])
    refine wpAnyL_ready (rs := [0, 8]) (by kernel_rfl) (by simp) ?_
    refine AllReadyL.cons rfl (fun K hK => ?_) (AllReadyL.cons rfl (fun K hK => ?_) AllReadyL.nil)
    ·go_simp
     have hb4 : Below w3.heap.size w3 (w3.alloc (.cells (opL.map (Value.int .i64)).toArray 2)) := (Below.refl _ _).alloc (Nat.le_refl _) _
     have HX4 := Lib.hid (HX3.out.later hb4)
     have HR4 : Hid (Row (w3.alloc (.cells (opL.map (Value.int .i64)).toArray 2)) w3.heap.size 2 (opL.map (Value.int .i64))) := Lib.hid (heap_alloc_new w3 _)
     have hgb4 : g < w3.heap.size := HX3.out.src.lt
     refine hK.out _ _ ⟨fun _ => trivial, trivial⟩ (fun hHL => ?_)
     clear hK K hb4
     (try simp only [Act.put, List.setIfInBounds_toArray, List.set_cons_zero, List.set_cons_succ])
     refine wpAnyL_take (i := 3) (v := ?_) (by rfl) rfl (by kernel_rfl) (by kernel_rfl) (by kernel_rfl) (fun _ _ _ h => h) (Or.inl ⟨by rfl, ?_⟩) hHL ?_
     rotate_left
     ·intro w hSw; (try dsimp only at hSw); (first | (go_simp; done) | (go_simp; with_reducible rfl))
     clear hHL
     intro hHL
     (try simp only [Act.put, List.setIfInBounds_toArray, List.set_cons_zero, List.set_cons_succ])
     refine wpAnyL_ready (rs := [4, 8]) (by kernel_rfl) (by simp) ?_
     refine AllReadyL.cons rfl (fun K hK => ?_) (AllReadyL.cons rfl (fun K hK => ?_) AllReadyL.nil)
     ·have c4 : (w3.alloc (.cells (opL.map (Value.int .i64)).toArray 2)).cell? ⟨w3.heap.size, j, none⟩ = some (.int .i64 kk) := (HR4.out.cell j).trans HKc.out
      go_simp
      refine hK.out _ _ ⟨fun _ => trivial, trivial⟩ (fun hHL => ?_)
      clear hK K
      (try simp only [Act.put, List.setIfInBounds_toArray, List.set_cons_zero, List.set_cons_succ])
      refine wpAnyL_ready (rs := [8]) (by kernel_rfl) (by simp) ?_
      refine AllReadyL.cons rfl (fun K hK => ?_) AllReadyL.nil
      refine step_callX rfl 84 #[.pointer (some ⟨g, 0, none⟩), .int .i64 2] (by kernel_rfl) (fun r : Int => .int .i64 r) _ (n_is g _ 2 (by omega) (by omega) HX4.out.src) ?_
      rintro z8 w6 ⟨⟨z8a, z8b⟩, hs6, hg6⟩
      have HX6 := Lib.hid (HX4.out.kept hs6 hg6 hge')
      have HR6 := Lib.hid (HR4.out.grw hg6 (fun e => by have := Option.some.inj e; omega))
      refine hK.out _ _ ⟨fun _ => trivial, trivial⟩ (fun hHL => ?_)
      clear hK K hs6 hg6
      (try simp only [Act.put, List.setIfInBounds_toArray, List.set_cons_zero, List.set_cons_succ])
      refine wpAnyL_take (i := 9) (v := ?_) (by rfl) rfl (by kernel_rfl) (by kernel_rfl) (by kernel_rfl) (fun _ _ _ h => h) (Or.inl ⟨by rfl, ?_⟩) hHL ?_
      rotate_left
      ·intro w hSw; (try dsimp only at hSw); (first | (go_simp; done) | (go_simp; with_reducible rfl))
      clear hHL
      intro hHL
      (try simp only [Act.put, List.setIfInBounds_toArray, List.set_cons_zero, List.set_cons_succ])
      refine wpAnyL_take (i := 10) (v := ?_) (by rfl) rfl (by kernel_rfl) (by kernel_rfl) (by kernel_rfl) (fun _ _ _ h => h) (Or.inl ⟨by rfl, ?_⟩) hHL ?_
      rotate_left
      ·intro w hSw; (try dsimp only at hSw); (first | (go_simp; done) | (go_simp; with_reducible rfl))
      clear hHL
      intro hHL
      (try simp only [Act.put, List.setIfInBounds_toArray, List.set_cons_zero, List.set_cons_succ])
      refine wpAnyL_take (i := 11) (v := ?_) (by rfl) rfl (by kernel_rfl) (by kernel_rfl) (by kernel_rfl) (fun _ _ _ h => h) (Or.inl ⟨by rfl, ?_⟩) hHL ?_
      rotate_left
      ·intro w hSw; (try dsimp only at hSw); (first | (go_simp; done) | (go_simp; with_reducible rfl))
      clear hHL
      intro hHL
      (try simp only [Act.put, List.setIfInBounds_toArray, List.set_cons_zero, List.set_cons_succ])
      refine wpAnyL_take (i := 12) (v := ?_) (by rfl) rfl (by kernel_rfl) (by kernel_rfl) (by kernel_rfl) (fun _ _ _ h => h) (Or.inl ⟨by rfl, ?_⟩) hHL ?_
      rotate_left
      ·intro w hSw; (try dsimp only at hSw); (first | (go_simp; done) | (go_simp; with_reducible rfl))
      clear hHL
      intro hHL
      (try simp only [Act.put, List.setIfInBounds_toArray, List.set_cons_zero, List.set_cons_succ])
      refine wpAnyL_done (by kernel_rfl) ?_ _
      clear hHL
      go_wp2_with fail
      go_meet
      first | exact ⟨kk, _, rfl, rfl, small_wf HKK.out, HX6.out⟩ | exact ⟨kk, _, op_get HKc.out _, rfl, small_wf HKK.out, HX6.out⟩
     ·refine step_callX rfl 84 #[.pointer (some ⟨g, 0, none⟩), .int .i64 2] (by kernel_rfl) (fun r : Int => .int .i64 r) _ (n_is g _ 2 (by omega) (by omega) HX4.out.src) ?_
      rintro z8 w5 ⟨⟨z8a, z8b⟩, hs5, hg5⟩
      have HX5 := Lib.hid (HX4.out.kept hs5 hg5 hge')
      have HR5 := Lib.hid (HR4.out.grw hg5 (fun e => by have := Option.some.inj e; omega))
      refine hK.out _ _ ⟨fun _ => trivial, trivial⟩ (fun hHL => ?_)
      clear hK K hs5 hg5
      (try simp only [Act.put, List.setIfInBounds_toArray, List.set_cons_zero, List.set_cons_succ])
      refine wpAnyL_take (i := 9) (v := ?_) (by rfl) rfl (by kernel_rfl) (by kernel_rfl) (by kernel_rfl) (fun _ _ _ h => h) (Or.inl ⟨by rfl, ?_⟩) hHL ?_
      rotate_left
      ·intro w hSw; (try dsimp only at hSw); (first | (go_simp; done) | (go_simp; with_reducible rfl))
      clear hHL
      intro hHL
      (try simp only [Act.put, List.setIfInBounds_toArray, List.set_cons_zero, List.set_cons_succ])
      refine wpAnyL_take (i := 10) (v := ?_) (by rfl) rfl (by kernel_rfl) (by kernel_rfl) (by kernel_rfl) (fun _ _ _ h => h) (Or.inl ⟨by rfl, ?_⟩) hHL ?_
      rotate_left
      ·intro w hSw; (try dsimp only at hSw); (first | (go_simp; done) | (go_simp; with_reducible rfl))
      clear hHL
      intro hHL
      (try simp only [Act.put, List.setIfInBounds_toArray, List.set_cons_zero, List.set_cons_succ])
      refine wpAnyL_ready (rs := [4]) (by kernel_rfl) (by simp) ?_
      refine AllReadyL.cons rfl (fun K hK => ?_) AllReadyL.nil
      have c4 : w5.cell? ⟨w3.heap.size, j, none⟩ = some (.int .i64 kk) := (HR5.out.cell j).trans HKc.out
      go_simp
      refine hK.out _ _ ⟨fun _ => trivial, trivial⟩ (fun hHL => ?_)
      clear hK K
      (try simp only [Act.put, List.setIfInBounds_toArray, List.set_cons_zero, List.set_cons_succ])
      refine wpAnyL_take (i := 11) (v := ?_) (by rfl) rfl (by kernel_rfl) (by kernel_rfl) (by kernel_rfl) (fun _ _ _ h => h) (Or.inl ⟨by rfl, ?_⟩) hHL ?_
      rotate_left
      ·intro w hSw; (try dsimp only at hSw); (first | (go_simp; done) | (go_simp; with_reducible rfl))
      clear hHL
      intro hHL
      (try simp only [Act.put, List.setIfInBounds_toArray, List.set_cons_zero, List.set_cons_succ])
      refine wpAnyL_take (i := 12) (v := ?_) (by rfl) rfl (by kernel_rfl) (by kernel_rfl) (by kernel_rfl) (fun _ _ _ h => h) (Or.inl ⟨by rfl, ?_⟩) hHL ?_
      rotate_left
      ·intro w hSw; (try dsimp only at hSw); (first | (go_simp; done) | (go_simp; with_reducible rfl))
      clear hHL
      intro hHL
      (try simp only [Act.put, List.setIfInBounds_toArray, List.set_cons_zero, List.set_cons_succ])
      refine wpAnyL_done (by kernel_rfl) ?_ _
      clear hHL
      go_wp2_with fail
      go_meet
      first | exact ⟨kk, _, rfl, rfl, small_wf HKK.out, HX5.out⟩ | exact ⟨kk, _, op_get HKc.out _, rfl, small_wf HKK.out, HX5.out⟩
    ·refine step_callX rfl 84 #[.pointer (some ⟨g, 0, none⟩), .int .i64 2] (by kernel_rfl) (fun r : Int => .int .i64 r) _ (n_is g _ 2 (by omega) (by omega) HX3.out.src) ?_
     rintro z8 w4 ⟨⟨z8a, z8b⟩, hs4, hg4⟩
     have HX4 := Lib.hid (HX3.out.kept hs4 hg4 hge')
     refine hK.out _ _ ⟨fun _ => trivial, trivial⟩ (fun hHL => ?_)
     clear hK K hs4 hg4
     (try simp only [Act.put, List.setIfInBounds_toArray, List.set_cons_zero, List.set_cons_succ])
     refine wpAnyL_take (i := 9) (v := ?_) (by rfl) rfl (by kernel_rfl) (by kernel_rfl) (by kernel_rfl) (fun _ _ _ h => h) (Or.inl ⟨by rfl, ?_⟩) hHL ?_
     rotate_left
     ·intro w hSw; (try dsimp only at hSw); (first | (go_simp; done) | (go_simp; with_reducible rfl))
     clear hHL
     intro hHL
     (try simp only [Act.put, List.setIfInBounds_toArray, List.set_cons_zero, List.set_cons_succ])
     refine wpAnyL_take (i := 10) (v := ?_) (by rfl) rfl (by kernel_rfl) (by kernel_rfl) (by kernel_rfl) (fun _ _ _ h => h) (Or.inl ⟨by rfl, ?_⟩) hHL ?_
     rotate_left
     ·intro w hSw; (try dsimp only at hSw); (first | (go_simp; done) | (go_simp; with_reducible rfl))
     clear hHL
     intro hHL
     (try simp only [Act.put, List.setIfInBounds_toArray, List.set_cons_zero, List.set_cons_succ])
     refine wpAnyL_ready (rs := [0]) (by kernel_rfl) (by simp) ?_
     refine AllReadyL.cons rfl (fun K hK => ?_) AllReadyL.nil
     go_simp
     have hb5 : Below w4.heap.size w4 (w4.alloc (.cells (opL.map (Value.int .i64)).toArray 2)) := (Below.refl _ _).alloc (Nat.le_refl _) _
     have HX5 := Lib.hid (HX4.out.later hb5)
     have HR5 : Hid (Row (w4.alloc (.cells (opL.map (Value.int .i64)).toArray 2)) w4.heap.size 2 (opL.map (Value.int .i64))) := Lib.hid (heap_alloc_new w4 _)
     have hgb5 : g < w4.heap.size := HX4.out.src.lt
     refine hK.out _ _ ⟨fun _ => trivial, trivial⟩ (fun hHL => ?_)
     clear hK K hb5
     (try simp only [Act.put, List.setIfInBounds_toArray, List.set_cons_zero, List.set_cons_succ])
     refine wpAnyL_take (i := 3) (v := ?_) (by rfl) rfl (by kernel_rfl) (by kernel_rfl) (by kernel_rfl) (fun _ _ _ h => h) (Or.inl ⟨by rfl, ?_⟩) hHL ?_
     rotate_left
     ·intro w hSw; (try dsimp only at hSw); (first | (go_simp; done) | (go_simp; with_reducible rfl))
     clear hHL
     intro hHL
     (try simp only [Act.put, List.setIfInBounds_toArray, List.set_cons_zero, List.set_cons_succ])
     refine wpAnyL_ready (rs := [4]) (by kernel_rfl) (by simp) ?_
     refine AllReadyL.cons rfl (fun K hK => ?_) AllReadyL.nil
     have c4 : (w4.alloc (.cells (opL.map (Value.int .i64)).toArray 2)).cell? ⟨w4.heap.size, j, none⟩ = some (.int .i64 kk) := (HR5.out.cell j).trans HKc.out
     go_simp
     refine hK.out _ _ ⟨fun _ => trivial, trivial⟩ (fun hHL => ?_)
     clear hK K
     (try simp only [Act.put, List.setIfInBounds_toArray, List.set_cons_zero, List.set_cons_succ])
     refine wpAnyL_take (i := 11) (v := ?_) (by rfl) rfl (by kernel_rfl) (by kernel_rfl) (by kernel_rfl) (fun _ _ _ h => h) (Or.inl ⟨by rfl, ?_⟩) hHL ?_
     rotate_left
     ·intro w hSw; (try dsimp only at hSw); (first | (go_simp; done) | (go_simp; with_reducible rfl))
     clear hHL
     intro hHL
     (try simp only [Act.put, List.setIfInBounds_toArray, List.set_cons_zero, List.set_cons_succ])
     refine wpAnyL_take (i := 12) (v := ?_) (by rfl) rfl (by kernel_rfl) (by kernel_rfl) (by kernel_rfl) (fun _ _ _ h => h) (Or.inl ⟨by rfl, ?_⟩) hHL ?_
     rotate_left
     ·intro w hSw; (try dsimp only at hSw); (first | (go_simp; done) | (go_simp; with_reducible rfl))
     clear hHL
     intro hHL
     (try simp only [Act.put, List.setIfInBounds_toArray, List.set_cons_zero, List.set_cons_succ])
     refine wpAnyL_done (by kernel_rfl) ?_ _
     clear hHL
     go_wp2_with fail
     go_meet
     first | exact ⟨kk, _, rfl, rfl, small_wf HKK.out, HX5.out⟩ | exact ⟨kk, _, op_get HKc.out _, rfl, small_wf HKK.out, HX5.out⟩
 case rest =>
  obtain ⟨n, c, rfl, rfl, hwf, hx⟩ := hcut
  have HXc := Lib.hid hx
  have HN := Lib.hid hwf
  clear hx hwf HX
  go_wp2_with fail
  refine (grantL_is g _ HXc.out.src).mono ?_
  rintro e w9 ⟨⟨k, gr⟩, rfl, ho, hwf, hsm, hs9, hg9⟩
  have HXz := Lib.hid (HXc.out.kept hs9 hg9 hge')
  have HO := Lib.hid ho
  have HWf := Lib.hid hwf
  have HSm := Lib.hid hsm
  have hwz := HXc.out.zero.lt
  have HVk := Lib.hid (show grV gr.now k = .agg #[.int .i64 gr.now, .slice k.wp k.wn k.wc, .slice k.kp k.kn k.kc, .slice k.dp k.dn k.dc] from rfl)
  simp only []
  rw [HVk.out]
  clear ho hwf hsm hs9 hg9
  go_wp2_with (refine Stop.out (p := wpList _ _ _ [{ dst := none, op := .store 27 (.tmp 2) (.tmp 22), type := _, pos := _, after := _, guard := _ }, _, _] _ _) ?_)
  constructor
  refine wpList_store_to rfl 27 (.tmp 2) (.tmp 22) rfl w.heap.size 0 #[.int .i64 gr.now, .slice k.wp k.wn k.wc, .slice k.kp k.kn k.kc, .slice k.dp k.dn k.dc] rfl rfl (HXz.out.zero.there 0 4 (by show 0 + 4 ≤ 4; omega)) sizeGrantZ (oneGrantZ gr.now k) ?_
  intro Z hZ
  have hk7 : Kept w9.heap.size w.heap.size w.heap.size w.heap.size w9 Z := by rw [hZ]; exact Kept.setCells (.inl rfl) _ 0 (Kept.refl _ _ _ _ _)
  have z1 : Row Z w.heap.size 27 (grL gr.now k) := by rw [hZ]; exact HXz.out.zero.setCells _ 0
  have hO := own_move (M := w.heap.size) HO.out hk7 (by omega) (by omega)
  have HBz := Lib.hid (HXz.out.bel.trans (hk7.below (B := w.heap.size) HXz.out.bel.size (Nat.le_refl _) (Nat.le_refl _) (Nat.le_refl _)))
  have HOz := Lib.hid hO
  have d0 : Z.cell? ⟨w.heap.size, 0, none⟩ = some (.int .i64 gr.now) := z1.cell 0
  have d1 : Z.cell? ⟨w.heap.size, 1, none⟩ = some (.slice k.wp k.wn k.wc) := z1.cell 1
  have d2 : Z.cell? ⟨w.heap.size, 2, none⟩ = some (.slice k.kp k.kn k.kc) := z1.cell 2
  have d3 : Z.cell? ⟨w.heap.size, 3, none⟩ = some (.slice k.dp k.dn k.dc) := z1.cell 3
  clear hZ hk7 z1 hO
  go_wp2_with fail
  refine bodyPost_ret (v := .tuple #[grV gr.now k, .int .i64 n, .int .i64 c]) (by simp [results, Tryz.results16, go_sem, d0, d1, d2, d3, grV]; try rfl) rfl ?_
  exact ⟨k, gr, n, c, rfl, HOz.out, HWf.out, HSm.out, HN.out, HBz.out⟩
end Go.Proofs.YtchfgdiipjbgoaaGreat
