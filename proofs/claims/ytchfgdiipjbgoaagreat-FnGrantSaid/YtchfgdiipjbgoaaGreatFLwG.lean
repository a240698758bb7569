/- The promises' own comparison of grants: two that lie apart and are one. -/
import Derived.Test.YtchfgdiipjbgoaaGreatFImGA
import Derived.Laws.StructEq
namespace Go.Proofs.YtchfgdiipjbgoaaGreat
open Go Go.RowKit Go.Lib
set_option linter.unusedVariables false
set_option maxRecDepth 100000

theorem run_neq_word (x : Wd) (w : World) : (binOp .neq 143 (wdV x) (wdV x)).run Tryz.prog w = .ok (.bool false) w := by
 have h1 : Tryz.prog.underlying 143 = some (.struct (Tryz.prog.fieldsOf 143)) := by kernel_rfl
 have h2 : Tryz.prog.stoodInHeld 143 = false := by kernel_rfl
 have hu := Tryz.underlying143
 unfold wdV
 rw [run_neq_struct, run_equalIn_agg w 9999 _ _ _ h1 h2]
 simp [go_sem, hu]
theorem run_neq_key (x : Ky) (w : World) : (binOp .neq 138 (kyV x) (kyV x)).run Tryz.prog w = .ok (.bool false) w := by
 have h1 : Tryz.prog.underlying 138 = some (.struct (Tryz.prog.fieldsOf 138)) := by kernel_rfl
 have h2 : Tryz.prog.stoodInHeld 138 = false := by kernel_rfl
 have hu := Tryz.underlying138
 unfold kyV
 rw [run_neq_struct, run_equalIn_agg w 9999 _ _ _ h1 h2]
 simp [go_sem, hu]
theorem run_ng_word (a b : Operand) (x : Wd) (w : World) : (eqGuard .neq 143 a b (wdV x) (wdV x)).run Tryz.prog w = .ok () w := run_eqGuard_agg w _ _ _ _ _ _ (by kernel_rfl)
theorem run_ng_key (a b : Operand) (x : Ky) (w : World) : (eqGuard .neq 138 a b (kyV x) (kyV x)).run Tryz.prog w = .ok () w := run_eqGuard_agg w _ _ _ _ _ _ (by kernel_rfl)
theorem run_eq_resp (s : RS) (w : World) : (binOp .eql 33 (rsV s) (rsV s)).run Tryz.prog w = .ok (.bool true) w := by
 have h1 : Tryz.prog.underlying 33 = some (.struct (Tryz.prog.fieldsOf 33)) := by kernel_rfl
 have h2 : Tryz.prog.stoodInHeld 33 = false := by kernel_rfl
 have hu := Tryz.underlying33
 unfold rsV
 rw [run_eql_struct, run_equalIn_agg w 9999 _ _ _ h1 h2]
 simp [go_sem, hu]
theorem run_eg_resp (a b : Operand) (s : RS) (w : World) : (eqGuard .eql 33 a b (rsV s) (rsV s)).run Tryz.prog w = .ok () w := run_eqGuard_agg w _ _ _ _ _ _ (by kernel_rfl)
/-- A loop over two lists that are one. -/
def LwRel (n : Nat) (W : World) (i : Value) (wr : World) : Prop := ∃ k : Nat, k ≤ n ∧ i = .int .i64 k ∧ Below W.heap.size W wr
set_option maxHeartbeats 4000000 in
theorem lwGrant_same (h h' : GH) (g : Gr) (w : World) (hi : GrIn w h g) (hi' : GrIn w h' g) (hs : GrSmall g) : Calls Tryz.prog 25 #[grV g.now h, grV g.now h'] w (Ret (.bool true) w) := by
 obtain ⟨wp, wn, wc, kp, kn, kc, dp, dn, dc⟩ := h
 obtain ⟨wp', wn', wc', kp', kn', kc', dp', dn', dc'⟩ := h'
 obtain ⟨now, ws, ks, ds⟩ := g
 obtain ⟨s1, s2, s3, s4⟩ := hs
 obtain ⟨⟨m1, m2, m3⟩, l1, l2, l3⟩ := hi
 obtain ⟨⟨m1', m2', m3'⟩, l1', l2', l3'⟩ := hi'
 simp only at s1 s2 s3 s4 m1 m2 m3 l1 l2 l3 m1' m2' m3' l1' l2' l3' ⊢
 subst m1 m2 m3 m1' m2' m3'
 clear s4
 obtain ⟨W, hW⟩ : ∃ W, W = (w.alloc (.cells #[.int .i64 now, .slice wp ws.length wc, .slice kp ks.length kc, .slice dp ds.length dc] 27)).alloc (.cells #[.int .i64 now, .slice wp' ws.length wc', .slice kp' ks.length kc', .slice dp' ds.length dc'] 27) := ⟨_, rfl⟩
 have hb0 : Below w.heap.size w W := by rw [hW]; go_grown
 have r0 : Row W w.heap.size 27 [.int .i64 now, .slice wp ws.length wc, .slice kp ks.length kc, .slice dp ds.length dc] := by
  rw [hW]
  exact Row.below (heap_alloc_new w _) ((Below.refl _ _).alloc (Nat.le_refl _) _) (by simp)
 have r1 : Row W (w.heap.size + 1) 27 [.int .i64 now, .slice wp' ws.length wc', .slice kp' ks.length kc', .slice dp' ds.length dc'] := by
  rw [hW]
  have h := heap_alloc_new (w.alloc (.cells #[.int .i64 now, .slice wp ws.length wc, .slice kp ks.length kc, .slice dp ds.length dc] 27)) (.cells #[.int .i64 now, .slice wp' ws.length wc', .slice kp' ks.length kc', .slice dp' ds.length dc'] 27)
  rw [World.size_alloc] at h
  exact h
 have HW := Lib.hid hW
 have HB := Lib.hid hb0
 have R0 := Lib.hid r0
 have R1 := Lib.hid r1
 have L1 := Lib.hid (l1.later hb0)
 have L2 := Lib.hid (l2.later hb0)
 have L3 := Lib.hid (l3.later hb0)
 have L1' := Lib.hid (l1'.later hb0)
 have L2' := Lib.hid (l2'.later hb0)
 have L3' := Lib.hid (l3'.later hb0)
 have hz := hb0.size
 obtain ⟨n1, hn1⟩ : ∃ n, n = ws.length := ⟨_, rfl⟩
 obtain ⟨n2, hn2⟩ : ∃ n, n = ks.length := ⟨_, rfl⟩
 obtain ⟨n3, hn3⟩ : ∃ n, n = ds.length := ⟨_, rfl⟩
 rw [← hn1, ← hn2, ← hn3] at R0 R1 HW
 rw [← hn1] at s1
 rw [← hn2] at s2
 rw [← hn3] at s3
 have N1 := Lib.hid hn1
 have N2 := Lib.hid hn2
 have N3 := Lib.hid hn3
 unfold grV
 simp only
 rw [← hn1, ← hn2, ← hn3]
 clear hW hb0 r0 r1 l1 l2 l3 l1' l2' l3' hn1 hn2 hn3
 go_enter Tryz.func25, Tryz.ntmps25
 go_upto_region 1 with fail
 rw [← HW.out]
 have a0 : W.cell? ⟨w.heap.size, 0, none⟩ = some (.int .i64 now) := R0.out.cell 0
 have a1 : W.cell? ⟨w.heap.size, 1, none⟩ = some (.slice wp n1 wc) := R0.out.cell 1
 have a2 : W.cell? ⟨w.heap.size, 2, none⟩ = some (.slice kp n2 kc) := R0.out.cell 2
 have a3 : W.cell? ⟨w.heap.size, 3, none⟩ = some (.slice dp n3 dc) := R0.out.cell 3
 have b0 : W.cell? ⟨w.heap.size + 1, 0, none⟩ = some (.int .i64 now) := R1.out.cell 0
 have b1 : W.cell? ⟨w.heap.size + 1, 1, none⟩ = some (.slice wp' n1 wc') := R1.out.cell 1
 have b2 : W.cell? ⟨w.heap.size + 1, 2, none⟩ = some (.slice kp' n2 kc') := R1.out.cell 2
 have b3 : W.cell? ⟨w.heap.size + 1, 3, none⟩ = some (.slice dp' n3 dc') := R1.out.cell 3
 go_wp2_with fail
 clear a0 a1 a2 a3 b0 b1 b2 b3
 go_loopw [5] (LwRel n1 W) (fun i _ => n1 - (RowKit.intOf i).toNat)
 case atStart => exact ⟨0, by omega, rfl, Below.refl _ _⟩
 case round =>
  obtain ⟨k, hk, rfl, hbel⟩ := hrel
  have HBr := Lib.hid hbel
  have q0 := (R0.out.below hbel R0.out.lt).cell 1
  have q1 := (R1.out.below hbel R1.out.lt).cell 1
  have e0 : wr.cell? ⟨w.heap.size, 1, none⟩ = some (.slice wp n1 wc) := q0
  have e1 : wr.cell? ⟨w.heap.size + 1, 1, none⟩ = some (.slice wp' n1 wc') := q1
  clear hbel q0 q1
  by_cases hlt : k < n1
  ·obtain ⟨x, hx⟩ : ∃ x, ws[k]? = some x := ⟨_, List.getElem?_eq_getElem (by rw [← N1.out]; exact hlt)⟩
   obtain ⟨b, o, rfl, hat⟩ := L1.out.some hx
   obtain ⟨b', o', rfl, hat'⟩ := L1'.out.some hx
   obtain ⟨a0, a1, a2, a3, a4⟩ := wd_cells hat hx
   obtain ⟨g0, g1, g2, g3, g4⟩ := wd_cells hat' hx
   have c0 : wr.cell? ⟨b, o + k * 5, none⟩ = some (.int .i64 x.no) := (HBr.out.cell (p := ⟨b, o + k * 5, none⟩) (World.block_lt_of_cell? W _ a0)).trans a0
   have d0 : wr.cell? ⟨b', o' + k * 5, none⟩ = some (.int .i64 x.no) := (HBr.out.cell (p := ⟨b', o' + k * 5, none⟩) (World.block_lt_of_cell? W _ g0)).trans g0
   have c1 : wr.cell? ⟨b, o + k * 5 + 1, none⟩ = some (.int .i64 x.client) := (HBr.out.cell (p := ⟨b, o + k * 5 + 1, none⟩) (World.block_lt_of_cell? W _ a1)).trans a1
   have d1 : wr.cell? ⟨b', o' + k * 5 + 1, none⟩ = some (.int .i64 x.client) := (HBr.out.cell (p := ⟨b', o' + k * 5 + 1, none⟩) (World.block_lt_of_cell? W _ g1)).trans g1
   have c2 : wr.cell? ⟨b, o + k * 5 + 2, none⟩ = some (.string x.shade) := (HBr.out.cell (p := ⟨b, o + k * 5 + 2, none⟩) (World.block_lt_of_cell? W _ a2)).trans a2
   have d2 : wr.cell? ⟨b', o' + k * 5 + 2, none⟩ = some (.string x.shade) := (HBr.out.cell (p := ⟨b', o' + k * 5 + 2, none⟩) (World.block_lt_of_cell? W _ g2)).trans g2
   have c3 : wr.cell? ⟨b, o + k * 5 + 3, none⟩ = some (.int .i64 x.till) := (HBr.out.cell (p := ⟨b, o + k * 5 + 3, none⟩) (World.block_lt_of_cell? W _ a3)).trans a3
   have d3 : wr.cell? ⟨b', o' + k * 5 + 3, none⟩ = some (.int .i64 x.till) := (HBr.out.cell (p := ⟨b', o' + k * 5 + 3, none⟩) (World.block_lt_of_cell? W _ g3)).trans g3
   have c4 : wr.cell? ⟨b, o + k * 5 + 4, none⟩ = some (.bool x.used) := (HBr.out.cell (p := ⟨b, o + k * 5 + 4, none⟩) (World.block_lt_of_cell? W _ a4)).trans a4
   have d4 : wr.cell? ⟨b', o' + k * 5 + 4, none⟩ = some (.bool x.used) := (HBr.out.cell (p := ⟨b', o' + k * 5 + 4, none⟩) (World.block_lt_of_cell? W _ g4)).trans g4
   clear hat hat' hx a0 g0 a1 g1 a2 g2 a3 g3 a4 g4
   have hnq : ∀ w : World, (binOp .neq 143 (.agg #[.int .i64 x.no, .int .i64 x.client, .string x.shade, .int .i64 x.till, .bool x.used]) (.agg #[.int .i64 x.no, .int .i64 x.client, .string x.shade, .int .i64 x.till, .bool x.used])).run Tryz.prog w = .ok (.bool false) w := fun w => run_neq_word x w
   have hng : ∀ (a b : Operand) (w : World), (eqGuard .neq 143 a b (.agg #[.int .i64 x.no, .int .i64 x.client, .string x.shade, .int .i64 x.till, .bool x.used]) (.agg #[.int .i64 x.no, .int .i64 x.client, .string x.shade, .int .i64 x.till, .bool x.used])).run Tryz.prog w = .ok () w := fun a b w => run_ng_word a b x w
   have hext : Hid (∀ w2, Below wr.heap.size wr w2 → Below W.heap.size W w2) := Lib.hid (fun w2 hb => HBr.out.trans (hb.mono HBr.out.size))
   have f0 : ∀ u : Ext wr, u.w.cell? ⟨w.heap.size, 1, none⟩ = some (.slice (some ⟨b, o, none⟩) n1 wc) := fun u => u.cell e0
   have f1 : ∀ u : Ext wr, u.w.cell? ⟨w.heap.size + 1, 1, none⟩ = some (.slice (some ⟨b', o', none⟩) n1 wc') := fun u => u.cell e1
   have i0 : ∀ u : Ext wr, u.w.cell? ⟨b, o + k * 5, none⟩ = some (.int .i64 x.no) := fun u => u.cell c0
   have j0 : ∀ u : Ext wr, u.w.cell? ⟨b', o' + k * 5, none⟩ = some (.int .i64 x.no) := fun u => u.cell d0
   have i1 : ∀ u : Ext wr, u.w.cell? ⟨b, o + k * 5 + 1, none⟩ = some (.int .i64 x.client) := fun u => u.cell c1
   have j1 : ∀ u : Ext wr, u.w.cell? ⟨b', o' + k * 5 + 1, none⟩ = some (.int .i64 x.client) := fun u => u.cell d1
   have i2 : ∀ u : Ext wr, u.w.cell? ⟨b, o + k * 5 + 2, none⟩ = some (.string x.shade) := fun u => u.cell c2
   have j2 : ∀ u : Ext wr, u.w.cell? ⟨b', o' + k * 5 + 2, none⟩ = some (.string x.shade) := fun u => u.cell d2
   have i3 : ∀ u : Ext wr, u.w.cell? ⟨b, o + k * 5 + 3, none⟩ = some (.int .i64 x.till) := fun u => u.cell c3
   have j3 : ∀ u : Ext wr, u.w.cell? ⟨b', o' + k * 5 + 3, none⟩ = some (.int .i64 x.till) := fun u => u.cell d3
   have i4 : ∀ u : Ext wr, u.w.cell? ⟨b, o + k * 5 + 4, none⟩ = some (.bool x.used) := fun u => u.cell c4
   have j4 : ∀ u : Ext wr, u.w.cell? ⟨b', o' + k * 5 + 4, none⟩ = some (.bool x.used) := fun u => u.cell d4
   clear c0 d0 c1 d1 c2 d2 c3 d3 c4 d4
   go_upto_region 6 with fail
   refine ext_region wr (by kernel_rfl) (by kernel_rfl) (Below.refl _ _) ?_
   repeat (go_big_quiet_step (fail))
   refine wpQuiet_nil ?_
   intro w2 hb2
   have HB2 := Lib.hid (hext.out _ hb2)
   clear hb2 f0 f1 e0 e1 i0 j0 i1 j1 i2 j2 i3 j3 i4 j4 hnq hng
   go_wp2_with fail
   go_roundw
   case rel => exact ⟨k + 1, by omega, by go_num, HB2.out⟩
   case measure => simp [RowKit.intOf]; omega
  ·go_wp2_with fail
   clear e0 e1
   go_loopw [6] (LwRel n2 W) (fun i _ => n2 - (RowKit.intOf i).toNat)
   case atStart => exact ⟨0, by omega, rfl, HBr.out⟩
   case round =>
    obtain ⟨k, hk, rfl, hbel⟩ := hrel
    have HBs := Lib.hid hbel
    have q0 := (R0.out.below hbel R0.out.lt).cell 2
    have q1 := (R1.out.below hbel R1.out.lt).cell 2
    have e0 : wr.cell? ⟨w.heap.size, 2, none⟩ = some (.slice kp n2 kc) := q0
    have e1 : wr.cell? ⟨w.heap.size + 1, 2, none⟩ = some (.slice kp' n2 kc') := q1
    clear hbel q0 q1
    by_cases hlt : k < n2
    ·obtain ⟨x, hx⟩ : ∃ x, ks[k]? = some x := ⟨_, List.getElem?_eq_getElem (by rw [← N2.out]; exact hlt)⟩
     obtain ⟨b, o, rfl, hat⟩ := L2.out.some hx
     obtain ⟨b', o', rfl, hat'⟩ := L2'.out.some hx
     obtain ⟨a0, a1, a2, a3, a4, a5⟩ := ky_cells hat hx
     obtain ⟨g0, g1, g2, g3, g4, g5⟩ := ky_cells hat' hx
     have c0 : wr.cell? ⟨b, o + k * 6, none⟩ = some (.int .i64 x.no) := (HBs.out.cell (p := ⟨b, o + k * 6, none⟩) (World.block_lt_of_cell? W _ a0)).trans a0
     have d0 : wr.cell? ⟨b', o' + k * 6, none⟩ = some (.int .i64 x.no) := (HBs.out.cell (p := ⟨b', o' + k * 6, none⟩) (World.block_lt_of_cell? W _ g0)).trans g0
     have c1 : wr.cell? ⟨b, o + k * 6 + 1, none⟩ = some (.int .i64 x.client) := (HBs.out.cell (p := ⟨b, o + k * 6 + 1, none⟩) (World.block_lt_of_cell? W _ a1)).trans a1
     have d1 : wr.cell? ⟨b', o' + k * 6 + 1, none⟩ = some (.int .i64 x.client) := (HBs.out.cell (p := ⟨b', o' + k * 6 + 1, none⟩) (World.block_lt_of_cell? W _ g1)).trans g1
     have c2 : wr.cell? ⟨b, o + k * 6 + 2, none⟩ = some (.int .i64 x.fam) := (HBs.out.cell (p := ⟨b, o + k * 6 + 2, none⟩) (World.block_lt_of_cell? W _ a2)).trans a2
     have d2 : wr.cell? ⟨b', o' + k * 6 + 2, none⟩ = some (.int .i64 x.fam) := (HBs.out.cell (p := ⟨b', o' + k * 6 + 2, none⟩) (World.block_lt_of_cell? W _ g2)).trans g2
     have c3 : wr.cell? ⟨b, o + k * 6 + 3, none⟩ = some (.bool x.refresh) := (HBs.out.cell (p := ⟨b, o + k * 6 + 3, none⟩) (World.block_lt_of_cell? W _ a3)).trans a3
     have d3 : wr.cell? ⟨b', o' + k * 6 + 3, none⟩ = some (.bool x.refresh) := (HBs.out.cell (p := ⟨b', o' + k * 6 + 3, none⟩) (World.block_lt_of_cell? W _ g3)).trans g3
     have c4 : wr.cell? ⟨b, o + k * 6 + 4, none⟩ = some (.int .i64 x.till) := (HBs.out.cell (p := ⟨b, o + k * 6 + 4, none⟩) (World.block_lt_of_cell? W _ a4)).trans a4
     have d4 : wr.cell? ⟨b', o' + k * 6 + 4, none⟩ = some (.int .i64 x.till) := (HBs.out.cell (p := ⟨b', o' + k * 6 + 4, none⟩) (World.block_lt_of_cell? W _ g4)).trans g4
     have c5 : wr.cell? ⟨b, o + k * 6 + 5, none⟩ = some (.int .i64 x.state) := (HBs.out.cell (p := ⟨b, o + k * 6 + 5, none⟩) (World.block_lt_of_cell? W _ a5)).trans a5
     have d5 : wr.cell? ⟨b', o' + k * 6 + 5, none⟩ = some (.int .i64 x.state) := (HBs.out.cell (p := ⟨b', o' + k * 6 + 5, none⟩) (World.block_lt_of_cell? W _ g5)).trans g5
     clear hat hat' hx a0 g0 a1 g1 a2 g2 a3 g3 a4 g4 a5 g5
     have hnq : ∀ w : World, (binOp .neq 138 (.agg #[.int .i64 x.no, .int .i64 x.client, .int .i64 x.fam, .bool x.refresh, .int .i64 x.till, .int .i64 x.state]) (.agg #[.int .i64 x.no, .int .i64 x.client, .int .i64 x.fam, .bool x.refresh, .int .i64 x.till, .int .i64 x.state])).run Tryz.prog w = .ok (.bool false) w := fun w => run_neq_key x w
     have hng : ∀ (a b : Operand) (w : World), (eqGuard .neq 138 a b (.agg #[.int .i64 x.no, .int .i64 x.client, .int .i64 x.fam, .bool x.refresh, .int .i64 x.till, .int .i64 x.state]) (.agg #[.int .i64 x.no, .int .i64 x.client, .int .i64 x.fam, .bool x.refresh, .int .i64 x.till, .int .i64 x.state])).run Tryz.prog w = .ok () w := fun a b w => run_ng_key a b x w
     have hext : Hid (∀ w2, Below wr.heap.size wr w2 → Below W.heap.size W w2) := Lib.hid (fun w2 hb => HBs.out.trans (hb.mono HBs.out.size))
     have f0 : ∀ u : Ext wr, u.w.cell? ⟨w.heap.size, 2, none⟩ = some (.slice (some ⟨b, o, none⟩) n2 kc) := fun u => u.cell e0
     have f1 : ∀ u : Ext wr, u.w.cell? ⟨w.heap.size + 1, 2, none⟩ = some (.slice (some ⟨b', o', none⟩) n2 kc') := fun u => u.cell e1
     have i0 : ∀ u : Ext wr, u.w.cell? ⟨b, o + k * 6, none⟩ = some (.int .i64 x.no) := fun u => u.cell c0
     have j0 : ∀ u : Ext wr, u.w.cell? ⟨b', o' + k * 6, none⟩ = some (.int .i64 x.no) := fun u => u.cell d0
     have i1 : ∀ u : Ext wr, u.w.cell? ⟨b, o + k * 6 + 1, none⟩ = some (.int .i64 x.client) := fun u => u.cell c1
     have j1 : ∀ u : Ext wr, u.w.cell? ⟨b', o' + k * 6 + 1, none⟩ = some (.int .i64 x.client) := fun u => u.cell d1
     have i2 : ∀ u : Ext wr, u.w.cell? ⟨b, o + k * 6 + 2, none⟩ = some (.int .i64 x.fam) := fun u => u.cell c2
     have j2 : ∀ u : Ext wr, u.w.cell? ⟨b', o' + k * 6 + 2, none⟩ = some (.int .i64 x.fam) := fun u => u.cell d2
     have i3 : ∀ u : Ext wr, u.w.cell? ⟨b, o + k * 6 + 3, none⟩ = some (.bool x.refresh) := fun u => u.cell c3
     have j3 : ∀ u : Ext wr, u.w.cell? ⟨b', o' + k * 6 + 3, none⟩ = some (.bool x.refresh) := fun u => u.cell d3
     have i4 : ∀ u : Ext wr, u.w.cell? ⟨b, o + k * 6 + 4, none⟩ = some (.int .i64 x.till) := fun u => u.cell c4
     have j4 : ∀ u : Ext wr, u.w.cell? ⟨b', o' + k * 6 + 4, none⟩ = some (.int .i64 x.till) := fun u => u.cell d4
     have i5 : ∀ u : Ext wr, u.w.cell? ⟨b, o + k * 6 + 5, none⟩ = some (.int .i64 x.state) := fun u => u.cell c5
     have j5 : ∀ u : Ext wr, u.w.cell? ⟨b', o' + k * 6 + 5, none⟩ = some (.int .i64 x.state) := fun u => u.cell d5
     clear c0 d0 c1 d1 c2 d2 c3 d3 c4 d4 c5 d5
     go_upto_region 11 with fail
     refine ext_region wr (by kernel_rfl) (by kernel_rfl) (Below.refl _ _) ?_
     repeat (go_big_quiet_step (fail))
     refine wpQuiet_nil ?_
     intro w2 hb2
     have HB2 := Lib.hid (hext.out _ hb2)
     clear hb2 f0 f1 e0 e1 i0 j0 i1 j1 i2 j2 i3 j3 i4 j4 i5 j5 hnq hng
     go_wp2_with fail
     go_roundw
     case rel => exact ⟨k + 1, by omega, by go_num, HB2.out⟩
     case measure => simp [RowKit.intOf]; omega
    ·go_wp2_with fail
     clear e0 e1
     go_loopw [7] (LwRel n3 W) (fun i _ => n3 - (RowKit.intOf i).toNat)
     case atStart => exact ⟨0, by omega, rfl, HBs.out⟩
     case round =>
      obtain ⟨k, hk, rfl, hbel⟩ := hrel
      have HBt := Lib.hid hbel
      have q0 := (R0.out.below hbel R0.out.lt).cell 3
      have q1 := (R1.out.below hbel R1.out.lt).cell 3
      have e0 : wr.cell? ⟨w.heap.size, 3, none⟩ = some (.slice dp n3 dc) := q0
      have e1 : wr.cell? ⟨w.heap.size + 1, 3, none⟩ = some (.slice dp' n3 dc') := q1
      clear hbel q0 q1
      by_cases hlt : k < n3
      ·obtain ⟨x, hx⟩ : ∃ x, ds[k]? = some x := ⟨_, List.getElem?_eq_getElem (by rw [← N3.out]; exact hlt)⟩
       obtain ⟨b, o, rfl, hat⟩ := L3.out.some hx
       obtain ⟨b', o', rfl, hat'⟩ := L3'.out.some hx
       have a0 := in_cells hat hx
       have g0 := in_cells hat' hx
       have c0 : wr.cell? ⟨b, o + k, none⟩ = some (.int .i64 x) := (HBt.out.cell (p := ⟨b, o + k, none⟩) (World.block_lt_of_cell? W _ a0)).trans a0
       have d0 : wr.cell? ⟨b', o' + k, none⟩ = some (.int .i64 x) := (HBt.out.cell (p := ⟨b', o' + k, none⟩) (World.block_lt_of_cell? W _ g0)).trans g0
       clear hat hat' hx a0 g0
       have hext : Hid (∀ w2, Below wr.heap.size wr w2 → Below W.heap.size W w2) := Lib.hid (fun w2 hb => HBt.out.trans (hb.mono HBt.out.size))
       have f0 : ∀ u : Ext wr, u.w.cell? ⟨w.heap.size, 3, none⟩ = some (.slice (some ⟨b, o, none⟩) n3 dc) := fun u => u.cell e0
       have f1 : ∀ u : Ext wr, u.w.cell? ⟨w.heap.size + 1, 3, none⟩ = some (.slice (some ⟨b', o', none⟩) n3 dc') := fun u => u.cell e1
       have i0 : ∀ u : Ext wr, u.w.cell? ⟨b, o + k, none⟩ = some (.int .i64 x) := fun u => u.cell c0
       have j0 : ∀ u : Ext wr, u.w.cell? ⟨b', o' + k, none⟩ = some (.int .i64 x) := fun u => u.cell d0
       clear c0 d0
       go_upto_region 16 with fail
       refine ext_region wr (by kernel_rfl) (by kernel_rfl) (Below.refl _ _) ?_
       repeat (go_big_quiet_step (fail))
       refine wpQuiet_nil ?_
       intro w2 hb2
       have HB2 := Lib.hid (hext.out _ hb2)
       clear hb2 f0 f1 e0 e1 i0 j0
       go_wp2_with fail
       go_roundw
       case rel => exact ⟨k + 1, by omega, by go_num, HB2.out⟩
       case measure => simp [RowKit.intOf]; omega
      ·go_wp2_with fail
       clear e0 e1
       go_ret
       exact ⟨rfl, HB.out.trans (HBt.out.mono hz)⟩
set_option maxHeartbeats 4000000 in
theorem lwGrants_same (h k : GH) (g : Gr) (s : RS) (c : Int) (w : World) (hi : GrIn w h g) (hi' : GrIn w k g) (hs : GrSmall g) (hc : c = 0 → grantB g = true) : Calls Tryz.prog 17 #[goV g.now h s c, goV g.now k s c] w (Ret (.bool true) w) := by
 obtain ⟨W, hW⟩ : ∃ W, W = (w.alloc (.cells #[.int .i64 g.now, .slice h.wp h.wn h.wc, .slice h.kp h.kn h.kc, .slice h.dp h.dn h.dc, .int .i64 s.code, .int .i64 s.token, .int .i64 s.next, .bool s.yes, .int .i64 c] 35)).alloc (.cells #[.int .i64 g.now, .slice k.wp k.wn k.wc, .slice k.kp k.kn k.kc, .slice k.dp k.dn k.dc, .int .i64 s.code, .int .i64 s.token, .int .i64 s.next, .bool s.yes, .int .i64 c] 35) := ⟨_, rfl⟩
 have hb0 : Below w.heap.size w W := by rw [hW]; go_grown
 have r0 : Row W w.heap.size 35 (goL g.now h s c) := by
  rw [hW]
  exact Row.below (heap_alloc_new w _) ((Below.refl _ _).alloc (Nat.le_refl _) _) (by simp)
 have r1 : Row W (w.heap.size + 1) 35 (goL g.now k s c) := by
  rw [hW]
  have h := heap_alloc_new (w.alloc (.cells #[.int .i64 g.now, .slice h.wp h.wn h.wc, .slice h.kp h.kn h.kc, .slice h.dp h.dn h.dc, .int .i64 s.code, .int .i64 s.token, .int .i64 s.next, .bool s.yes, .int .i64 c] 35)) (.cells #[.int .i64 g.now, .slice k.wp k.wn k.wc, .slice k.kp k.kn k.kc, .slice k.dp k.dn k.dc, .int .i64 s.code, .int .i64 s.token, .int .i64 s.next, .bool s.yes, .int .i64 c] 35)
  rw [World.size_alloc] at h
  exact h
 have HW := Lib.hid hW
 have HB := Lib.hid hb0
 have R0 := Lib.hid r0
 have R1 := Lib.hid r1
 have hz := hb0.size
 have HI := Lib.hid (hi.later hb0)
 have HI' := Lib.hid (hi'.later hb0)
 have HE := Lib.hid (show goV g.now h s c = .agg #[.int .i64 g.now, .slice h.wp h.wn h.wc, .slice h.kp h.kn h.kc, .slice h.dp h.dn h.dc, .int .i64 s.code, .int .i64 s.token, .int .i64 s.next, .bool s.yes, .int .i64 c] from rfl)
 have HE' := Lib.hid (show goV g.now k s c = .agg #[.int .i64 g.now, .slice k.wp k.wn k.wc, .slice k.kp k.kn k.kc, .slice k.dp k.dn k.dc, .int .i64 s.code, .int .i64 s.token, .int .i64 s.next, .bool s.yes, .int .i64 c] from rfl)
 have HG := Lib.hid (show grV g.now h = .agg #[.int .i64 g.now, .slice h.wp h.wn h.wc, .slice h.kp h.kn h.kc, .slice h.dp h.dn h.dc] from rfl)
 have HG' := Lib.hid (show grV g.now k = .agg #[.int .i64 g.now, .slice k.wp k.wn k.wc, .slice k.kp k.kn k.kc, .slice k.dp k.dn k.dc] from rfl)
 have HSm := Lib.hid hs
 have HC := Lib.hid hc
 have hnq : ∀ w : World, (binOp .eql 33 (.agg #[.int .i64 s.code, .int .i64 s.token, .int .i64 s.next, .bool s.yes]) (.agg #[.int .i64 s.code, .int .i64 s.token, .int .i64 s.next, .bool s.yes])).run Tryz.prog w = .ok (.bool true) w := fun w => run_eq_resp s w
 have hng : ∀ (a b : Operand) (w : World), (eqGuard .eql 33 a b (.agg #[.int .i64 s.code, .int .i64 s.token, .int .i64 s.next, .bool s.yes]) (.agg #[.int .i64 s.code, .int .i64 s.token, .int .i64 s.next, .bool s.yes])).run Tryz.prog w = .ok () w := fun a b w => run_eg_resp a b s w
 clear hW hb0 r0 r1 hi hi' hs hc
 rw [HE.out, HE'.out]
 go_enter Tryz.func17, Tryz.ntmps17
 go_upto_region 1 with fail
 rw [← HW.out]
 have a0 : W.cell? ⟨w.heap.size, 0, none⟩ = some (.int .i64 g.now) := R0.out.cell 0
 have b0 : W.cell? ⟨w.heap.size + 1, 0, none⟩ = some (.int .i64 g.now) := R1.out.cell 0
 have a1 : W.cell? ⟨w.heap.size, 1, none⟩ = some (.slice h.wp h.wn h.wc) := R0.out.cell 1
 have b1 : W.cell? ⟨w.heap.size + 1, 1, none⟩ = some (.slice k.wp k.wn k.wc) := R1.out.cell 1
 have a2 : W.cell? ⟨w.heap.size, 2, none⟩ = some (.slice h.kp h.kn h.kc) := R0.out.cell 2
 have b2 : W.cell? ⟨w.heap.size + 1, 2, none⟩ = some (.slice k.kp k.kn k.kc) := R1.out.cell 2
 have a3 : W.cell? ⟨w.heap.size, 3, none⟩ = some (.slice h.dp h.dn h.dc) := R0.out.cell 3
 have b3 : W.cell? ⟨w.heap.size + 1, 3, none⟩ = some (.slice k.dp k.dn k.dc) := R1.out.cell 3
 have a4 : W.cell? ⟨w.heap.size, 4, none⟩ = some (.int .i64 s.code) := R0.out.cell 4
 have b4 : W.cell? ⟨w.heap.size + 1, 4, none⟩ = some (.int .i64 s.code) := R1.out.cell 4
 have a5 : W.cell? ⟨w.heap.size, 5, none⟩ = some (.int .i64 s.token) := R0.out.cell 5
 have b5 : W.cell? ⟨w.heap.size + 1, 5, none⟩ = some (.int .i64 s.token) := R1.out.cell 5
 have a6 : W.cell? ⟨w.heap.size, 6, none⟩ = some (.int .i64 s.next) := R0.out.cell 6
 have b6 : W.cell? ⟨w.heap.size + 1, 6, none⟩ = some (.int .i64 s.next) := R1.out.cell 6
 have a7 : W.cell? ⟨w.heap.size, 7, none⟩ = some (.bool s.yes) := R0.out.cell 7
 have b7 : W.cell? ⟨w.heap.size + 1, 7, none⟩ = some (.bool s.yes) := R1.out.cell 7
 have a8 : W.cell? ⟨w.heap.size, 8, none⟩ = some (.int .i64 c) := R0.out.cell 8
 have b8 : W.cell? ⟨w.heap.size + 1, 8, none⟩ = some (.int .i64 c) := R1.out.cell 8
 go_wp2_with fail
 rw [← HG.out, ← HG'.out]
 refine (lwGrant_same h k g _ HI.out HI'.out HSm.out).mono ?_
 rintro e w2 ⟨rfl, hb2⟩
 have HB2 := Lib.hid (HB.out.trans (hb2.mono HB.out.size))
 have S0 := R0.out.below hb2 R0.out.lt
 have HI2 := Lib.hid (HI.out.later hb2)
 have d0 : w2.cell? ⟨w.heap.size, 0, none⟩ = some (.int .i64 g.now) := S0.cell 0
 have d1 : w2.cell? ⟨w.heap.size, 1, none⟩ = some (.slice h.wp h.wn h.wc) := S0.cell 1
 have d2 : w2.cell? ⟨w.heap.size, 2, none⟩ = some (.slice h.kp h.kn h.kc) := S0.cell 2
 have d3 : w2.cell? ⟨w.heap.size, 3, none⟩ = some (.slice h.dp h.dn h.dc) := S0.cell 3
 have d8 : w2.cell? ⟨w.heap.size, 8, none⟩ = some (.int .i64 c) := S0.cell 8
 clear hb2 S0 a0 a1 a2 a3 a4 a5 a6 a7 a8 b0 b1 b2 b3 b4 b5 b6 b7 b8 hnq hng
 by_cases hc0 : c = 0
 ·have HGt := Lib.hid (HC.out hc0)
  clear HC
  subst hc0
  go_wp2_with fail
  rw [← HG.out]
  refine (grant_spec g h _ HI2.out HSm.out).mono ?_
  rw [HGt.out]
  rintro e w3 ⟨rfl, hb3⟩
  have HB3 := Lib.hid (HB2.out.trans (hb3.mono HB2.out.size))
  clear hb3 d0 d1 d2 d3 d8
  go_wp2_with fail
  go_ret
  exact ⟨rfl, HB3.out⟩
 ·have e1 : (c != 0) = true := by simpa using hc0
  go_wp2_with fail
  go_ret
  exact ⟨rfl, HB2.out⟩
end Go.Proofs.YtchfgdiipjbgoaaGreat
