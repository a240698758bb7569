/- What all share: the store that it is now. -/
import Derived.Test.YtjccnjfdeedneaaGreatSGdK
import Derived.Test.YtjccnjfdeedneaaGreatSGrant2
import Derived.Test.YtjccnjfdeedneaaGreatSGdB
namespace Go.Proofs.YtjccnjfdeedneaaGreat
open Go Go.RowKit Go.Lib Go.MuLone
set_option linter.unusedVariables false
set_option linter.unusedSimpArgs false
set_option maxRecDepth 100000

section
variable {P : Program} {ops : Array Oper} {Q : Exit → Act → World → Prop} {o : Oper} {a : Act}
theorem step_callS {α : Type} {w : World} {KK : Act → World → Prop} {F : Prop} (hgd : o.guard = none) (f : FuncId) (args : Array Value) (hrun : (execOp a.eval o).run P w = .ok (.enter f args) w) (V : α → Value) (R : α → World → Prop)
  (hc : Calls P f args w fun e w' => ∃ x, e = .returned (V x) ∧ R x w') (h : ∀ x w', R x w' → KK (a.put o.dst (V x)) w') : if Region.wanted o (yielded ops a.tmps) = true then Oper.wp P o a w KK Q else F := by
 have hw : Region.wanted o (yielded ops a.tmps) = true := by simp [Region.wanted, hgd]
 rw [if_pos hw]
 unfold Oper.wp
 rw [hrun, Oper.upon_enter]
 refine hc.mono fun e w'' hh => ?_
 obtain ⟨x, rfl, hr⟩ := hh
 exact h x _ hr
theorem step_stS {w : World} {KK : Act → World → Prop} {F : Prop} (hgd : o.guard = none) (ty : TypeId) (x y : Operand) (ho : o.op = .store ty x y) (b i : Nat) (cells : Array Value) (hx : a.eval x = .pointer (some ⟨b, i, none⟩)) (hy : a.eval y = .agg cells)
  (ht : w.there b i cells.size) (hi : (P.info? ty).map (·.size) = some cells.size) (h1 : cells.all (·.oneCell') = true) (h : KK (a.put o.dst undef) (w.setCells b i cells.toList)) : if Region.wanted o (yielded ops a.tmps) = true then Oper.wp P o a w KK Q else F := by
 have hw : Region.wanted o (yielded ops a.tmps) = true := by simp [Region.wanted, hgd]
 rw [if_pos hw]
 exact wp_store_mid ty x y ho b i cells hx hy ht hi h1 h
end
theorem sizeStore7 : (Tryz.prog.info? 34).map (·.size) = some 7 := by kernel_rfl
theorem oneStore7 (s : St) (h : SH) : (#[.int .i64 s.gr.now, .slice h.gh.wp h.gh.wn h.gh.wc, .slice h.gh.kp h.gh.kn h.gh.kc, .slice h.gh.dp h.gh.dn h.gh.dc, .int .i64 s.ver, .int .i64 s.lock, .slice h.cp h.cn h.cc] : Array Value).all (·.oneCell') = true := by simp [Value.oneCell']
theorem ret_store7 {fn : Func} {p : Tmp} (h : fn.results = #[.cell p 34]) {tmps : Array Value} {w : World} {g : Nat} {s : St} {k : SH} (hp : tmps.getD p undef = .pointer (some ⟨g, 0, none⟩)) (hr : Row w g 34 (stL s k)) :
  (results fn tmps).run Tryz.prog w = .ok (stV s k) w := by
 have hu := Tryz.underlying34
 exact results_cell_row h tmps w g 34 (stL s k).toArray (0, 0) _ hp hr hu rfl sizeStore7
/-- A store that the call itself has made. -/
def StMade (s : St) (sb : Nat) (w : World) (e : Ending) (w' : World) : Prop := ∃ h : SH, e = .returned (stV s h) ∧ GrOwn w.heap.size s.gr h.gh w' ∧ h.cn = s.cache.length ∧ w'.ownsRow w.heap.size 50 4 (.slice h.cp s.cache.length h.cc) s.cache.length (s.cache.flatMap enCf) ∧ w.grownBy w' (some sb)
set_option maxHeartbeats 8000000 in
theorem store_any {ver hold : Int} {q : Option Addr} {c' base M : Nat} {h : ShH} {g : Gr} {td : Int → Int} {l : List En} {w : World} (hr : Row w h.sb 123 (shL g.now ver hold (.slice q l.length c') 0 0 h)) (hrise : h.Rise)
  (hm : ShMaps w h M (wdF g.words g.dead td) (kyF g.keys)) (htd : ∀ i, 0 ≤ td i ∧ td i ≤ g.now) (hg : grantB g = true) (hM : M ≤ 1000) (ho : w.ownsRow base 50 4 (.slice q l.length c') l.length (l.flatMap enCf))
  (hne : ∀ k, (Value.slice q l.length c').ownBlock = some k → k ≠ h.sb) (hl : l.length ≤ 1048576) : Calls Tryz.prog 51 #[.pointer (some ⟨h.sb, 0, none⟩)] w (StMade ⟨g, ver, hold, l⟩ h.sb w) := by
 obtain ⟨W, hW⟩ : ∃ W, W = w.alloc (.cells #[.int .i64 0, .slice none 0 0, .slice none 0 0, .slice none 0 0, .int .i64 0, .int .i64 0, .slice none 0 0] 34) := ⟨_, rfl⟩
 have hb0 : Below w.heap.size w W := by rw [hW]; exact (Below.refl _ _).alloc (Nat.le_refl _) _
 have r0 : Row W w.heap.size 34 [.int .i64 0, .slice none 0 0, .slice none 0 0, .slice none 0 0, .int .i64 0, .int .i64 0, .slice none 0 0] := by rw [hW]; exact heap_alloc_new w _
 have hsz := hr.lt
 have hWz : w.heap.size ≤ W.heap.size := hb0.size
 have HW := Lib.hid hW
 have R0 := Lib.hid r0
 have HS := Lib.hid (hr.below hb0 hsz)
 have HM := Lib.hid (hm.later hb0)
 have HO := Lib.hid (own_late ho hb0)
 have HB := Lib.hid hb0
 have HRi := Lib.hid hrise
 have HTd := Lib.hid htd
 have HG := Lib.hid hg
 have HNe := Lib.hid hne
 clear hW r0 hr hm ho hb0 hrise htd hg hne
 go_enter Tryz.func51, Tryz.ntmps51
 go_wp2_with fail
 rw [← HW.out]
 refine region_L 16 (fun _ => True) (fun _ => True) (by kernel_rfl) ⟨fun _ => trivial, trivial⟩ (fun hHL => ?_)
 refine wpAnyL_take (i := 0) (v := ?_) (by rfl) rfl (by kernel_rfl) (by kernel_rfl) (by kernel_rfl) (fun _ _ _ h => h) (Or.inl ⟨by rfl, ?_⟩) hHL ?_
 rotate_left
 ·intro w hSw; (try dsimp only at hSw); (first | (go_simp; done) | (go_simp; with_reducible rfl))
 clear hHL
 intro hHL
 (try simp only [Act.put, List.setIfInBounds_toArray, List.set_cons_zero, List.set_cons_succ])
 refine wpAnyL_take (i := 3) (v := ?_) (by rfl) rfl (by kernel_rfl) (by kernel_rfl) (by kernel_rfl) (fun _ _ _ h => h) (Or.inl ⟨by rfl, ?_⟩) hHL ?_
 rotate_left
 ·intro w hSw; (try dsimp only at hSw); (first | (go_simp; done) | (go_simp; with_reducible rfl))
 clear hHL
 intro hHL
 (try simp only [Act.put, List.setIfInBounds_toArray, List.set_cons_zero, List.set_cons_succ])
 refine wpAnyL_take (i := 4) (v := ?_) (by rfl) rfl (by kernel_rfl) (by kernel_rfl) (by kernel_rfl) (fun _ _ _ h => h) (Or.inl ⟨by rfl, ?_⟩) hHL ?_
 rotate_left
 ·intro w hSw; (try dsimp only at hSw); (first | (go_simp; done) | (go_simp; with_reducible rfl))
 clear hHL
 intro hHL
 (try simp only [Act.put, List.setIfInBounds_toArray, List.set_cons_zero, List.set_cons_succ])
 refine wpAnyL_take (i := 5) (v := ?_) (by rfl) rfl (by kernel_rfl) (by kernel_rfl) (by kernel_rfl) (fun _ _ _ h => h) (Or.inl ⟨by rfl, ?_⟩) hHL ?_
 rotate_left
 ·intro w hSw; (try dsimp only at hSw); (first | (go_simp; done) | (go_simp; with_reducible rfl))
 clear hHL
 intro hHL
 (try simp only [Act.put, List.setIfInBounds_toArray, List.set_cons_zero, List.set_cons_succ])
 refine wpAnyL_take (i := 7) (v := ?_) (by rfl) rfl (by kernel_rfl) (by kernel_rfl) (by kernel_rfl) (fun _ _ _ h => h) (Or.inl ⟨by rfl, ?_⟩) hHL ?_
 rotate_left
 ·intro w hSw; (try dsimp only at hSw); (first | (go_simp; done) | (go_simp; with_reducible rfl))
 clear hHL
 intro hHL
 (try simp only [Act.put, List.setIfInBounds_toArray, List.set_cons_zero, List.set_cons_succ])
 refine wpAnyL_take (i := 8) (v := ?_) (by rfl) rfl (by kernel_rfl) (by kernel_rfl) (by kernel_rfl) (fun _ _ _ h => h) (Or.inl ⟨by rfl, ?_⟩) hHL ?_
 rotate_left
 ·intro w hSw; (try dsimp only at hSw); (first | (go_simp; done) | (go_simp; with_reducible rfl))
 clear hHL
 intro hHL
 (try simp only [Act.put, List.setIfInBounds_toArray, List.set_cons_zero, List.set_cons_succ])
 refine wpAnyL_take (i := 9) (v := ?_) (by rfl) rfl (by kernel_rfl) (by kernel_rfl) (by kernel_rfl) (fun _ _ _ h => h) (Or.inl ⟨by rfl, ?_⟩) hHL ?_
 rotate_left
 ·intro w hSw; (try dsimp only at hSw); (first | (go_simp; done) | (go_simp; with_reducible rfl))
 clear hHL
 intro hHL
 (try simp only [Act.put, List.setIfInBounds_toArray, List.set_cons_zero, List.set_cons_succ])
 refine wpAnyL_take (i := 11) (v := ?_) (by rfl) rfl (by kernel_rfl) (by kernel_rfl) (by kernel_rfl) (fun _ _ _ h => h) (Or.inl ⟨by rfl, ?_⟩) hHL ?_
 rotate_left
 ·intro w hSw; (try dsimp only at hSw); (first | (go_simp; done) | (go_simp; with_reducible rfl))
 clear hHL
 intro hHL
 (try simp only [Act.put, List.setIfInBounds_toArray, List.set_cons_zero, List.set_cons_succ])
 refine wpAnyL_take (i := 12) (v := ?_) (by rfl) rfl (by kernel_rfl) (by kernel_rfl) (by kernel_rfl) (fun _ _ _ h => h) (Or.inl ⟨by rfl, ?_⟩) hHL ?_
 rotate_left
 ·intro w hSw; (try dsimp only at hSw); (first | (go_simp; done) | (go_simp; with_reducible rfl))
 clear hHL
 intro hHL
 (try simp only [Act.put, List.setIfInBounds_toArray, List.set_cons_zero, List.set_cons_succ])
 refine wpAnyL_take (i := 13) (v := ?_) (by rfl) rfl (by kernel_rfl) (by kernel_rfl) (by kernel_rfl) (fun _ _ _ h => h) (Or.inl ⟨by rfl, ?_⟩) hHL ?_
 rotate_left
 ·intro w hSw; (try dsimp only at hSw); (first | (go_simp; done) | (go_simp; with_reducible rfl))
 clear hHL
 intro hHL
 (try simp only [Act.put, List.setIfInBounds_toArray, List.set_cons_zero, List.set_cons_succ])
 refine wpAnyL_ready (rs := [1]) (by kernel_rfl) (by simp) ?_
 refine AllReadyL.cons rfl (fun K hK => ?_) AllReadyL.nil
 refine step_callS rfl 115 #[.pointer (some ⟨h.sb, 0, none⟩)] (by kernel_rfl) (fun lb : Nat => .pointer (some ⟨lb, 0, none⟩)) (fun lb w1 => (∃ mw mk, LedAt w1 W.heap.size lb mw mk g) ∧ Row w1 h.sb 123 (shL g.now ver hold (.slice q l.length c') 0 0 h) ∧ W.grownBy w1 (some h.sb)) ((look_led (w := W.drew) HS.out HRi.out HM.out HTd.out HG.out hM).mono (by rintro e w1 ⟨lb, mw, mk, rfl, h1, h2, h3, h4⟩; exact ⟨lb, rfl, ⟨mw, mk, h1⟩, h2, drew_grown h4⟩)) ?_
 rintro lb w1 ⟨⟨mw, mk, hled⟩, hs1, hg1⟩
 have HLed := Lib.hid hled
 have HS1 := Lib.hid hs1
 have HG1 := Lib.hid hg1
 clear hled hs1 hg1
 refine hK.out _ _ ⟨fun _ => trivial, trivial⟩ (fun hHL => ?_)
 clear hK K
 (try simp only [Act.put, List.setIfInBounds_toArray, List.set_cons_zero, List.set_cons_succ])
 refine wpAnyL_ready (rs := [2]) (by kernel_rfl) (by simp) ?_
 refine AllReadyL.cons rfl (fun K hK => ?_) AllReadyL.nil
 refine step_callS rfl 116 #[.pointer (some ⟨lb, 0, none⟩)] (by kernel_rfl) (fun k : GH => .agg #[.int .i64 g.now, .slice k.wp k.wn k.wc, .slice k.kp k.kn k.kc, .slice k.dp k.dn k.dc]) (fun k w2 => GrOwn w1.heap.size g k w2 ∧ Below w1.heap.size w1 w2) ((grant_made lb mw mk _ g _ HLed.out HG.out).mono (by rintro e w2 ⟨k, rfl, h1, h2⟩; exact ⟨k, rfl, h1, h2⟩)) ?_
 rintro k w2 ⟨hgo, hb2⟩
 have HGo := Lib.hid hgo
 have HS2 := Lib.hid (HS1.out.below hb2 HS1.out.lt)
 have HG2 := Lib.hid (gb_later HG1.out hb2)
 have HO2 := Lib.hid (own_late (own_gb HO.out HG1.out HNe.out) hb2)
 have hz2 := hb2.size
 clear hgo hb2
 refine hK.out _ _ ⟨fun _ => trivial, trivial⟩ (fun hHL => ?_)
 clear hK K
 (try simp only [Act.put, List.setIfInBounds_toArray, List.set_cons_zero, List.set_cons_succ])
 refine wpAnyL_ready (rs := [6]) (by kernel_rfl) (by simp) ?_
 refine AllReadyL.cons rfl (fun K hK => ?_) AllReadyL.nil
 refine step_callS rfl 117 #[.pointer (some ⟨h.sb, 1, none⟩)] (by kernel_rfl) (fun _ : Unit => .int .i64 ver) (fun _ w3 => w3 = w2) ((ld64 h.sb 1 ver w2 (HS2.out.cell 1)).mono (by rintro e w3 ⟨rfl, rfl⟩; exact ⟨(), rfl, rfl⟩)) ?_
 rintro _ w3 rfl
 refine hK.out _ _ ⟨fun _ => trivial, trivial⟩ (fun hHL => ?_)
 clear hK K
 (try simp only [Act.put, List.setIfInBounds_toArray, List.set_cons_zero, List.set_cons_succ])
 refine wpAnyL_ready (rs := [10]) (by kernel_rfl) (by simp) ?_
 refine AllReadyL.cons rfl (fun K hK => ?_) AllReadyL.nil
 refine step_callS rfl 117 #[.pointer (some ⟨h.sb, 2, none⟩)] (by kernel_rfl) (fun _ : Unit => .int .i64 hold) (fun _ w4 => w4 = w3) ((ld64 h.sb 2 hold w3 (HS2.out.cell 2)).mono (by rintro e w4 ⟨rfl, rfl⟩; exact ⟨(), rfl, rfl⟩)) ?_
 rintro _ w4 rfl
 refine hK.out _ _ ⟨fun _ => trivial, trivial⟩ (fun hHL => ?_)
 clear hK K
 (try simp only [Act.put, List.setIfInBounds_toArray, List.set_cons_zero, List.set_cons_succ])
 refine wpAnyL_ready (rs := [14]) (by kernel_rfl) (by simp) ?_
 refine AllReadyL.cons rfl (fun K hK => ?_) AllReadyL.nil
 refine step_callS rfl 118 #[.pointer (some ⟨h.sb, 3, none⟩)] (by kernel_rfl) (fun p : Option Addr × Nat => .slice p.1 l.length p.2) (fun p w5 => w5.ownsRow w4.heap.size 50 4 (.slice p.1 l.length p.2) l.length (l.flatMap enCf) ∧ w4.grownBy w5 (some h.sb)) ((all_any HS2.out HO2.out HNe.out hl).mono (by rintro e w5 ⟨q2, c2, rfl, h1, h2, h3⟩; exact ⟨(q2, c2), rfl, h1, h3⟩)) ?_
 rintro ⟨q2, c2⟩ w5 ⟨ho5, hg5⟩
 have HO5 := Lib.hid ho5
 have HG5 := Lib.hid hg5
 clear ho5 hg5
 refine hK.out _ _ ⟨fun _ => trivial, trivial⟩ (fun hHL => ?_)
 clear hK K
 (try simp only [Act.put, List.setIfInBounds_toArray, List.set_cons_zero, List.set_cons_succ])
 refine wpAnyL_take (i := 15) (v := ?_) (by rfl) rfl (by kernel_rfl) (by kernel_rfl) (by kernel_rfl) (fun _ _ _ h => h) (Or.inl ⟨by rfl, ?_⟩) hHL ?_
 rotate_left
 ·intro w hSw; (try dsimp only at hSw); (first | (go_simp; done) | (go_simp; with_reducible rfl))
 clear hHL
 intro hHL
 (try simp only [Act.put, List.setIfInBounds_toArray, List.set_cons_zero, List.set_cons_succ])
 refine wpAnyL_ready (rs := [16]) (by kernel_rfl) (by simp) ?_
 refine AllReadyL.cons rfl (fun K hK => ?_) AllReadyL.nil
 have r5 := (R0.out.grownI HG2.out (fun e => by have := Option.some.inj e; omega)).grownI HG5.out (fun e => by have := Option.some.inj e; omega)
 have R5 := Lib.hid r5
 clear r5
 refine step_stS rfl 34 (.tmp 2) (.tmp 18) rfl w.heap.size 0 #[.int .i64 g.now, .slice k.wp k.wn k.wc, .slice k.kp k.kn k.kc, .slice k.dp k.dn k.dc, .int .i64 ver, .int .i64 hold, .slice q2 l.length c2] rfl rfl (R5.out.there 0 7 (by simp)) sizeStore7 (oneStore7 ⟨g, ver, hold, l⟩ ⟨k, q2, l.length, c2⟩) ?_
 generalize hZ : w5.setCells w.heap.size 0 _ = Z
 have hZ := hZ.symm
 have rz : Row Z w.heap.size 34 (stL ⟨g, ver, hold, l⟩ ⟨k, q2, l.length, c2⟩) := by rw [hZ]; exact R5.out.setCells _ 0
 have kz : Kept w5.heap.size w.heap.size w.heap.size w.heap.size w5 Z := by rw [hZ]; exact Kept.setCells (.inl rfl) _ 0 (Kept.refl _ _ _ _ _)
 have RZ := Lib.hid rz
 have KZ := Lib.hid kz
 clear hZ rz kz
 refine hK.out _ _ ⟨fun _ => trivial, trivial⟩ (fun hHL => ?_)
 clear hK K
 (try simp only [Act.put, List.setIfInBounds_toArray, List.set_cons_zero, List.set_cons_succ])
 refine wpAnyL_done (by kernel_rfl) ?_ _
 clear hHL
 go_wp2_with fail
 refine bodyPost_ret (ret_store7 (s := ⟨g, ver, hold, l⟩) (k := ⟨k, q2, l.length, c2⟩) rfl rfl RZ.out) rfl ?_
 have hw0 := R0.out.lt
 have hw1 := HG1.out.size
 have hw4 := HS2.out.lt
 have fin : ∀ {E K n : Nat} {v : Value} {xs : List Value}, w4.ownsRow w1.heap.size E K v n xs → Z.ownsRow w.heap.size E K v n xs := fun h0 => own_down (own_kp h0 (fun j hj => (KZ.out.block j (by have := h0.lt j hj; have := HG5.out.size; omega) (by have := h0.lt j hj; omega) (by have := h0.lt j hj; omega) (by have := h0.lt j hj; omega)).trans (HG5.out.block j (h0.lt j hj).2 (fun e => by have := h0.lt j hj; have := Option.some.inj e; omega)))) (by omega)
 have hz4 : w.heap.size ≤ w4.heap.size := by have := HG2.out.size; omega
 refine ⟨⟨k, q2, l.length, c2⟩, rfl, ⟨fin HGo.out.1, fin HGo.out.2.1, fin HGo.out.2.2⟩, rfl, own_down (own_kp HO5.out (fun j hj => KZ.out.block j (HO5.out.lt j hj).2 (by have := HO5.out.lt j hj; omega) (by have := HO5.out.lt j hj; omega) (by have := HO5.out.lt j hj; omega))) hz4, ?_⟩
 exact gb_skip (gb_skip (gb_skip (gb_below HB.out) HG2.out (.inr rfl)) HG5.out (.inr rfl)) (r := w.heap.size) ⟨KZ.out.os, KZ.out.tape, KZ.out.output, KZ.out.size, fun j hj hne => KZ.out.block j hj (fun e => hne (by rw [e])) (fun e => hne (by rw [e])) (fun e => hne (by rw [e]))⟩ (.inl (Nat.le_refl _))
end Go.Proofs.YtjccnjfdeedneaaGreat
