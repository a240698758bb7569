/- Draws: what the promise of grants is asked of. Draws: a grant and what is asked. -/
import Derived.Test.YtchfgdiipjbgoaaGreatFGdK
import Derived.Test.YtchfgdiipjbgoaaGreatFGdR
import Derived.Test.YtchfgdiipjbgoaaGreatFReqD2
import Derived.Test.YtchfgdiipjbgoaaGreatFImGD
namespace Go.Proofs.YtchfgdiipjbgoaaGreat
open Go Go.RowKit Go.Lib
set_option linter.unusedVariables false
set_option maxRecDepth 100000

theorem IsRow.later {k : IntKind} {w w' : World} {a : Option Addr} {len cap : Nat} {zs : List Int} (h : IsRow k w a len cap zs) (hb : Below w.heap.size w w') : IsRow k w' a len cap zs := by
 rcases h with h | ⟨x, h1, h2, h3, h4, h5, h6⟩
 ·exact .inl h
 ·exact .inr ⟨x, h1, h2, h3, h4, fun i hi => (hb.cell (p := x.add i) (World.block_lt_of_cell? w _ (h5 i hi))).trans (h5 i hi), h6⟩
/-- What a draw does, seen from before its source: what was there is as it was. -/
theorem below_src {g : Nat} {w w1 w2 : World} (hb : Below w.heap.size w w1) (hg : w1.grownBy w2 (some g)) (hge : w.heap.size ≤ g) : Below w.heap.size w w2 :=
 ⟨hg.os.trans hb.os, hg.tape.trans hb.tape, hg.output.trans hb.output, Nat.le_trans hb.size hg.size, fun k hk => (hg.block k (Nat.lt_of_lt_of_le hk hb.size) (fun e => by have := Option.some.inj e; omega)).trans (hb.block k hk)⟩
def zR : RQ := ⟨0, 0, 0, 0, 0, ⟨#[]⟩, 0⟩
def DrawnGD (w : World) (e : Ending) (w' : World) : Prop := ∃ (k : GH) (gr : Gr) (r : RQ), e = .returned (.tuple #[grV gr.now k, rqV r]) ∧ GrOwn w.heap.size gr k w' ∧ GrWf gr ∧ GrSmall gr ∧ RQ64 r ∧ Below w.heap.size w w'
/-- Both results lie in their cells. -/
theorem drawn_put {W : World} {p : Nat} {k : GH} {gr : Gr} {r : RQ} {N : Nat} (h0 : Row W p 27 (grL 0 zH)) (h1 : Row W (p + 1) 29 (rqL zR)) (ho : GrOwn N gr k W) (hN : p + 1 < N) (hb : p ≤ W.heap.size) :
  let Z := (W.setCells p 0 (grL gr.now k)).setCells (p + 1) 0 (rqL r)
  Row Z p 27 (grL gr.now k) ∧ Row Z (p + 1) 29 (rqL r) ∧ GrOwn N gr k Z := by
 have hk1 : Kept W.heap.size p p p W (W.setCells p 0 (grL gr.now k)) := Kept.setCells (.inl rfl) _ 0 (Kept.refl _ _ _ _ _)
 have a0 : Row (W.setCells p 0 (grL gr.now k)) p 27 (grL gr.now k) := h0.setCells _ 0
 have a1 := h1.kept hk1 h1.lt (by omega) (by omega) (by omega)
 have ao := own_move (M := N) ho hk1 (by omega) (Nat.le_refl _)
 have hk2 : Kept (W.setCells p 0 (grL gr.now k)).heap.size (p + 1) (p + 1) (p + 1) (W.setCells p 0 (grL gr.now k)) ((W.setCells p 0 (grL gr.now k)).setCells (p + 1) 0 (rqL r)) := Kept.setCells (.inl rfl) _ 0 (Kept.refl _ _ _ _ _)
 exact ⟨a0.kept hk2 a0.lt (by omega) (by omega) (by omega), a1.setCells _ 0, own_move (M := N) ao hk2 (by omega) (Nat.le_refl _)⟩
theorem grantL_is (g : Nat) (w : World) (hS : SrcAt g w) : Calls Tryz.prog 79 #[.pointer (some ⟨g, 0, none⟩)] w fun e w' => ∃ x : GH × Gr, e = .returned (grV x.2.now x.1) ∧ GrOwn w.heap.size x.2 x.1 w' ∧ GrWf x.2 ∧ GrSmall x.2 ∧ SrcAt g w' ∧ w.grownBy w' (some g) :=
 (grantL_any g w hS).mono (by rintro e w' ⟨k, gr, rfl, h⟩; exact ⟨(k, gr), rfl, h⟩)
theorem own3_dn {N M : Nat} {g : Gr} {k : GH} {w : World} (h : GrOwn N g k w) (hM : M ≤ N) : GrOwn M g k w := ⟨own_down h.1 hM, own_down h.2.1 hM, own_down h.2.2 hM⟩
theorem drawn_put' {W : World} {p : Nat} {k : GH} {gr : Gr} {r : RQ} {N : Nat} (h0 : Row W p 27 (grL 0 zH)) (h1 : Row W (p + 1) 29 (rqL zR)) (ho : GrOwn N gr k W) (hN : p + 1 < N) :
  let Z := (W.setCells (p + 1) 0 (rqL r)).setCells p 0 (grL gr.now k)
  Row Z p 27 (grL gr.now k) ∧ Row Z (p + 1) 29 (rqL r) ∧ GrOwn N gr k Z := by
 have hk1 : Kept W.heap.size (p + 1) (p + 1) (p + 1) W (W.setCells (p + 1) 0 (rqL r)) := Kept.setCells (.inl rfl) _ 0 (Kept.refl _ _ _ _ _)
 have a1 : Row (W.setCells (p + 1) 0 (rqL r)) (p + 1) 29 (rqL r) := h1.setCells _ 0
 have a0 := h0.kept hk1 h0.lt (by omega) (by omega) (by omega)
 have ao := own_move (M := N) ho hk1 (by omega) (Nat.le_refl _)
 have hk2 : Kept (W.setCells (p + 1) 0 (rqL r)).heap.size p p p (W.setCells (p + 1) 0 (rqL r)) ((W.setCells (p + 1) 0 (rqL r)).setCells p 0 (grL gr.now k)) := Kept.setCells (.inl rfl) _ 0 (Kept.refl _ _ _ _ _)
 exact ⟨a0.setCells _ 0, a1.kept hk2 a1.lt (by omega) (by omega) (by omega), own_move (M := N) ao hk2 (by omega) (Nat.le_refl _)⟩
end Go.Proofs.YtchfgdiipjbgoaaGreat
/- Draws: a grant and what is asked. -/
namespace Go.Proofs.YtchfgdiipjbgoaaGreat
open Go Go.RowKit Go.Lib
set_option linter.unusedVariables false
set_option maxRecDepth 100000

set_option maxHeartbeats 4000000 in
theorem drawGD_any (w : World) (a : Option Addr) (len cap : Nat) (zs : List Int) (hl : len ≤ 1048576) (h : IsRow .u8 w a len cap zs) : Calls Tryz.prog 12 #[.slice a len cap] w (DrawnGD w) := by
 obtain ⟨W, hW⟩ : ∃ W, W = (w.alloc (.cells #[.int .i64 0, .slice none 0 0, .slice none 0 0, .slice none 0 0] 27)).alloc (.cells #[.int .i64 0, .int .i64 0, .int .i64 0, .int .i64 0, .int .i64 0, .string ⟨#[]⟩, .int .i64 0] 29) := ⟨_, rfl⟩
 have hb0 : Below w.heap.size w W := by rw [hW]; go_grown
 have r0 : Row W w.heap.size 27 (grL 0 zH) := by
  rw [hW]
  exact Row.below (heap_alloc_new w _) ((Below.refl _ _).alloc (Nat.le_refl _) _) (by simp)
 have r1 : Row W (w.heap.size + 1) 29 (rqL zR) := by
  rw [hW]
  have h := heap_alloc_new (w.alloc (.cells #[.int .i64 0, .slice none 0 0, .slice none 0 0, .slice none 0 0] 27)) (.cells #[.int .i64 0, .int .i64 0, .int .i64 0, .int .i64 0, .int .i64 0, .string ⟨#[]⟩, .int .i64 0] 29)
  rw [World.size_alloc] at h
  exact h
 have hsz : W.heap.size = w.heap.size + 2 := by rw [hW]; simp
 have HW := Lib.hid hW
 have HB := Lib.hid hb0
 have R0 := Lib.hid r0
 have R1 := Lib.hid r1
 have HC := Lib.hid (h.later hb0)
 clear hW hb0 r0 r1 h
 go_enter Tryz.func12, Tryz.ntmps12
 go_wp2_with fail
 rw [← HW.out]
 refine (source_any W a len cap zs (by omega) HC.out).mono ?_
 rintro e w1 ⟨g, hge, rfl, hs1, hb1⟩
 have HS1 := Lib.hid hs1
 have HB1 := Lib.hid (HB.out.trans (hb1.mono HB.out.size))
 have S0 := Lib.hid (R0.out.below hb1 R0.out.lt)
 have S1 := Lib.hid (R1.out.below hb1 R1.out.lt)
 clear hs1 hb1 HC R0 R1
 go_wp2_with fail
 refine (req_any g _ HS1.out).mono ?_
 rintro e w2 ⟨_, ⟨r, hr, rfl⟩, rfl, hs2, hg2⟩
 have hsq2 : W.heap.size ≤ w2.heap.size := by have h1 := HS1.out.lt; have h2 := hg2.size; omega
 have hb3 : Below w2.heap.size w2 (w2.alloc (.cells #[.int .i64 r.no, .int .i64 r.kind, .int .i64 r.client, .int .i64 r.code, .int .i64 r.token, .string r.proof, .int .i64 r.upTo] 29)) := (Below.refl _ _).alloc (Nat.le_refl _) _
 have HS3 := Lib.hid (hs2.below hb3)
 have HB3 := Lib.hid ((below_src HB1.out hg2 (by omega)).trans (hb3.mono (by omega)))
 have T0 := Lib.hid ((S0.out.grw hg2 (fun e => by have := Option.some.inj e; omega)).below hb3 (S0.out.grw hg2 (fun e => by have := Option.some.inj e; omega)).lt)
 have T1 := Lib.hid ((S1.out.grw hg2 (fun e => by have := Option.some.inj e; omega)).below hb3 (S1.out.grw hg2 (fun e => by have := Option.some.inj e; omega)).lt)
 have HQ : Hid (Row (w2.alloc (.cells #[.int .i64 r.no, .int .i64 r.kind, .int .i64 r.client, .int .i64 r.code, .int .i64 r.token, .string r.proof, .int .i64 r.upTo] 29)) w2.heap.size 29 (rqL r)) := Lib.hid (heap_alloc_new w2 _)
 have HR := Lib.hid hr
 have HNeg : Hid (¬ g = w2.heap.size) := Lib.hid (by have h1 := hs2.lt; omega)
 have HV := Lib.hid (show rqV r = .agg #[.int .i64 r.no, .int .i64 r.kind, .int .i64 r.client, .int .i64 r.code, .int .i64 r.token, .string r.proof, .int .i64 r.upTo] from rfl)
 rw [HV.out]
 clear hs2 hg2 hb3 hr HS1 HB1 S0 S1
 go_upto_region 3 with fail
 generalize w2.alloc (.cells #[.int .i64 r.no, .int .i64 r.kind, .int .i64 r.client, .int .i64 r.code, .int .i64 r.token, .string r.proof, .int .i64 r.upTo] 29) = w3 at HS3 HB3 T0 T1 HQ ⊢
 generalize w2.heap.size = q at HQ hsq2 HNeg ⊢
 have HNe : Hid ((some g : Option Nat) ≠ some q) := Lib.hid (fun e => by
  have h1 := Option.some.inj e
  exact HNeg.out h1)
 have HK9 : Hid (∀ wy : World, Row wy q 29 (rqL r) → wy.cell? ⟨q, 0, none⟩ = some (.int .i64 r.no) ∧ wy.cell? ⟨q, 1, none⟩ = some (.int .i64 r.kind) ∧ wy.cell? ⟨q, 2, none⟩ = some (.int .i64 r.client) ∧ wy.cell? ⟨q, 3, none⟩ = some (.int .i64 r.code) ∧ wy.cell? ⟨q, 4, none⟩ = some (.int .i64 r.token) ∧ wy.cell? ⟨q, 5, none⟩ = some (.string r.proof) ∧ wy.cell? ⟨q, 6, none⟩ = some (.int .i64 r.upTo)) := Lib.hid (fun wy h => ⟨h.cell 0, h.cell 1, h.cell 2, h.cell 3, h.cell 4, h.cell 5, h.cell 6⟩)
 have hq3 := HQ.out.lt
 have HSd := Lib.hid (HS3.out.below ((Below.refl w3.heap.size w3).drew))
 refine region_L 1 (fun _ => True) (fun wy => wy.cell? ⟨q, 0, none⟩ = some (.int .i64 r.no) ∧ wy.cell? ⟨q, 1, none⟩ = some (.int .i64 r.kind) ∧ wy.cell? ⟨q, 2, none⟩ = some (.int .i64 r.client) ∧ wy.cell? ⟨q, 3, none⟩ = some (.int .i64 r.code) ∧ wy.cell? ⟨q, 4, none⟩ = some (.int .i64 r.token) ∧ wy.cell? ⟨q, 5, none⟩ = some (.string r.proof) ∧ wy.cell? ⟨q, 6, none⟩ = some (.int .i64 r.upTo)) (by kernel_rfl) ⟨fun _ => trivial, HK9.out _ (HQ.out.below ((Below.refl w3.heap.size w3).drew) HQ.out.lt)⟩ (fun hHL => ?_)
 refine wpAnyL_take (i := 0) (v := ?_) (by rfl) rfl (by kernel_rfl) (by kernel_rfl) (by kernel_rfl) (fun _ _ _ h => h) (Or.inl ⟨by rfl, ?_⟩) hHL ?_
 rotate_left
 ·intro w hSw; (try dsimp only at hSw); (first | (go_simp; done) | (go_simp; with_reducible rfl))
 clear hHL
 intro hHL
 (try simp only [Act.put, List.setIfInBounds_toArray, List.set_cons_zero, List.set_cons_succ])
 refine wpAnyL_take (i := 2) (v := ?_) (by rfl) rfl (by kernel_rfl) (by kernel_rfl) (by kernel_rfl) (fun _ _ _ h => h) (Or.inl ⟨by rfl, ?_⟩) hHL ?_
 rotate_left
 ·intro w hSw; (try dsimp only at hSw); (first | (go_simp; done) | (go_simp; with_reducible rfl))
 clear hHL
 intro hHL
 (try simp only [Act.put, List.setIfInBounds_toArray, List.set_cons_zero, List.set_cons_succ])
 refine wpAnyL_ready (rs := [1]) (by kernel_rfl) (by simp) ?_
 refine AllReadyL.cons rfl (fun K hK => ?_) AllReadyL.nil
 refine step_callX rfl 79 #[.pointer (some ⟨g, 0, none⟩)] (by kernel_rfl) (fun x : GH × Gr => grV x.2.now x.1) _ (grantL_is g _ HSd.out) ?_
 rintro ⟨k, gr⟩ w4 ⟨ho, hwf, hsm, hs4, hg4⟩
 have hsz4 : w3.heap.size ≤ w4.heap.size := hg4.size
 have HQ4 := Lib.hid (Row.grw (HQ.out.below ((Below.refl w3.heap.size w3).drew) HQ.out.lt) hg4 HNe.out)
 have U0 := Lib.hid (Row.grw (T0.out.below ((Below.refl w3.heap.size w3).drew) T0.out.lt) hg4 (fun e => by have := Option.some.inj e; omega))
 have U1 := Lib.hid (Row.grw (T1.out.below ((Below.refl w3.heap.size w3).drew) T1.out.lt) hg4 (fun e => by have := Option.some.inj e; omega))
 have HB4 := Lib.hid (below_src (HB3.out.trans ((Below.refl w3.heap.size w3).drew.mono HB3.out.size)) hg4 (by omega))
 have HO4 := Lib.hid ho
 have HWf := Lib.hid hwf
 have HSm := Lib.hid hsm
 refine hK.out _ _ ⟨fun _ => trivial, HK9.out _ HQ4.out⟩ (fun hHL => ?_)
 clear hK K ho hwf hsm hs4 hg4
 (try simp only [Act.put, List.setIfInBounds_toArray, List.set_cons_zero, List.set_cons_succ])
 have hN : w.heap.size + 1 < w3.drew.heap.size := by show w.heap.size + 1 < w3.heap.size; have := HB3.out.size; omega
 obtain ⟨z0, z1, zo⟩ := drawn_put (r := r) U0.out U1.out HO4.out hN (by have := U0.out.lt; omega)
 refine wpAnyL_ready (rs := [3]) (by kernel_rfl) (by simp) ?_
 refine AllReadyL.cons rfl (fun K hK => ?_) AllReadyL.nil
 refine step_stG rfl 27 (.tmp 2) (.tmp 11) rfl w.heap.size 0 #[.int .i64 gr.now, .slice k.wp k.wn k.wc, .slice k.kp k.kn k.kc, .slice k.dp k.dn k.dc] rfl rfl (U0.out.there 0 4 (by show 0 + 4 ≤ 4; omega)) sizeGrantZ (oneGrantZ gr.now k) ?_
 have hk1 : Kept w4.heap.size w.heap.size w.heap.size w.heap.size w4 (w4.setCells w.heap.size 0 (grL gr.now k)) := Kept.setCells (.inl rfl) _ 0 (Kept.refl _ _ _ _ _)
 have hq5 := Row.kept HQ4.out hk1 HQ4.out.lt (by omega) (by omega) (by omega)
 have hu5 := Row.kept U1.out hk1 U1.out.lt (by omega) (by omega) (by omega)
 have hb5 := hk1.below (B := w.heap.size) HB4.out.size (Nat.le_refl _) (Nat.le_refl _) (Nat.le_refl _)
 have HU5 := Lib.hid hu5
 have HQ5 := Lib.hid hq5
 have HB5 := Lib.hid (HB4.out.trans hb5)
 refine hK.out _ _ ⟨fun _ => trivial, HK9.out _ HQ5.out⟩ (fun hHL => ?_)
 clear hK K hk1 hq5 hu5 hb5
 (try simp only [Act.put])
 refine wpAnyL_ready (rs := [4]) (by kernel_rfl) (by simp) ?_
 refine AllReadyL.cons rfl (fun K hK => ?_) AllReadyL.nil
 refine step_stG rfl 29 (.tmp 3) (.tmp 12) rfl (w.heap.size + 1) 0 #[.int .i64 r.no, .int .i64 r.kind, .int .i64 r.client, .int .i64 r.code, .int .i64 r.token, .string r.proof, .int .i64 r.upTo] rfl rfl (HU5.out.there 0 7 (by show 0 + 7 ≤ 7; omega)) sizeReq7 (oneReq7 r) ?_
 have hk2 : Kept (w4.setCells w.heap.size 0 (grL gr.now k)).heap.size (w.heap.size + 1) (w.heap.size + 1) (w.heap.size + 1) (w4.setCells w.heap.size 0 (grL gr.now k)) ((w4.setCells w.heap.size 0 (grL gr.now k)).setCells (w.heap.size + 1) 0 (rqL r)) := Kept.setCells (.inl rfl) _ 0 (Kept.refl _ _ _ _ _)
 have hq6 := Row.kept HQ5.out hk2 HQ5.out.lt (by omega) (by omega) (by omega)
 have HB6 := Lib.hid (HB5.out.trans (hk2.below (B := w.heap.size) HB5.out.size (by omega) (by omega) (by omega)))
 have HQ6 := Lib.hid hq6
 refine hK.out _ _ ⟨fun _ => trivial, HK9.out _ HQ6.out⟩ (fun hHL => ?_)
 clear hK K hk2 hq6
 (try simp only [Act.put])
 refine wpAnyL_done (by kernel_rfl) ?_ _
 have Z0 := Lib.hid z0
 have Z1 := Lib.hid z1
 have ZO := Lib.hid zo
 clear z0 z1 zo hHL
 have HZ : Hid (∀ Z : World, Z = ((w4.setCells w.heap.size 0 (grL gr.now k)).setCells (w.heap.size + 1) 0 (rqL r)) → Row Z w.heap.size 27 (grL gr.now k) ∧ Row Z (w.heap.size + 1) 29 (rqL r) ∧ GrOwn w3.drew.heap.size gr k Z ∧ Below w.heap.size w Z) := Lib.hid (fun Z hZ => by rw [hZ]; exact ⟨Z0.out, Z1.out, ZO.out, HB6.out⟩)
 generalize hzz : (World.setCells (World.setCells w4 w.heap.size 0 _) (w.heap.size + 1) 0 _) = Z
 have hz9 := HZ.out Z hzz.symm
 obtain ⟨y0, y1, yo, yb⟩ := hz9
 have d0 : Z.cell? ⟨w.heap.size, 0, none⟩ = some (.int .i64 gr.now) := y0.cell 0
 have d1 : Z.cell? ⟨w.heap.size, 1, none⟩ = some (.slice k.wp k.wn k.wc) := y0.cell 1
 have d2 : Z.cell? ⟨w.heap.size, 2, none⟩ = some (.slice k.kp k.kn k.kc) := y0.cell 2
 have d3 : Z.cell? ⟨w.heap.size, 3, none⟩ = some (.slice k.dp k.dn k.dc) := y0.cell 3
 have f0 : Z.cell? ⟨w.heap.size + 1, 0, none⟩ = some (.int .i64 r.no) := y1.cell 0
 have f1 : Z.cell? ⟨w.heap.size + 1, 1, none⟩ = some (.int .i64 r.kind) := y1.cell 1
 have f2 : Z.cell? ⟨w.heap.size + 1, 2, none⟩ = some (.int .i64 r.client) := y1.cell 2
 have f3 : Z.cell? ⟨w.heap.size + 1, 3, none⟩ = some (.int .i64 r.code) := y1.cell 3
 have f4 : Z.cell? ⟨w.heap.size + 1, 4, none⟩ = some (.int .i64 r.token) := y1.cell 4
 have f5 : Z.cell? ⟨w.heap.size + 1, 5, none⟩ = some (.string r.proof) := y1.cell 5
 have f6 : Z.cell? ⟨w.heap.size + 1, 6, none⟩ = some (.int .i64 r.upTo) := y1.cell 6
 have YO := Lib.hid yo
 have YB := Lib.hid yb
 clear y0 y1 yo yb hzz HZ Z0 Z1 ZO HB6 HQ6 HB5 HQ5 HU5
 go_wp2_with fail
 refine bodyPost_ret (v := .tuple #[grV gr.now k, rqV r]) (by simp [results, Tryz.results12, go_sem, d0, d1, d2, d3, f0, f1, f2, f3, f4, f5, f6, grV, rqV]; try rfl) rfl ?_
 exact ⟨k, gr, r, rfl, own3_dn YO.out (by show w.heap.size ≤ w3.heap.size; have := HB3.out.size; omega), HWf.out, HSm.out, HR.out, YB.out⟩
end Go.Proofs.YtchfgdiipjbgoaaGreat
