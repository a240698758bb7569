/- Draws: what is asked, right as a rule. -/
import Derived.Test.YtchfgdiipjbgoaaGreatFReqR
import Derived.Test.YtchfgdiipjbgoaaGreatFGdB
import Derived.Deep.DeepCutAuto
namespace Go.Proofs.YtchfgdiipjbgoaaGreat
open Go Go.RowKit Go.Lib
set_option linter.unusedVariables false
def nosL : List Int := [0, 99, 100]
def tokL : List Int := [-1, 0, 999, 1000]
theorem three_at (k : Nat) (h : k < 3) : ∃ t : ByteArray, t.size ≤ 50 ∧ ([.string ⟨#[]⟩, .string ⟨#[65]⟩, .string ⟨#[97, 98, 99, 100, 101, 102, 103, 104, 105]⟩] : List Value)[k]? = some (.string t) := by
 have h : k = 0 ∨ k = 1 ∨ k = 2 := by omega
 rcases h with rfl | rfl | rfl
 ·exact ⟨_, (by decide : (⟨#[]⟩ : ByteArray).size ≤ 50), rfl⟩
 ·exact ⟨_, (by decide : (⟨#[65]⟩ : ByteArray).size ≤ 50), rfl⟩
 ·exact ⟨_, (by decide : (⟨#[97, 98, 99, 100, 101, 102, 103, 104, 105]⟩ : ByteArray).size ≤ 50), rfl⟩
theorem big50 {t : ByteArray} (h : t.size ≤ 50) : t.size ≤ maxLen := Nat.le_trans h (by unfold maxLen; omega)
set_option maxRecDepth 100000 in
set_option maxHeartbeats 1600000 in
theorem req_any (g : Nat) (w : World) (hS : SrcAt g w) :
  Calls Tryz.prog 78 #[.pointer (some ⟨g, 0, none⟩)] w (SrcPost g w (fun v => ∃ r : RQ, RQ64 r ∧ v = rqV r)) := by
 have HS := Lib.hid (fun o => hS.alloc o)
 have hlt := hS.lt
 clear hS
 have hb0 : Below w.heap.size w (w.alloc (.cells #[.int .i64 0, .int .i64 0, .int .i64 0, .int .i64 0, .int .i64 0, .string { data := #[] }, .int .i64 0] 29)) := (Below.refl _ _).alloc (Nat.le_refl _) _
 have Z0 : Row (w.alloc (.cells #[.int .i64 0, .int .i64 0, .int .i64 0, .int .i64 0, .int .i64 0, .string { data := #[] }, .int .i64 0] 29)) w.heap.size 29 (rqL ⟨0, 0, 0, 0, 0, ⟨#[]⟩, 0⟩) := heap_alloc_new w _
 have HZ0 := Lib.hid Z0
 have HG0 := Lib.hid (grown_below hb0 (some g))
 clear Z0 hb0
 go_enter Tryz.func78, Tryz.ntmps78
 go_wp2_with fail
 refine (n_any g _ 9 (by omega) (HS.out _)).mono ?_
 rintro e w1 ⟨y, h0, h1, _, rfl, hs1, hg1⟩
 have hy : y < 9 := h1 (by omega)
 have ey : IntKind.i64.wrap ((1 : Int) + y) = 1 + y := by rw [IntKind.wrap_i64]; omega
 have HZ1 := Lib.hid (HZ0.out.grw hg1 (fun e => by have := Option.some.inj e; omega))
 have HG1 := Lib.hid (grown_trans HG0.out hg1)
 have HS1 := Lib.hid hs1
 clear hs1 hg1 HS HZ0 HG0 h1
 go_wp2_with fail
 refine (reqR_any g (1 + y) _ ⟨by omega, by omega⟩ HS1.out).mono ?_
 rintro e w2 ⟨_, ⟨r0, hr0, _, rfl⟩, rfl, hs2, hg2⟩
 have HZ2 := Lib.hid (HZ1.out.grw hg2 (fun e => by have := Option.some.inj e; omega))
 have HG2 := Lib.hid (grown_trans HG1.out hg2)
 have hb3 : Below w2.heap.size w2 (w2.alloc (.cells #[.int .i64 r0.no, .int .i64 r0.kind, .int .i64 r0.client, .int .i64 r0.code, .int .i64 r0.token, .string r0.proof, .int .i64 r0.upTo] 29)) := (Below.refl _ _).alloc (Nat.le_refl _) _
 have HX : Hid (BoxQ (fun _ => True) g w2.heap.size w (w2.alloc (.cells #[.int .i64 r0.no, .int .i64 r0.kind, .int .i64 r0.client, .int .i64 r0.code, .int .i64 r0.token, .string r0.proof, .int .i64 r0.upTo] 29))) :=
  Lib.hid ⟨r0, hr0, heap_alloc_new w2 _, HZ2.out.below hb3 HZ2.out.lt, hs2.below hb3, grown_trans HG2.out (grown_below hb3 (some g)), trivial⟩
 have hq5 : w.heap.size < w2.heap.size := HZ2.out.lt
 have HV := Lib.hid (show rqV r0 = .agg #[.int .i64 r0.no, .int .i64 r0.kind, .int .i64 r0.client, .int .i64 r0.code, .int .i64 r0.token, .string r0.proof, .int .i64 r0.upTo] from rfl)
 rw [HV.out]
 clear hs2 hg2 hr0 HZ1 HG1 HS1 HZ2 HG2 hb3
 go_upto_region 2 with fail
 generalize hWW : w2.alloc (.cells #[.int .i64 r0.no, .int .i64 r0.kind, .int .i64 r0.client, .int .i64 r0.code, .int .i64 r0.token, .string r0.proof, .int .i64 r0.upTo] 29) = W at HX ⊢
 generalize hqq : w2.heap.size = q5 at HX hq5 ⊢
 clear hWW hqq HV
 go_wp2_with fail
 refine (n_any g _ 10 (by omega) HX.out.choose_spec.2.2.2.1).mono ?_
 rintro e w3 ⟨z, h0, h1, _, rfl, hs3, hg3⟩
 have HX3 := Lib.hid (HX.out.kept hg3 hs3 hq5 hlt)
 clear hs3 hg3 HX
 dsimp only
 go_step
 go_step
 go_step
 go_step
 go_cut [] (fun wx => BoxQ (fun _ => True) g q5 w wx)
 case first =>
  by_cases z0 : z = 0
  ·subst z0
   go_wp2_with fail
   refine (n_any g _ 8 (by omega) HX3.out.choose_spec.2.2.2.1).mono ?_
   rintro e w4 ⟨kk, h0, h1, _, rfl, hs4, hg4⟩
   have hk8 : kk < 8 := h1 (by omega)
   have HX4 := Lib.hid (HX3.out.kept hg4 hs4 hq5 hlt)
   clear hs4 hg4 HX3
   obtain ⟨r, h64, hw, hz, hs, hg, _⟩ := HX4.out
   have k1 : w4.cell? ⟨q5, 1, none⟩ = some (.int .i64 r.kind) := hw.cell 1
   have f1 := hw.free 1
   have HF : Hid (BoxQ (fun _ => True) g q5 w (w4.setCell ⟨q5, 1, none⟩ (.int .i64 kk))) := Lib.hid (BoxQ.set (r' := { r with kind := kk }) hq5 hlt ⟨h64.1, (show -9223372036854775808 ≤ kk ∧ kk ≤ 9223372036854775807 from ⟨by omega, by omega⟩), h64.2.2.1, h64.2.2.2.1, h64.2.2.2.2.1, h64.2.2.2.2.2.1, h64.2.2.2.2.2.2⟩ hw hz hs hg 1 _ rfl trivial)
   clear h64 hw hz hs hg
   clear HX4
   go_wp2_with fail
   go_meet
   exact HF.out
  by_cases z1 : z = 1
  ·subst z1
   have hbl : Below w3.heap.size w3 (w3.alloc (.cells (nosL.map (Value.int .i64)).toArray 2)) := (Below.refl _ _).alloc (Nat.le_refl _) _
   have HXa := Lib.hid (HX3.out.kept (grown_below hbl (some g)) (HX3.out.choose_spec.2.2.2.1.below hbl) hq5 hlt)
   have hRw : Row (w3.alloc (.cells (nosL.map (Value.int .i64)).toArray 2)) w3.heap.size 2 (nosL.map (Value.int .i64)) := heap_alloc_new w3 _
   have hgW : g < w3.heap.size := HX3.out.choose_spec.2.2.2.1.lt
   go_wp2_with fail
   refine (n_any g _ 3 (by omega) HXa.out.choose_spec.2.2.2.1).mono ?_
   rintro e w5 ⟨y, h0, h1, _, rfl, hs5, hg5⟩
   obtain ⟨j, rfl⟩ := Int.eq_ofNat_of_zero_le h0
   have hj : j < 3 := by have := h1 (by omega); omega
   obtain ⟨kk, hkk, hkc⟩ := ints_at nosL (by decide) j hj
   have c0 : w5.cell? ⟨w3.heap.size, j, none⟩ = some (.int .i64 kk) := ((hRw.grw hg5 (fun e => by have := Option.some.inj e; omega)).cell j).trans hkc
   have HX5 := Lib.hid (HXa.out.kept hg5 hs5 hq5 hlt)
   clear hs5 hg5 hRw HXa hbl hkc h0 h1
   obtain ⟨r, h64, hw, hz, hs, hg, _⟩ := HX5.out
   have k0 : w5.cell? ⟨q5, 0, none⟩ = some (.int .i64 r.no) := hw.cell 0
   have f0 := hw.free 0
   have HF : Hid (BoxQ (fun _ => True) g q5 w (w5.setCell ⟨q5, 0, none⟩ (.int .i64 kk))) := Lib.hid (BoxQ.set (r' := { r with no := kk }) hq5 hlt ⟨hkk, h64.2.1, h64.2.2.1, h64.2.2.2.1, h64.2.2.2.2.1, h64.2.2.2.2.2.1, h64.2.2.2.2.2.2⟩ hw hz hs hg 0 _ rfl trivial)
   clear h64 hw hz hs hg
   clear HX5 HX3
   go_wp2_with fail
   go_meet
   exact HF.out
  by_cases z2 : z = 2
  ·subst z2
   have hbl : Below w3.heap.size w3 (w3.alloc (.cells #[.string { data := #[] }, .string { data := #[65] }, .string { data := #[97, 98, 99, 100, 101, 102, 103, 104, 105] }] 9)) := (Below.refl _ _).alloc (Nat.le_refl _) _
   have HXa := Lib.hid (HX3.out.kept (grown_below hbl (some g)) (HX3.out.choose_spec.2.2.2.1.below hbl) hq5 hlt)
   have HC4 : Hid (∀ j, j < 3 → ∃ t : ByteArray, t.size ≤ 50 ∧ (w3.alloc (.cells #[.string { data := #[] }, .string { data := #[65] }, .string { data := #[97, 98, 99, 100, 101, 102, 103, 104, 105] }] 9)).cell? ⟨w3.heap.size, j, none⟩ = some (.string t)) := Lib.hid fun j hj => by
    have hR : Row (w3.alloc (.cells #[.string { data := #[] }, .string { data := #[65] }, .string { data := #[97, 98, 99, 100, 101, 102, 103, 104, 105] }] 9)) w3.heap.size 9 [.string ⟨#[]⟩, .string ⟨#[65]⟩, .string ⟨#[97, 98, 99, 100, 101, 102, 103, 104, 105]⟩] := heap_alloc_new w3 _
    obtain ⟨t, ht, hc⟩ := three_at j hj
    exact ⟨t, ht, (hR.cell j).trans hc⟩
   have hgW : g < w3.heap.size := HX3.out.choose_spec.2.2.2.1.lt
   go_wp2_with fail
   refine (pick_any g _ w3.heap.size 3 3 (fun t => t.size ≤ 50) (by omega) (by omega) HC4.out (by omega) HXa.out.choose_spec.2.2.2.1).mono ?_
   rintro e w5 ⟨_, ⟨t, ht, rfl⟩, rfl, hs5, hg5⟩
   have HX5 := Lib.hid (HXa.out.kept hg5 hs5 hq5 hlt)
   have HT := Lib.hid ht
   clear hs5 hg5 HXa hbl HC4 ht
   obtain ⟨r, h64, hw, hz, hs, hg, _⟩ := HX5.out
   have k5 : w5.cell? ⟨q5, 5, none⟩ = some (.string r.proof) := hw.cell 5
   have f5 := hw.free 5
   have HF : Hid (BoxQ (fun _ => True) g q5 w (w5.setCell ⟨q5, 5, none⟩ (.string t))) := Lib.hid (BoxQ.set (r' := { r with proof := t }) hq5 hlt ⟨h64.1, h64.2.1, h64.2.2.1, h64.2.2.2.1, h64.2.2.2.2.1, big50 HT.out, h64.2.2.2.2.2.2⟩ hw hz hs hg 5 _ rfl trivial)
   clear h64 hw hz hs hg
   clear HX5 HX3
   go_wp2_with fail
   go_meet
   exact HF.out
  by_cases z3 : z = 3
  ·subst z3
   have hbl : Below w3.heap.size w3 (w3.alloc (.cells (tokL.map (Value.int .i64)).toArray 2)) := (Below.refl _ _).alloc (Nat.le_refl _) _
   have HXa := Lib.hid (HX3.out.kept (grown_below hbl (some g)) (HX3.out.choose_spec.2.2.2.1.below hbl) hq5 hlt)
   have hRw : Row (w3.alloc (.cells (tokL.map (Value.int .i64)).toArray 2)) w3.heap.size 2 (tokL.map (Value.int .i64)) := heap_alloc_new w3 _
   have hgW : g < w3.heap.size := HX3.out.choose_spec.2.2.2.1.lt
   go_wp2_with fail
   refine (n_any g _ 4 (by omega) HXa.out.choose_spec.2.2.2.1).mono ?_
   rintro e w5 ⟨y, h0, h1, _, rfl, hs5, hg5⟩
   obtain ⟨j, rfl⟩ := Int.eq_ofNat_of_zero_le h0
   have hj : j < 4 := by have := h1 (by omega); omega
   obtain ⟨kk, hkk, hkc⟩ := ints_at tokL (by decide) j hj
   have c0 : w5.cell? ⟨w3.heap.size, j, none⟩ = some (.int .i64 kk) := ((hRw.grw hg5 (fun e => by have := Option.some.inj e; omega)).cell j).trans hkc
   have HX5 := Lib.hid (HXa.out.kept hg5 hs5 hq5 hlt)
   clear hs5 hg5 hRw HXa hbl hkc h0 h1
   obtain ⟨r, h64, hw, hz, hs, hg, _⟩ := HX5.out
   have k4 : w5.cell? ⟨q5, 4, none⟩ = some (.int .i64 r.token) := hw.cell 4
   have f4 := hw.free 4
   have HF : Hid (BoxQ (fun _ => True) g q5 w (w5.setCell ⟨q5, 4, none⟩ (.int .i64 kk))) := Lib.hid (BoxQ.set (r' := { r with token := kk }) hq5 hlt ⟨h64.1, h64.2.1, h64.2.2.1, h64.2.2.2.1, hkk, h64.2.2.2.2.2.1, h64.2.2.2.2.2.2⟩ hw hz hs hg 4 _ rfl trivial)
   clear h64 hw hz hs hg
   clear HX5 HX3
   go_wp2_with fail
   go_meet
   exact HF.out
  have d0 : (z == 0) = false := beq_eq_false_iff_ne.2 z0
  have d1 : (z == 1) = false := beq_eq_false_iff_ne.2 z1
  have d2 : (z == 2) = false := beq_eq_false_iff_ne.2 z2
  have d3 : (z == 3) = false := beq_eq_false_iff_ne.2 z3
  go_wp2_with fail
  go_meet
  exact HX3.out
 obtain ⟨r, h64, hw, hz, hs, hg, _⟩ := hcut
 have a0 : wc.cell? ⟨q5, 0, none⟩ = some (.int .i64 r.no) := hw.cell 0
 have a1 : wc.cell? ⟨q5, 1, none⟩ = some (.int .i64 r.kind) := hw.cell 1
 have a2 : wc.cell? ⟨q5, 2, none⟩ = some (.int .i64 r.client) := hw.cell 2
 have a3 : wc.cell? ⟨q5, 3, none⟩ = some (.int .i64 r.code) := hw.cell 3
 have a4 : wc.cell? ⟨q5, 4, none⟩ = some (.int .i64 r.token) := hw.cell 4
 have a5 : wc.cell? ⟨q5, 5, none⟩ = some (.string r.proof) := hw.cell 5
 have a6 : wc.cell? ⟨q5, 6, none⟩ = some (.int .i64 r.upTo) := hw.cell 6
 have HT := Lib.hid (hz.there 0 7 (by show 0 + 7 ≤ 7; omega))
 have HZ := Lib.hid hz
 have HSs := Lib.hid hs
 have HGs := Lib.hid hg
 have H64 := Lib.hid h64
 clear hw hz hs hg h64 HX3
 go_wp2_with (refine Stop.out (p := wpList _ _ _ [{ dst := none, op := .store 29 (.tmp 2) (.tmp 38), type := _, pos := _, after := _, guard := _ }] _ _) ?_)
 constructor
 refine wpList_store_to rfl 29 (.tmp 2) (.tmp 38) rfl w.heap.size 0 #[.int .i64 r.no, .int .i64 r.kind, .int .i64 r.client, .int .i64 r.code, .int .i64 r.token, .string r.proof, .int .i64 r.upTo] rfl rfl HT.out sizeReq7 (oneReq7 r) ?_
 intro Z hZ
 have z1 : Row Z w.heap.size 29 (rqL r) := by rw [hZ]; exact HZ.out.setCells _ 0
 have hgz : wc.grownBy Z (some w.heap.size) := by rw [hZ]; exact grown_sets _ _ _ _
 have HSz := Lib.hid (HSs.out.grown hgz (fun q e => by have := Option.some.inj e; omega))
 have HGz := Lib.hid (grown_join HGs.out hgz (fun q e => by have := Option.some.inj e; omega))
 have d0 : Z.cell? ⟨w.heap.size, 0, none⟩ = some (.int .i64 r.no) := z1.cell 0
 have d1 : Z.cell? ⟨w.heap.size, 1, none⟩ = some (.int .i64 r.kind) := z1.cell 1
 have d2 : Z.cell? ⟨w.heap.size, 2, none⟩ = some (.int .i64 r.client) := z1.cell 2
 have d3 : Z.cell? ⟨w.heap.size, 3, none⟩ = some (.int .i64 r.code) := z1.cell 3
 have d4 : Z.cell? ⟨w.heap.size, 4, none⟩ = some (.int .i64 r.token) := z1.cell 4
 have d5 : Z.cell? ⟨w.heap.size, 5, none⟩ = some (.string r.proof) := z1.cell 5
 have d6 : Z.cell? ⟨w.heap.size, 6, none⟩ = some (.int .i64 r.upTo) := z1.cell 6
 clear hZ z1 hgz HT HZ HSs HGs a0 a1 a2 a3 a4 a5 a6
 go_wp2_with fail
 refine bodyPost_ret (v := rqV r) (by simp [results, Tryz.results78, go_sem, d0, d1, d2, d3, d4, d5, d6, rqV]; try rfl) rfl ?_
 exact ⟨_, ⟨r, H64.out, rfl⟩, rfl, HSz.out, HGz.out⟩
end Go.Proofs.YtchfgdiipjbgoaaGreat
