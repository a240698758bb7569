/- Draws: what is asked, right. -/
import Derived.Test.YtchfgdiipjbgoaaGreatFGdQ
import Derived.Test.YtchfgdiipjbgoaaGreatFGdB
namespace Go.Proofs.YtchfgdiipjbgoaaGreat
open Go Go.RowKit Go.Lib
set_option linter.unusedVariables false
def kindsL : List Int := [1, 2, 2, 3, 3, 4, 5, 5, 5, 6]
def tokensL : List Int := [11, 12, 21, 22, 31, 32, 41, 42, 52, 62, 13]
def bysL : List Int := [1, 5, 30, 100]


def RightQ (r : RQ) : Prop := rightB r = true
/-- What is drawn so far: its number, its kind, the first fields. -/
def Fit (no kk : Int) (s : Nat) (r : RQ) : Prop :=
 r.no = no ∧ r.kind = kk ∧ r.proof = ⟨#[]⟩ ∧ numB (decide (1 ≤ s) && hasB (takesS kk) 99) r.client 3 = true ∧ numB (decide (2 ≤ s) && hasB (takesS kk) 100) r.code 99 = true ∧
  numB (decide (3 ≤ s) && hasB (takesS kk) 116) r.token 999 = true ∧ numB (decide (4 ≤ s) && hasB (takesS kk) 98) r.upTo 1000 = true
theorem grown_sets (g : Nat) : ∀ (vs : List Value) (w : World) (o : Nat), w.grownBy (w.setCells g o vs) (some g)
 | [], w, o => grown_refl w _
 | v :: r, w, o => grown_trans (grown_set w g o v) (grown_sets g r _ (o + 1))
theorem sizeReq7 : (Tryz.prog.info? 29).map (·.size) = some 7 := by kernel_rfl
theorem oneReq7 (r : RQ) : (#[.int .i64 r.no, .int .i64 r.kind, .int .i64 r.client, .int .i64 r.code, .int .i64 r.token, .string r.proof, .int .i64 r.upTo] : Array Value).all (·.oneCell') = true := by simp [Value.oneCell']
theorem no_text : (if false = true then proofB ⟨#[]⟩ else (⟨#[]⟩ : ByteArray).toList.isEmpty) = true := by
 show (⟨#[]⟩ : ByteArray).toList.isEmpty = true
 rw [ByteArray.toList_eq]
 rfl
theorem in64 {lo hi v : Int} (h : lo ≤ v ∧ v ≤ hi) (h1 : -9223372036854775808 ≤ lo) (h2 : hi ≤ 9223372036854775807) : -9223372036854775808 ≤ v ∧ v ≤ 9223372036854775807 := ⟨by omega, by omega⟩
theorem numB_has {b : Bool} {v m : Int} (e : b = true) (hv : 1 ≤ v ∧ v ≤ m) : numB (true && b) v m = true := by
 subst e
 exact isB_iff.2 hv
theorem numB_not {b : Bool} {v m : Int} (e : b = false) (h : numB false v m = true) : numB (true && b) v m = true := by
 subst e
 exact h
theorem Fit.start (no kk : Int) : Fit no kk 0 ⟨no, kk, 0, 0, 0, ⟨#[]⟩, 0⟩ := ⟨rfl, rfl, rfl, rfl, rfl, rfl, rfl⟩
theorem Fit.no1 {no kk : Int} {r : RQ} (h : Fit no kk 0 r) (e : hasB (takesS kk) 99 = false) : Fit no kk 1 r := ⟨h.1, h.2.1, h.2.2.1, numB_not e h.2.2.2.1, h.2.2.2.2.1, h.2.2.2.2.2.1, h.2.2.2.2.2.2⟩
theorem Fit.to1 {no kk v : Int} {r : RQ} (h : Fit no kk 0 r) (e : hasB (takesS kk) 99 = true) (hv : 1 ≤ v ∧ v ≤ 3) : Fit no kk 1 { r with client := v } := ⟨h.1, h.2.1, h.2.2.1, numB_has e hv, h.2.2.2.2.1, h.2.2.2.2.2.1, h.2.2.2.2.2.2⟩
theorem Fit.re1 {no kk v : Int} {r : RQ} (h : Fit no kk 1 r) (e : hasB (takesS kk) 99 = true) (hv : 1 ≤ v ∧ v ≤ 3) : Fit no kk 1 { r with client := v } := ⟨h.1, h.2.1, h.2.2.1, numB_has e hv, h.2.2.2.2.1, h.2.2.2.2.2.1, h.2.2.2.2.2.2⟩
theorem Fit.no2 {no kk : Int} {r : RQ} (h : Fit no kk 1 r) (e : hasB (takesS kk) 100 = false) : Fit no kk 2 r := ⟨h.1, h.2.1, h.2.2.1, h.2.2.2.1, numB_not e h.2.2.2.2.1, h.2.2.2.2.2.1, h.2.2.2.2.2.2⟩
theorem Fit.to2 {no kk v : Int} {r : RQ} (h : Fit no kk 1 r) (e : hasB (takesS kk) 100 = true) (hv : 1 ≤ v ∧ v ≤ 99) : Fit no kk 2 { r with code := v } := ⟨h.1, h.2.1, h.2.2.1, h.2.2.2.1, numB_has e hv, h.2.2.2.2.2.1, h.2.2.2.2.2.2⟩
theorem Fit.no3 {no kk : Int} {r : RQ} (h : Fit no kk 2 r) (e : hasB (takesS kk) 116 = false) : Fit no kk 3 r := ⟨h.1, h.2.1, h.2.2.1, h.2.2.2.1, h.2.2.2.2.1, numB_not e h.2.2.2.2.2.1, h.2.2.2.2.2.2⟩
theorem Fit.to3 {no kk v : Int} {r : RQ} (h : Fit no kk 2 r) (e : hasB (takesS kk) 116 = true) (hv : 1 ≤ v ∧ v ≤ 999) : Fit no kk 3 { r with token := v } := ⟨h.1, h.2.1, h.2.2.1, h.2.2.2.1, h.2.2.2.2.1, numB_has e hv, h.2.2.2.2.2.2⟩
theorem Fit.no4 {no kk : Int} {r : RQ} (h : Fit no kk 3 r) (e : hasB (takesS kk) 98 = false) : Fit no kk 4 r := ⟨h.1, h.2.1, h.2.2.1, h.2.2.2.1, h.2.2.2.2.1, h.2.2.2.2.2.1, numB_not e h.2.2.2.2.2.2⟩
theorem Fit.to4 {no kk v : Int} {r : RQ} (h : Fit no kk 3 r) (e : hasB (takesS kk) 98 = true) (hv : 1 ≤ v ∧ v ≤ 1000) : Fit no kk 4 { r with upTo := v } := ⟨h.1, h.2.1, h.2.2.1, h.2.2.2.1, h.2.2.2.2.1, h.2.2.2.2.2.1, numB_has e hv⟩
theorem Fit.bare {no kk : Int} {r : RQ} (h : Fit no kk 4 r) : Fit no kk 4 { r with proof := ⟨#[]⟩ } := ⟨h.1, h.2.1, rfl, h.2.2.2⟩
theorem Fit.right {no kk : Int} {r : RQ} (h : Fit no kk 4 r) (hn : 1 ≤ no ∧ no ≤ 99) (hk : 1 ≤ kk ∧ kk ≤ 6) {p : ByteArray} (hp : (if hasB (takesS kk) 112 then proofB p else p.toList.isEmpty) = true) : RightQ { r with proof := p } := by
 obtain ⟨rfl, rfl, _, h1, h2, h3, h4⟩ := h
 unfold RightQ rightB
 simp only [Bool.and_eq_true]
 exact ⟨⟨isB_iff.2 hn, isB_iff.2 hk⟩, ⟨⟨⟨h1, h2⟩, h3⟩, h4⟩, hp⟩
theorem Fit.none {no kk : Int} {r : RQ} (h : Fit no kk 4 r) (hn : 1 ≤ no ∧ no ≤ 99) (hk : 1 ≤ kk ∧ kk ≤ 6) (h1 : kk ≠ 1) (h2 : kk ≠ 2) : RightQ r := by
 have e := h.2.2.1
 have hr := h.right hn hk (p := ⟨#[]⟩) (by
  have : kk = 3 ∨ kk = 4 ∨ kk = 5 ∨ kk = 6 := by omega
  rcases this with rfl | rfl | rfl | rfl
  ·rw [show hasB (takesS 3) 112 = false by decide]; exact no_text
  ·rw [show hasB (takesS 4) 112 = false by decide]; exact no_text
  ·rw [show hasB (takesS 5) 112 = false by decide]; exact no_text
  ·rw [show hasB (takesS 6) 112 = false by decide]; exact no_text)
 have e2 : ({ r with proof := ⟨#[]⟩ } : RQ) = r := by rw [← e]
 rw [e2] at hr
 exact hr
theorem two_ba : (if hasB (takesS 1) 112 then proofB ⟨#[98, 97]⟩ else (⟨#[98, 97]⟩ : ByteArray).toList.isEmpty) = true := by decide
theorem two_ab : (if hasB (takesS 2) 112 then proofB ⟨#[97, 98]⟩ else (⟨#[97, 98]⟩ : ByteArray).toList.isEmpty) = true := by decide
theorem two_zz : (if hasB (takesS 2) 112 then proofB ⟨#[122, 122]⟩ else (⟨#[122, 122]⟩ : ByteArray).toList.isEmpty) = true := by decide
def FitR (no kk : Int) (r : RQ) : Prop := Fit no kk 4 { r with proof := ⟨#[]⟩ } ∧ RightQ r

set_option maxRecDepth 100000 in
set_option maxHeartbeats 1600000 in
theorem reqR_any (g : Nat) (no : Int) (w : World) (hno : 1 ≤ no ∧ no ≤ 99) (hS : SrcAt g w) :
  Calls Tryz.prog 85 #[.pointer (some ⟨g, 0, none⟩), .int .i64 no] w (SrcPost g w (fun v => ∃ r : RQ, RQ64 r ∧ RightQ r ∧ v = rqV r)) := by
 have HS := Lib.hid (fun o o' => (hS.alloc o).alloc o')
 have HNo := Lib.hid hno
 have hlt := hS.lt
 clear hS hno
 go_enter Tryz.func85, Tryz.ntmps85
 go_wp2_with fail
 refine (n_any g _ 10 (by omega) (HS.out _ _)).mono ?_
 rintro e w1 ⟨r, h0, h1, _, rfl, hs1, hg1⟩
 obtain ⟨j, rfl⟩ := Int.eq_ofNat_of_zero_le h0
 have hj : j < 10 := by have := h1 (by omega); omega
 have K10 : Row ((w.alloc (.cells #[.int .i64 0, .int .i64 0, .int .i64 0, .int .i64 0, .int .i64 0, .string { data := #[] }, .int .i64 0] 29)).alloc (.cells (kindsL.map (Value.int .i64)).toArray 2)) (w.heap.size + 1) 2 (kindsL.map (Value.int .i64)) := by
  have e : (w.alloc (.cells #[.int .i64 0, .int .i64 0, .int .i64 0, .int .i64 0, .int .i64 0, .string { data := #[] }, .int .i64 0] 29)).heap.size = w.heap.size + 1 := by simp
  have h := heap_alloc_new (w.alloc (.cells #[.int .i64 0, .int .i64 0, .int .i64 0, .int .i64 0, .int .i64 0, .string { data := #[] }, .int .i64 0] 29)) (.cells (kindsL.map (Value.int .i64)).toArray 2)
  rw [e] at h
  exact h
 have Z0 : Row ((w.alloc (.cells #[.int .i64 0, .int .i64 0, .int .i64 0, .int .i64 0, .int .i64 0, .string { data := #[] }, .int .i64 0] 29)).alloc (.cells (kindsL.map (Value.int .i64)).toArray 2)) w.heap.size 29 (rqL ⟨0, 0, 0, 0, 0, ⟨#[]⟩, 0⟩) := Row.below (heap_alloc_new w _ : Row _ _ _ (rqL ⟨0, 0, 0, 0, 0, ⟨#[]⟩, 0⟩)) ((Below.refl _ _).alloc (Nat.le_refl _) _) (by simp)
 obtain ⟨kk, hkk, hkc⟩ := ints_in kindsL 1 6 (by decide) j hj
 have c0 : w1.cell? ⟨w.heap.size + 1, j, none⟩ = some (.int .i64 kk) := ((K10.grw hg1 (fun e => by have := Option.some.inj e; omega)).cell j).trans hkc
 have Z1 := Z0.grw hg1 (fun e => by have := Option.some.inj e; omega)
 have g1 := grown_trans (grown_below (show Below w.heap.size w ((w.alloc (.cells #[.int .i64 0, .int .i64 0, .int .i64 0, .int .i64 0, .int .i64 0, .string { data := #[] }, .int .i64 0] 29)).alloc (.cells (kindsL.map (Value.int .i64)).toArray 2)) by go_grown) (some g)) hg1
 have hb5 : Below w1.heap.size w1 (w1.alloc (.cells #[.int .i64 no, .int .i64 kk, .int .i64 0, .int .i64 0, .int .i64 0, .string { data := #[] }, .int .i64 0] 29)) := (Below.refl _ _).alloc (Nat.le_refl _) _
 have HKk := Lib.hid hkk
 have HX : Hid (BoxQ (Fit no kk 0) g w1.heap.size w (w1.alloc (.cells #[.int .i64 no, .int .i64 kk, .int .i64 0, .int .i64 0, .int .i64 0, .string { data := #[] }, .int .i64 0] 29))) :=
  Lib.hid ⟨⟨no, kk, 0, 0, 0, ⟨#[]⟩, 0⟩, ⟨in64 HNo.out (by decide) (by decide), in64 hkk (by decide) (by decide), z64, z64, z64, Nat.zero_le _, z64⟩, heap_alloc_new w1 _, Z1.below hb5 Z1.lt, hs1.below hb5, grown_trans g1 (grown_below hb5 (some g)), Fit.start no kk⟩
 have hq5 : w.heap.size < w1.heap.size := Z1.lt
 clear hs1 hg1 h0 h1 K10 Z0 Z1 g1 hb5 hkc HS hkk
 go_upto_region 2 with fail
 clear c0
 generalize hWW : w1.alloc (.cells #[.int .i64 no, .int .i64 kk, .int .i64 0, .int .i64 0, .int .i64 0, .string { data := #[] }, .int .i64 0] 29) = W at HX ⊢
 generalize hqq : w1.heap.size = q5 at HX hq5 ⊢
 clear hWW hqq
 obtain ⟨r0, hr, hr1, _, _, _, hf0⟩ := HX.out
 have k1 : W.cell? ⟨q5, 1, none⟩ = some (.int .i64 kk) := hf0.2.1 ▸ hr1.cell 1
 clear hf0
 go_wp2_with fail
 refine (takes_spec _ _).mono ?_
 rintro e w' ⟨rfl, rfl⟩
 have hts := takes_small kk
 generalize hte : takesS kk = t at hts ⊢
 have HTe := Lib.hid hte
 clear hte
 clear hr hr1 k1
 have HT := Lib.hid hts
 clear hts
 go_upto_if 18 with (first | (go_at_call 165; refine (has_spec _ _ _ HT.out).mono ?_; rintro e w' ⟨rfl, rfl⟩))
 generalize hbe : hasB t 99 = hb
 have HBe := Lib.hid hbe
 clear hbe
 go_cut [] (fun wx => BoxQ (Fit no kk 1) g q5 w wx)
 case first =>
  cases hb with
  | false =>
   go_wp2_with fail
   go_meet
   exact BoxQ.mono (fun r h => h.no1 (by rw [HTe.out]; exact HBe.out)) HX.out
  | true =>
   obtain ⟨r, h64, hw, hz, hs, hg, hp⟩ := HX.out
   have k2 : W.cell? ⟨q5, 2, none⟩ = some (.int .i64 r.client) := hw.cell 2
   have f2 := hw.free 2
   have HXn : Hid (BoxQ (Fit no kk 1) g q5 w (W.setCell ⟨q5, 2, none⟩ (.int .i64 1))) := Lib.hid (BoxQ.set (r' := { r with client := 1 }) hq5 hlt ⟨h64.1, h64.2.1, (by decide : (-9223372036854775808 : Int) ≤ 1 ∧ (1 : Int) ≤ 9223372036854775807), h64.2.2.2.1, h64.2.2.2.2.1, h64.2.2.2.2.2.1, h64.2.2.2.2.2.2⟩ hw hz hs hg 2 _ rfl (hp.to1 (by rw [HTe.out]; exact HBe.out) (by decide)))
   clear h64 hw hz hs hg hp
   go_wp2_with fail
   refine (one_any g _ 10 (by omega) HXn.out.choose_spec.2.2.2.1).mono ?_
   rintro e w5 ⟨_, ⟨b, rfl⟩, rfl, hs5, hg5⟩
   have HX5 := Lib.hid (HXn.out.kept hg5 hs5 hq5 hlt)
   clear hs5 hg5 HXn k2 f2
   cases b with
   | false =>
    go_wp2_with fail
    go_meet
    exact HX5.out
   | true =>
    obtain ⟨r, h64, hw, hz, hs, hg, hp⟩ := HX5.out
    have k2 : w5.cell? ⟨q5, 2, none⟩ = some (.int .i64 r.client) := hw.cell 2
    have f2 := hw.free 2
    have HXn : Hid (BoxQ (Fit no kk 1) g q5 w (w5.setCell ⟨q5, 2, none⟩ (.int .i64 2))) := Lib.hid (BoxQ.set (r' := { r with client := 2 }) hq5 hlt ⟨h64.1, h64.2.1, (by decide : (-9223372036854775808 : Int) ≤ 2 ∧ (2 : Int) ≤ 9223372036854775807), h64.2.2.2.1, h64.2.2.2.2.1, h64.2.2.2.2.2.1, h64.2.2.2.2.2.2⟩ hw hz hs hg 2 _ rfl (hp.re1 (by rw [HTe.out]; exact HBe.out) (by decide)))
    clear h64 hw hz hs hg hp
    go_wp2_with fail
    go_meet
    exact HXn.out
 case rest =>
  have HX1 := Lib.hid hcut
  clear HX
  go_upto_if 24 with (first | (go_at_call 165; refine (has_spec _ _ _ HT.out).mono ?_; rintro e w' ⟨rfl, rfl⟩))
  generalize hbe : hasB t 100 = hb
  have HBe := Lib.hid hbe
  clear hbe
  go_cut [] (fun wx => BoxQ (Fit no kk 2) g q5 w wx)
  case first =>
   cases hb with
   | false =>
    go_wp2_with fail
    go_meet
    exact BoxQ.mono (fun r h => h.no2 (by rw [HTe.out]; exact HBe.out)) HX1.out
   | true =>
    go_wp2_with fail
    refine (n_any g _ 2 (by omega) HX1.out.choose_spec.2.2.2.1).mono ?_
    rintro e w5 ⟨y, h0, h1, _, rfl, hs5, hg5⟩
    have hy : y < 2 := h1 (by omega)
    have HX5 := Lib.hid (HX1.out.kept hg5 hs5 hq5 hlt)
    have ey : IntKind.i64.wrap ((1 : Int) + y) = 1 + y := by rw [IntKind.wrap_i64]; omega
    clear hs5 hg5
    obtain ⟨r, h64, hw, hz, hs, hg, hp⟩ := HX5.out
    have k3 : w5.cell? ⟨q5, 3, none⟩ = some (.int .i64 r.code) := hw.cell 3
    have f3 := hw.free 3
    have HXn : Hid (BoxQ (Fit no kk 2) g q5 w (w5.setCell ⟨q5, 3, none⟩ (.int .i64 (1 + y)))) := Lib.hid (BoxQ.set (r' := { r with code := 1 + y }) hq5 hlt ⟨h64.1, h64.2.1, h64.2.2.1, (show -9223372036854775808 ≤ 1 + y ∧ 1 + y ≤ 9223372036854775807 from ⟨by omega, by omega⟩), h64.2.2.2.2.1, h64.2.2.2.2.2.1, h64.2.2.2.2.2.2⟩ hw hz hs hg 3 _ rfl (hp.to2 (by rw [HTe.out]; exact HBe.out) ⟨by omega, by omega⟩))
    clear h64 hw hz hs hg hp
    go_wp2_with fail
    go_meet
    exact HXn.out
  case rest =>
   have HX2 := Lib.hid hcut
   clear HX1
   go_upto_if 30 with (first | (go_at_call 165; refine (has_spec _ _ _ HT.out).mono ?_; rintro e w' ⟨rfl, rfl⟩))
   generalize hbe : hasB t 116 = hb
   have HBe := Lib.hid hbe
   clear hbe
   go_cut [] (fun wx => BoxQ (Fit no kk 3) g q5 w wx)
   case first =>
    cases hb with
    | false =>
     go_wp2_with fail
     go_meet
     exact BoxQ.mono (fun r h => h.no3 (by rw [HTe.out]; exact HBe.out)) HX2.out
    | true =>
     go_wp2_with fail
     have hbl : Below wc.heap.size wc (wc.alloc (.cells (tokensL.map (Value.int .i64)).toArray 2)) := (Below.refl _ _).alloc (Nat.le_refl _) _
     have HXa := Lib.hid (HX2.out.kept (grown_below hbl (some g)) (HX2.out.choose_spec.2.2.2.1.below hbl) hq5 hlt)
     have hRw : Row (wc.alloc (.cells (tokensL.map (Value.int .i64)).toArray 2)) wc.heap.size 2 (tokensL.map (Value.int .i64)) := heap_alloc_new wc _
     have hgW : g < wc.heap.size := HX2.out.choose_spec.2.2.2.1.lt
     refine (n_any g _ 11 (by omega) HXa.out.choose_spec.2.2.2.1).mono ?_
     rintro e w5 ⟨y, h0, h1, _, rfl, hs5, hg5⟩
     obtain ⟨j, rfl⟩ := Int.eq_ofNat_of_zero_le h0
     have hj : j < 11 := by have := h1 (by omega); omega
     obtain ⟨vv, hvv, hkc⟩ := ints_in tokensL 1 999 (by decide) j hj
     have c0 : w5.cell? ⟨wc.heap.size, j, none⟩ = some (.int .i64 vv) := ((hRw.grw hg5 (fun e => by have := Option.some.inj e; omega)).cell j).trans hkc
     have HX5 := Lib.hid (HXa.out.kept hg5 hs5 hq5 hlt)
     clear hs5 hg5 hRw HXa hbl hkc h0 h1
     obtain ⟨r, h64, hw, hz, hs, hg, hp⟩ := HX5.out
     have k4 : w5.cell? ⟨q5, 4, none⟩ = some (.int .i64 r.token) := hw.cell 4
     have f4 := hw.free 4
     have HXn : Hid (BoxQ (Fit no kk 3) g q5 w (w5.setCell ⟨q5, 4, none⟩ (.int .i64 vv))) := Lib.hid (BoxQ.set (r' := { r with token := vv }) hq5 hlt ⟨h64.1, h64.2.1, h64.2.2.1, h64.2.2.2.1, (in64 hvv (by decide) (by decide)), h64.2.2.2.2.2.1, h64.2.2.2.2.2.2⟩ hw hz hs hg 4 _ rfl (hp.to3 (by rw [HTe.out]; exact HBe.out) hvv))
     clear h64 hw hz hs hg hp
     go_wp2_with fail
     go_meet
     exact HXn.out
   case rest =>
    have HX3 := Lib.hid hcut
    clear HX2
    go_upto_if 38 with (first | (go_at_call 165; refine (has_spec _ _ _ HT.out).mono ?_; rintro e w' ⟨rfl, rfl⟩))
    generalize hbe : hasB t 98 = hb
    have HBe := Lib.hid hbe
    clear hbe
    go_cut [] (fun wx => BoxQ (Fit no kk 4) g q5 w wx)
    case first =>
     cases hb with
     | false =>
      go_wp2_with fail
      go_meet
      exact BoxQ.mono (fun r h => h.no4 (by rw [HTe.out]; exact HBe.out)) HX3.out
     | true =>
      go_wp2_with fail
      have hbl : Below wc.heap.size wc (wc.alloc (.cells (bysL.map (Value.int .i64)).toArray 2)) := (Below.refl _ _).alloc (Nat.le_refl _) _
      have HXa := Lib.hid (HX3.out.kept (grown_below hbl (some g)) (HX3.out.choose_spec.2.2.2.1.below hbl) hq5 hlt)
      have hRw : Row (wc.alloc (.cells (bysL.map (Value.int .i64)).toArray 2)) wc.heap.size 2 (bysL.map (Value.int .i64)) := heap_alloc_new wc _
      have hgW : g < wc.heap.size := HX3.out.choose_spec.2.2.2.1.lt
      refine (n_any g _ 4 (by omega) HXa.out.choose_spec.2.2.2.1).mono ?_
      rintro e w5 ⟨y, h0, h1, _, rfl, hs5, hg5⟩
      obtain ⟨j, rfl⟩ := Int.eq_ofNat_of_zero_le h0
      have hj : j < 4 := by have := h1 (by omega); omega
      obtain ⟨vv, hvv, hkc⟩ := ints_in bysL 1 1000 (by decide) j hj
      have c0 : w5.cell? ⟨wc.heap.size, j, none⟩ = some (.int .i64 vv) := ((hRw.grw hg5 (fun e => by have := Option.some.inj e; omega)).cell j).trans hkc
      have HX5 := Lib.hid (HXa.out.kept hg5 hs5 hq5 hlt)
      clear hs5 hg5 hRw HXa hbl hkc h0 h1
      obtain ⟨r, h64, hw, hz, hs, hg, hp⟩ := HX5.out
      have k6 : w5.cell? ⟨q5, 6, none⟩ = some (.int .i64 r.upTo) := hw.cell 6
      have f6 := hw.free 6
      have HXn : Hid (BoxQ (Fit no kk 4) g q5 w (w5.setCell ⟨q5, 6, none⟩ (.int .i64 vv))) := Lib.hid (BoxQ.set (r' := { r with upTo := vv }) hq5 hlt ⟨h64.1, h64.2.1, h64.2.2.1, h64.2.2.2.1, h64.2.2.2.2.1, h64.2.2.2.2.2.1, (in64 hvv (by decide) (by decide))⟩ hw hz hs hg 6 _ rfl (hp.to4 (by rw [HTe.out]; exact HBe.out) hvv))
      clear h64 hw hz hs hg hp
      go_wp2_with fail
      go_meet
      exact HXn.out
    case rest =>
     have HX4 := Lib.hid hcut
     clear HX3
     obtain ⟨r1, hr64, hrw, _, _, _, hf1⟩ := HX4.out
     have k1 : wc.cell? ⟨q5, 1, none⟩ = some (.int .i64 kk) := hf1.2.1 ▸ hrw.cell 1
     generalize hkd : kk = kd at k1
     have HKd := Lib.hid hkd
     clear hr64 hrw hkd hf1
     by_cases e1 : kd = 1
     ·subst e1
      obtain ⟨r, h64, hw, hz, hs, hg, hp⟩ := HX4.out
      have k5 : wc.cell? ⟨q5, 5, none⟩ = some (.string r.proof) := hw.cell 5
      have f5 := hw.free 5
      have HF : Hid (BoxQ RightQ g q5 w (wc.setCell ⟨q5, 5, none⟩ (.string ⟨#[98, 97]⟩))) := Lib.hid (BoxQ.set (r' := { r with proof := ⟨#[98, 97]⟩ }) hq5 hlt ⟨h64.1, h64.2.1, h64.2.2.1, h64.2.2.2.1, h64.2.2.2.2.1, small2, h64.2.2.2.2.2.2⟩ hw hz hs hg 5 _ rfl (hp.right HNo.out HKk.out (by rw [HKd.out]; exact two_ba)))
      clear h64 hw hz hs hg hp
      clear HX4
      obtain ⟨r, h64, hw, hz, hs, hg, hp⟩ := HF.out
      have a0 : (wc.setCell ⟨q5, 5, none⟩ (.string ⟨#[98, 97]⟩)).cell? ⟨q5, 0, none⟩ = some (.int .i64 r.no) := hw.cell 0
      have a1 : (wc.setCell ⟨q5, 5, none⟩ (.string ⟨#[98, 97]⟩)).cell? ⟨q5, 1, none⟩ = some (.int .i64 r.kind) := hw.cell 1
      have a2 : (wc.setCell ⟨q5, 5, none⟩ (.string ⟨#[98, 97]⟩)).cell? ⟨q5, 2, none⟩ = some (.int .i64 r.client) := hw.cell 2
      have a3 : (wc.setCell ⟨q5, 5, none⟩ (.string ⟨#[98, 97]⟩)).cell? ⟨q5, 3, none⟩ = some (.int .i64 r.code) := hw.cell 3
      have a4 : (wc.setCell ⟨q5, 5, none⟩ (.string ⟨#[98, 97]⟩)).cell? ⟨q5, 4, none⟩ = some (.int .i64 r.token) := hw.cell 4
      have a5 : (wc.setCell ⟨q5, 5, none⟩ (.string ⟨#[98, 97]⟩)).cell? ⟨q5, 5, none⟩ = some (.string r.proof) := hw.cell 5
      have a6 : (wc.setCell ⟨q5, 5, none⟩ (.string ⟨#[98, 97]⟩)).cell? ⟨q5, 6, none⟩ = some (.int .i64 r.upTo) := hw.cell 6
      have HT := Lib.hid (hz.there 0 7 (by show 0 + 7 ≤ 7; omega))
      have HZ := Lib.hid hz
      have HSs := Lib.hid hs
      have HGs := Lib.hid hg
      have HR := Lib.hid h64
      have HP := Lib.hid hp
      clear hw hz hs hg h64 hp
      go_wp2_with (refine Stop.out (p := wpList _ _ _ [{ dst := none, op := .store 29 (.tmp 4) (.tmp 58), type := _, pos := _, after := _, guard := _ }] _ _) ?_)
      constructor
      refine wpList_store_to rfl 29 (.tmp 4) (.tmp 58) rfl w.heap.size 0 #[.int .i64 r.no, .int .i64 r.kind, .int .i64 r.client, .int .i64 r.code, .int .i64 r.token, .string r.proof, .int .i64 r.upTo] rfl rfl HT.out sizeReq7 (oneReq7 r) ?_
      intro Z hZ
      have z1 : Row Z w.heap.size 29 (rqL r) := by rw [hZ]; exact HZ.out.setCells _ 0
      have hgz : World.grownBy (wc.setCell ⟨q5, 5, none⟩ (.string ⟨#[98, 97]⟩)) Z (some w.heap.size) := by rw [hZ]; exact grown_sets _ _ _ _
      have HSF := Lib.hid (HSs.out.grown hgz (fun q e => by have := Option.some.inj e; omega))
      have HGF := Lib.hid (grown_join HGs.out hgz (fun q e => by have := Option.some.inj e; omega))
      have ud0 : Z.cell? ⟨w.heap.size, 0, none⟩ = some (.int .i64 r.no) := z1.cell 0
      have ud1 : Z.cell? ⟨w.heap.size, 1, none⟩ = some (.int .i64 r.kind) := z1.cell 1
      have ud2 : Z.cell? ⟨w.heap.size, 2, none⟩ = some (.int .i64 r.client) := z1.cell 2
      have ud3 : Z.cell? ⟨w.heap.size, 3, none⟩ = some (.int .i64 r.code) := z1.cell 3
      have ud4 : Z.cell? ⟨w.heap.size, 4, none⟩ = some (.int .i64 r.token) := z1.cell 4
      have ud5 : Z.cell? ⟨w.heap.size, 5, none⟩ = some (.string r.proof) := z1.cell 5
      have ud6 : Z.cell? ⟨w.heap.size, 6, none⟩ = some (.int .i64 r.upTo) := z1.cell 6
      clear hZ z1 hgz HT HZ HSs HGs a0 a1 a2 a3 a4 a5 a6
      go_wp2_with fail
      (try simp only [Exit.inBlock, Exit.then])
      refine bodyPost_ret (v := rqV r) (by simp [results, Tryz.results85, go_sem, ud0, ud1, ud2, ud3, ud4, ud5, ud6, rqV]; try rfl) rfl ?_
      exact ⟨_, ⟨r, HR.out, HP.out, rfl⟩, rfl, HSF.out, HGF.out⟩
     ·have d1 : (kd == 1) = false := beq_eq_false_iff_ne.2 e1
      by_cases e2 : kd = 2
      ·subst e2
       obtain ⟨r, h64, hw, hz, hs, hg, hp⟩ := HX4.out
       have k5 : wc.cell? ⟨q5, 5, none⟩ = some (.string r.proof) := hw.cell 5
       have f5 := hw.free 5
       have HXn : Hid (BoxQ (FitR no kk) g q5 w (wc.setCell ⟨q5, 5, none⟩ (.string ⟨#[97, 98]⟩))) := Lib.hid (BoxQ.set (r' := { r with proof := ⟨#[97, 98]⟩ }) hq5 hlt ⟨h64.1, h64.2.1, h64.2.2.1, h64.2.2.2.1, h64.2.2.2.2.1, small2, h64.2.2.2.2.2.2⟩ hw hz hs hg 5 _ rfl ⟨hp.bare, hp.right HNo.out HKk.out (by rw [HKd.out]; exact two_ab)⟩)
       clear h64 hw hz hs hg hp
       clear HX4
       go_wp2_with fail
       refine (one_any g _ 10 (by omega) HXn.out.choose_spec.2.2.2.1).mono ?_
       rintro e w5 ⟨_, ⟨b, rfl⟩, rfl, hs5, hg5⟩
       have HX5 := Lib.hid (HXn.out.kept hg5 hs5 hq5 hlt)
       clear hs5 hg5 HXn k5 f5 k1 r
       cases b with
       | false =>
        have HF := Lib.hid (BoxQ.mono (Ψ := RightQ) (fun r h => h.2) HX5.out)
        clear HX5
        obtain ⟨r, h64, hw, hz, hs, hg, hp⟩ := HF.out
        have a0 : w5.cell? ⟨q5, 0, none⟩ = some (.int .i64 r.no) := hw.cell 0
        have a1 : w5.cell? ⟨q5, 1, none⟩ = some (.int .i64 r.kind) := hw.cell 1
        have a2 : w5.cell? ⟨q5, 2, none⟩ = some (.int .i64 r.client) := hw.cell 2
        have a3 : w5.cell? ⟨q5, 3, none⟩ = some (.int .i64 r.code) := hw.cell 3
        have a4 : w5.cell? ⟨q5, 4, none⟩ = some (.int .i64 r.token) := hw.cell 4
        have a5 : w5.cell? ⟨q5, 5, none⟩ = some (.string r.proof) := hw.cell 5
        have a6 : w5.cell? ⟨q5, 6, none⟩ = some (.int .i64 r.upTo) := hw.cell 6
        have HT := Lib.hid (hz.there 0 7 (by show 0 + 7 ≤ 7; omega))
        have HZ := Lib.hid hz
        have HSs := Lib.hid hs
        have HGs := Lib.hid hg
        have HR := Lib.hid h64
        have HP := Lib.hid hp
        clear hw hz hs hg h64 hp
        go_wp2_with (refine Stop.out (p := wpList _ _ _ [{ dst := none, op := .store 29 (.tmp 4) (.tmp 58), type := _, pos := _, after := _, guard := _ }] _ _) ?_)
        constructor
        refine wpList_store_to rfl 29 (.tmp 4) (.tmp 58) rfl w.heap.size 0 #[.int .i64 r.no, .int .i64 r.kind, .int .i64 r.client, .int .i64 r.code, .int .i64 r.token, .string r.proof, .int .i64 r.upTo] rfl rfl HT.out sizeReq7 (oneReq7 r) ?_
        intro Z hZ
        have z1 : Row Z w.heap.size 29 (rqL r) := by rw [hZ]; exact HZ.out.setCells _ 0
        have hgz : World.grownBy w5 Z (some w.heap.size) := by rw [hZ]; exact grown_sets _ _ _ _
        have HSF := Lib.hid (HSs.out.grown hgz (fun q e => by have := Option.some.inj e; omega))
        have HGF := Lib.hid (grown_join HGs.out hgz (fun q e => by have := Option.some.inj e; omega))
        have ud0 : Z.cell? ⟨w.heap.size, 0, none⟩ = some (.int .i64 r.no) := z1.cell 0
        have ud1 : Z.cell? ⟨w.heap.size, 1, none⟩ = some (.int .i64 r.kind) := z1.cell 1
        have ud2 : Z.cell? ⟨w.heap.size, 2, none⟩ = some (.int .i64 r.client) := z1.cell 2
        have ud3 : Z.cell? ⟨w.heap.size, 3, none⟩ = some (.int .i64 r.code) := z1.cell 3
        have ud4 : Z.cell? ⟨w.heap.size, 4, none⟩ = some (.int .i64 r.token) := z1.cell 4
        have ud5 : Z.cell? ⟨w.heap.size, 5, none⟩ = some (.string r.proof) := z1.cell 5
        have ud6 : Z.cell? ⟨w.heap.size, 6, none⟩ = some (.int .i64 r.upTo) := z1.cell 6
        clear hZ z1 hgz HT HZ HSs HGs a0 a1 a2 a3 a4 a5 a6
        go_wp2_with fail
        (try simp only [Exit.inBlock, Exit.then])
        refine bodyPost_ret (v := rqV r) (by simp [results, Tryz.results85, go_sem, ud0, ud1, ud2, ud3, ud4, ud5, ud6, rqV]; try rfl) rfl ?_
        exact ⟨_, ⟨r, HR.out, HP.out, rfl⟩, rfl, HSF.out, HGF.out⟩
       | true =>
        obtain ⟨r, h64, hw, hz, hs, hg, hp⟩ := HX5.out
        have k5 : w5.cell? ⟨q5, 5, none⟩ = some (.string r.proof) := hw.cell 5
        have f5 := hw.free 5
        have HF : Hid (BoxQ RightQ g q5 w (w5.setCell ⟨q5, 5, none⟩ (.string ⟨#[122, 122]⟩))) := Lib.hid (BoxQ.set (r' := { r with proof := ⟨#[122, 122]⟩ }) hq5 hlt ⟨h64.1, h64.2.1, h64.2.2.1, h64.2.2.2.1, h64.2.2.2.2.1, small2, h64.2.2.2.2.2.2⟩ hw hz hs hg 5 _ rfl (hp.1.right HNo.out HKk.out (by rw [HKd.out]; exact two_zz)))
        clear h64 hw hz hs hg hp
        clear HX5
        obtain ⟨r, h64, hw, hz, hs, hg, hp⟩ := HF.out
        have a0 : (w5.setCell ⟨q5, 5, none⟩ (.string ⟨#[122, 122]⟩)).cell? ⟨q5, 0, none⟩ = some (.int .i64 r.no) := hw.cell 0
        have a1 : (w5.setCell ⟨q5, 5, none⟩ (.string ⟨#[122, 122]⟩)).cell? ⟨q5, 1, none⟩ = some (.int .i64 r.kind) := hw.cell 1
        have a2 : (w5.setCell ⟨q5, 5, none⟩ (.string ⟨#[122, 122]⟩)).cell? ⟨q5, 2, none⟩ = some (.int .i64 r.client) := hw.cell 2
        have a3 : (w5.setCell ⟨q5, 5, none⟩ (.string ⟨#[122, 122]⟩)).cell? ⟨q5, 3, none⟩ = some (.int .i64 r.code) := hw.cell 3
        have a4 : (w5.setCell ⟨q5, 5, none⟩ (.string ⟨#[122, 122]⟩)).cell? ⟨q5, 4, none⟩ = some (.int .i64 r.token) := hw.cell 4
        have a5 : (w5.setCell ⟨q5, 5, none⟩ (.string ⟨#[122, 122]⟩)).cell? ⟨q5, 5, none⟩ = some (.string r.proof) := hw.cell 5
        have a6 : (w5.setCell ⟨q5, 5, none⟩ (.string ⟨#[122, 122]⟩)).cell? ⟨q5, 6, none⟩ = some (.int .i64 r.upTo) := hw.cell 6
        have HT := Lib.hid (hz.there 0 7 (by show 0 + 7 ≤ 7; omega))
        have HZ := Lib.hid hz
        have HSs := Lib.hid hs
        have HGs := Lib.hid hg
        have HR := Lib.hid h64
        have HP := Lib.hid hp
        clear hw hz hs hg h64 hp
        go_wp2_with (refine Stop.out (p := wpList _ _ _ [{ dst := none, op := .store 29 (.tmp 4) (.tmp 58), type := _, pos := _, after := _, guard := _ }] _ _) ?_)
        constructor
        refine wpList_store_to rfl 29 (.tmp 4) (.tmp 58) rfl w.heap.size 0 #[.int .i64 r.no, .int .i64 r.kind, .int .i64 r.client, .int .i64 r.code, .int .i64 r.token, .string r.proof, .int .i64 r.upTo] rfl rfl HT.out sizeReq7 (oneReq7 r) ?_
        intro Z hZ
        have z1 : Row Z w.heap.size 29 (rqL r) := by rw [hZ]; exact HZ.out.setCells _ 0
        have hgz : World.grownBy (w5.setCell ⟨q5, 5, none⟩ (.string ⟨#[122, 122]⟩)) Z (some w.heap.size) := by rw [hZ]; exact grown_sets _ _ _ _
        have HSF := Lib.hid (HSs.out.grown hgz (fun q e => by have := Option.some.inj e; omega))
        have HGF := Lib.hid (grown_join HGs.out hgz (fun q e => by have := Option.some.inj e; omega))
        have ud0 : Z.cell? ⟨w.heap.size, 0, none⟩ = some (.int .i64 r.no) := z1.cell 0
        have ud1 : Z.cell? ⟨w.heap.size, 1, none⟩ = some (.int .i64 r.kind) := z1.cell 1
        have ud2 : Z.cell? ⟨w.heap.size, 2, none⟩ = some (.int .i64 r.client) := z1.cell 2
        have ud3 : Z.cell? ⟨w.heap.size, 3, none⟩ = some (.int .i64 r.code) := z1.cell 3
        have ud4 : Z.cell? ⟨w.heap.size, 4, none⟩ = some (.int .i64 r.token) := z1.cell 4
        have ud5 : Z.cell? ⟨w.heap.size, 5, none⟩ = some (.string r.proof) := z1.cell 5
        have ud6 : Z.cell? ⟨w.heap.size, 6, none⟩ = some (.int .i64 r.upTo) := z1.cell 6
        clear hZ z1 hgz HT HZ HSs HGs a0 a1 a2 a3 a4 a5 a6
        go_wp2_with fail
        (try simp only [Exit.inBlock, Exit.then])
        refine bodyPost_ret (v := rqV r) (by simp [results, Tryz.results85, go_sem, ud0, ud1, ud2, ud3, ud4, ud5, ud6, rqV]; try rfl) rfl ?_
        exact ⟨_, ⟨r, HR.out, HP.out, rfl⟩, rfl, HSF.out, HGF.out⟩
      ·have d2 : (kd == 2) = false := beq_eq_false_iff_ne.2 e2
       skip
       have HF : Hid (∃ r : RQ, r.kind = kd ∧ RQ64 r ∧ Row wc q5 29 (rqL r) ∧ Row wc w.heap.size 29 (rqL ⟨0, 0, 0, 0, 0, ⟨#[]⟩, 0⟩) ∧ SrcAt g wc ∧ w.grownBy wc (some g) ∧ RightQ r) := Lib.hid (by
        obtain ⟨r, h64, hw, hz, hs, hg, hp⟩ := HX4.out
        have a1 : wc.cell? ⟨q5, 1, none⟩ = some (.int .i64 r.kind) := hw.cell 1
        exact ⟨r, by have := a1.symm.trans k1; simpa using this, h64, hw, hz, hs, hg, hp.none HNo.out HKk.out (by rw [HKd.out]; exact e1) (by rw [HKd.out]; exact e2)⟩)
       clear HX4
       obtain ⟨r, rfl, h64, hw, hz, hs, hg, hp⟩ := HF.out
       clear k1
       have a0 : wc.cell? ⟨q5, 0, none⟩ = some (.int .i64 r.no) := hw.cell 0
       have a1 : wc.cell? ⟨q5, 1, none⟩ = some (.int .i64 r.kind) := hw.cell 1
       have a2 : wc.cell? ⟨q5, 2, none⟩ = some (.int .i64 r.client) := hw.cell 2
       have a3 : wc.cell? ⟨q5, 3, none⟩ = some (.int .i64 r.code) := hw.cell 3
       have a4 : wc.cell? ⟨q5, 4, none⟩ = some (.int .i64 r.token) := hw.cell 4
       have a5 : wc.cell? ⟨q5, 5, none⟩ = some (.string r.proof) := hw.cell 5
       have a6 : wc.cell? ⟨q5, 6, none⟩ = some (.int .i64 r.upTo) := hw.cell 6
       have uz0 : wc.cell? ⟨w.heap.size, 0, none⟩ = some (.int .i64 0) := hz.cell 0
       have uf0 := hz.free 0
       have uz1 : wc.cell? ⟨w.heap.size, 1, none⟩ = some (.int .i64 0) := hz.cell 1
       have uf1 := hz.free 1
       have uz2 : wc.cell? ⟨w.heap.size, 2, none⟩ = some (.int .i64 0) := hz.cell 2
       have uf2 := hz.free 2
       have uz3 : wc.cell? ⟨w.heap.size, 3, none⟩ = some (.int .i64 0) := hz.cell 3
       have uf3 := hz.free 3
       have uz4 : wc.cell? ⟨w.heap.size, 4, none⟩ = some (.int .i64 0) := hz.cell 4
       have uf4 := hz.free 4
       have uz5 : wc.cell? ⟨w.heap.size, 5, none⟩ = some (.string ⟨#[]⟩) := hz.cell 5
       have uf5 := hz.free 5
       have uz6 : wc.cell? ⟨w.heap.size, 6, none⟩ = some (.int .i64 0) := hz.cell 6
       have uf6 := hz.free 6
       have uR : Row (((((((wc.setCell ⟨w.heap.size, 0, none⟩ (.int .i64 r.no)).setCell ⟨w.heap.size, 1, none⟩ (.int .i64 r.kind)).setCell ⟨w.heap.size, 2, none⟩ (.int .i64 r.client)).setCell ⟨w.heap.size, 3, none⟩ (.int .i64 r.code)).setCell ⟨w.heap.size, 4, none⟩ (.int .i64 r.token)).setCell ⟨w.heap.size, 5, none⟩ (.string r.proof)).setCell ⟨w.heap.size, 6, none⟩ (.int .i64 r.upTo)) w.heap.size 29 (rqL r) := (((((((hz.set 0 (.int .i64 r.no)).set 1 (.int .i64 r.kind)).set 2 (.int .i64 r.client)).set 3 (.int .i64 r.code)).set 4 (.int .i64 r.token)).set 5 (.string r.proof)).set 6 (.int .i64 r.upTo))
       have ud0 : (((((((wc.setCell ⟨w.heap.size, 0, none⟩ (.int .i64 r.no)).setCell ⟨w.heap.size, 1, none⟩ (.int .i64 r.kind)).setCell ⟨w.heap.size, 2, none⟩ (.int .i64 r.client)).setCell ⟨w.heap.size, 3, none⟩ (.int .i64 r.code)).setCell ⟨w.heap.size, 4, none⟩ (.int .i64 r.token)).setCell ⟨w.heap.size, 5, none⟩ (.string r.proof)).setCell ⟨w.heap.size, 6, none⟩ (.int .i64 r.upTo)).cell? ⟨w.heap.size, 0, none⟩ = some (.int .i64 r.no) := uR.cell 0
       have ud1 : (((((((wc.setCell ⟨w.heap.size, 0, none⟩ (.int .i64 r.no)).setCell ⟨w.heap.size, 1, none⟩ (.int .i64 r.kind)).setCell ⟨w.heap.size, 2, none⟩ (.int .i64 r.client)).setCell ⟨w.heap.size, 3, none⟩ (.int .i64 r.code)).setCell ⟨w.heap.size, 4, none⟩ (.int .i64 r.token)).setCell ⟨w.heap.size, 5, none⟩ (.string r.proof)).setCell ⟨w.heap.size, 6, none⟩ (.int .i64 r.upTo)).cell? ⟨w.heap.size, 1, none⟩ = some (.int .i64 r.kind) := uR.cell 1
       have ud2 : (((((((wc.setCell ⟨w.heap.size, 0, none⟩ (.int .i64 r.no)).setCell ⟨w.heap.size, 1, none⟩ (.int .i64 r.kind)).setCell ⟨w.heap.size, 2, none⟩ (.int .i64 r.client)).setCell ⟨w.heap.size, 3, none⟩ (.int .i64 r.code)).setCell ⟨w.heap.size, 4, none⟩ (.int .i64 r.token)).setCell ⟨w.heap.size, 5, none⟩ (.string r.proof)).setCell ⟨w.heap.size, 6, none⟩ (.int .i64 r.upTo)).cell? ⟨w.heap.size, 2, none⟩ = some (.int .i64 r.client) := uR.cell 2
       have ud3 : (((((((wc.setCell ⟨w.heap.size, 0, none⟩ (.int .i64 r.no)).setCell ⟨w.heap.size, 1, none⟩ (.int .i64 r.kind)).setCell ⟨w.heap.size, 2, none⟩ (.int .i64 r.client)).setCell ⟨w.heap.size, 3, none⟩ (.int .i64 r.code)).setCell ⟨w.heap.size, 4, none⟩ (.int .i64 r.token)).setCell ⟨w.heap.size, 5, none⟩ (.string r.proof)).setCell ⟨w.heap.size, 6, none⟩ (.int .i64 r.upTo)).cell? ⟨w.heap.size, 3, none⟩ = some (.int .i64 r.code) := uR.cell 3
       have ud4 : (((((((wc.setCell ⟨w.heap.size, 0, none⟩ (.int .i64 r.no)).setCell ⟨w.heap.size, 1, none⟩ (.int .i64 r.kind)).setCell ⟨w.heap.size, 2, none⟩ (.int .i64 r.client)).setCell ⟨w.heap.size, 3, none⟩ (.int .i64 r.code)).setCell ⟨w.heap.size, 4, none⟩ (.int .i64 r.token)).setCell ⟨w.heap.size, 5, none⟩ (.string r.proof)).setCell ⟨w.heap.size, 6, none⟩ (.int .i64 r.upTo)).cell? ⟨w.heap.size, 4, none⟩ = some (.int .i64 r.token) := uR.cell 4
       have ud5 : (((((((wc.setCell ⟨w.heap.size, 0, none⟩ (.int .i64 r.no)).setCell ⟨w.heap.size, 1, none⟩ (.int .i64 r.kind)).setCell ⟨w.heap.size, 2, none⟩ (.int .i64 r.client)).setCell ⟨w.heap.size, 3, none⟩ (.int .i64 r.code)).setCell ⟨w.heap.size, 4, none⟩ (.int .i64 r.token)).setCell ⟨w.heap.size, 5, none⟩ (.string r.proof)).setCell ⟨w.heap.size, 6, none⟩ (.int .i64 r.upTo)).cell? ⟨w.heap.size, 5, none⟩ = some (.string r.proof) := uR.cell 5
       have ud6 : (((((((wc.setCell ⟨w.heap.size, 0, none⟩ (.int .i64 r.no)).setCell ⟨w.heap.size, 1, none⟩ (.int .i64 r.kind)).setCell ⟨w.heap.size, 2, none⟩ (.int .i64 r.client)).setCell ⟨w.heap.size, 3, none⟩ (.int .i64 r.code)).setCell ⟨w.heap.size, 4, none⟩ (.int .i64 r.token)).setCell ⟨w.heap.size, 5, none⟩ (.string r.proof)).setCell ⟨w.heap.size, 6, none⟩ (.int .i64 r.upTo)).cell? ⟨w.heap.size, 6, none⟩ = some (.int .i64 r.upTo) := uR.cell 6
       have t0 := grown_set (w := wc) w.heap.size 0 (.int .i64 r.no)
       have s0 : SrcAt g (wc.setCell ⟨w.heap.size, 0, none⟩ (.int .i64 r.no)) := (hs).grown t0 (fun q e => by have := Option.some.inj e; omega)
       have g0 : w.grownBy (wc.setCell ⟨w.heap.size, 0, none⟩ (.int .i64 r.no)) (some g) := grown_join (hg) t0 (fun q e => by have := Option.some.inj e; omega)
       have t1 := grown_set (w := (wc.setCell ⟨w.heap.size, 0, none⟩ (.int .i64 r.no))) w.heap.size 1 (.int .i64 r.kind)
       have s1 : SrcAt g ((wc.setCell ⟨w.heap.size, 0, none⟩ (.int .i64 r.no)).setCell ⟨w.heap.size, 1, none⟩ (.int .i64 r.kind)) := (s0).grown t1 (fun q e => by have := Option.some.inj e; omega)
       have g1 : w.grownBy ((wc.setCell ⟨w.heap.size, 0, none⟩ (.int .i64 r.no)).setCell ⟨w.heap.size, 1, none⟩ (.int .i64 r.kind)) (some g) := grown_join (g0) t1 (fun q e => by have := Option.some.inj e; omega)
       have t2 := grown_set (w := ((wc.setCell ⟨w.heap.size, 0, none⟩ (.int .i64 r.no)).setCell ⟨w.heap.size, 1, none⟩ (.int .i64 r.kind))) w.heap.size 2 (.int .i64 r.client)
       have s2 : SrcAt g (((wc.setCell ⟨w.heap.size, 0, none⟩ (.int .i64 r.no)).setCell ⟨w.heap.size, 1, none⟩ (.int .i64 r.kind)).setCell ⟨w.heap.size, 2, none⟩ (.int .i64 r.client)) := (s1).grown t2 (fun q e => by have := Option.some.inj e; omega)
       have g2 : w.grownBy (((wc.setCell ⟨w.heap.size, 0, none⟩ (.int .i64 r.no)).setCell ⟨w.heap.size, 1, none⟩ (.int .i64 r.kind)).setCell ⟨w.heap.size, 2, none⟩ (.int .i64 r.client)) (some g) := grown_join (g1) t2 (fun q e => by have := Option.some.inj e; omega)
       have t3 := grown_set (w := (((wc.setCell ⟨w.heap.size, 0, none⟩ (.int .i64 r.no)).setCell ⟨w.heap.size, 1, none⟩ (.int .i64 r.kind)).setCell ⟨w.heap.size, 2, none⟩ (.int .i64 r.client))) w.heap.size 3 (.int .i64 r.code)
       have s3 : SrcAt g ((((wc.setCell ⟨w.heap.size, 0, none⟩ (.int .i64 r.no)).setCell ⟨w.heap.size, 1, none⟩ (.int .i64 r.kind)).setCell ⟨w.heap.size, 2, none⟩ (.int .i64 r.client)).setCell ⟨w.heap.size, 3, none⟩ (.int .i64 r.code)) := (s2).grown t3 (fun q e => by have := Option.some.inj e; omega)
       have g3 : w.grownBy ((((wc.setCell ⟨w.heap.size, 0, none⟩ (.int .i64 r.no)).setCell ⟨w.heap.size, 1, none⟩ (.int .i64 r.kind)).setCell ⟨w.heap.size, 2, none⟩ (.int .i64 r.client)).setCell ⟨w.heap.size, 3, none⟩ (.int .i64 r.code)) (some g) := grown_join (g2) t3 (fun q e => by have := Option.some.inj e; omega)
       have t4 := grown_set (w := ((((wc.setCell ⟨w.heap.size, 0, none⟩ (.int .i64 r.no)).setCell ⟨w.heap.size, 1, none⟩ (.int .i64 r.kind)).setCell ⟨w.heap.size, 2, none⟩ (.int .i64 r.client)).setCell ⟨w.heap.size, 3, none⟩ (.int .i64 r.code))) w.heap.size 4 (.int .i64 r.token)
       have s4 : SrcAt g (((((wc.setCell ⟨w.heap.size, 0, none⟩ (.int .i64 r.no)).setCell ⟨w.heap.size, 1, none⟩ (.int .i64 r.kind)).setCell ⟨w.heap.size, 2, none⟩ (.int .i64 r.client)).setCell ⟨w.heap.size, 3, none⟩ (.int .i64 r.code)).setCell ⟨w.heap.size, 4, none⟩ (.int .i64 r.token)) := (s3).grown t4 (fun q e => by have := Option.some.inj e; omega)
       have g4 : w.grownBy (((((wc.setCell ⟨w.heap.size, 0, none⟩ (.int .i64 r.no)).setCell ⟨w.heap.size, 1, none⟩ (.int .i64 r.kind)).setCell ⟨w.heap.size, 2, none⟩ (.int .i64 r.client)).setCell ⟨w.heap.size, 3, none⟩ (.int .i64 r.code)).setCell ⟨w.heap.size, 4, none⟩ (.int .i64 r.token)) (some g) := grown_join (g3) t4 (fun q e => by have := Option.some.inj e; omega)
       have t5 := grown_set (w := (((((wc.setCell ⟨w.heap.size, 0, none⟩ (.int .i64 r.no)).setCell ⟨w.heap.size, 1, none⟩ (.int .i64 r.kind)).setCell ⟨w.heap.size, 2, none⟩ (.int .i64 r.client)).setCell ⟨w.heap.size, 3, none⟩ (.int .i64 r.code)).setCell ⟨w.heap.size, 4, none⟩ (.int .i64 r.token))) w.heap.size 5 (.string r.proof)
       have s5 : SrcAt g ((((((wc.setCell ⟨w.heap.size, 0, none⟩ (.int .i64 r.no)).setCell ⟨w.heap.size, 1, none⟩ (.int .i64 r.kind)).setCell ⟨w.heap.size, 2, none⟩ (.int .i64 r.client)).setCell ⟨w.heap.size, 3, none⟩ (.int .i64 r.code)).setCell ⟨w.heap.size, 4, none⟩ (.int .i64 r.token)).setCell ⟨w.heap.size, 5, none⟩ (.string r.proof)) := (s4).grown t5 (fun q e => by have := Option.some.inj e; omega)
       have g5 : w.grownBy ((((((wc.setCell ⟨w.heap.size, 0, none⟩ (.int .i64 r.no)).setCell ⟨w.heap.size, 1, none⟩ (.int .i64 r.kind)).setCell ⟨w.heap.size, 2, none⟩ (.int .i64 r.client)).setCell ⟨w.heap.size, 3, none⟩ (.int .i64 r.code)).setCell ⟨w.heap.size, 4, none⟩ (.int .i64 r.token)).setCell ⟨w.heap.size, 5, none⟩ (.string r.proof)) (some g) := grown_join (g4) t5 (fun q e => by have := Option.some.inj e; omega)
       have t6 := grown_set (w := ((((((wc.setCell ⟨w.heap.size, 0, none⟩ (.int .i64 r.no)).setCell ⟨w.heap.size, 1, none⟩ (.int .i64 r.kind)).setCell ⟨w.heap.size, 2, none⟩ (.int .i64 r.client)).setCell ⟨w.heap.size, 3, none⟩ (.int .i64 r.code)).setCell ⟨w.heap.size, 4, none⟩ (.int .i64 r.token)).setCell ⟨w.heap.size, 5, none⟩ (.string r.proof))) w.heap.size 6 (.int .i64 r.upTo)
       have s6 : SrcAt g (((((((wc.setCell ⟨w.heap.size, 0, none⟩ (.int .i64 r.no)).setCell ⟨w.heap.size, 1, none⟩ (.int .i64 r.kind)).setCell ⟨w.heap.size, 2, none⟩ (.int .i64 r.client)).setCell ⟨w.heap.size, 3, none⟩ (.int .i64 r.code)).setCell ⟨w.heap.size, 4, none⟩ (.int .i64 r.token)).setCell ⟨w.heap.size, 5, none⟩ (.string r.proof)).setCell ⟨w.heap.size, 6, none⟩ (.int .i64 r.upTo)) := (s5).grown t6 (fun q e => by have := Option.some.inj e; omega)
       have g6 : w.grownBy (((((((wc.setCell ⟨w.heap.size, 0, none⟩ (.int .i64 r.no)).setCell ⟨w.heap.size, 1, none⟩ (.int .i64 r.kind)).setCell ⟨w.heap.size, 2, none⟩ (.int .i64 r.client)).setCell ⟨w.heap.size, 3, none⟩ (.int .i64 r.code)).setCell ⟨w.heap.size, 4, none⟩ (.int .i64 r.token)).setCell ⟨w.heap.size, 5, none⟩ (.string r.proof)).setCell ⟨w.heap.size, 6, none⟩ (.int .i64 r.upTo)) (some g) := grown_join (g5) t6 (fun q e => by have := Option.some.inj e; omega)
       have HSF := Lib.hid s6
       have HGF := Lib.hid g6
       have HR := Lib.hid h64
       have HP := Lib.hid hp
       clear uR h64 hw hz hs hg hp s0 g0 t0 s1 g1 t1 s2 g2 t2 s3 g3 t3 s4 g4 t4 s5 g5 t5 s6 g6 t6
       go_wp2_with fail
       (try simp only [Exit.inBlock, Exit.then])
       refine bodyPost_ret (v := rqV r) (by simp [results, Tryz.results85, go_sem, ud0, ud1, ud2, ud3, ud4, ud5, ud6, rqV]; try rfl) rfl ?_
       exact ⟨_, ⟨r, HR.out, HP.out, rfl⟩, rfl, HSF.out, HGF.out⟩
end Go.Proofs.YtchfgdiipjbgoaaGreat
