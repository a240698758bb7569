/- The promise of grants: the law's walk. -/
import Derived.Test.YtchfgdiipjbgoaaGreatFGdN
import Derived.Deep.DeepCutAuto
namespace Go.Proofs.YtchfgdiipjbgoaaGreat
open Go Go.RowKit Go.Lib
set_option linter.unusedVariables false
set_option maxRecDepth 100000

theorem fldGO1 (n : Int) (k : GH) (s : RS) (c : Int) (w : World) : (Instr.field 35 (goV n k s c) 1).run Tryz.prog w = .ok (rsV s) w := by kernel_rfl
theorem fldRS0 (s : RS) (w : World) : (Instr.field 33 (rsV s) 0).run Tryz.prog w = .ok (.int .i64 s.code) w := by kernel_rfl
section
variable {P : Program} {ops : Array Oper} {Q : Exit → Act → World → Prop} {o : Oper} {a : Act}
/-- A call that is wanted, as one step of a region that draws its order. -/
theorem step_callW {α : Type} {w : World} {KK : Act → World → Prop} {F : Prop} (hw : Region.wanted o (yielded ops a.tmps) = true) (f : FuncId) (args : Array Value) (hrun : (execOp a.eval o).run P w = .ok (.enter f args) w) (V : α → Value) (R : α → World → Prop)
  (hc : Calls P f args w fun e w' => ∃ x, e = .returned (V x) ∧ R x w') (h : ∀ x w', R x w' → KK (a.put o.dst (V x)) w') : if Region.wanted o (yielded ops a.tmps) = true then Oper.wp P o a w KK Q else F := by
 rw [if_pos hw]
 unfold Oper.wp
 rw [hrun, Oper.upon_enter]
 refine hc.mono fun e w'' hh => ?_
 obtain ⟨x, rfl, hr⟩ := hh
 exact h x _ hr
end
theorem made_is {f : FuncId} {args : Array Value} {G : Gr} {s : RS} {c : Int} {w : World} (h : Calls Tryz.prog f args w (Made G s c w)) : Calls Tryz.prog f args w fun e w' => ∃ k : GH, e = .returned (goV G.now k s c) ∧ GrOwn 0 G k w' ∧ Below w.heap.size w w' := h
theorem ret_is {f : FuncId} {args : Array Value} {v : Value} {w : World} (h : Calls Tryz.prog f args w (Ret v w)) : Calls Tryz.prog f args w fun e w' => ∃ _ : Unit, e = .returned v ∧ Below w.heap.size w w' := h.mono fun _ _ ⟨h1, h2⟩ => ⟨(), h1, h2⟩
theorem sizeReq1 : ∀ w, (Go.sizeOf 29).run Tryz.prog w = .ok 7 w := fun w => by kernel_rfl
theorem slice_to {P : Program} {T E : TypeId} (hu : P.underlying T = some (.slice E)) (hsz : ∀ w, (Go.sizeOf E).run P w = .ok 7 w) (b n c j : Nat) (hj : j ≤ n) (hn : n ≤ c) (w : World) : (Instr.slice T (.slice (some ⟨b, 0, none⟩) n c) none (some (.int .i64 (j : Int))) none).run P w = .ok (.slice (some ⟨b, 0, none⟩) j c) w := by
 have he : P.elem T = E := by simp [Program.elem, hu]
 have hu' : P.underlying T = some (.slice (P.elem T)) := by rw [he]; exact hu
 rw [run_slice_h w T _ _ _ hu' .i64 j (by omega) (by omega), he, hsz]
 simp [Result.andThen, sliced, Addr.add]
theorem slice_from {P : Program} {T E : TypeId} (hu : P.underlying T = some (.slice E)) (hsz : ∀ w, (Go.sizeOf E).run P w = .ok 7 w) (b n c j : Nat) (hj : j ≤ n) (hn : n ≤ c) : ∃ qp : Option Addr, (j < n → qp = some ⟨b, j * 7, none⟩) ∧ ∀ w, (Instr.slice T (.slice (some ⟨b, 0, none⟩) n c) (some (.int .i64 (j : Int))) none none).run P w = .ok (.slice qp (n - j) (c - j)) w := by
 have he : P.elem T = E := by simp [Program.elem, hu]
 have hu' : P.underlying T = some (.slice (P.elem T)) := by rw [he]; exact hu
 refine ⟨if c = j then some ⟨b, 0, none⟩ else some ⟨b, j * 7, none⟩, fun h => if_neg (by omega), fun w => ?_⟩
 rw [run_slice_l w T _ _ _ hu' .i64 j (by omega) (by omega), he, hsz]
 by_cases h : c = j
 ·simp [Result.andThen, sliced, h]
 ·simp only [Result.andThen, sliced, if_neg h, Addr.add, Option.map_some]
  by_cases h0 : j * 7 = 0 <;> simp [h0, h]
theorem fldGO (n : Int) (k : GH) (s : RS) (c : Int) (w : World) : (Instr.field 35 (goV n k s c) 0).run Tryz.prog w = .ok (grV n k) w := by kernel_rfl
theorem rest_in {α : Type} {cf : α → List Value} {K : Nat} (hK : ∀ x, (cf x).length = K) {w : World} {b n j : Nat} {l : List α} {qp : Option Addr} (h : LAt cf w b 0 l) (hq : j < n → qp = some ⟨b, j * K, none⟩) (hn : n - j = (l.drop j).length) : LIn cf w qp (l.drop j) := by
 by_cases hj : j < n
 ·have h2 := h.dropK hK (k := j) (by rw [List.length_drop] at hn; omega)
  rw [Nat.zero_add] at h2
  exact .inr ⟨b, j * K, hq hj, h2⟩
 ·exact .inl (List.eq_nil_of_length_eq_zero (by omega))
set_option maxHeartbeats 4000000 in
theorem lawFg (a0 : Option Addr) (len0 cap0 : Nat) (z0 : List Int) (a1 : Option Addr) (len1 cap1 : Nat) (z1 : List Int) (w : World) (h0 : IsRow .u8 w a0 len0 cap0 z0) (h1 : IsRow .u8 w a1 len1 cap1 z1)
  (hl0 : len0 ≤ maxLen) (hl1 : len1 ≤ maxLen) :
  Calls Tryz.prog 3 #[.slice a0 len0 cap0, .slice a1 len1 cap1] w fun e w' => e = .returned (.bool true) ∧ Below w.heap.size w w' := by
 unfold maxLen at hl0 hl1
 have HR0 := Lib.hid h0
 have HR1 := Lib.hid h1
 have HRw := Lib.hid h0
 clear h0 h1
 by_cases hb0 : 1048576 < len0
 ·have d0 : decide (1048576 < (len0 : Int)) = true := decide_eq_true (by omega)
  go_enter Tryz.func3, Tryz.ntmps3
  go_wp2_with fail
  go_ret
  exact ⟨rfl, Below.refl _ _⟩
 have d0 : decide (1048576 < (len0 : Int)) = false := decide_eq_false (by omega)
 by_cases hb1 : 1048576 < len1
 ·have d1 : decide (1048576 < (len1 : Int)) = true := decide_eq_true (by omega)
  go_enter Tryz.func3, Tryz.ntmps3
  go_wp2_with fail
  go_ret
  exact ⟨rfl, Below.refl _ _⟩
 have d1 : decide (1048576 < (len1 : Int)) = false := decide_eq_false (by omega)
 go_enter Tryz.func3, Tryz.ntmps3
 go_wp2_with fail
 refine (drawGD_any w a0 len0 cap0 z0 (by omega) HR0.out).mono ?_
 rintro e w1 ⟨kg, g, r, rfl, hog, hwg, hsg, hr, hb1'⟩
 have HV1 := Lib.hid (show grV g.now kg = .agg #[.int .i64 g.now, .slice kg.wp kg.wn kg.wc, .slice kg.kp kg.kn kg.kc, .slice kg.dp kg.dn kg.dc] from rfl)
 have HV2 := Lib.hid (show rqV r = .agg #[.int .i64 r.no, .int .i64 r.kind, .int .i64 r.client, .int .i64 r.code, .int .i64 r.token, .string r.proof, .int .i64 r.upTo] from rfl)
 have HWg := Lib.hid hwg
 have HSg := Lib.hid hsg
 have HR := Lib.hid hr
 rw [HV1.out, HV2.out]
 go_upto_region 4 with fail
 obtain ⟨W2, hW2⟩ : ∃ W, W = (w1.alloc (.cells #[.int .i64 g.now, .slice kg.wp kg.wn kg.wc, .slice kg.kp kg.kn kg.kc, .slice kg.dp kg.dn kg.dc] 27)).alloc (.cells #[.int .i64 r.no, .int .i64 r.kind, .int .i64 r.client, .int .i64 r.code, .int .i64 r.token, .string r.proof, .int .i64 r.upTo] 29) := ⟨_, rfl⟩
 rw [← hW2]
 have hbl2 : Below w1.heap.size w1 W2 := by rw [hW2]; go_grown
 have r5 : Row W2 w1.heap.size 27 (grL g.now kg) := by
  rw [hW2]
  exact Row.below (heap_alloc_new w1 _) ((Below.refl _ _).alloc (Nat.le_refl _) _) (by simp)
 have r6 : Row W2 (w1.heap.size + 1) 29 (rqL r) := by
  rw [hW2]
  have h := heap_alloc_new (w1.alloc (.cells #[.int .i64 g.now, .slice kg.wp kg.wn kg.wc, .slice kg.kp kg.kn kg.kc, .slice kg.dp kg.dn kg.dc] 27)) (.cells #[.int .i64 r.no, .int .i64 r.kind, .int .i64 r.client, .int .i64 r.code, .int .i64 r.token, .string r.proof, .int .i64 r.upTo] 29)
  rw [World.size_alloc] at h
  exact h
 have R5 := Lib.hid r5
 have R6 := Lib.hid r6
 have O5 := Lib.hid ((own3_dn hog (Nat.zero_le _)).later hbl2)
 have B2 := Lib.hid (hb1'.trans (hbl2.mono hb1'.size))
 have HRb := Lib.hid (HR1.out.later hb1')
 have HRc := Lib.hid (HR0.out.later hb1')
 have HR1' := Lib.hid (HRb.out.later hbl2)
 have HR0' := Lib.hid (HRc.out.later hbl2)
 have hp : r.proof.size ≤ maxLen := HR.out.2.2.2.2.2.1
 have HP := Lib.hid hp
 obtain ⟨q5, hq5⟩ : ∃ q, q = w1.heap.size := ⟨_, rfl⟩
 rw [← hq5] at R5 R6 ⊢
 obtain ⟨q6, hq6⟩ : ∃ q, q = q5 + 1 := ⟨_, rfl⟩
 rw [← hq6] at R6 ⊢
 clear hW2 hbl2 r5 r6 hog hwg hsg hr hb1' hq5 hq6 HRb HRc HR0 HR1 hp
 obtain ⟨Gx, sx, cx, hDx⟩ : ∃ a b c, gdD g r = (a, b, c) := ⟨_, _, _, rfl⟩
 have HDx := Lib.hid hDx
 clear hDx
 have e0 : W2.cell? ⟨q5, 0, none⟩ = some (.int .i64 g.now) := R5.out.cell 0
 have e1 : W2.cell? ⟨q5, 1, none⟩ = some (.slice kg.wp kg.wn kg.wc) := R5.out.cell 1
 have e2 : W2.cell? ⟨q5, 2, none⟩ = some (.slice kg.kp kg.kn kg.kc) := R5.out.cell 2
 have e3 : W2.cell? ⟨q5, 3, none⟩ = some (.slice kg.dp kg.dn kg.dc) := R5.out.cell 3
 have b0 : W2.cell? ⟨q6, 0, none⟩ = some (.int .i64 r.no) := R6.out.cell 0
 have b1 : W2.cell? ⟨q6, 1, none⟩ = some (.int .i64 r.kind) := R6.out.cell 1
 have b2 : W2.cell? ⟨q6, 2, none⟩ = some (.int .i64 r.client) := R6.out.cell 2
 have b3 : W2.cell? ⟨q6, 3, none⟩ = some (.int .i64 r.code) := R6.out.cell 3
 have b4 : W2.cell? ⟨q6, 4, none⟩ = some (.int .i64 r.token) := R6.out.cell 4
 have b5 : W2.cell? ⟨q6, 5, none⟩ = some (.string r.proof) := R6.out.cell 5
 have b6 : W2.cell? ⟨q6, 6, none⟩ = some (.int .i64 r.upTo) := R6.out.cell 6
 go_wp2_with fail
 rw [← HV1.out, ← HV2.out]
 refine (gdo_i HDx.out O5.out HWg.out HSg.out HP.out).mono ?_
 rintro e w3 ⟨kx, rfl, hox, hb3⟩
 have HVx := Lib.hid (show goV Gx.now kx sx cx = .agg #[.int .i64 Gx.now, .slice kx.wp kx.wn kx.wc, .slice kx.kp kx.kn kx.kc, .slice kx.dp kx.dn kx.dc, .int .i64 sx.code, .int .i64 sx.token, .int .i64 sx.next, .bool sx.yes, .int .i64 cx] from rfl)
 rw [HVx.out]
 have hba : Below w3.heap.size w3 (w3.alloc (.cells #[.int .i64 Gx.now, .slice kx.wp kx.wn kx.wc, .slice kx.kp kx.kn kx.kc, .slice kx.dp kx.dn kx.dc, .int .i64 sx.code, .int .i64 sx.token, .int .i64 sx.next, .bool sx.yes, .int .i64 cx] 35)) := (Below.refl _ _).alloc (Nat.le_refl _) _
 have R7 : Hid (Row (w3.alloc (.cells #[.int .i64 Gx.now, .slice kx.wp kx.wn kx.wc, .slice kx.kp kx.kn kx.kc, .slice kx.dp kx.dn kx.dc, .int .i64 sx.code, .int .i64 sx.token, .int .i64 sx.next, .bool sx.yes, .int .i64 cx] 35)) w3.heap.size 35 (goL Gx.now kx sx cx)) := Lib.hid (heap_alloc_new w3 _)
 have O7 := Lib.hid (hox.later hba)
 have hb4 := hb3.trans (hba.mono hb3.size)
 have R5a := Lib.hid (R5.out.below hb4 R5.out.lt)
 have R6a := Lib.hid (R6.out.below hb4 R6.out.lt)
 have O5a := Lib.hid (O5.out.later hb4)
 have B4 := Lib.hid (B2.out.trans (hb4.mono B2.out.size))
 have HR1a := Lib.hid (HR1'.out.later hb4)
 have HR0a := Lib.hid (HR0'.out.later hb4)
 clear hba hb3 hb4 hox R5 R6 O5 B2 HR1' HR0' e0 e1 e2 e3 b0 b1 b2 b3 b4 b5 b6
 go_upto_region 5 with fail
 generalize w3.alloc (.cells #[.int .i64 Gx.now, .slice kx.wp kx.wn kx.wc, .slice kx.kp kx.kn kx.kc, .slice kx.dp kx.dn kx.dc, .int .i64 sx.code, .int .i64 sx.token, .int .i64 sx.next, .bool sx.yes, .int .i64 cx] 35) = W4 at R7 O7 R5a R6a O5a B4 HR1a HR0a ⊢
 generalize w3.heap.size = q7 at R7 ⊢
 go_wp2_with fail
 refine (drawGA_any W4 a1 len1 cap1 z1 (by omega) HR1a.out).mono ?_
 rintro e w5 ⟨kh, h, b, c, l, rfl, hoh, hwh, hsh, hla, hl10, hlc, hcm, hps, hb5⟩
 have HVh := Lib.hid (show grV h.now kh = .agg #[.int .i64 h.now, .slice kh.wp kh.wn kh.wc, .slice kh.kp kh.kn kh.kc, .slice kh.dp kh.dn kh.dc] from rfl)
 rw [HVh.out]
 have hba : Below w5.heap.size w5 (w5.alloc (.cells #[.int .i64 h.now, .slice kh.wp kh.wn kh.wc, .slice kh.kp kh.kn kh.kc, .slice kh.dp kh.dn kh.dc] 27)) := (Below.refl _ _).alloc (Nat.le_refl _) _
 have R8 : Hid (Row (w5.alloc (.cells #[.int .i64 h.now, .slice kh.wp kh.wn kh.wc, .slice kh.kp kh.kn kh.kc, .slice kh.dp kh.dn kh.dc] 27)) w5.heap.size 27 (grL h.now kh)) := Lib.hid (heap_alloc_new w5 _)
 have hb6 := hb5.trans (hba.mono hb5.size)
 have O8 := Lib.hid ((own3_dn hoh (Nat.zero_le _)).later hba)
 have LA := Lib.hid (hla.later hba)
 have R5b := Lib.hid (R5a.out.below hb6 R5a.out.lt)
 have R6b := Lib.hid (R6a.out.below hb6 R6a.out.lt)
 have R7b := Lib.hid (R7.out.below hb6 R7.out.lt)
 have O5b := Lib.hid (O5a.out.later hb6)
 have O7b := Lib.hid (O7.out.later hb6)
 have B6 := Lib.hid (B4.out.trans (hb6.mono B4.out.size))
 have HR1b := Lib.hid (HR1a.out.later hb6)
 have HR0b := Lib.hid (HR0a.out.later hb6)
 have HWh := Lib.hid hwh
 have HSh := Lib.hid hsh
 have HPs := Lib.hid hps
 have HCm := Lib.hid hcm
 clear hba hb5 hb6 hoh hwh hsh hla hps hcm R5a R6a O5a B4 HR1a HR0a R7 O7
 obtain ⟨n, hn⟩ : ∃ n, n = l.length := ⟨_, rfl⟩
 rw [← hn] at hl10 hlc ⊢
 have HN := Lib.hid hn
 obtain ⟨Gy, sy, cy, hDy⟩ : ∃ a b c, gaD h l = (a, b, c) := ⟨_, _, _, rfl⟩
 have HDy := Lib.hid hDy
 have HL10 : Hid (l.length ≤ 10) := Lib.hid (by omega)
 clear hDy hn
 go_upto_region 6 with fail
 generalize w5.alloc (.cells #[.int .i64 h.now, .slice kh.wp kh.wn kh.wc, .slice kh.kp kh.kn kh.kc, .slice kh.dp kh.dn kh.dc] 27) = W6 at R8 O8 LA R5b R6b R7b O5b O7b B6 HR1b HR0b ⊢
 generalize w5.heap.size = q8 at R8 ⊢
 have e0 : W6.cell? ⟨q8, 0, none⟩ = some (.int .i64 h.now) := R8.out.cell 0
 have e1 : W6.cell? ⟨q8, 1, none⟩ = some (.slice kh.wp kh.wn kh.wc) := R8.out.cell 1
 have e2 : W6.cell? ⟨q8, 2, none⟩ = some (.slice kh.kp kh.kn kh.kc) := R8.out.cell 2
 have e3 : W6.cell? ⟨q8, 3, none⟩ = some (.slice kh.dp kh.dn kh.dc) := R8.out.cell 3
 go_wp2_with fail
 rw [← HVh.out]
 refine (ga_i HDy.out HN.out O8.out HWh.out HSh.out (.inr ⟨b, 0, rfl, LA.out⟩) HL10.out HPs.out).mono ?_
 rintro e w7 ⟨ky, rfl, hoy, hb7⟩
 have HVy := Lib.hid (show goV Gy.now ky sy cy = .agg #[.int .i64 Gy.now, .slice ky.wp ky.wn ky.wc, .slice ky.kp ky.kn ky.kc, .slice ky.dp ky.dn ky.dc, .int .i64 sy.code, .int .i64 sy.token, .int .i64 sy.next, .bool sy.yes, .int .i64 cy] from rfl)
 rw [HVy.out]
 have hba : Below w7.heap.size w7 (w7.alloc (.cells #[.int .i64 Gy.now, .slice ky.wp ky.wn ky.wc, .slice ky.kp ky.kn ky.kc, .slice ky.dp ky.dn ky.dc, .int .i64 sy.code, .int .i64 sy.token, .int .i64 sy.next, .bool sy.yes, .int .i64 cy] 35)) := (Below.refl _ _).alloc (Nat.le_refl _) _
 have R10 : Hid (Row (w7.alloc (.cells #[.int .i64 Gy.now, .slice ky.wp ky.wn ky.wc, .slice ky.kp ky.kn ky.kc, .slice ky.dp ky.dn ky.dc, .int .i64 sy.code, .int .i64 sy.token, .int .i64 sy.next, .bool sy.yes, .int .i64 cy] 35)) w7.heap.size 35 (goL Gy.now ky sy cy)) := Lib.hid (heap_alloc_new w7 _)
 have O10 := Lib.hid (hoy.later hba)
 have hb8 := hb7.trans (hba.mono hb7.size)
 have LAc := Lib.hid (LA.out.later hb8)
 have R5c := Lib.hid (R5b.out.below hb8 R5b.out.lt)
 have R6c := Lib.hid (R6b.out.below hb8 R6b.out.lt)
 have R7c := Lib.hid (R7b.out.below hb8 R7b.out.lt)
 have R8c := Lib.hid (R8.out.below hb8 R8.out.lt)
 have O5c := Lib.hid (O5b.out.later hb8)
 have O7c := Lib.hid (O7b.out.later hb8)
 have O8c := Lib.hid (O8.out.later hb8)
 have B8 := Lib.hid (B6.out.trans (hb8.mono B6.out.size))
 have HR1c := Lib.hid (HR1b.out.later hb8)
 have HR0c := Lib.hid (HR0b.out.later hb8)
 clear hba hb7 hb8 hoy LA R5b R6b R7b R8 O5b O7b O8 B6 HR1b HR0b e0 e1 e2 e3
 go_upto_region 7 with fail
 generalize w7.alloc (.cells #[.int .i64 Gy.now, .slice ky.wp ky.wn ky.wc, .slice ky.kp ky.kn ky.kc, .slice ky.dp ky.dn ky.dc, .int .i64 sy.code, .int .i64 sy.token, .int .i64 sy.next, .bool sy.yes, .int .i64 cy] 35) = W8 at R10 O10 LAc R5c R6c R7c R8c O5c O7c O8c B8 HR1c HR0c ⊢
 generalize w7.heap.size = q10 at R10 ⊢
 go_wp2_with fail
 refine (drawOp_any W8 a1 len1 cap1 z1 (by omega) HR1c.out).mono ?_
 rintro e w9 ⟨ko, o, no, client, rfl, hoo, hwo, hso, hno, hb9⟩
 have HVo := Lib.hid (show grV o.now ko = .agg #[.int .i64 o.now, .slice ko.wp ko.wn ko.wc, .slice ko.kp ko.kn ko.kc, .slice ko.dp ko.dn ko.dc] from rfl)
 rw [HVo.out]
 have hba : Below w9.heap.size w9 (w9.alloc (.cells #[.int .i64 o.now, .slice ko.wp ko.wn ko.wc, .slice ko.kp ko.kn ko.kc, .slice ko.dp ko.dn ko.dc] 27)) := (Below.refl _ _).alloc (Nat.le_refl _) _
 have hb10 := hb9.trans (hba.mono hb9.size)
 have HFg : Hid (Fg w (w9.alloc (.cells #[.int .i64 o.now, .slice ko.wp ko.wn ko.wc, .slice ko.kp ko.kn ko.kc, .slice ko.dp ko.dn ko.dc] 27)) q5 q6 q7 q8 q10 w9.heap.size b kg kx kh ky ko g Gx h Gy o r sx sy cx cy l) := Lib.hid
  ⟨R5c.out.below hb10 R5c.out.lt, R6c.out.below hb10 R6c.out.lt, R7c.out.below hb10 R7c.out.lt, R8c.out.below hb10 R8c.out.lt, R10.out.below hb10 R10.out.lt, heap_alloc_new w9 _,
   O5c.out.later hb10, O7c.out.later hb10, O8c.out.later hb10, O10.out.later hb10, (own3_dn hoo (Nat.zero_le _)).later hba, LAc.out.later hb10, B8.out.trans (hb10.mono B8.out.size)⟩
 have HWo := Lib.hid hwo
 have HSo := Lib.hid hso
 have HNo := Lib.hid hno
 have HR0d := Lib.hid (HR0c.out.later hb10)
 clear hba hb9 hb10 hoo hwo hso hno R5c R6c R7c R8c R10 O5c O7c O8c O10 LAc B8 HR1c HR0c
 go_upto_region 8 with fail
 generalize w9.alloc (.cells #[.int .i64 o.now, .slice ko.wp ko.wn ko.wc, .slice ko.kp ko.kn ko.kc, .slice ko.dp ko.dn ko.dc] 27) = W at HFg HR0d ⊢
 generalize w9.heap.size = q11 at HFg ⊢
 as_aux_lemma =>
 have HK9 : Hid (∀ wy : World, Fg w wy q5 q6 q7 q8 q10 q11 b kg kx kh ky ko g Gx h Gy o r sx sy cx cy l → wy.cell? ⟨q5, 0, none⟩ = some (.int .i64 g.now) ∧ wy.cell? ⟨q5, 1, none⟩ = some (.slice kg.wp kg.wn kg.wc) ∧ wy.cell? ⟨q5, 2, none⟩ = some (.slice kg.kp kg.kn kg.kc) ∧ wy.cell? ⟨q5, 3, none⟩ = some (.slice kg.dp kg.dn kg.dc) ∧ wy.cell? ⟨q6, 0, none⟩ = some (.int .i64 r.no) ∧ wy.cell? ⟨q6, 1, none⟩ = some (.int .i64 r.kind) ∧ wy.cell? ⟨q6, 2, none⟩ = some (.int .i64 r.client) ∧ wy.cell? ⟨q6, 3, none⟩ = some (.int .i64 r.code) ∧ wy.cell? ⟨q6, 4, none⟩ = some (.int .i64 r.token) ∧ wy.cell? ⟨q6, 5, none⟩ = some (.string r.proof) ∧ wy.cell? ⟨q6, 6, none⟩ = some (.int .i64 r.upTo) ∧ wy.cell? ⟨q7, 0, none⟩ = some (.int .i64 Gx.now) ∧ wy.cell? ⟨q7, 1, none⟩ = some (.slice kx.wp kx.wn kx.wc) ∧ wy.cell? ⟨q7, 2, none⟩ = some (.slice kx.kp kx.kn kx.kc) ∧ wy.cell? ⟨q7, 3, none⟩ = some (.slice kx.dp kx.dn kx.dc) ∧ wy.cell? ⟨q7, 4, none⟩ = some (.int .i64 sx.code) ∧ wy.cell? ⟨q7, 5, none⟩ = some (.int .i64 sx.token) ∧ wy.cell? ⟨q7, 6, none⟩ = some (.int .i64 sx.next) ∧ wy.cell? ⟨q7, 7, none⟩ = some (.bool sx.yes) ∧ wy.cell? ⟨q7, 8, none⟩ = some (.int .i64 cx) ∧ wy.cell? ⟨q8, 0, none⟩ = some (.int .i64 h.now) ∧ wy.cell? ⟨q8, 1, none⟩ = some (.slice kh.wp kh.wn kh.wc) ∧ wy.cell? ⟨q8, 2, none⟩ = some (.slice kh.kp kh.kn kh.kc) ∧ wy.cell? ⟨q8, 3, none⟩ = some (.slice kh.dp kh.dn kh.dc) ∧ wy.cell? ⟨q10, 0, none⟩ = some (.int .i64 Gy.now) ∧ wy.cell? ⟨q10, 1, none⟩ = some (.slice ky.wp ky.wn ky.wc) ∧ wy.cell? ⟨q10, 2, none⟩ = some (.slice ky.kp ky.kn ky.kc) ∧ wy.cell? ⟨q10, 3, none⟩ = some (.slice ky.dp ky.dn ky.dc) ∧ wy.cell? ⟨q10, 4, none⟩ = some (.int .i64 sy.code) ∧ wy.cell? ⟨q10, 5, none⟩ = some (.int .i64 sy.token) ∧ wy.cell? ⟨q10, 6, none⟩ = some (.int .i64 sy.next) ∧ wy.cell? ⟨q10, 7, none⟩ = some (.bool sy.yes) ∧ wy.cell? ⟨q10, 8, none⟩ = some (.int .i64 cy) ∧ wy.cell? ⟨q11, 0, none⟩ = some (.int .i64 o.now) ∧ wy.cell? ⟨q11, 1, none⟩ = some (.slice ko.wp ko.wn ko.wc) ∧ wy.cell? ⟨q11, 2, none⟩ = some (.slice ko.kp ko.kn ko.kc) ∧ wy.cell? ⟨q11, 3, none⟩ = some (.slice ko.dp ko.dn ko.dc)) := Lib.hid (fun wy f => ⟨f.r5.cell 0, f.r5.cell 1, f.r5.cell 2, f.r5.cell 3, f.r6.cell 0, f.r6.cell 1, f.r6.cell 2, f.r6.cell 3, f.r6.cell 4, f.r6.cell 5, f.r6.cell 6, f.r7.cell 0, f.r7.cell 1, f.r7.cell 2, f.r7.cell 3, f.r7.cell 4, f.r7.cell 5, f.r7.cell 6, f.r7.cell 7, f.r7.cell 8, f.r8.cell 0, f.r8.cell 1, f.r8.cell 2, f.r8.cell 3, f.r10.cell 0, f.r10.cell 1, f.r10.cell 2, f.r10.cell 3, f.r10.cell 4, f.r10.cell 5, f.r10.cell 6, f.r10.cell 7, f.r10.cell 8, f.r11.cell 0, f.r11.cell 1, f.r11.cell 2, f.r11.cell 3⟩)
 have HF0 := Lib.hid (HFg.out.later (Below.refl W.heap.size W).drew)
 have HGy := Lib.hid (ga_good HL10.out HDy.out)
 have HGx := Lib.hid (gd_good HDx.out)
 refine region_L 3 (fun _ => True) (fun wy => wy.cell? ⟨q5, 0, none⟩ = some (.int .i64 g.now) ∧ wy.cell? ⟨q5, 1, none⟩ = some (.slice kg.wp kg.wn kg.wc) ∧ wy.cell? ⟨q5, 2, none⟩ = some (.slice kg.kp kg.kn kg.kc) ∧ wy.cell? ⟨q5, 3, none⟩ = some (.slice kg.dp kg.dn kg.dc) ∧ wy.cell? ⟨q6, 0, none⟩ = some (.int .i64 r.no) ∧ wy.cell? ⟨q6, 1, none⟩ = some (.int .i64 r.kind) ∧ wy.cell? ⟨q6, 2, none⟩ = some (.int .i64 r.client) ∧ wy.cell? ⟨q6, 3, none⟩ = some (.int .i64 r.code) ∧ wy.cell? ⟨q6, 4, none⟩ = some (.int .i64 r.token) ∧ wy.cell? ⟨q6, 5, none⟩ = some (.string r.proof) ∧ wy.cell? ⟨q6, 6, none⟩ = some (.int .i64 r.upTo) ∧ wy.cell? ⟨q7, 0, none⟩ = some (.int .i64 Gx.now) ∧ wy.cell? ⟨q7, 1, none⟩ = some (.slice kx.wp kx.wn kx.wc) ∧ wy.cell? ⟨q7, 2, none⟩ = some (.slice kx.kp kx.kn kx.kc) ∧ wy.cell? ⟨q7, 3, none⟩ = some (.slice kx.dp kx.dn kx.dc) ∧ wy.cell? ⟨q7, 4, none⟩ = some (.int .i64 sx.code) ∧ wy.cell? ⟨q7, 5, none⟩ = some (.int .i64 sx.token) ∧ wy.cell? ⟨q7, 6, none⟩ = some (.int .i64 sx.next) ∧ wy.cell? ⟨q7, 7, none⟩ = some (.bool sx.yes) ∧ wy.cell? ⟨q7, 8, none⟩ = some (.int .i64 cx) ∧ wy.cell? ⟨q8, 0, none⟩ = some (.int .i64 h.now) ∧ wy.cell? ⟨q8, 1, none⟩ = some (.slice kh.wp kh.wn kh.wc) ∧ wy.cell? ⟨q8, 2, none⟩ = some (.slice kh.kp kh.kn kh.kc) ∧ wy.cell? ⟨q8, 3, none⟩ = some (.slice kh.dp kh.dn kh.dc) ∧ wy.cell? ⟨q10, 0, none⟩ = some (.int .i64 Gy.now) ∧ wy.cell? ⟨q10, 1, none⟩ = some (.slice ky.wp ky.wn ky.wc) ∧ wy.cell? ⟨q10, 2, none⟩ = some (.slice ky.kp ky.kn ky.kc) ∧ wy.cell? ⟨q10, 3, none⟩ = some (.slice ky.dp ky.dn ky.dc) ∧ wy.cell? ⟨q10, 4, none⟩ = some (.int .i64 sy.code) ∧ wy.cell? ⟨q10, 5, none⟩ = some (.int .i64 sy.token) ∧ wy.cell? ⟨q10, 6, none⟩ = some (.int .i64 sy.next) ∧ wy.cell? ⟨q10, 7, none⟩ = some (.bool sy.yes) ∧ wy.cell? ⟨q10, 8, none⟩ = some (.int .i64 cy) ∧ wy.cell? ⟨q11, 0, none⟩ = some (.int .i64 o.now) ∧ wy.cell? ⟨q11, 1, none⟩ = some (.slice ko.wp ko.wn ko.wc) ∧ wy.cell? ⟨q11, 2, none⟩ = some (.slice ko.kp ko.kn ko.kc) ∧ wy.cell? ⟨q11, 3, none⟩ = some (.slice ko.dp ko.dn ko.dc)) (by kernel_rfl) ⟨fun _ => trivial, HK9.out _ HF0.out⟩ (fun hHL => ?_)
 refine wpAnyL_take (i := 0) (v := ?_) (by rfl) rfl (by kernel_rfl) (by kernel_rfl) (by kernel_rfl) (fun _ _ _ h => h) (Or.inl ⟨by rfl, ?_⟩) hHL ?_
 rotate_left
 ·intro w hSw; (try dsimp only at hSw); (first | (go_simp; done) | (go_simp; with_reducible rfl))
 clear hHL
 intro hHL
 (try simp only [Act.put, List.setIfInBounds_toArray, List.set_cons_zero, List.set_cons_succ])
 refine wpAnyL_take (i := 1) (v := ?_) (by rfl) rfl (by kernel_rfl) (by kernel_rfl) (by kernel_rfl) (fun _ _ _ h => h) (Or.inl ⟨by rfl, ?_⟩) hHL ?_
 rotate_left
 ·intro w hSw; (try dsimp only at hSw); (first | (go_simp; done) | (go_simp; with_reducible rfl))
 clear hHL
 intro hHL
 (try simp only [Act.put, List.setIfInBounds_toArray, List.set_cons_zero, List.set_cons_succ])
 refine wpAnyL_take (i := 2) (v := ?_) (by rfl) rfl (by kernel_rfl) (by kernel_rfl) (by kernel_rfl) (fun _ _ _ h => h) (Or.inl ⟨by rfl, ?_⟩) hHL ?_
 rotate_left
 ·intro w hSw; (try dsimp only at hSw); (first | (go_simp; done) | (go_simp; with_reducible rfl))
 clear hHL
 intro hHL
 (try simp only [Act.put, List.setIfInBounds_toArray, List.set_cons_zero, List.set_cons_succ])
 refine wpAnyL_ready (rs := [3]) (by kernel_rfl) (by simp) ?_
 refine AllReadyL.cons rfl (fun K hK => ?_) AllReadyL.nil
 refine step_callW (by rfl) 18 #[.agg #[.int .i64 g.now, .slice kg.wp kg.wn kg.wc, .slice kg.kp kg.kn kg.kc, .slice kg.dp kg.dn kg.dc], .agg #[.int .i64 r.no, .int .i64 r.kind, .int .i64 r.client, .int .i64 r.code, .int .i64 r.token, .string r.proof, .int .i64 r.upTo]] (by kernel_rfl) (fun k : GH => goV Gx.now k sx cx) _ (made_is (gdo_s HDx.out HF0.out.o5 HSg.out HP.out)) ?_
 rintro ks w11 ⟨hos, hb1⟩
 have HF1 := Lib.hid (HF0.out.later hb1)
 have HOs := Lib.hid hos
 refine hK.out _ _ ⟨fun _ => trivial, HK9.out _ HF1.out⟩ (fun hHL => ?_)
 clear hK K hb1
 (try simp only [Act.put, List.setIfInBounds_toArray, List.set_cons_zero, List.set_cons_succ])
 refine wpAnyL_ready (rs := [4]) (by kernel_rfl) (by simp) ?_
 refine AllReadyL.cons rfl (fun K hK => ?_) AllReadyL.nil
 refine step_callW (by rfl) 17 #[.agg #[.int .i64 Gx.now, .slice kx.wp kx.wn kx.wc, .slice kx.kp kx.kn kx.kc, .slice kx.dp kx.dn kx.dc, .int .i64 sx.code, .int .i64 sx.token, .int .i64 sx.next, .bool sx.yes, .int .i64 cx], goV Gx.now ks sx cx] (by kernel_rfl) (fun _ : Unit => .bool true) _ (ret_is (lwGrants_same kx ks Gx sx cx _ (own_isIn HF1.out.o7) (own_isIn HOs.out) HGx.out.1 (fun h0 => (HGx.out.2.2 h0).1))) ?_
 rintro _ w12 hb2
 have HF2 := Lib.hid (HF1.out.later hb2)
 refine hK.out _ _ ⟨fun _ => trivial, HK9.out _ HF2.out⟩ (fun hHL => ?_)
 clear hK K hb2
 (try simp only [Act.put, List.setIfInBounds_toArray, List.set_cons_zero, List.set_cons_succ])
 refine wpAnyL_take (i := 5) (v := ?_) (by rfl) rfl (by kernel_rfl) (by kernel_rfl) (by kernel_rfl) (fun _ _ _ h => h) (Or.inl ⟨by rfl, ?_⟩) hHL ?_
 rotate_left
 ·intro w hSw; (try dsimp only at hSw); (first | (go_simp; done) | (go_simp; with_reducible rfl))
 clear hHL
 intro hHL
 (try simp only [Act.put, List.setIfInBounds_toArray, List.set_cons_zero, List.set_cons_succ])
 refine wpAnyL_take (i := 6) (v := ?_) (by rfl) rfl (by kernel_rfl) (by kernel_rfl) (by kernel_rfl) (fun _ _ _ h => h) (Or.inl ⟨by rfl, ?_⟩) hHL ?_
 rotate_left
 ·intro w hSw; (try dsimp only at hSw); (first | (go_simp; done) | (go_simp; with_reducible rfl))
 clear hHL
 intro hHL
 (try simp only [Act.put, List.setIfInBounds_toArray, List.set_cons_zero, List.set_cons_succ])
 refine wpAnyL_take (i := 7) (v := ?_) (by rfl) rfl (by kernel_rfl) (by kernel_rfl) (by kernel_rfl) (fun _ _ _ h => h) (Or.inl ⟨by rfl, ?_⟩) hHL ?_
 rotate_left
 ·intro w hSw; (try dsimp only at hSw); (first | (go_simp; done) | (go_simp; with_reducible rfl))
 clear hHL
 intro hHL
 (try simp only [Act.put, List.setIfInBounds_toArray, List.set_cons_zero, List.set_cons_succ])
 refine wpAnyL_take (i := 8) (v := ?_) (by rfl) rfl (by kernel_rfl) (by kernel_rfl) (by kernel_rfl) (fun _ _ _ h => h) (Or.inl ⟨by rfl, ?_⟩) hHL ?_
 rotate_left
 ·intro w hSw; (try dsimp only at hSw); (first | (go_simp; done) | (go_simp; with_reducible rfl))
 clear hHL
 intro hHL
 (try simp only [Act.put, List.setIfInBounds_toArray, List.set_cons_zero, List.set_cons_succ])
 refine wpAnyL_take (i := 9) (v := ?_) (by rfl) rfl (by kernel_rfl) (by kernel_rfl) (by kernel_rfl) (fun _ _ _ h => h) (Or.inl ⟨by rfl, ?_⟩) hHL ?_
 rotate_left
 ·intro w hSw; (try dsimp only at hSw); (first | (go_simp; done) | (go_simp; with_reducible rfl))
 clear hHL
 intro hHL
 (try simp only [Act.put, List.setIfInBounds_toArray, List.set_cons_zero, List.set_cons_succ])
 refine wpAnyL_ready (rs := [10]) (by kernel_rfl) (by simp) ?_
 refine AllReadyL.cons rfl (fun K hK => ?_) AllReadyL.nil
 refine step_callW (by rfl) 19 #[.agg #[.int .i64 h.now, .slice kh.wp kh.wn kh.wc, .slice kh.kp kh.kn kh.kc, .slice kh.dp kh.dn kh.dc], .slice (some ⟨b, 0, none⟩) n c] (by kernel_rfl) (fun k : GH => goV Gy.now k sy cy) _ (made_is (ga_s HDy.out HN.out HF2.out.o8 HSh.out (.inr ⟨b, 0, rfl, HF2.out.la⟩) HL10.out HPs.out)) ?_
 rintro kt w13 ⟨hot, hb3⟩
 have HF3 := Lib.hid (HF2.out.later hb3)
 have HOt := Lib.hid hot
 refine hK.out _ _ ⟨fun _ => trivial, HK9.out _ HF3.out⟩ (fun hHL => ?_)
 clear hK K hb3
 (try simp only [Act.put, List.setIfInBounds_toArray, List.set_cons_zero, List.set_cons_succ])
 refine wpAnyL_ready (rs := [11]) (by kernel_rfl) (by simp) ?_
 refine AllReadyL.cons rfl (fun K hK => ?_) AllReadyL.nil
 refine step_callW (by rfl) 17 #[.agg #[.int .i64 Gy.now, .slice ky.wp ky.wn ky.wc, .slice ky.kp ky.kn ky.kc, .slice ky.dp ky.dn ky.dc, .int .i64 sy.code, .int .i64 sy.token, .int .i64 sy.next, .bool sy.yes, .int .i64 cy], goV Gy.now kt sy cy] (by kernel_rfl) (fun _ : Unit => .bool true) _ (ret_is (lwGrants_same ky kt Gy sy cy _ (own_isIn HF3.out.o10) (own_isIn HOt.out) HGy.out.1 HGy.out.2.2.1)) ?_
 rintro _ w14 hb4
 have HF4 := Lib.hid (HF3.out.later hb4)
 refine hK.out _ _ ⟨fun _ => trivial, HK9.out _ HF4.out⟩ (fun hHL => ?_)
 clear hK K hb4
 (try simp only [Act.put, List.setIfInBounds_toArray, List.set_cons_zero, List.set_cons_succ])
 refine wpAnyL_take (i := 12) (v := ?_) (by rfl) rfl (by kernel_rfl) (by kernel_rfl) (by kernel_rfl) (fun _ _ _ h => h) (Or.inl ⟨by rfl, ?_⟩) hHL ?_
 rotate_left
 ·intro w hSw; (try dsimp only at hSw); (first | (go_simp; done) | (go_simp; with_reducible rfl))
 clear hHL
 intro hHL
 (try simp only [Act.put, List.setIfInBounds_toArray, List.set_cons_zero, List.set_cons_succ])
 refine wpAnyL_take (i := 13) (v := ?_) (by rfl) rfl (by kernel_rfl) (by kernel_rfl) (by kernel_rfl) (fun _ _ _ h => h) (Or.inl ⟨by rfl, ?_⟩) hHL ?_
 rotate_left
 ·intro w hSw; (try dsimp only at hSw); (first | (go_simp; done) | (go_simp; with_reducible rfl))
 clear hHL
 intro hHL
 (try simp only [Act.put, List.setIfInBounds_toArray, List.set_cons_zero, List.set_cons_succ])
 refine wpAnyL_take (i := 14) (v := ?_) (by rfl) rfl (by kernel_rfl) (by kernel_rfl) (by kernel_rfl) (fun _ _ _ h => h) (Or.inl ⟨by rfl, ?_⟩) hHL ?_
 rotate_left
 ·intro w hSw; (try dsimp only at hSw); (first | (go_simp; done) | (go_simp; with_reducible rfl))
 clear hHL
 intro hHL
 (try simp only [Act.put, List.setIfInBounds_toArray, List.set_cons_zero, List.set_cons_succ])
 refine wpAnyL_take (i := 15) (v := ?_) (by rfl) rfl (by kernel_rfl) (by kernel_rfl) (by kernel_rfl) (fun _ _ _ h => h) (Or.inl ⟨by rfl, ?_⟩) hHL ?_
 rotate_left
 ·intro w hSw; (try dsimp only at hSw); (first | (go_simp; done) | (go_simp; with_reducible rfl))
 clear hHL
 intro hHL
 (try simp only [Act.put, List.setIfInBounds_toArray, List.set_cons_zero, List.set_cons_succ])
 refine wpAnyL_take (i := 16) (v := ?_) (by rfl) rfl (by kernel_rfl) (by kernel_rfl) (by kernel_rfl) (fun _ _ _ h => h) (Or.inl ⟨by rfl, ?_⟩) hHL ?_
 rotate_left
 ·intro w hSw; (try dsimp only at hSw); (first | (go_simp; done) | (go_simp; with_reducible rfl))
 clear hHL
 intro hHL
 (try simp only [Act.put, List.setIfInBounds_toArray, List.set_cons_zero, List.set_cons_succ])
 refine wpAnyL_take (i := 17) (v := ?_) (by rfl) rfl (by kernel_rfl) (by kernel_rfl) (by kernel_rfl) (fun _ _ _ h => h) (Or.inl ⟨by rfl, ?_⟩) hHL ?_
 rotate_left
 ·intro w hSw; (try dsimp only at hSw); (first | (go_simp; done) | (go_simp; with_reducible rfl))
 clear hHL
 intro hHL
 (try simp only [Act.put, List.setIfInBounds_toArray, List.set_cons_zero, List.set_cons_succ])
 refine wpAnyL_take (i := 19) (v := ?_) (by rfl) rfl (by kernel_rfl) (by kernel_rfl) (by kernel_rfl) (fun _ _ _ h => h) (Or.inl ⟨by rfl, ?_⟩) hHL ?_
 rotate_left
 ·intro w hSw; (try dsimp only at hSw); (first | (go_simp; done) | (go_simp; with_reducible rfl))
 clear hHL
 intro hHL
 (try simp only [Act.put, List.setIfInBounds_toArray, List.set_cons_zero, List.set_cons_succ])
 refine wpAnyL_take (i := 20) (v := ?_) (by rfl) rfl (by kernel_rfl) (by kernel_rfl) (by kernel_rfl) (fun _ _ _ h => h) (Or.inl ⟨by rfl, ?_⟩) hHL ?_
 rotate_left
 ·intro w hSw; (try dsimp only at hSw); (first | (go_simp; done) | (go_simp; with_reducible rfl))
 clear hHL
 intro hHL
 (try simp only [Act.put, List.setIfInBounds_toArray, List.set_cons_zero, List.set_cons_succ])
 refine wpAnyL_take (i := 21) (v := ?_) (by rfl) rfl (by kernel_rfl) (by kernel_rfl) (by kernel_rfl) (fun _ _ _ h => h) (Or.inl ⟨by rfl, ?_⟩) hHL ?_
 rotate_left
 ·intro w hSw; (try dsimp only at hSw); (first | (go_simp; done) | (go_simp; with_reducible rfl))
 clear hHL
 intro hHL
 (try simp only [Act.put, List.setIfInBounds_toArray, List.set_cons_zero, List.set_cons_succ])
 refine wpAnyL_ready (rs := [18]) (by kernel_rfl) (by simp) ?_
 refine AllReadyL.cons rfl (fun K hK => ?_) AllReadyL.nil
 refine step_callW (by rfl) 20 #[.agg #[.int .i64 o.now, .slice ko.wp ko.wn ko.wc, .slice ko.kp ko.kn ko.kc, .slice ko.dp ko.dn ko.dc], .int .i64 no, .int .i64 client] (by kernel_rfl) (fun _ : Unit => .bool (opensB o no client)) _ (ret_is (opens_imp o ko no client _ (own_isIn HF4.out.o11) HSo.out HWo.out HNo.out)) ?_
 rintro _ w15 hb5
 have HF5 := Lib.hid (HF4.out.later hb5)
 refine hK.out _ _ ⟨fun _ => trivial, HK9.out _ HF5.out⟩ (fun hHL => ?_)
 clear hK K hb5
 (try simp only [Act.put, List.setIfInBounds_toArray, List.set_cons_zero, List.set_cons_succ])
 refine wpAnyL_ready (rs := [22]) (by kernel_rfl) (by simp) ?_
 refine AllReadyL.cons rfl (fun K hK => ?_) AllReadyL.nil
 refine step_callW (by rfl) 21 #[.agg #[.int .i64 o.now, .slice ko.wp ko.wn ko.wc, .slice ko.kp ko.kn ko.kc, .slice ko.dp ko.dn ko.dc], .int .i64 no, .int .i64 client] (by kernel_rfl) (fun _ : Unit => .bool (opensB o no client)) _ (ret_is (opens_spec o ko no client _ (own_isIn HF5.out.o11) HSo.out)) ?_
 rintro _ w16 hb6
 have HF6 := Lib.hid (HF5.out.later hb6)
 refine hK.out _ _ ⟨fun _ => trivial, HK9.out _ HF6.out⟩ (fun hHL => ?_)
 clear hK K hb6
 (try simp only [Act.put, List.setIfInBounds_toArray, List.set_cons_zero, List.set_cons_succ])
 have hbb : ∀ x : Bool, (x != x) = false := fun x => by simp
 refine wpAnyL_take (i := 23) (v := ?_) (by rfl) rfl (by kernel_rfl) (by kernel_rfl) (by kernel_rfl) (fun _ _ _ h => h) (Or.inl ⟨by rfl, ?_⟩) hHL ?_
 rotate_left
 ·intro w hSw; (try dsimp only at hSw); (first | (go_simp; done) | (go_simp; with_reducible rfl))
 clear hHL
 intro hHL
 (try simp only [Act.put, List.setIfInBounds_toArray, List.set_cons_zero, List.set_cons_succ])
 refine wpAnyL_take (i := 24) (v := ?_) (by rfl) rfl (by kernel_rfl) (by kernel_rfl) (by kernel_rfl) (fun _ _ _ h => h) (Or.inl ⟨by rfl, ?_⟩) hHL ?_
 rotate_left
 ·intro w hSw; (try dsimp only at hSw); (first | (go_simp; done) | (go_simp; with_reducible rfl))
 clear hHL
 intro hHL
 (try simp only [Act.put, List.setIfInBounds_toArray, List.set_cons_zero, List.set_cons_succ])
 refine wpAnyL_take (i := 25) (v := ?_) (by rfl) rfl (by kernel_rfl) (by kernel_rfl) (by kernel_rfl) (fun _ _ _ h => h) (Or.inl ⟨by rfl, ?_⟩) hHL ?_
 rotate_left
 ·intro w hSw; (try dsimp only at hSw); (first | (go_simp; done) | (go_simp; with_reducible rfl))
 clear hHL
 intro hHL
 (try simp only [Act.put, List.setIfInBounds_toArray, List.set_cons_zero, List.set_cons_succ])
 refine wpAnyL_take (i := 26) (v := ?_) (by rfl) rfl (by kernel_rfl) (by kernel_rfl) (by kernel_rfl) (fun _ _ _ h => h) (Or.inl ⟨by rfl, ?_⟩) hHL ?_
 rotate_left
 ·intro w hSw; (try dsimp only at hSw); (first | (go_simp; done) | (go_simp; with_reducible rfl))
 clear hHL
 intro hHL
 (try simp only [Act.put, List.setIfInBounds_toArray, List.set_cons_zero, List.set_cons_succ])
 refine wpAnyL_take (i := 28) (v := ?_) (by rfl) rfl (by kernel_rfl) (by kernel_rfl) (by kernel_rfl) (fun _ _ _ h => h) (Or.inl ⟨by rfl, ?_⟩) hHL ?_
 rotate_left
 ·intro w hSw; (try dsimp only at hSw); (first | (go_simp; done) | (go_simp; with_reducible rfl))
 clear hHL
 intro hHL
 (try simp only [Act.put, List.setIfInBounds_toArray, List.set_cons_zero, List.set_cons_succ])
 refine wpAnyL_ready (rs := [27]) (by kernel_rfl) (by simp) ?_
 refine AllReadyL.cons rfl (fun K hK => ?_) AllReadyL.nil
 refine step_callW (by rfl) 22 #[.agg #[.int .i64 g.now, .slice kg.wp kg.wn kg.wc, .slice kg.kp kg.kn kg.kc, .slice kg.dp kg.dn kg.dc]] (by kernel_rfl) (fun _ : Unit => .bool (grantB g)) _ (ret_is (grant_imp g kg _ (own_isIn HF6.out.o5) HSg.out HWg.out)) ?_
 rintro _ w17 hb7
 have HF7 := Lib.hid (HF6.out.later hb7)
 refine hK.out _ _ ⟨fun _ => trivial, HK9.out _ HF7.out⟩ (fun hHL => ?_)
 clear hK K hb7
 (try simp only [Act.put, List.setIfInBounds_toArray, List.set_cons_zero, List.set_cons_succ])
 refine wpAnyL_ready (rs := [29]) (by kernel_rfl) (by simp) ?_
 refine AllReadyL.cons rfl (fun K hK => ?_) AllReadyL.nil
 refine step_callW (by rfl) 23 #[.agg #[.int .i64 g.now, .slice kg.wp kg.wn kg.wc, .slice kg.kp kg.kn kg.kc, .slice kg.dp kg.dn kg.dc]] (by kernel_rfl) (fun _ : Unit => .bool (grantB g)) _ (ret_is (grant_spec g kg _ (own_isIn HF7.out.o5) HSg.out)) ?_
 rintro _ w18 hb8
 have HF8 := Lib.hid (HF7.out.later hb8)
 refine hK.out _ _ ⟨fun _ => trivial, HK9.out _ HF8.out⟩ (fun hHL => ?_)
 clear hK K hb8
 (try simp only [Act.put, List.setIfInBounds_toArray, List.set_cons_zero, List.set_cons_succ])
 refine wpAnyL_take (i := 30) (v := ?_) (by rfl) rfl (by kernel_rfl) (by kernel_rfl) (by kernel_rfl) (fun _ _ _ h => h) (Or.inl ⟨by rfl, ?_⟩) hHL ?_
 rotate_left
 ·intro w hSw; (try dsimp only at hSw); (first | (go_simp; done) | (go_simp; with_reducible rfl))
 clear hHL
 intro hHL
 (try simp only [Act.put, List.setIfInBounds_toArray, List.set_cons_zero, List.set_cons_succ])
 refine wpAnyL_take (i := 31) (v := ?_) (by rfl) rfl (by kernel_rfl) (by kernel_rfl) (by kernel_rfl) (fun _ _ _ h => h) (Or.inl ⟨by rfl, ?_⟩) hHL ?_
 rotate_left
 ·intro w hSw; (try dsimp only at hSw); (first | (go_simp; done) | (go_simp; with_reducible rfl))
 clear hHL
 intro hHL
 (try simp only [Act.put, List.setIfInBounds_toArray, List.set_cons_zero, List.set_cons_succ])
 refine wpAnyL_done (by kernel_rfl) ?_ _
 clear hHL hbb HK9 HF0 HF1 HF2 HF3 HF4 HF5 HF6 HF7 HOs HOt HFg
 as_aux_lemma =>
 have u0 : w18.cell? ⟨q8, 0, none⟩ = some (.int .i64 h.now) := HF8.out.r8.cell 0
 have u1 : w18.cell? ⟨q8, 1, none⟩ = some (.slice kh.wp kh.wn kh.wc) := HF8.out.r8.cell 1
 have u2 : w18.cell? ⟨q8, 2, none⟩ = some (.slice kh.kp kh.kn kh.kc) := HF8.out.r8.cell 2
 have u3 : w18.cell? ⟨q8, 3, none⟩ = some (.slice kh.dp kh.dn kh.dc) := HF8.out.r8.cell 3
 go_upto_if 83 with (go_at_call 23; rw [← HVh.out]; refine (grant_spec h kh _ (own_isIn HF8.out.o8) HSh.out).mono ?_; rintro e w19 ⟨rfl, hb19⟩)
 have HF9 := Lib.hid (HF8.out.later hb19)
 clear hb19 u0 u1 u2 u3
 go_cut [] (fun wx => Fg w wx q5 q6 q7 q8 q10 q11 b kg kx kh ky ko g Gx h Gy o r sx sy cx cy l)
 case first =>
  as_aux_lemma =>
  have HR0w : Hid (IsRow .u8 w19 a0 len0 cap0 z0) := Lib.hid (HRw.out.later HF9.out.bel)
  obtain ⟨gb, hgb⟩ : ∃ gb, grantB h = gb := ⟨_, rfl⟩
  rw [hgb]
  cases gb with
  | false =>
   go_wp2_with fail
   go_meet
   exact HF9.out
  | true =>
   go_wp2_with fail
   have hnm : ((n : Int) + 1) ≤ 9223372036854775807 := by omega
   refine (at_any w19 a0 len0 cap0 z0 0 ((n : Int) + 1) (by omega) hnm (by omega) HR0w.out).mono ?_
   rintro e w20 ⟨j, hj1, hj2, _, rfl, rfl⟩
   have hjn : j ≤ n := by by_cases h1 : 1 < (n : Int) + 1 <;> omega
   clear hj1 hj2 hnm
   go_upto_region 12 with fail
   obtain ⟨qp, hqp, hsl2⟩ := slice_from Tryz.underlying37 sizeReq1 b n c j hjn hlc
   have hsl1 := slice_to (P := Tryz.prog) Tryz.underlying37 sizeReq1 b n c j hjn hlc
   have hDa : gaD h (l.take j) = ((allD h (l.take j)).1, (allD h (l.take j)).2, 0) := by unfold gaD; rw [if_neg (by have := HL10.out; simp; omega), if_pos hgb]
   have hGa := allD_right hgb (l.take j)
   have hDb : gaD (allD h (l.take j)).1 (l.drop j) = ((allD (allD h (l.take j)).1 (l.drop j)).1, (allD (allD h (l.take j)).1 (l.drop j)).2, 0) := by unfold gaD; rw [if_neg (by have := HL10.out; simp; omega), if_pos hGa]
   have hEy : (allD (allD h (l.take j)).1 (l.drop j)).1 = Gy := by rw [allD_append, List.take_append_drop]; exact ((HGy.out.2.2.2 hgb).2.1).symm
   have HNa : Hid (j = (l.take j).length) := Lib.hid (by have := HN.out; simp; omega)
   have HNb : Hid (n - j = (l.drop j).length) := Lib.hid (by have := HN.out; simp; omega)
   obtain ⟨Ga, sa, hda⟩ : ∃ a b, allD h (l.take j) = (a, b) := ⟨_, _, rfl⟩
   rw [hda] at hDa hGa hDb hEy
   obtain ⟨Gb, sb, hdb⟩ : ∃ a b, allD Ga (l.drop j) = (a, b) := ⟨_, _, rfl⟩
   simp only at hDa hGa hDb hEy
   rw [hdb] at hDb hEy
   simp only at hDb hEy
   subst hEy
   have HDa := Lib.hid hDa
   have HDb := Lib.hid hDb
   have HGa := Lib.hid hGa
   have HQp := Lib.hid hqp
   have HPa : Hid (∀ r ∈ l.take j, r.proof.size ≤ maxLen) := Lib.hid (fun r hr => HPs.out r (List.mem_of_mem_take hr))
   have HPb : Hid (∀ r ∈ l.drop j, r.proof.size ≤ maxLen) := Lib.hid (fun r hr => HPs.out r (List.mem_of_mem_drop hr))
   clear hDa hDb hGa hqp hda hdb hgb
   have HK9 : Hid (∀ wy : World, Fg w wy q5 q6 q7 q8 q10 q11 b kg kx kh ky ko g Gx h Gb o r sx sy cx cy l → wy.cell? ⟨q8, 0, none⟩ = some (.int .i64 h.now) ∧ wy.cell? ⟨q8, 1, none⟩ = some (.slice kh.wp kh.wn kh.wc) ∧ wy.cell? ⟨q8, 2, none⟩ = some (.slice kh.kp kh.kn kh.kc) ∧ wy.cell? ⟨q8, 3, none⟩ = some (.slice kh.dp kh.dn kh.dc) ∧ wy.cell? ⟨q10, 0, none⟩ = some (.int .i64 Gb.now) ∧ wy.cell? ⟨q10, 1, none⟩ = some (.slice ky.wp ky.wn ky.wc) ∧ wy.cell? ⟨q10, 2, none⟩ = some (.slice ky.kp ky.kn ky.kc) ∧ wy.cell? ⟨q10, 3, none⟩ = some (.slice ky.dp ky.dn ky.dc) ∧ wy.cell? ⟨q10, 4, none⟩ = some (.int .i64 sy.code) ∧ wy.cell? ⟨q10, 5, none⟩ = some (.int .i64 sy.token) ∧ wy.cell? ⟨q10, 6, none⟩ = some (.int .i64 sy.next) ∧ wy.cell? ⟨q10, 7, none⟩ = some (.bool sy.yes) ∧ wy.cell? ⟨q10, 8, none⟩ = some (.int .i64 cy)) := Lib.hid (fun wy f => ⟨f.r8.cell 0, f.r8.cell 1, f.r8.cell 2, f.r8.cell 3, f.r10.cell 0, f.r10.cell 1, f.r10.cell 2, f.r10.cell 3, f.r10.cell 4, f.r10.cell 5, f.r10.cell 6, f.r10.cell 7, f.r10.cell 8⟩)
   have HG0 := Lib.hid (HF9.out.later (Below.refl w19.heap.size w19).drew)
   refine region_L 4 (fun _ => True) (fun wy => wy.cell? ⟨q8, 0, none⟩ = some (.int .i64 h.now) ∧ wy.cell? ⟨q8, 1, none⟩ = some (.slice kh.wp kh.wn kh.wc) ∧ wy.cell? ⟨q8, 2, none⟩ = some (.slice kh.kp kh.kn kh.kc) ∧ wy.cell? ⟨q8, 3, none⟩ = some (.slice kh.dp kh.dn kh.dc) ∧ wy.cell? ⟨q10, 0, none⟩ = some (.int .i64 Gb.now) ∧ wy.cell? ⟨q10, 1, none⟩ = some (.slice ky.wp ky.wn ky.wc) ∧ wy.cell? ⟨q10, 2, none⟩ = some (.slice ky.kp ky.kn ky.kc) ∧ wy.cell? ⟨q10, 3, none⟩ = some (.slice ky.dp ky.dn ky.dc) ∧ wy.cell? ⟨q10, 4, none⟩ = some (.int .i64 sy.code) ∧ wy.cell? ⟨q10, 5, none⟩ = some (.int .i64 sy.token) ∧ wy.cell? ⟨q10, 6, none⟩ = some (.int .i64 sy.next) ∧ wy.cell? ⟨q10, 7, none⟩ = some (.bool sy.yes) ∧ wy.cell? ⟨q10, 8, none⟩ = some (.int .i64 cy)) (by kernel_rfl) ⟨fun _ => trivial, HK9.out _ HG0.out⟩ (fun hHL => ?_)
   refine wpAnyL_take (i := 0) (v := ?_) (by rfl) rfl (by kernel_rfl) (by kernel_rfl) (by kernel_rfl) (fun _ _ _ h => h) (Or.inl ⟨by rfl, ?_⟩) hHL ?_
   rotate_left
   ·intro w hSw; (try dsimp only at hSw); (first | (go_simp; done) | (go_simp; with_reducible rfl))
   clear hHL
   intro hHL
   (try simp only [Act.put, List.setIfInBounds_toArray, List.set_cons_zero, List.set_cons_succ])
   refine wpAnyL_take (i := 1) (v := ?_) (by rfl) rfl (by kernel_rfl) (by kernel_rfl) (by kernel_rfl) (fun _ _ _ h => h) (Or.inl ⟨by rfl, ?_⟩) hHL ?_
   rotate_left
   ·intro w hSw; (try dsimp only at hSw); (first | (go_simp; done) | (go_simp; with_reducible rfl))
   clear hHL
   intro hHL
   (try simp only [Act.put, List.setIfInBounds_toArray, List.set_cons_zero, List.set_cons_succ])
   refine wpAnyL_take (i := 2) (v := ?_) (by rfl) rfl (by kernel_rfl) (by kernel_rfl) (by kernel_rfl) (fun _ _ _ h => h) (Or.inl ⟨by rfl, ?_⟩) hHL ?_
   rotate_left
   ·intro w hSw; (try dsimp only at hSw); (first | (go_simp; done) | (go_simp; with_reducible rfl))
   clear hHL
   intro hHL
   (try simp only [Act.put, List.setIfInBounds_toArray, List.set_cons_zero, List.set_cons_succ])
   refine wpAnyL_take (i := 3) (v := ?_) (by rfl) rfl (by kernel_rfl) (by kernel_rfl) (by kernel_rfl) (fun _ _ _ h => h) (Or.inl ⟨by rfl, ?_⟩) hHL ?_
   rotate_left
   ·intro w hSw; (try dsimp only at hSw); (first | (go_simp; done) | (go_simp; with_reducible rfl))
   clear hHL
   intro hHL
   (try simp only [Act.put, List.setIfInBounds_toArray, List.set_cons_zero, List.set_cons_succ])
   refine wpAnyL_take (i := 6) (v := ?_) (by rfl) rfl (by kernel_rfl) (by kernel_rfl) (by kernel_rfl) (fun _ _ _ h => h) (Or.inl ⟨by rfl, ?_⟩) hHL ?_
   rotate_left
   ·intro w hSw; (try dsimp only at hSw); (first | (go_simp; done) | (go_simp; with_reducible rfl))
   clear hHL
   intro hHL
   (try simp only [Act.put, List.setIfInBounds_toArray, List.set_cons_zero, List.set_cons_succ])
   refine wpAnyL_take (i := 7) (v := ?_) (by rfl) rfl (by kernel_rfl) (by kernel_rfl) (by kernel_rfl) (fun _ _ _ h => h) (Or.inl ⟨by rfl, ?_⟩) hHL ?_
   rotate_left
   ·intro w hSw; (try dsimp only at hSw); (first | (go_simp; done) | (go_simp; with_reducible rfl))
   clear hHL
   intro hHL
   (try simp only [Act.put, List.setIfInBounds_toArray, List.set_cons_zero, List.set_cons_succ])
   refine wpAnyL_take (i := 8) (v := ?_) (by rfl) rfl (by kernel_rfl) (by kernel_rfl) (by kernel_rfl) (fun _ _ _ h => h) (Or.inl ⟨by rfl, ?_⟩) hHL ?_
   rotate_left
   ·intro w hSw; (try dsimp only at hSw); (first | (go_simp; done) | (go_simp; with_reducible rfl))
   clear hHL
   intro hHL
   (try simp only [Act.put, List.setIfInBounds_toArray, List.set_cons_zero, List.set_cons_succ])
   refine wpAnyL_take (i := 11) (v := ?_) (by rfl) rfl (by kernel_rfl) (by kernel_rfl) (by kernel_rfl) (fun _ _ _ h => h) (Or.inl ⟨by rfl, ?_⟩) hHL ?_
   rotate_left
   ·intro w hSw; (try dsimp only at hSw); (first | (go_simp; done) | (go_simp; with_reducible rfl))
   clear hHL
   intro hHL
   (try simp only [Act.put, List.setIfInBounds_toArray, List.set_cons_zero, List.set_cons_succ])
   refine wpAnyL_take (i := 12) (v := ?_) (by rfl) rfl (by kernel_rfl) (by kernel_rfl) (by kernel_rfl) (fun _ _ _ h => h) (Or.inl ⟨by rfl, ?_⟩) hHL ?_
   rotate_left
   ·intro w hSw; (try dsimp only at hSw); (first | (go_simp; done) | (go_simp; with_reducible rfl))
   clear hHL
   intro hHL
   (try simp only [Act.put, List.setIfInBounds_toArray, List.set_cons_zero, List.set_cons_succ])
   refine wpAnyL_ready (rs := [4]) (by kernel_rfl) (by simp) ?_
   refine AllReadyL.cons rfl (fun K hK => ?_) AllReadyL.nil
   refine step_callW (by rfl) 15 #[.agg #[.int .i64 h.now, .slice kh.wp kh.wn kh.wc, .slice kh.kp kh.kn kh.kc, .slice kh.dp kh.dn kh.dc], .slice (some ⟨b, 0, none⟩) j c] (by kernel_rfl) (fun k : GH => goV Ga.now k sa 0) _ (made_is (ga_i HDa.out HNa.out HG0.out.o8 HWh.out HSh.out (.inr ⟨b, 0, rfl, HG0.out.la.takeK j⟩) (by have := HL10.out; simp; omega) HPa.out)) ?_
   rintro ka w21 ⟨hoa, hb1⟩
   have HG1 := Lib.hid (HG0.out.later hb1)
   have HOa := Lib.hid hoa
   have hfa : ∀ w : World, (Instr.field 35 (goV Ga.now ka sa 0) 0).run Tryz.prog w = .ok (grV Ga.now ka) w := fun w => fldGO _ _ _ _ w
   refine hK.out _ _ ⟨fun _ => trivial, HK9.out _ HG1.out⟩ (fun hHL => ?_)
   clear hK K hb1
   (try simp only [Act.put, List.setIfInBounds_toArray, List.set_cons_zero, List.set_cons_succ])
   refine wpAnyL_take (i := 5) (v := ?_) (by rfl) rfl (by kernel_rfl) (by kernel_rfl) (by kernel_rfl) (fun _ _ _ h => h) (Or.inl ⟨by rfl, ?_⟩) hHL ?_
   rotate_left
   ·intro w hSw; (try dsimp only at hSw); (first | (go_simp; done) | (go_simp; with_reducible rfl))
   clear hHL
   intro hHL
   (try simp only [Act.put, List.setIfInBounds_toArray, List.set_cons_zero, List.set_cons_succ])
   refine wpAnyL_ready (rs := [9]) (by kernel_rfl) (by simp) ?_
   refine AllReadyL.cons rfl (fun K hK => ?_) AllReadyL.nil
   refine step_callW (by rfl) 15 #[grV Ga.now ka, .slice qp (n - j) (c - j)] (by kernel_rfl) (fun k : GH => goV Gb.now k sb 0) _ (made_is (ga_i HDb.out HNb.out HOa.out (right_wf HGa.out) (right_small HGa.out) (rest_in rqCf_len HG1.out.la HQp.out HNb.out) (by have := HL10.out; simp; omega) HPb.out)) ?_
   rintro kb w22 ⟨hob, hb2⟩
   have HG2 := Lib.hid (HG1.out.later hb2)
   have HOb := Lib.hid hob
   have hfb : ∀ w : World, (Instr.field 35 (goV Gb.now kb sb 0) 0).run Tryz.prog w = .ok (grV Gb.now kb) w := fun w => fldGO _ _ _ _ w
   refine hK.out _ _ ⟨fun _ => trivial, HK9.out _ HG2.out⟩ (fun hHL => ?_)
   clear hK K hb2
   (try simp only [Act.put, List.setIfInBounds_toArray, List.set_cons_zero, List.set_cons_succ])
   refine wpAnyL_take (i := 10) (v := ?_) (by rfl) rfl (by kernel_rfl) (by kernel_rfl) (by kernel_rfl) (fun _ _ _ h => h) (Or.inl ⟨by rfl, ?_⟩) hHL ?_
   rotate_left
   ·intro w hSw; (try dsimp only at hSw); (first | (go_simp; done) | (go_simp; with_reducible rfl))
   clear hHL
   intro hHL
   (try simp only [Act.put, List.setIfInBounds_toArray, List.set_cons_zero, List.set_cons_succ])
   refine wpAnyL_ready (rs := [13]) (by kernel_rfl) (by simp) ?_
   refine AllReadyL.cons rfl (fun K hK => ?_) AllReadyL.nil
   refine step_callW (by rfl) 25 #[grV Gb.now kb, .agg #[.int .i64 Gb.now, .slice ky.wp ky.wn ky.wc, .slice ky.kp ky.kn ky.kc, .slice ky.dp ky.dn ky.dc]] (by kernel_rfl) (fun _ : Unit => .bool true) _ (ret_is (lwGrant_same kb ky Gb _ (own_isIn HOb.out) (own_isIn HG2.out.o10) HGy.out.1)) ?_
   rintro _ w23 hb3
   have HG3 := Lib.hid (HG2.out.later hb3)
   refine hK.out _ _ ⟨fun _ => trivial, HK9.out _ HG3.out⟩ (fun hHL => ?_)
   clear hK K hb3
   (try simp only [Act.put, List.setIfInBounds_toArray, List.set_cons_zero, List.set_cons_succ])
   refine wpAnyL_take (i := 14) (v := ?_) (by rfl) rfl (by kernel_rfl) (by kernel_rfl) (by kernel_rfl) (fun _ _ _ h => h) (Or.inl ⟨by rfl, ?_⟩) hHL ?_
   rotate_left
   ·intro w hSw; (try dsimp only at hSw); (first | (go_simp; done) | (go_simp; with_reducible rfl))
   clear hHL
   intro hHL
   (try simp only [Act.put, List.setIfInBounds_toArray, List.set_cons_zero, List.set_cons_succ])
   refine wpAnyL_done (by kernel_rfl) ?_ _
   clear hHL HK9 HG0 HG1 HG2 HOa HOb hfa hfb hsl1 hsl2
   go_wp2_with fail
   go_meet
   exact HG3.out
 as_aux_lemma =>
 have HC := Lib.hid hcut
 clear hcut HF8
 have v0 : wc.cell? ⟨q7, 0, none⟩ = some (.int .i64 Gx.now) := HC.out.r7.cell 0
 have v1 : wc.cell? ⟨q7, 1, none⟩ = some (.slice kx.wp kx.wn kx.wc) := HC.out.r7.cell 1
 have v2 : wc.cell? ⟨q7, 2, none⟩ = some (.slice kx.kp kx.kn kx.kc) := HC.out.r7.cell 2
 have v3 : wc.cell? ⟨q7, 3, none⟩ = some (.slice kx.dp kx.dn kx.dc) := HC.out.r7.cell 3
 have v4 : wc.cell? ⟨q7, 4, none⟩ = some (.int .i64 sx.code) := HC.out.r7.cell 4
 have v5 : wc.cell? ⟨q7, 5, none⟩ = some (.int .i64 sx.token) := HC.out.r7.cell 5
 have v6 : wc.cell? ⟨q7, 6, none⟩ = some (.int .i64 sx.next) := HC.out.r7.cell 6
 have v7 : wc.cell? ⟨q7, 7, none⟩ = some (.bool sx.yes) := HC.out.r7.cell 7
 have v8 : wc.cell? ⟨q7, 8, none⟩ = some (.int .i64 cx) := HC.out.r7.cell 8
 have s0 : wc.cell? ⟨q6, 0, none⟩ = some (.int .i64 r.no) := HC.out.r6.cell 0
 have s1 : wc.cell? ⟨q6, 1, none⟩ = some (.int .i64 r.kind) := HC.out.r6.cell 1
 have s2 : wc.cell? ⟨q6, 2, none⟩ = some (.int .i64 r.client) := HC.out.r6.cell 2
 have s3 : wc.cell? ⟨q6, 3, none⟩ = some (.int .i64 r.code) := HC.out.r6.cell 3
 have s4 : wc.cell? ⟨q6, 4, none⟩ = some (.int .i64 r.token) := HC.out.r6.cell 4
 have s5 : wc.cell? ⟨q6, 5, none⟩ = some (.string r.proof) := HC.out.r6.cell 5
 have s6 : wc.cell? ⟨q6, 6, none⟩ = some (.int .i64 r.upTo) := HC.out.r6.cell 6
 by_cases hC : cx = 0
 rotate_left
 ·have e1 : (cx != 0) = true := by simpa using hC
  go_wp2_with fail
  go_ret
  exact ⟨rfl, HC.out.bel⟩
 have eC : (cx != 0) = false := by simp [hC]
 by_cases hS : sx.code = 0
 rotate_left
 ·have e1 : (sx.code != 0) = true := by simpa using hS
  go_wp2_with fail
  go_ret
  exact ⟨rfl, HC.out.bel⟩
 have eS : (sx.code != 0) = false := by simp [hS]
 by_cases hK : r.kind = 2 ∨ r.kind = 3
 rotate_left
 ·have e1 : (r.kind != 2) = true := by simp; omega
  have e2 : (r.kind != 3) = true := by simp; omega
  go_wp2_with fail
  go_ret
  exact ⟨rfl, HC.out.bel⟩
 by_cases hL : kx.kn ≤ 38
 rotate_left
 ·have dL : decide ((38 : Int) < (kx.kn : Int)) = true := decide_eq_true (by omega)
  rcases hK with hk | hk
  ·have e1 : (r.kind != 2) = false := by simp [hk]
   go_wp2_with fail
   go_ret
   exact ⟨rfl, HC.out.bel⟩
  ·have e1 : (r.kind != 2) = true := by simp; omega
   have e2 : (r.kind != 3) = false := by simp [hk]
   go_wp2_with fail
   go_ret
   exact ⟨rfl, HC.out.bel⟩
 have dL : decide ((38 : Int) < (kx.kn : Int)) = false := decide_eq_false (by omega)
 by_cases hT : Gx.now ≤ 999000
 rotate_left
 ·have dT : decide ((999000 : Int) < Gx.now) = true := decide_eq_true (by omega)
  rcases hK with hk | hk
  ·have e1 : (r.kind != 2) = false := by simp [hk]
   go_wp2_with fail
   go_ret
   exact ⟨rfl, HC.out.bel⟩
  ·have e1 : (r.kind != 2) = true := by simp; omega
   have e2 : (r.kind != 3) = false := by simp [hk]
   go_wp2_with fail
   go_ret
   exact ⟨rfl, HC.out.bel⟩
 have dT : decide ((999000 : Int) < Gx.now) = false := decide_eq_false (by omega)
 go_upto_region 14 with fail
 obtain ⟨wd, hwd⟩ : ∃ wd, wd = wc := ⟨_, rfl⟩
 go_cut [135] (fun v wx => v = .bool false ∧ wx = wd)
 case first =>
  subst hwd
  rcases hK with hk | hk
  ·have e1 : (r.kind != 2) = false := by simp [hk]
   go_wp2_with fail
   go_meet
   exact ⟨rfl, rfl⟩
  ·have e1 : (r.kind != 2) = true := by simp; omega
   have e2 : (r.kind != 3) = false := by simp [hk]
   go_wp2_with fail
   go_meet
   exact ⟨rfl, rfl⟩
 subst hwd
 obtain ⟨rfl, rfl⟩ := hcut
 clear eC eS dL dT
 go_upto_region 18 with fail
 as_aux_lemma =>
 have hG := HGx.out.2.2 hC
 have HM := Lib.hid (fg_math hG.2.1 hG.2.2.1 hG.2.2.2 hG.1 hS hK hT)
 have HKn : Hid (kx.kn = Gx.keys.length) := Lib.hid (own_len HC.out.o7.2.1)
 have hba : Below wc.heap.size wc (wc.alloc (.cells #[.int .i64 98, .int .i64 r.kind, .int .i64 r.client, .int .i64 r.code, .int .i64 r.token, .string r.proof, .int .i64 r.upTo] 29)) := (Below.refl _ _).alloc (Nat.le_refl _) _
 have R15 : Hid (Row (wc.alloc (.cells #[.int .i64 98, .int .i64 r.kind, .int .i64 r.client, .int .i64 r.code, .int .i64 r.token, .string r.proof, .int .i64 r.upTo] 29)) wc.heap.size 29 (rqL { r with no := 98 })) := Lib.hid (heap_alloc_new wc _)
 have HC1 := Lib.hid (HC.out.later hba)
 clear hba HC v0 v1 v2 v3 v4 v5 v6 v7 v8 s0 s1 s2 s3 s4 s5 s6 hG hK hT
 generalize wc.alloc (.cells #[.int .i64 98, .int .i64 r.kind, .int .i64 r.client, .int .i64 r.code, .int .i64 r.token, .string r.proof, .int .i64 r.upTo] 29) = wd at R15 HC1 ⊢
 generalize wc.heap.size = q15 at R15 ⊢
 have v0 : wd.cell? ⟨q7, 0, none⟩ = some (.int .i64 Gx.now) := HC1.out.r7.cell 0
 have v1 : wd.cell? ⟨q7, 1, none⟩ = some (.slice kx.wp kx.wn kx.wc) := HC1.out.r7.cell 1
 have v2 : wd.cell? ⟨q7, 2, none⟩ = some (.slice kx.kp kx.kn kx.kc) := HC1.out.r7.cell 2
 have v3 : wd.cell? ⟨q7, 3, none⟩ = some (.slice kx.dp kx.dn kx.dc) := HC1.out.r7.cell 3
 have s0 : wd.cell? ⟨q6, 0, none⟩ = some (.int .i64 r.no) := HC1.out.r6.cell 0
 obtain ⟨Gi, si, ci, hDi⟩ : ∃ a b c, gdD Gx ⟨98, 1, 1, 0, 0, ⟨#[97]⟩, 0⟩ = (a, b, c) := ⟨_, _, _, rfl⟩
 have hf1 : ∀ (k : GH) (w : World), (Instr.field 35 (goV Gi.now k si ci) 1).run Tryz.prog w = .ok (rsV si) w := fun k w => fldGO1 _ _ _ _ w
 have hf2 : ∀ w : World, (Instr.field 33 (rsV si) 0).run Tryz.prog w = .ok (.int .i64 si.code) w := fun w => fldRS0 _ w
 go_wp2_with fail
 refine (gdo_s hDi HC1.out.o7 HGx.out.1 (by unfold maxLen; decide)).mono ?_
 rintro e w31 ⟨ki, rfl, _, hb31⟩
 have HC2 := Lib.hid (HC1.out.later hb31)
 have R15a := Lib.hid (R15.out.below hb31 R15.out.lt)
 clear hb31 HC1 R15 v0 v1 v2 v3 s0
 have s0 : w31.cell? ⟨q6, 0, none⟩ = some (.int .i64 r.no) := HC2.out.r6.cell 0
 by_cases hI : si.code = 7
 ·have e1 : (si.code == 7) = true := by simp [hI]
  go_wp2_with fail
  go_ret
  exact ⟨rfl, HC2.out.bel⟩
 have e1 : (si.code == 7) = false := by simp [hI]
 by_cases hN98 : r.no = 98
 ·have e2 : (r.no == 98) = true := by simp [hN98]
  go_wp2_with fail
  go_ret
  exact ⟨rfl, HC2.out.bel⟩
 have e2 : (r.no == 98) = false := by simp [hN98]
 clear hDi
 go_upto_region 20 with fail
 clear s0 hf1 hf2
 have v0 : w31.cell? ⟨q7, 0, none⟩ = some (.int .i64 Gx.now) := HC2.out.r7.cell 0
 have v1 : w31.cell? ⟨q7, 1, none⟩ = some (.slice kx.wp kx.wn kx.wc) := HC2.out.r7.cell 1
 have v2 : w31.cell? ⟨q7, 2, none⟩ = some (.slice kx.kp kx.kn kx.kc) := HC2.out.r7.cell 2
 have v3 : w31.cell? ⟨q7, 3, none⟩ = some (.slice kx.dp kx.dn kx.dc) := HC2.out.r7.cell 3
 have s0 : w31.cell? ⟨q15, 0, none⟩ = some (.int .i64 98) := R15a.out.cell 0
 have s1 : w31.cell? ⟨q15, 1, none⟩ = some (.int .i64 r.kind) := R15a.out.cell 1
 have s2 : w31.cell? ⟨q15, 2, none⟩ = some (.int .i64 r.client) := R15a.out.cell 2
 have s3 : w31.cell? ⟨q15, 3, none⟩ = some (.int .i64 r.code) := R15a.out.cell 3
 have s4 : w31.cell? ⟨q15, 4, none⟩ = some (.int .i64 r.token) := R15a.out.cell 4
 have s5 : w31.cell? ⟨q15, 5, none⟩ = some (.string r.proof) := R15a.out.cell 5
 have s6 : w31.cell? ⟨q15, 6, none⟩ = some (.int .i64 r.upTo) := R15a.out.cell 6
 obtain ⟨Gz, sz, cz, hDz⟩ : ∃ a b c, gdD Gx { r with no := 98 } = (a, b, c) := ⟨_, _, _, rfl⟩
 have HDz := Lib.hid hDz
 clear hDz
 go_wp2_with fail
 refine (gdo_i HDz.out HC2.out.o7 HGx.out.2.1 HGx.out.1 HP.out).mono ?_
 rintro e wz ⟨kz, rfl, ho, hb⟩
 have HV : Hid (goV Gz.now kz sz cz = .agg #[.int .i64 Gz.now, .slice kz.wp kz.wn kz.wc, .slice kz.kp kz.kn kz.kc, .slice kz.dp kz.dn kz.dc, .int .i64 sz.code, .int .i64 sz.token, .int .i64 sz.next, .bool sz.yes, .int .i64 cz]) := Lib.hid rfl
 rw [HV.out]
 have hba : Below wz.heap.size wz (wz.alloc (.cells #[.int .i64 Gz.now, .slice kz.wp kz.wn kz.wc, .slice kz.kp kz.kn kz.kc, .slice kz.dp kz.dn kz.dc, .int .i64 sz.code, .int .i64 sz.token, .int .i64 sz.next, .bool sz.yes, .int .i64 cz] 35)) := (Below.refl _ _).alloc (Nat.le_refl _) _
 have hb2 := hb.trans (hba.mono hb.size)
 have Rz : Hid (Row (wz.alloc (.cells #[.int .i64 Gz.now, .slice kz.wp kz.wn kz.wc, .slice kz.kp kz.kn kz.kc, .slice kz.dp kz.dn kz.dc, .int .i64 sz.code, .int .i64 sz.token, .int .i64 sz.next, .bool sz.yes, .int .i64 cz] 35)) wz.heap.size 35 (goL Gz.now kz sz cz)) := Lib.hid (heap_alloc_new wz _)
 have Oz := Lib.hid (ho.later hba)
 have HC3 := Lib.hid (HC2.out.later hb2)
 have R15z := Lib.hid (R15a.out.below hb2 R15a.out.lt)
 clear hba hb hb2 ho HV HC2 R15a v0 v1 v2 v3 s0 s1 s2 s3 s4 s5 s6
 go_upto_region 21 with fail
 generalize wz.alloc (.cells #[.int .i64 Gz.now, .slice kz.wp kz.wn kz.wc, .slice kz.kp kz.kn kz.kc, .slice kz.dp kz.dn kz.dc, .int .i64 sz.code, .int .i64 sz.token, .int .i64 sz.next, .bool sz.yes, .int .i64 cz] 35) = wdz at Rz Oz HC3 R15z ⊢
 generalize wz.heap.size = q16 at Rz ⊢
 have v0 : wdz.cell? ⟨q7, 0, none⟩ = some (.int .i64 Gx.now) := HC3.out.r7.cell 0
 have v1 : wdz.cell? ⟨q7, 1, none⟩ = some (.slice kx.wp kx.wn kx.wc) := HC3.out.r7.cell 1
 have v2 : wdz.cell? ⟨q7, 2, none⟩ = some (.slice kx.kp kx.kn kx.kc) := HC3.out.r7.cell 2
 have v3 : wdz.cell? ⟨q7, 3, none⟩ = some (.slice kx.dp kx.dn kx.dc) := HC3.out.r7.cell 3
 as_aux_lemma =>
 obtain ⟨Gla, sla, cla, hDla⟩ : ∃ a b c, gdD Gx ⟨97, 6, 0, 0, 0, ⟨#[]⟩, 60⟩ = (a, b, c) := ⟨_, _, _, rfl⟩
 have HDla := Lib.hid hDla
 clear hDla
 go_wp2_with fail
 refine (gdo_i HDla.out HC3.out.o7 HGx.out.2.1 HGx.out.1 (Nat.zero_le _)).mono ?_
 rintro e wla ⟨kla, rfl, ho, hb⟩
 have HV : Hid (goV Gla.now kla sla cla = .agg #[.int .i64 Gla.now, .slice kla.wp kla.wn kla.wc, .slice kla.kp kla.kn kla.kc, .slice kla.dp kla.dn kla.dc, .int .i64 sla.code, .int .i64 sla.token, .int .i64 sla.next, .bool sla.yes, .int .i64 cla]) := Lib.hid rfl
 rw [HV.out]
 have hba : Below wla.heap.size wla (wla.alloc (.cells #[.int .i64 Gla.now, .slice kla.wp kla.wn kla.wc, .slice kla.kp kla.kn kla.kc, .slice kla.dp kla.dn kla.dc, .int .i64 sla.code, .int .i64 sla.token, .int .i64 sla.next, .bool sla.yes, .int .i64 cla] 35)) := (Below.refl _ _).alloc (Nat.le_refl _) _
 have hb2 := hb.trans (hba.mono hb.size)
 have Rla : Hid (Row (wla.alloc (.cells #[.int .i64 Gla.now, .slice kla.wp kla.wn kla.wc, .slice kla.kp kla.kn kla.kc, .slice kla.dp kla.dn kla.dc, .int .i64 sla.code, .int .i64 sla.token, .int .i64 sla.next, .bool sla.yes, .int .i64 cla] 35)) wla.heap.size 35 (goL Gla.now kla sla cla)) := Lib.hid (heap_alloc_new wla _)
 have Ola := Lib.hid (ho.later hba)
 have HC4 := Lib.hid (HC3.out.later hb2)
 have R15la := Lib.hid (R15z.out.below hb2 R15z.out.lt)
 have Rzla := Lib.hid (Rz.out.below hb2 Rz.out.lt)
 have Ozla := Lib.hid (Oz.out.later hb2)
 clear hba hb hb2 ho HV HC3 R15z Rz Oz v0 v1 v2 v3
 go_upto_region 22 with fail
 generalize wla.alloc (.cells #[.int .i64 Gla.now, .slice kla.wp kla.wn kla.wc, .slice kla.kp kla.kn kla.kc, .slice kla.dp kla.dn kla.dc, .int .i64 sla.code, .int .i64 sla.token, .int .i64 sla.next, .bool sla.yes, .int .i64 cla] 35) = wdla at Rla Ola HC4 R15la Rzla Ozla ⊢
 generalize wla.heap.size = q17 at Rla ⊢
 have v0 : wdla.cell? ⟨q7, 0, none⟩ = some (.int .i64 Gx.now) := HC4.out.r7.cell 0
 have v1 : wdla.cell? ⟨q7, 1, none⟩ = some (.slice kx.wp kx.wn kx.wc) := HC4.out.r7.cell 1
 have v2 : wdla.cell? ⟨q7, 2, none⟩ = some (.slice kx.kp kx.kn kx.kc) := HC4.out.r7.cell 2
 have v3 : wdla.cell? ⟨q7, 3, none⟩ = some (.slice kx.dp kx.dn kx.dc) := HC4.out.r7.cell 3
 obtain ⟨Glb, slb, clb, hDlb⟩ : ∃ a b c, gdD Gx ⟨97, 6, 0, 0, 0, ⟨#[]⟩, 61⟩ = (a, b, c) := ⟨_, _, _, rfl⟩
 have HDlb := Lib.hid hDlb
 clear hDlb
 go_wp2_with fail
 refine (gdo_i HDlb.out HC4.out.o7 HGx.out.2.1 HGx.out.1 (Nat.zero_le _)).mono ?_
 rintro e wlb ⟨klb, rfl, ho, hb⟩
 have HV : Hid (goV Glb.now klb slb clb = .agg #[.int .i64 Glb.now, .slice klb.wp klb.wn klb.wc, .slice klb.kp klb.kn klb.kc, .slice klb.dp klb.dn klb.dc, .int .i64 slb.code, .int .i64 slb.token, .int .i64 slb.next, .bool slb.yes, .int .i64 clb]) := Lib.hid rfl
 rw [HV.out]
 have hba : Below wlb.heap.size wlb (wlb.alloc (.cells #[.int .i64 Glb.now, .slice klb.wp klb.wn klb.wc, .slice klb.kp klb.kn klb.kc, .slice klb.dp klb.dn klb.dc, .int .i64 slb.code, .int .i64 slb.token, .int .i64 slb.next, .bool slb.yes, .int .i64 clb] 35)) := (Below.refl _ _).alloc (Nat.le_refl _) _
 have hb2 := hb.trans (hba.mono hb.size)
 have Rlb : Hid (Row (wlb.alloc (.cells #[.int .i64 Glb.now, .slice klb.wp klb.wn klb.wc, .slice klb.kp klb.kn klb.kc, .slice klb.dp klb.dn klb.dc, .int .i64 slb.code, .int .i64 slb.token, .int .i64 slb.next, .bool slb.yes, .int .i64 clb] 35)) wlb.heap.size 35 (goL Glb.now klb slb clb)) := Lib.hid (heap_alloc_new wlb _)
 have Olb := Lib.hid (ho.later hba)
 have HC5 := Lib.hid (HC4.out.later hb2)
 have R15lb := Lib.hid (R15la.out.below hb2 R15la.out.lt)
 have Rzlalb := Lib.hid (Rzla.out.below hb2 Rzla.out.lt)
 have Ozlalb := Lib.hid (Ozla.out.later hb2)
 have Rlalb := Lib.hid (Rla.out.below hb2 Rla.out.lt)
 have Olalb := Lib.hid (Ola.out.later hb2)
 clear hba hb hb2 ho HV HC4 R15la Rzla Ozla Rla Ola v0 v1 v2 v3
 go_upto_region 23 with fail
 generalize wlb.alloc (.cells #[.int .i64 Glb.now, .slice klb.wp klb.wn klb.wc, .slice klb.kp klb.kn klb.kc, .slice klb.dp klb.dn klb.dc, .int .i64 slb.code, .int .i64 slb.token, .int .i64 slb.next, .bool slb.yes, .int .i64 clb] 35) = wdlb at Rlb Olb HC5 R15lb Rzlalb Ozlalb Rlalb Olalb ⊢
 generalize wlb.heap.size = q18 at Rlb ⊢
 have v0 : wdlb.cell? ⟨q7, 0, none⟩ = some (.int .i64 Gx.now) := HC5.out.r7.cell 0
 have v1 : wdlb.cell? ⟨q7, 1, none⟩ = some (.slice kx.wp kx.wn kx.wc) := HC5.out.r7.cell 1
 have v2 : wdlb.cell? ⟨q7, 2, none⟩ = some (.slice kx.kp kx.kn kx.kc) := HC5.out.r7.cell 2
 have v3 : wdlb.cell? ⟨q7, 3, none⟩ = some (.slice kx.dp kx.dn kx.dc) := HC5.out.r7.cell 3
 have s2 : wdlb.cell? ⟨q6, 2, none⟩ = some (.int .i64 r.client) := HC5.out.r6.cell 2
 have v5 : wdlb.cell? ⟨q7, 5, none⟩ = some (.int .i64 sx.token) := HC5.out.r7.cell 5
 as_aux_lemma =>
 obtain ⟨Gde, sde, cde, hDde⟩ : ∃ a b c, gdD Gx ⟨97, 4, r.client, 0, sx.token, ⟨#[]⟩, 0⟩ = (a, b, c) := ⟨_, _, _, rfl⟩
 have HDde := Lib.hid hDde
 clear hDde
 go_wp2_with fail
 refine (gdo_i HDde.out HC5.out.o7 HGx.out.2.1 HGx.out.1 (Nat.zero_le _)).mono ?_
 rintro e wde ⟨kde, rfl, ho, hb⟩
 have HV : Hid (goV Gde.now kde sde cde = .agg #[.int .i64 Gde.now, .slice kde.wp kde.wn kde.wc, .slice kde.kp kde.kn kde.kc, .slice kde.dp kde.dn kde.dc, .int .i64 sde.code, .int .i64 sde.token, .int .i64 sde.next, .bool sde.yes, .int .i64 cde]) := Lib.hid rfl
 rw [HV.out]
 have hba : Below wde.heap.size wde (wde.alloc (.cells #[.int .i64 Gde.now, .slice kde.wp kde.wn kde.wc, .slice kde.kp kde.kn kde.kc, .slice kde.dp kde.dn kde.dc, .int .i64 sde.code, .int .i64 sde.token, .int .i64 sde.next, .bool sde.yes, .int .i64 cde] 35)) := (Below.refl _ _).alloc (Nat.le_refl _) _
 have hb2 := hb.trans (hba.mono hb.size)
 have Rde : Hid (Row (wde.alloc (.cells #[.int .i64 Gde.now, .slice kde.wp kde.wn kde.wc, .slice kde.kp kde.kn kde.kc, .slice kde.dp kde.dn kde.dc, .int .i64 sde.code, .int .i64 sde.token, .int .i64 sde.next, .bool sde.yes, .int .i64 cde] 35)) wde.heap.size 35 (goL Gde.now kde sde cde)) := Lib.hid (heap_alloc_new wde _)
 have Ode := Lib.hid (ho.later hba)
 have HC6 := Lib.hid (HC5.out.later hb2)
 have R15de := Lib.hid (R15lb.out.below hb2 R15lb.out.lt)
 have Rzlalbde := Lib.hid (Rzlalb.out.below hb2 Rzlalb.out.lt)
 have Ozlalbde := Lib.hid (Ozlalb.out.later hb2)
 have Rlalbde := Lib.hid (Rlalb.out.below hb2 Rlalb.out.lt)
 have Olalbde := Lib.hid (Olalb.out.later hb2)
 have Rlbde := Lib.hid (Rlb.out.below hb2 Rlb.out.lt)
 have Olbde := Lib.hid (Olb.out.later hb2)
 clear hba hb hb2 ho HV HC5 R15lb Rzlalb Ozlalb Rlalb Olalb Rlb Olb v0 v1 v2 v3 s2 v5
 go_upto_region 24 with fail
 generalize wde.alloc (.cells #[.int .i64 Gde.now, .slice kde.wp kde.wn kde.wc, .slice kde.kp kde.kn kde.kc, .slice kde.dp kde.dn kde.dc, .int .i64 sde.code, .int .i64 sde.token, .int .i64 sde.next, .bool sde.yes, .int .i64 cde] 35) = wdde at Rde Ode HC6 R15de Rzlalbde Ozlalbde Rlalbde Olalbde Rlbde Olbde ⊢
 generalize wde.heap.size = q19 at Rde ⊢
 as_aux_lemma =>
 have z4 : wdde.cell? ⟨q16, 4, none⟩ = some (.int .i64 sz.code) := Rzlalbde.out.cell 4
 rcases HM.out.2.2.2.1 _ _ _ HDz.out (by have := HKn.out; omega) with h7 | ⟨h10, hz1, hz2⟩
 ·have e7 : (sz.code == 7) = true := by simp [h7]
  go_wp2_with fail
  go_ret
  exact ⟨rfl, HC6.out.bel⟩
 have e7 : (sz.code == 7) = false := by simp [h10]
 have e10 : (sz.code == 10) = true := by simp [h10]
 have HZ1 := Lib.hid hz1
 have HZ2 := Lib.hid hz2
 have hwt : (Lit.int .i64 sx.token).wf = true := wf_small (by have := HM.out.1; have := HM.out.2.2.1; omega) (by have := HM.out.1; have := HM.out.2.2.1; omega)
 have HWt := Lib.hid hwt
 have hwn : (Lit.int .i64 sx.next).wf = true := wf_small (by have := HM.out.2.1; have := HM.out.2.2.1; omega) (by have := HM.out.2.1; have := HM.out.2.2.1; omega)
 have HWn := Lib.hid hwn
 clear hz1 hz2 hwt hwn h10
 have v0 : wdde.cell? ⟨q16, 0, none⟩ = some (.int .i64 Gz.now) := Rzlalbde.out.cell 0
 have v1 : wdde.cell? ⟨q16, 1, none⟩ = some (.slice kz.wp kz.wn kz.wc) := Rzlalbde.out.cell 1
 have v2 : wdde.cell? ⟨q16, 2, none⟩ = some (.slice kz.kp kz.kn kz.kc) := Rzlalbde.out.cell 2
 have v3 : wdde.cell? ⟨q16, 3, none⟩ = some (.slice kz.dp kz.dn kz.dc) := Rzlalbde.out.cell 3
 have t5 : wdde.cell? ⟨q7, 5, none⟩ = some (.int .i64 sx.token) := HC6.out.r7.cell 5
 have t2 : wdde.cell? ⟨q6, 2, none⟩ = some (.int .i64 r.client) := HC6.out.r6.cell 2
 go_wp2_with fail
 refine (opens_imp Gz kz sx.token r.client _ (own_isIn Ozlalbde.out) (gd_good HDz.out).1 (gd_good HDz.out).2.1 HWt.out).mono ?_
 rw [HZ1.out]
 rintro e x1 ⟨rfl, hb⟩
 have HD1x := Lib.hid (HC6.out.later hb)
 have Rzlalbdex1 := Lib.hid (Rzlalbde.out.below hb Rzlalbde.out.lt)
 have Ozlalbdex1 := Lib.hid (Ozlalbde.out.later hb)
 have Rlalbdex1 := Lib.hid (Rlalbde.out.below hb Rlalbde.out.lt)
 have Olalbdex1 := Lib.hid (Olalbde.out.later hb)
 have Rlbdex1 := Lib.hid (Rlbde.out.below hb Rlbde.out.lt)
 have Olbdex1 := Lib.hid (Olbde.out.later hb)
 have Rdex1 := Lib.hid (Rde.out.below hb Rde.out.lt)
 have Odex1 := Lib.hid (Ode.out.later hb)
 clear hb t5 t2 v0 v1 v2 v3 z4 HC6 Rzlalbde Ozlalbde Rlalbde Olalbde Rlbde Olbde Rde Ode
 have v0 : x1.cell? ⟨q16, 0, none⟩ = some (.int .i64 Gz.now) := Rzlalbdex1.out.cell 0
 have v1 : x1.cell? ⟨q16, 1, none⟩ = some (.slice kz.wp kz.wn kz.wc) := Rzlalbdex1.out.cell 1
 have v2 : x1.cell? ⟨q16, 2, none⟩ = some (.slice kz.kp kz.kn kz.kc) := Rzlalbdex1.out.cell 2
 have v3 : x1.cell? ⟨q16, 3, none⟩ = some (.slice kz.dp kz.dn kz.dc) := Rzlalbdex1.out.cell 3
 have t5 : x1.cell? ⟨q7, 6, none⟩ = some (.int .i64 sx.next) := HD1x.out.r7.cell 6
 have t2 : x1.cell? ⟨q6, 2, none⟩ = some (.int .i64 r.client) := HD1x.out.r6.cell 2
 go_wp2_with fail
 refine (opens_imp Gz kz sx.next r.client _ (own_isIn Ozlalbdex1.out) (gd_good HDz.out).1 (gd_good HDz.out).2.1 HWn.out).mono ?_
 rw [HZ2.out]
 rintro e x2 ⟨rfl, hb⟩
 have HD2x := Lib.hid (HD1x.out.later hb)
 have Rzlalbdex1x2 := Lib.hid (Rzlalbdex1.out.below hb Rzlalbdex1.out.lt)
 have Ozlalbdex1x2 := Lib.hid (Ozlalbdex1.out.later hb)
 have Rlalbdex1x2 := Lib.hid (Rlalbdex1.out.below hb Rlalbdex1.out.lt)
 have Olalbdex1x2 := Lib.hid (Olalbdex1.out.later hb)
 have Rlbdex1x2 := Lib.hid (Rlbdex1.out.below hb Rlbdex1.out.lt)
 have Olbdex1x2 := Lib.hid (Olbdex1.out.later hb)
 have Rdex1x2 := Lib.hid (Rdex1.out.below hb Rdex1.out.lt)
 have Odex1x2 := Lib.hid (Odex1.out.later hb)
 clear hb t5 t2 v0 v1 v2 v3 HD1x Rzlalbdex1 Ozlalbdex1 Rlalbdex1 Olalbdex1 Rlbdex1 Olbdex1 Rdex1 Odex1
 have v0 : x2.cell? ⟨q7, 0, none⟩ = some (.int .i64 Gx.now) := HD2x.out.r7.cell 0
 have v1 : x2.cell? ⟨q7, 1, none⟩ = some (.slice kx.wp kx.wn kx.wc) := HD2x.out.r7.cell 1
 have v2 : x2.cell? ⟨q7, 2, none⟩ = some (.slice kx.kp kx.kn kx.kc) := HD2x.out.r7.cell 2
 have v3 : x2.cell? ⟨q7, 3, none⟩ = some (.slice kx.dp kx.dn kx.dc) := HD2x.out.r7.cell 3
 have t5 : x2.cell? ⟨q7, 5, none⟩ = some (.int .i64 sx.token) := HD2x.out.r7.cell 5
 have t2 : x2.cell? ⟨q6, 2, none⟩ = some (.int .i64 r.client) := HD2x.out.r6.cell 2
 go_wp2_with fail
 refine (opens_imp Gx kx sx.token r.client _ (own_isIn HD2x.out.o7) HGx.out.1 HGx.out.2.1 HWt.out).mono ?_
 rw [HM.out.2.2.2.2.1]
 rintro e x3 ⟨rfl, hb⟩
 have HD3x := Lib.hid (HD2x.out.later hb)
 have Rzlalbdex1x2x3 := Lib.hid (Rzlalbdex1x2.out.below hb Rzlalbdex1x2.out.lt)
 have Ozlalbdex1x2x3 := Lib.hid (Ozlalbdex1x2.out.later hb)
 have Rlalbdex1x2x3 := Lib.hid (Rlalbdex1x2.out.below hb Rlalbdex1x2.out.lt)
 have Olalbdex1x2x3 := Lib.hid (Olalbdex1x2.out.later hb)
 have Rlbdex1x2x3 := Lib.hid (Rlbdex1x2.out.below hb Rlbdex1x2.out.lt)
 have Olbdex1x2x3 := Lib.hid (Olbdex1x2.out.later hb)
 have Rdex1x2x3 := Lib.hid (Rdex1x2.out.below hb Rdex1x2.out.lt)
 have Odex1x2x3 := Lib.hid (Odex1x2.out.later hb)
 clear hb t5 t2 v0 v1 v2 v3 HD2x Rzlalbdex1x2 Ozlalbdex1x2 Rlalbdex1x2 Olalbdex1x2 Rlbdex1x2 Olbdex1x2 Rdex1x2 Odex1x2
 have v0 : x3.cell? ⟨q17, 0, none⟩ = some (.int .i64 Gla.now) := Rlalbdex1x2x3.out.cell 0
 have v1 : x3.cell? ⟨q17, 1, none⟩ = some (.slice kla.wp kla.wn kla.wc) := Rlalbdex1x2x3.out.cell 1
 have v2 : x3.cell? ⟨q17, 2, none⟩ = some (.slice kla.kp kla.kn kla.kc) := Rlalbdex1x2x3.out.cell 2
 have v3 : x3.cell? ⟨q17, 3, none⟩ = some (.slice kla.dp kla.dn kla.dc) := Rlalbdex1x2x3.out.cell 3
 have t5 : x3.cell? ⟨q7, 5, none⟩ = some (.int .i64 sx.token) := HD3x.out.r7.cell 5
 have t2 : x3.cell? ⟨q6, 2, none⟩ = some (.int .i64 r.client) := HD3x.out.r6.cell 2
 go_wp2_with fail
 refine (opens_imp Gla kla sx.token r.client _ (own_isIn Olalbdex1x2x3.out) (gd_good HDla.out).1 (gd_good HDla.out).2.1 HWt.out).mono ?_
 rw [HM.out.2.2.2.2.2.1 _ _ _ HDla.out]
 rintro e x4 ⟨rfl, hb⟩
 have HD4x := Lib.hid (HD3x.out.later hb)
 have Rzlalbdex1x2x3x4 := Lib.hid (Rzlalbdex1x2x3.out.below hb Rzlalbdex1x2x3.out.lt)
 have Ozlalbdex1x2x3x4 := Lib.hid (Ozlalbdex1x2x3.out.later hb)
 have Rlalbdex1x2x3x4 := Lib.hid (Rlalbdex1x2x3.out.below hb Rlalbdex1x2x3.out.lt)
 have Olalbdex1x2x3x4 := Lib.hid (Olalbdex1x2x3.out.later hb)
 have Rlbdex1x2x3x4 := Lib.hid (Rlbdex1x2x3.out.below hb Rlbdex1x2x3.out.lt)
 have Olbdex1x2x3x4 := Lib.hid (Olbdex1x2x3.out.later hb)
 have Rdex1x2x3x4 := Lib.hid (Rdex1x2x3.out.below hb Rdex1x2x3.out.lt)
 have Odex1x2x3x4 := Lib.hid (Odex1x2x3.out.later hb)
 clear hb t5 t2 v0 v1 v2 v3 HD3x Rzlalbdex1x2x3 Ozlalbdex1x2x3 Rlalbdex1x2x3 Olalbdex1x2x3 Rlbdex1x2x3 Olbdex1x2x3 Rdex1x2x3 Odex1x2x3
 have v0 : x4.cell? ⟨q18, 0, none⟩ = some (.int .i64 Glb.now) := Rlbdex1x2x3x4.out.cell 0
 have v1 : x4.cell? ⟨q18, 1, none⟩ = some (.slice klb.wp klb.wn klb.wc) := Rlbdex1x2x3x4.out.cell 1
 have v2 : x4.cell? ⟨q18, 2, none⟩ = some (.slice klb.kp klb.kn klb.kc) := Rlbdex1x2x3x4.out.cell 2
 have v3 : x4.cell? ⟨q18, 3, none⟩ = some (.slice klb.dp klb.dn klb.dc) := Rlbdex1x2x3x4.out.cell 3
 have t5 : x4.cell? ⟨q7, 5, none⟩ = some (.int .i64 sx.token) := HD4x.out.r7.cell 5
 have t2 : x4.cell? ⟨q6, 2, none⟩ = some (.int .i64 r.client) := HD4x.out.r6.cell 2
 go_wp2_with fail
 refine (opens_imp Glb klb sx.token r.client _ (own_isIn Olbdex1x2x3x4.out) (gd_good HDlb.out).1 (gd_good HDlb.out).2.1 HWt.out).mono ?_
 rw [HM.out.2.2.2.2.2.2.1 _ _ _ HDlb.out]
 rintro e x5 ⟨rfl, hb⟩
 have HD5x := Lib.hid (HD4x.out.later hb)
 have Rzlalbdex1x2x3x4x5 := Lib.hid (Rzlalbdex1x2x3x4.out.below hb Rzlalbdex1x2x3x4.out.lt)
 have Ozlalbdex1x2x3x4x5 := Lib.hid (Ozlalbdex1x2x3x4.out.later hb)
 have Rlalbdex1x2x3x4x5 := Lib.hid (Rlalbdex1x2x3x4.out.below hb Rlalbdex1x2x3x4.out.lt)
 have Olalbdex1x2x3x4x5 := Lib.hid (Olalbdex1x2x3x4.out.later hb)
 have Rlbdex1x2x3x4x5 := Lib.hid (Rlbdex1x2x3x4.out.below hb Rlbdex1x2x3x4.out.lt)
 have Olbdex1x2x3x4x5 := Lib.hid (Olbdex1x2x3x4.out.later hb)
 have Rdex1x2x3x4x5 := Lib.hid (Rdex1x2x3x4.out.below hb Rdex1x2x3x4.out.lt)
 have Odex1x2x3x4x5 := Lib.hid (Odex1x2x3x4.out.later hb)
 clear hb t5 t2 v0 v1 v2 v3 HD4x Rzlalbdex1x2x3x4 Ozlalbdex1x2x3x4 Rlalbdex1x2x3x4 Olalbdex1x2x3x4 Rlbdex1x2x3x4 Olbdex1x2x3x4 Rdex1x2x3x4 Odex1x2x3x4
 have v0 : x5.cell? ⟨q19, 0, none⟩ = some (.int .i64 Gde.now) := Rdex1x2x3x4x5.out.cell 0
 have v1 : x5.cell? ⟨q19, 1, none⟩ = some (.slice kde.wp kde.wn kde.wc) := Rdex1x2x3x4x5.out.cell 1
 have v2 : x5.cell? ⟨q19, 2, none⟩ = some (.slice kde.kp kde.kn kde.kc) := Rdex1x2x3x4x5.out.cell 2
 have v3 : x5.cell? ⟨q19, 3, none⟩ = some (.slice kde.dp kde.dn kde.dc) := Rdex1x2x3x4x5.out.cell 3
 have t5 : x5.cell? ⟨q7, 5, none⟩ = some (.int .i64 sx.token) := HD5x.out.r7.cell 5
 have t2 : x5.cell? ⟨q6, 2, none⟩ = some (.int .i64 r.client) := HD5x.out.r6.cell 2
 go_wp2_with fail
 refine (opens_imp Gde kde sx.token r.client _ (own_isIn Odex1x2x3x4x5.out) (gd_good HDde.out).1 (gd_good HDde.out).2.1 HWt.out).mono ?_
 rw [HM.out.2.2.2.2.2.2.2 _ _ _ HDde.out]
 rintro e x6 ⟨rfl, hb⟩
 have HD6x := Lib.hid (HD5x.out.later hb)
 have Rzlalbdex1x2x3x4x5x6 := Lib.hid (Rzlalbdex1x2x3x4x5.out.below hb Rzlalbdex1x2x3x4x5.out.lt)
 have Ozlalbdex1x2x3x4x5x6 := Lib.hid (Ozlalbdex1x2x3x4x5.out.later hb)
 have Rlalbdex1x2x3x4x5x6 := Lib.hid (Rlalbdex1x2x3x4x5.out.below hb Rlalbdex1x2x3x4x5.out.lt)
 have Olalbdex1x2x3x4x5x6 := Lib.hid (Olalbdex1x2x3x4x5.out.later hb)
 have Rlbdex1x2x3x4x5x6 := Lib.hid (Rlbdex1x2x3x4x5.out.below hb Rlbdex1x2x3x4x5.out.lt)
 have Olbdex1x2x3x4x5x6 := Lib.hid (Olbdex1x2x3x4x5.out.later hb)
 have Rdex1x2x3x4x5x6 := Lib.hid (Rdex1x2x3x4x5.out.below hb Rdex1x2x3x4x5.out.lt)
 have Odex1x2x3x4x5x6 := Lib.hid (Odex1x2x3x4x5.out.later hb)
 clear hb t5 t2 v0 v1 v2 v3 HD5x Rzlalbdex1x2x3x4x5 Ozlalbdex1x2x3x4x5 Rlalbdex1x2x3x4x5 Olalbdex1x2x3x4x5 Rlbdex1x2x3x4x5 Olbdex1x2x3x4x5 Rdex1x2x3x4x5 Odex1x2x3x4x5
 go_wp2_with fail
 go_ret
 exact ⟨rfl, HD6x.out.bel⟩
end Go.Proofs.YtchfgdiipjbgoaaGreat
