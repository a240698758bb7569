/- A ledger: later times, the numbers of two keys, whether there is room, the keys given. What holds while a request is served: where the request, the result and the ledger lie. A ledger: a word is issued. A ledger: a key is revoked, changed. -/
import Derived.Test.YtchfgdiipjbgoaaGreatFResR
import Derived.Laws.FloatArith
import Derived.Test.YtchfgdiipjbgoaaGreatFGdE
import Derived.Test.YtchfgdiipjbgoaaGreatFOpImpA
namespace Go.Proofs.YtchfgdiipjbgoaaGreat
open Go Go.RowKit Go.Lib
set_option linter.unusedVariables false
set_option maxRecDepth 100000

theorem run_min_fl {n : Int} (hn : Whole n) {P : Program} {w : World} (ts : Array TypeId) (t : TypeId) : (Builtin.min_ ts t #[.float .f64 (floatOfInt .f64 n), .float .f64 4696837146684686336]).run P w = .ok (.float .f64 (floatOfInt .f64 (upT n))) w := by
 have ho := order_of hn (show Whole 1000000 from ⟨by omega, by omega⟩)
 rw [flMax] at ho
 unfold upT
 rcases Int.lt_trichotomy n 1000000 with h | h | h
 ·rw [cmp_lt h] at ho
  rw [if_pos (by omega)]
  simp [Builtin.min_, Builtin.min2, ho]
 ·rw [cmp_eq h] at ho
  subst h
  rw [flMax] at ho ⊢
  simp [Builtin.min_, Builtin.min2, ho, flMax]
 ·rw [cmp_gt h] at ho
  rw [if_neg (by omega), flMax]
  simp [Builtin.min_, Builtin.min2, ho]
theorem later_any (now by_ : Int) (w : World) (h0 : 0 ≤ now) (h1 : now ≤ 1000000) (b0 : 0 ≤ by_) (b1 : by_ ≤ 1000) :
  Calls Tryz.prog 158 #[.float .f64 (floatOfInt .f64 now), .int .i64 by_] w fun e w' => e = .returned (.float .f64 (floatOfInt .f64 (upT (now + by_)))) ∧ w' = w := by
 have ha := add_of (a := now) (b := by_) ⟨by omega, by omega⟩ ⟨by omega, by omega⟩ ⟨by omega, by omega⟩
 have hm := fun (ts : Array TypeId) (t : TypeId) (w : World) => run_min_fl (n := now + by_) ⟨by omega, by omega⟩ (P := Tryz.prog) (w := w) ts t
 have hop : ∀ t w, (binOp .add t (.float .f64 (floatOfInt .f64 now)) (.float .f64 (floatOfInt .f64 by_))).run Tryz.prog w = .ok (.float .f64 (floatOfInt .f64 (now + by_))) w := fun t w => run_float_arith w .add t .f64 _ _ _ ha
 go_enter Tryz.func158, Tryz.ntmps158
 go_wp2_with (first | simp only [hop] | simp only [hm])
 go_ret
 exact ⟨rfl, rfl⟩
theorem keyNos_any (r : RQ) (w : World) (h0 : 1 ≤ r.no) (h1 : r.no ≤ 99) : Calls Tryz.prog 288 #[rqV r] w (Ret (.tuple #[.int .i64 (10 * r.no + 1), .int .i64 (10 * r.no + 2)]) w) := by
 obtain ⟨no, kind, client, code, token, proof, by_⟩ := r
 simp only at h0 h1 ⊢
 unfold rqV
 have hb1 := (Below.refl w.heap.size w).alloc (Nat.le_refl _) (.cells #[.int .i64 no, .int .i64 kind, .int .i64 client, .int .i64 code, .int .i64 token, .string proof, .int .i64 by_] 29)
 have HB1 := Lib.hid hb1
 clear hb1
 go_enter Tryz.func288, Tryz.ntmps288
 go_wp2_with fail
 go_quiet (fail)
 go_wp2_with fail
 go_returns
 exact ⟨by go_num, below_drewN HB1.out _⟩
set_option maxHeartbeats 1000000 in
theorem there_any (lb mw mk B : Nat) (g : Gr) (r : RQ) (w : World) (hl : LedAt w B lb mw mk g) (n0 : 1 ≤ r.no) (n1 : r.no ≤ 99) :
  Calls Tryz.prog 254 #[.pointer (some ⟨lb, 0, none⟩), rqV r] w (Ret (.bool ((findK g.keys (10 * r.no + 1)).isSome || (findK g.keys (10 * r.no + 2)).isSome)) w) := by
 obtain ⟨no, kind, client, code, token, proof, by_⟩ := r
 simp only at n0 n1 ⊢
 have hb1 := (Below.refl w.heap.size w).alloc (Nat.le_refl _) (.cells #[.int .i64 no, .int .i64 kind, .int .i64 client, .int .i64 code, .int .i64 token, .string proof, .int .i64 by_] 29)
 have hl1 := hl.later hb1
 have c2 := hl1.cells.2.2
 have HV := Lib.hid (show rqV ⟨no, kind, client, code, token, proof, by_⟩ = .agg #[.int .i64 no, .int .i64 kind, .int .i64 client, .int .i64 code, .int .i64 token, .string proof, .int .i64 by_] from rfl)
 have HB1 := Lib.hid hb1
 have HL := Lib.hid hl1
 clear hb1 hl1 hl
 obtain ⟨i1, hi1⟩ : ∃ i1, i1 = (findK g.keys (10 * no + 1)).isSome := ⟨_, rfl⟩
 obtain ⟨i2, hi2⟩ : ∃ i2, i2 = (findK g.keys (10 * no + 2)).isSome := ⟨_, rfl⟩
 rw [← hi1, ← hi2]
 have HI1 := Lib.hid hi1
 have HI2 := Lib.hid hi2
 clear hi1 hi2
 rw [HV.out]
 go_enter Tryz.func254, Tryz.ntmps254
 go_wp2_with fail
 rw [← HV.out]
 refine (keyNos_any ⟨no, kind, client, code, token, proof, by_⟩ _ n0 n1).mono ?_
 rintro e w2 ⟨rfl, hb2⟩
 have hl2 := HL.out.later hb2
 have HB2 := Lib.hid (HB1.out.trans (hb2.mono HB1.out.size))
 clear hb2 c2
 have d2 := hl2.cells.2.2
 have hwf1 := wf_small (n := 10 * no + 1) (by omega) (by omega)
 have hwf2 := wf_small (n := 10 * no + 2) (by omega) (by omega)
 obtain ⟨c, f, b, t, s, hsh⟩ := hk_shape (findK g.keys (10 * no + 1))
 obtain ⟨c', f', b', t', s', hsh'⟩ := hk_shape (findK g.keys (10 * no + 2))
 have hlk1 : (Instr.lookup 167 (.map (some mk)) (.int .i64 (10 * no + 1)) true).run Tryz.prog w2 = .ok (.tuple #[.agg #[.int .i64 c, .int .i64 f, .bool b, .float .f64 t, .int .i64 s], .bool (findK g.keys (10 * no + 1)).isSome]) w2 := by
  have h := hl2.keys.look_ok Tryz.underlying2 Tryz.underlying167 (hkZ_zero _) hwf1
  rw [show (kyF g.keys (10 * no + 1)).getD hkZ = _ from hsh, show (kyF g.keys (10 * no + 1)).isSome = (findK g.keys (10 * no + 1)).isSome by simp [kyF]] at h
  exact h
 have hb3 := (Below.refl w2.heap.size w2).alloc (Nat.le_refl _) (.cells #[.int .i64 c, .int .i64 f, .bool b, .float .f64 t, .int .i64 s] 132)
 have hl3 := hl2.later hb3
 have d3 := hl3.cells.2.2
 have hlk2 : (Instr.lookup 167 (.map (some mk)) (.int .i64 (10 * no + 2)) true).run Tryz.prog (w2.alloc (.cells #[.int .i64 c, .int .i64 f, .bool b, .float .f64 t, .int .i64 s] 132)) = .ok (.tuple #[.agg #[.int .i64 c', .int .i64 f', .bool b', .float .f64 t', .int .i64 s'], .bool (findK g.keys (10 * no + 2)).isSome]) (w2.alloc (.cells #[.int .i64 c, .int .i64 f, .bool b, .float .f64 t, .int .i64 s] 132)) := by
  have h := hl3.keys.look_ok Tryz.underlying2 Tryz.underlying167 (hkZ_zero _) hwf2
  rw [show (kyF g.keys (10 * no + 2)).getD hkZ = _ from hsh', show (kyF g.keys (10 * no + 2)).isSome = (findK g.keys (10 * no + 2)).isSome by simp [kyF]] at h
  exact h
 have HB4 := Lib.hid (HB2.out.trans ((hb3.alloc hb3.size (.cells #[.int .i64 c', .int .i64 f', .bool b', .float .f64 t', .int .i64 s'] 132)).mono HB2.out.size))
 clear hsh hsh' hl2 hl3 hb3 hwf1 hwf2
 rw [← HI1.out] at hlk1
 rw [← HI2.out] at hlk2
 clear HI1 HI2
 have hsf := run_store_float
 cases i1 with
 | true =>
  go_wp2_with fail
  go_ret
  exact ⟨rfl, HB4.out⟩
 | false =>
  cases i2 with
  | true =>
   go_wp2_with fail
   go_ret
   exact ⟨rfl, HB4.out⟩
  | false =>
   go_wp2_with fail
   go_ret
   exact ⟨rfl, HB4.out⟩
set_option maxHeartbeats 1000000 in
theorem room_any (lb mw mk B : Nat) (g : Gr) (r : RQ) (w : World) (hl : LedAt w B lb mw mk g) (n0 : 1 ≤ r.no) (n1 : r.no ≤ 99) (hlen : g.keys.length ≤ 1000000) :
  Calls Tryz.prog 211 #[.pointer (some ⟨lb, 0, none⟩), rqV r] w (Ret (.int .i64 (roomC g r)) w) := by
 obtain ⟨no, kind, client, code, token, proof, by_⟩ := r
 simp only at n0 n1
 have hb1 := (Below.refl w.heap.size w).alloc (Nat.le_refl _) (.cells #[.int .i64 no, .int .i64 kind, .int .i64 client, .int .i64 code, .int .i64 token, .string proof, .int .i64 by_] 29)
 have hl1 := hl.later hb1
 have c2 := hl1.cells.2.2
 have hln : ∀ ty, (Builtin.len_ #[167] ty #[.map (some mk)]).run Tryz.prog (w.alloc (.cells #[.int .i64 no, .int .i64 kind, .int .i64 client, .int .i64 code, .int .i64 token, .string proof, .int .i64 by_] 29)) = .ok (.int .i64 g.keys.length) _ := fun ty => hl1.keys.len Tryz.underlying167 ty
 have HV := Lib.hid (show rqV ⟨no, kind, client, code, token, proof, by_⟩ = .agg #[.int .i64 no, .int .i64 kind, .int .i64 client, .int .i64 code, .int .i64 token, .string proof, .int .i64 by_] from rfl)
 have HB1 := Lib.hid hb1
 have HL := Lib.hid hl1
 clear hb1 hl1 hl
 by_cases hf : 38 < g.keys.length
 ·have HR := Lib.hid (show roomC g ⟨no, kind, client, code, token, proof, by_⟩ = 9 by simp [roomC, hf])
  rw [HR.out, HV.out]
  go_enter Tryz.func211, Tryz.ntmps211
  go_wp2_with fail
  go_ret
  exact ⟨rfl, HB1.out⟩
 ·have HR := Lib.hid (show roomC g ⟨no, kind, client, code, token, proof, by_⟩ = if (findK g.keys (10 * no + 1)).isSome || (findK g.keys (10 * no + 2)).isSome then 7 else 0 by simp [roomC, hf])
  have HT : Hid (∀ w, LedAt w B lb mw mk g → Calls Tryz.prog 254 #[.pointer (some ⟨lb, 0, none⟩), rqV ⟨no, kind, client, code, token, proof, by_⟩] w (Ret (.bool ((findK g.keys (10 * no + 1)).isSome || (findK g.keys (10 * no + 2)).isSome)) w)) := Lib.hid fun w h => there_any lb mw mk B g ⟨no, kind, client, code, token, proof, by_⟩ w h n0 n1
  generalize ((findK g.keys (10 * no + 1)).isSome || (findK g.keys (10 * no + 2)).isSome) = i1 at HR HT
  rw [HV.out]
  go_enter Tryz.func211, Tryz.ntmps211
  go_wp2_with fail
  rw [← HV.out]
  refine (HT.out _ HL.out).mono ?_
  rintro e w2 ⟨rfl, hb2⟩
  have HB2 := Lib.hid (HB1.out.trans (hb2.mono HB1.out.size))
  clear hb2 hln c2 HT
  cases i1 with
  | true =>
   go_wp2_with fail
   go_ret
   exact ⟨by rw [HR.out]; rfl, HB2.out⟩
  | false =>
   go_wp2_with fail
   go_ret
   exact ⟨by rw [HR.out]; rfl, HB2.out⟩
/-- What comes of giving. -/
def LedOut2 (B lb mw mk : Nat) (g : Gr) (v : RS) (w : World) (e : Ending) (w' : World) : Prop := e = .returned (rsV v) ∧ LedAt w' B lb mw mk g ∧ Kept w.heap.size lb mw mk w w'
set_option maxHeartbeats 2000000 in
theorem give_any (lb mw mk B : Nat) (g : Gr) (r : RQ) (fam : Int) (w : World) (hl : LedAt w B lb mw mk g) (n0 : 1 ≤ r.no) (n1 : r.no ≤ 99) (t0 : 0 ≤ g.now) (t1 : g.now ≤ 1000000) (hlen : g.keys.length ≤ 1000000)
  (h1 : findK g.keys (10 * r.no + 1) = none) (h2 : findK g.keys (10 * r.no + 2) = none) :
  Calls Tryz.prog 256 #[.pointer (some ⟨lb, 0, none⟩), rqV r, .int .i64 fam] w (LedOut2 B lb mw mk (giveG g r fam) (giveR r) w) := by
 obtain ⟨now, words, keys, dead⟩ := g
 obtain ⟨no, kind, client, code, token, proof, by_⟩ := r
 simp only at n0 n1 t0 t1 hlen h1 h2
 have hz := hl.size
 have HD := Lib.hid hl.places
 have hp0 : Row ((w.alloc (.cells #[.int .i64 no, .int .i64 kind, .int .i64 client, .int .i64 code, .int .i64 token, .string proof, .int .i64 by_] 29)).alloc (.cells #[.int .i64 0, .int .i64 0, .int .i64 0, .bool false] 33)) (w.heap.size + 1) 33 [.int .i64 0, .int .i64 0, .int .i64 0, .bool false] := heap_alloc2_new w _ _
 have hq0 : Row ((w.alloc (.cells #[.int .i64 no, .int .i64 kind, .int .i64 client, .int .i64 code, .int .i64 token, .string proof, .int .i64 by_] 29)).alloc (.cells #[.int .i64 0, .int .i64 0, .int .i64 0, .bool false] 33)) w.heap.size 29 [.int .i64 no, .int .i64 kind, .int .i64 client, .int .i64 code, .int .i64 token, .string proof, .int .i64 by_] :=
  Row.below (show Row (w.alloc (.cells #[.int .i64 no, .int .i64 kind, .int .i64 client, .int .i64 code, .int .i64 token, .string proof, .int .i64 by_] 29)) w.heap.size 29 _ from heap_alloc_new w _) ((Below.refl (w.alloc (.cells #[.int .i64 no, .int .i64 kind, .int .i64 client, .int .i64 code, .int .i64 token, .string proof, .int .i64 by_] 29)).heap.size (w.alloc (.cells #[.int .i64 no, .int .i64 kind, .int .i64 client, .int .i64 code, .int .i64 token, .string proof, .int .i64 by_] 29))).alloc (Nat.le_refl _) _) (by simp)
 have hb0 : Below w.heap.size w ((w.alloc (.cells #[.int .i64 no, .int .i64 kind, .int .i64 client, .int .i64 code, .int .i64 token, .string proof, .int .i64 by_] 29)).alloc (.cells #[.int .i64 0, .int .i64 0, .int .i64 0, .bool false] 33)) := ((Below.refl w.heap.size w).alloc (Nat.le_refl _) _).alloc (by simp) _
 have HB0 := Lib.hid (Kept.of_below (lb := lb) (mw := mw) (mk := mk) hb0)
 have HP := Lib.hid hp0
 have HQ := Lib.hid hq0
 have HL := Lib.hid (hl.later hb0)
 have HV := Lib.hid (show rqV ⟨no, kind, client, code, token, proof, by_⟩ = .agg #[.int .i64 no, .int .i64 kind, .int .i64 client, .int .i64 code, .int .i64 token, .string proof, .int .i64 by_] from rfl)
 have HZ := Lib.hid hz
 have H1 := Lib.hid h1
 have H2 := Lib.hid h2
 clear hp0 hq0 hb0 hl hz h1 h2
 rw [HV.out]
 go_enter Tryz.func256, Tryz.ntmps256
 go_wp2_with fail
 rw [← HV.out]
 refine (keyNos_any ⟨no, kind, client, code, token, proof, by_⟩ _ n0 n1).mono ?_
 rintro e w2 ⟨rfl, hb2⟩
 have hl2 := HL.out.later hb2
 have hp2 := HP.out.below hb2 HP.out.lt
 have hq2 := HQ.out.below hb2 HQ.out.lt
 have HB2 := Lib.hid (HB0.out.later hb2 (by simp; omega))
 obtain ⟨c0, _, c2⟩ := hl2.cells
 have q2 : w2.cell? ⟨w.heap.size, 2, none⟩ = some (.int .i64 client) := hq2.cell 2
 simp only at c0
 have HL2 := Lib.hid hl2
 have HP2 := Lib.hid hp2
 have HQ2 := Lib.hid hq2
 clear hl2 hp2 hq2 hb2 HL HP HQ
 go_wp2_with fail
 refine region_tail 14 (by kernel_rfl) (by kernel_rfl) ?_
 simp only [List.take_succ_cons, List.take_zero, List.drop_succ_cons, List.drop_zero]
 repeat still_step
 still_call (later_any now 60 _ t0 t1 (by omega) (by omega))
 repeat still_step
 refine wpStill_nil ?_
 refine wpList_put_I rfl (.tmp 17) (.tmp 18) (.tmp 27) 167 rfl Tryz.underlying167 Tryz.underlying2 rfl HL2.out.keys (by show keys.length < maxLen; unfold maxLen; omega) (10 * no + 1) rfl (wf_small (by omega) (by omega)) (hkV (accK ⟨no, kind, client, code, token, proof, by_⟩ fam now)) rfl ?_
 intro w3 hm3 hg3'
 have hg3 := drew_grown hg3'
 have hl3 := HL2.out.keyed (x := accK ⟨no, kind, client, code, token, proof, by_⟩ fam now) hg3 H1.out hm3
 have hp3 := HP2.out.grownI hg3 (ne_some (by have := HZ.out; omega))
 have hq3 := HQ2.out.grownI hg3 (ne_some (by have := HZ.out; omega))
 have HB3 := Lib.hid (HB2.out.grown hg3 HB2.out.size (.inr (.inr (.inl rfl))))
 obtain ⟨d0, _, d2⟩ := hl3.cells
 simp only at d0
 have r2 : w3.cell? ⟨w.heap.size, 2, none⟩ = some (.int .i64 client) := hq3.cell 2
 have HL3 := Lib.hid hl3
 have HP3 := Lib.hid hp3
 clear hl3 hp3 hq3 hm3 hg3 hg3' HL2 HP2 HQ2 c0 c2 q2
 go_wp2_with fail
 refine region_tail 14 (by kernel_rfl) (by kernel_rfl) ?_
 simp only [List.take_succ_cons, List.take_zero, List.drop_succ_cons, List.drop_zero]
 repeat still_step
 still_call (later_any now 300 _ t0 t1 (by omega) (by omega))
 repeat still_step
 refine wpStill_nil ?_
 refine wpList_put_I rfl (.tmp 31) (.tmp 32) (.tmp 41) 167 rfl Tryz.underlying167 Tryz.underlying2 rfl HL3.out.keys (by show (insK keys _).length < maxLen; rw [insK_length]; unfold maxLen; omega) (10 * no + 2) rfl (wf_small (by omega) (by omega)) (hkV (nextK ⟨no, kind, client, code, token, proof, by_⟩ fam now)) rfl ?_
 intro w4 hm4 hg4'
 have hg4 := drew_grown hg4'
 have hn2 : findK (insK keys (accK ⟨no, kind, client, code, token, proof, by_⟩ fam now)) (10 * no + 2) = none := by
  rw [findK_ins _ _ _ H1.out, if_neg (by simp only [accK]; omega)]
  exact H2.out
 have hl4 := HL3.out.keyed (x := nextK ⟨no, kind, client, code, token, proof, by_⟩ fam now) hg4 hn2 hm4
 have hp4 := HP3.out.grownI hg4 (ne_some (by have := HZ.out; omega))
 have HB4 := Lib.hid (HB3.out.grown hg4 HB3.out.size (.inr (.inr (.inl rfl))))
 have HT := Lib.hid (there_resp hp4 rfl)
 have HL4 := Lib.hid hl4
 have HP4 := Lib.hid hp4
 clear hl4 hp4 hm4 hg4 hg4' hn2 HL3 HP3 d0 d2 r2
 go_wp2_with (refine wpList_store_mid rfl 33 (.tmp 6) (.tmp 44) rfl (w.heap.size + 1) 0 #[.int .i64 0, .int .i64 (10 * no + 1), .int .i64 (10 * no + 2), .bool false] rfl rfl ?hh sizeResp (oneResp (giveR ⟨no, kind, client, code, token, proof, by_⟩)) ?_)
 case hh => exact HT.out
 refine bodyPost_ret (ret_resp rfl rfl (put_resp (s := giveR ⟨no, kind, client, code, token, proof, by_⟩) HP4.out rfl)) rfl ?_
 exact ⟨rfl, LedAt.setCells_res _ _ 0 HL4.out (by have := HZ.out; omega), Kept.setCells (by omega) _ 0 HB4.out⟩
end Go.Proofs.YtchfgdiipjbgoaaGreat
/- What holds while a request is served: where the request, the result and the ledger lie. -/
namespace Go.Proofs.YtchfgdiipjbgoaaGreat
open Go Go.RowKit Go.Lib
set_option linter.unusedVariables false
set_option maxRecDepth 100000

structure SIn (B lb mw mk : Nat) (g : Gr) (r : RQ) (s : RS) (w W : World) : Prop where
 resp : Row W (w.heap.size + 1) 33 (rsL s)
 req : Row W w.heap.size 29 (rqL r)
 led : LedAt W B lb mw mk g
 kept : Kept w.heap.size lb mw mk w W
 size : w.heap.size + 2 ≤ W.heap.size
 old : B ≤ w.heap.size ∧ lb < w.heap.size ∧ mw < w.heap.size ∧ mk < w.heap.size
 place : B ≤ lb ∧ B ≤ mw ∧ B ≤ mk
theorem SIn.start {B lb mw mk : Nat} {g : Gr} {w : World} (r : RQ) (s : RS) (hl : LedAt w B lb mw mk g) :
  SIn B lb mw mk g r s w ((w.alloc (.cells #[.int .i64 r.no, .int .i64 r.kind, .int .i64 r.client, .int .i64 r.code, .int .i64 r.token, .string r.proof, .int .i64 r.upTo] 29)).alloc (.cells #[.int .i64 s.code, .int .i64 s.token, .int .i64 s.next, .bool s.yes] 33)) where
 resp := heap_alloc2_new w _ _
 req := Row.below (show Row (w.alloc (.cells #[.int .i64 r.no, .int .i64 r.kind, .int .i64 r.client, .int .i64 r.code, .int .i64 r.token, .string r.proof, .int .i64 r.upTo] 29)) w.heap.size 29 _ from heap_alloc_new w _)
  ((Below.refl (w.alloc (.cells #[.int .i64 r.no, .int .i64 r.kind, .int .i64 r.client, .int .i64 r.code, .int .i64 r.token, .string r.proof, .int .i64 r.upTo] 29)).heap.size _).alloc (Nat.le_refl _) _) (by simp)
 led := hl.later (((Below.refl w.heap.size w).alloc (Nat.le_refl _) _).alloc (by simp) _)
 kept := Kept.of_below (((Below.refl w.heap.size w).alloc (Nat.le_refl _) _).alloc (by simp) _)
 size := by simp
 old := hl.size
 place := hl.places
section
variable {B lb mw mk : Nat} {g g' : Gr} {r : RQ} {s s' : RS} {w W W' : World}
theorem SIn.later (h : SIn B lb mw mk g r s w W) (hb : Below W.heap.size W W') : SIn B lb mw mk g r s w W' where
 resp := h.resp.below hb h.resp.lt
 req := h.req.below hb h.req.lt
 led := h.led.later hb
 kept := h.kept.later hb (by have := h.size; omega)
 size := Nat.le_trans h.size hb.size
 old := h.old
 place := h.place
/-- After a step that turns the ledger alone. -/
theorem SIn.step (h : SIn B lb mw mk g r s w W) (hl : LedAt W' B lb mw mk g') (hk : Kept W.heap.size lb mw mk W W') : SIn B lb mw mk g' r s w W' where
 resp := h.resp.kept hk h.resp.lt (by have := h.old; omega) (by have := h.old; omega) (by have := h.old; omega)
 req := h.req.kept hk h.req.lt (by have := h.old; omega) (by have := h.old; omega) (by have := h.old; omega)
 led := hl
 kept := h.kept.trans (hk.mono (by have := h.size; omega))
 size := Nat.le_trans h.size hk.size
 old := h.old
 place := h.place
theorem SIn.grown {j : Nat} (h : SIn B lb mw mk g r s w W) (hl : LedAt W' B lb mw mk g') (hg : W.grownBy W' (some j)) (hj : j = lb ∨ j = mw ∨ j = mk) : SIn B lb mw mk g' r s w W' :=
 h.step hl ((Kept.refl _ _ _ _ _).grown hg (Nat.le_refl _) (by omega))
/-- After a store into what the call itself has made later. -/
theorem SIn.setCell (h : SIn B lb mw mk g r s w W) {a : Addr} (u : Value) (ha : w.heap.size + 2 ≤ a.block) : SIn B lb mw mk g r s w (W.setCell a u) where
 resp := h.resp.kept (Kept.setCell (N := w.heap.size + 2) (Kept.refl _ lb mw mk _) u (.inr (.inr (.inr ha)))) (by omega) (by have := h.old; omega) (by have := h.old; omega) (by have := h.old; omega)
 req := h.req.kept (Kept.setCell (N := w.heap.size + 2) (Kept.refl _ lb mw mk _) u (.inr (.inr (.inr ha)))) (by omega) (by have := h.old; omega) (by have := h.old; omega) (by have := h.old; omega)
 led := h.led.setCell u (.inr (by have := h.old; omega))
 kept := h.kept.setCell u (.inr (.inr (.inr (by omega))))
 size := by simpa using h.size
 old := h.old
 place := h.place
theorem SIn.there (h : SIn B lb mw mk g r s w W) : W.there (w.heap.size + 1) 0 4 := there_resp h.resp rfl
theorem SIn.put (h : SIn B lb mw mk g r s w W) (s' : RS) : SIn B lb mw mk g r s' w (W.setCells (w.heap.size + 1) 0 #[.int .i64 s'.code, .int .i64 s'.token, .int .i64 s'.next, .bool s'.yes].toList) where
 resp := put_resp h.resp rfl
 req := h.req.kept (Kept.setCells (N := w.heap.size + 1) (by omega) _ 0 (Kept.refl _ lb mw mk _)) (by omega) (by have := h.old; omega) (by have := h.old; omega) (by have := h.old; omega)
 led := LedAt.setCells_res _ _ 0 h.led (by have := h.old; omega)
 kept := Kept.setCells (by omega) _ 0 h.kept
 size := Nat.le_trans h.size (Kept.setCells (N := w.heap.size + 1) (by omega) _ 0 (Kept.refl _ lb mw mk _)).size
 old := h.old
 place := h.place
theorem SIn.told (h : SIn B lb mw mk g r s w W) : LedOut2 B lb mw mk g s w (.returned (rsV s)) W := ⟨rfl, h.led, h.kept⟩
end
end Go.Proofs.YtchfgdiipjbgoaaGreat
/- A ledger: a word is issued. -/
namespace Go.Proofs.YtchfgdiipjbgoaaGreat
open Go Go.RowKit Go.Lib
set_option linter.unusedVariables false
set_option maxRecDepth 100000

theorem hw_shape (o : Option Wd) (d : Nat) : ∃ c s t u x, (o.map fun y => hwV y d).getD hwZ = .agg #[.int .i64 c, .string s, .float .f64 t, .bool u, .float .f64 x] := by
 cases o with
 | none => exact ⟨_, _, _, _, _, rfl⟩
 | some x => exact ⟨_, _, _, _, _, rfl⟩
/-- A word asked for, as a pair. -/
theorem LedAt.word_ok {w : World} {B lb mw mk : Nat} {g : Gr} (hl : LedAt w B lb mw mk g) (n : Int) (hwf : (Lit.int .i64 n).wf = true) : ∃ c s t u x, (∀ w', Below w.heap.size w w' → (Instr.lookup 166 (.map (some mw)) (.int .i64 n) true).run Tryz.prog w' = .ok (.tuple #[.agg #[.int .i64 c, .string s, .float .f64 t, .bool u, .float .f64 x], .bool (findW g.words n).isSome]) w') ∧
  (∀ y, findW g.words n = some y → c = y.client ∧ s = y.shade ∧ t = floatOfInt .f64 y.till ∧ u = y.used) := by
 obtain ⟨td, htd, hr, hw, hk, hd⟩ := hl
 obtain ⟨c, s, t, u, x, hsh⟩ := hw_shape (findW g.words n) (ddB g.dead td n)
 refine ⟨c, s, t, u, x, fun w' hb => ?_, fun y hy => ?_⟩
 ·have h := (hw.later hb).look_ok Tryz.underlying2 Tryz.underlying166 (hwZ_zero _) hwf
  rw [show (wdF g.words g.dead td n).getD hwZ = _ from hsh, show (wdF g.words g.dead td n).isSome = (findW g.words n).isSome by simp [wdF]] at h
  exact h
 ·rw [hy] at hsh
  simp only [Option.map_some, Option.getD_some, hwV, Value.agg.injEq, Array.mk.injEq, List.cons.injEq, Value.int.injEq, Value.string.injEq, Value.float.injEq, Value.bool.injEq, true_and] at hsh
  exact ⟨hsh.1.symm, hsh.2.1.symm, hsh.2.2.1.symm, hsh.2.2.2.1.symm⟩
theorem LedAt.words_len {w : World} {B lb mw mk : Nat} {g : Gr} (hl : LedAt w B lb mw mk g) (ty : TypeId) : (Builtin.len_ #[166] ty #[.map (some mw)]).run Tryz.prog w = .ok (.int .i64 g.words.length) w := by
 obtain ⟨td, htd, hr, hw, hk, hd⟩ := hl
 exact hw.len Tryz.underlying166 ty
set_option maxHeartbeats 2000000 in
theorem issue_any (lb mw mk B : Nat) (g : Gr) (r : RQ) (w : World) (hl : LedAt w B lb mw mk g) (n0 : 1 ≤ r.no) (n1 : r.no ≤ 99) (t0 : 0 ≤ g.now) (t1 : g.now ≤ 1000000) (hlen : g.words.length ≤ 1000000) (hdd : findW g.words r.no = none → isDeadB g.dead r.no = false) :
  Calls Tryz.prog 154 #[.pointer (some ⟨lb, 0, none⟩), rqV r] w (LedOut2 B lb mw mk (issueD g r).1 (issueD g r).2 w) := by
 obtain ⟨now, words, keys, dead⟩ := g
 obtain ⟨no, kind, client, code, token, proof, by_⟩ := r
 simp only at n0 n1 t0 t1 hlen hdd
 have HV := Lib.hid (show rqV ⟨no, kind, client, code, token, proof, by_⟩ = .agg #[.int .i64 no, .int .i64 kind, .int .i64 client, .int .i64 code, .int .i64 token, .string proof, .int .i64 by_] from rfl)
 have hs := SIn.start ⟨no, kind, client, code, token, proof, by_⟩ (codeR 0) hl
 have hc := hs.led.cells
 have hln := hs.led.words_len
 simp only [codeR] at hs hc hln
 obtain ⟨c0, c1, c2⟩ := hc
 have HS := Lib.hid hs
 have HL := Lib.hid hl
 clear hs hl
 by_cases hf : 20 ≤ words.length
 ·have HE := Lib.hid (show issueD ⟨now, words, keys, dead⟩ ⟨no, kind, client, code, token, proof, by_⟩ = (⟨now, words, keys, dead⟩, codeR 9) by simp [issueD, hf])
  rw [HE.out, HV.out]
  clear HE
  go_enter Tryz.func154, Tryz.ntmps154
  go_wp2_with fail
  have h9 := SIn.start ⟨no, kind, client, code, token, proof, by_⟩ (codeR 9) HL.out
  refine bodyPost_ret (ret_resp rfl rfl h9.resp) rfl ?_
  exact h9.told
 ·have hwf := wf_small (n := no) (by omega) (by omega)
  obtain ⟨W, hW⟩ : ∃ W, W = (w.alloc (.cells #[.int .i64 no, .int .i64 kind, .int .i64 client, .int .i64 code, .int .i64 token, .string proof, .int .i64 by_] 29)).alloc (.cells #[.int .i64 0, .int .i64 0, .int .i64 0, .bool false] 33) := ⟨_, rfl⟩
  have HSW : SIn B lb mw mk ⟨now, words, keys, dead⟩ ⟨no, kind, client, code, token, proof, by_⟩ (codeR 0) w W := by rw [hW]; exact HS.out
  rw [HV.out]
  go_enter Tryz.func154, Tryz.ntmps154
  go_wp2_with fail
  rw [← hW]
  have hln' : 0 < 1 := by omega
  obtain ⟨c, s, t, u, x, hlk', hsome⟩ := HSW.led.word_ok no hwf
  have hlk := hlk' _ (Below.refl _ _).drew
  have hbz := (Below.refl W.heap.size W).alloc (Nat.le_refl _) (.cells #[.int .i64 0, .string ⟨#[]⟩, .float .f64 0, .bool false, .float .f64 0] 224)
  have hlk2 := hlk' _ hbz.drew
  have q0a : (W.alloc (.cells #[.int .i64 0, .string ⟨#[]⟩, .float .f64 0, .bool false, .float .f64 0] 224)).cell? ⟨w.heap.size, 0, none⟩ = some (.int .i64 no) := (hbz.cell (p := ⟨w.heap.size, 0, none⟩) (by show w.heap.size < W.heap.size; have := HSW.size; omega)).trans (HSW.req.cell 0)
  have c1a : (W.alloc (.cells #[.int .i64 0, .string ⟨#[]⟩, .float .f64 0, .bool false, .float .f64 0] 224)).cell? ⟨lb, 1, none⟩ = some (.map (some mw)) := (hbz.cell (p := ⟨lb, 1, none⟩) (by show lb < W.heap.size; have := HSW.size; have := HSW.old.2.1; omega)).trans HSW.led.cells.2.1
  clear hbz
  obtain ⟨i1, hi1⟩ : ∃ i1, i1 = (findW words no).isSome := ⟨_, rfl⟩
  simp only at hlk hlk2
  rw [← hi1] at hlk hlk2
  have HI1 := Lib.hid hi1
  have HWf := Lib.hid hwf
  have q0 : W.cell? ⟨w.heap.size, 0, none⟩ = some (.int .i64 no) := HSW.req.cell 0
  have z0 := HSW.size
  have z1 := HSW.old.2.1
  have c1' := HSW.led.cells.2.1
  have hsf := run_store_float
  have HSO := Lib.hid HSW
  have HC := Lib.hid hsome
  clear HSW hlk' hsome hi1 hwf c0 c1 c2 hW hln HS HL hln'
  go_region
  all_goals
   have HS2' := Lib.hid (HSO.out.later (((Below.refl W.heap.size W).alloc (Nat.le_refl _) (.cells #[.int .i64 c, .string s, .float .f64 t, .bool u, .float .f64 x] 224)).drew))
   obtain ⟨W2, hW2⟩ : ∃ W2, W2 = (W.alloc (.cells #[.int .i64 c, .string s, .float .f64 t, .bool u, .float .f64 x] 224)).drew := ⟨_, rfl⟩
   rw [← hW2] at HS2' ⊢
   have HS2 := Lib.hid HS2'.out
   clear hW2 q0 c1' z0 z1 q0a c1a hlk hlk2 HC HSO HS2'
   cases i1 with
   | true =>
    have HE := Lib.hid (show issueD ⟨now, words, keys, dead⟩ ⟨no, kind, client, code, token, proof, by_⟩ = (⟨now, words, keys, dead⟩, codeR 7) by simp [issueD, hf, ← HI1.out])
    clear HI1
    go_wp2_with (refine wpList_store_mid rfl 33 (.tmp 4) (.tmp 25) rfl (w.heap.size + 1) 0 #[.int .i64 7, .int .i64 0, .int .i64 0, .bool false] rfl rfl ?hh sizeResp (oneResp (codeR 7)) ?_)
    case hh => exact HS2.out.there
    refine bodyPost_ret (ret_resp rfl rfl (HS2.out.put (codeR 7)).resp) rfl ?_
    rw [HE.out]
    exact (HS2.out.put (codeR 7)).told
   | false =>
    have hnone : findW words no = none := by have := HI1.out; simpa using this.symm
    have HN := Lib.hid hnone
    have HE := Lib.hid (show issueD ⟨now, words, keys, dead⟩ ⟨no, kind, client, code, token, proof, by_⟩ = (⟨now, insW words (newW ⟨now, words, keys, dead⟩ ⟨no, kind, client, code, token, proof, by_⟩), keys, dead⟩, ⟨0, no, 0, false⟩) by simp [issueD, hf, hnone])
    have HDd := Lib.hid (hdd hnone)
    clear hnone HI1 hdd
    obtain ⟨c0, c1, _⟩ := HS2.out.led.cells
    simp only at c0
    have q0 : W2.cell? ⟨w.heap.size, 0, none⟩ = some (.int .i64 no) := HS2.out.req.cell 0
    have q2 : W2.cell? ⟨w.heap.size, 2, none⟩ = some (.int .i64 client) := HS2.out.req.cell 2
    have q5 : W2.cell? ⟨w.heap.size, 5, none⟩ = some (.string proof) := HS2.out.req.cell 5
    obtain ⟨td, htd⟩ := HS2.out.led.td
    have HTD := Lib.hid htd
    clear htd
    go_wp2_with fail
    refine region_tail 17 (by kernel_rfl) (by kernel_rfl) ?_
    simp only [List.take_succ_cons, List.take_zero, List.drop_succ_cons, List.drop_zero]
    repeat still_step
    still_call (later_any now 10 _ t0 t1 (by omega) (by omega))
    repeat still_step
    still_call never_at
    repeat still_step
    refine wpStill_nil ?_
    refine wpList_put_I rfl (.tmp 29) (.tmp 31) (.tmp 42) 166 rfl Tryz.underlying166 Tryz.underlying2 rfl HTD.out.words (by show words.length < maxLen; unfold maxLen; omega) no rfl HWf.out (hwV (newW ⟨now, words, keys, dead⟩ ⟨no, kind, client, code, token, proof, by_⟩) infB) rfl ?_
    intro w3 hm3 hg3'
    have hg3 := drew_grown hg3'
    have hl3 := HTD.out.worded (x := newW ⟨now, words, keys, dead⟩ ⟨no, kind, client, code, token, proof, by_⟩) hg3 HN.out HDd.out hm3
    have HS3 := Lib.hid (HS2.out.grown hl3 hg3 (.inr (.inl rfl)))
    have q0' : w3.cell? ⟨w.heap.size, 0, none⟩ = some (.int .i64 no) := HS3.out.req.cell 0
    clear hm3 hg3 hg3' hl3 HTD HS2 c0 c1 q0 q2 q5
    go_wp2_with (refine wpList_store_mid rfl 33 (.tmp 4) (.tmp 45) rfl (w.heap.size + 1) 0 #[.int .i64 0, .int .i64 no, .int .i64 0, .bool false] rfl rfl ?hh sizeResp (oneResp ⟨0, no, 0, false⟩) ?_)
    case hh => exact HS3.out.there
    refine bodyPost_ret (ret_resp rfl rfl (HS3.out.put ⟨0, no, 0, false⟩).resp) rfl ?_
    rw [HE.out]
    exact (HS3.out.put ⟨0, no, 0, false⟩).told
end Go.Proofs.YtchfgdiipjbgoaaGreat
/- A ledger: a key is revoked, changed. -/
namespace Go.Proofs.YtchfgdiipjbgoaaGreat
open Go Go.RowKit Go.Lib
set_option linter.unusedVariables false
set_option maxRecDepth 100000

theorem keyOf_none {lb mw mk B : Nat} {g : Gr} {no client : Int} {w : World} (hl : LedAt w B lb mw mk g) (hwf : (Lit.int .i64 no).wf = true) (h : keyFor g.keys no client = none) :
  Calls Tryz.prog 90 #[.pointer (some ⟨lb, 0, none⟩), .int .i64 no, .int .i64 client] w (Ret (.tuple #[.agg #[.int .i64 0, .int .i64 0, .bool false, .float .f64 0, .int .i64 0], .bool false]) w) := by
 have h1 := keyOf_any lb mw mk B g no client w hl hwf
 rw [h] at h1
 exact h1
theorem keyOf_some {lb mw mk B : Nat} {g : Gr} {no client : Int} {w : World} {x : Ky} (hl : LedAt w B lb mw mk g) (hwf : (Lit.int .i64 no).wf = true) (h : keyFor g.keys no client = some x) :
  Calls Tryz.prog 90 #[.pointer (some ⟨lb, 0, none⟩), .int .i64 no, .int .i64 client] w (Ret (.tuple #[.agg #[.int .i64 x.client, .int .i64 x.fam, .bool x.refresh, .float .f64 (floatOfInt .f64 x.till), .int .i64 x.state], .bool true]) w) := by
 have h1 := keyOf_any lb mw mk B g no client w hl hwf
 rw [h] at h1
 exact h1
theorem key_facts {g : Gr} (hg : grantB g = true) {no client : Int} {x : Ky} (h : keyFor g.keys no client = some x) : findK g.keys no = some x ∧ x.client = client ∧ (0 ≤ x.till ∧ x.till ≤ 1000000) ∧ ∃ y, findW g.words x.fam = some y ∧ (Lit.int .i64 x.fam).wf = true := by
 obtain ⟨hf, hc⟩ := keyFor_mem h
 obtain ⟨_, _, _, hws, hks, _⟩ := gr_facts hg
 obtain ⟨k, hk, _⟩ := findK_mem hf
 obtain ⟨⟨_, _, _, h4, h5, _⟩, _⟩ := keysOk_get hks hk
 obtain ⟨y, hy, hyn⟩ := hasNo_find h4
 obtain ⟨j, hj, _⟩ := find_mem hy
 obtain ⟨⟨y0, y1, _⟩, _⟩ := wordsOk_get hws hj
 exact ⟨hf, hc, h5, y, hy, wf_small (by omega) (by omega)⟩
set_option maxHeartbeats 2000000 in
theorem revoke_any (lb mw mk B : Nat) (g : Gr) (r : RQ) (w : World) (hl : LedAt w B lb mw mk g) (hg : grantB g = true) (hwf : (Lit.int .i64 r.token).wf = true) :
  Calls Tryz.prog 157 #[.pointer (some ⟨lb, 0, none⟩), rqV r] w (LedOut2 B lb mw mk (revokeD g r).1 (revokeD g r).2 w) := by
 obtain ⟨⟨t0, t1⟩, hw20, hk40, _⟩ := gr_facts hg
 obtain ⟨now, words, keys, dead⟩ := g
 obtain ⟨no, kind, client, code, token, proof, by_⟩ := r
 simp only at t0 t1 hw20 hk40 hwf
 have HV := Lib.hid (show rqV ⟨no, kind, client, code, token, proof, by_⟩ = .agg #[.int .i64 no, .int .i64 kind, .int .i64 client, .int .i64 code, .int .i64 token, .string proof, .int .i64 by_] from rfl)
 have hs := SIn.start ⟨no, kind, client, code, token, proof, by_⟩ (codeR 0) hl
 simp only [codeR] at hs
 have HS := Lib.hid hs
 have HWf := Lib.hid hwf
 have HG := Lib.hid hg
 clear hs hl hwf hg
 rw [HV.out]
 cases hkf : keyFor keys token client with
 | none =>
  have HE := Lib.hid (show revokeD ⟨now, words, keys, dead⟩ ⟨no, kind, client, code, token, proof, by_⟩ = (⟨now, words, keys, dead⟩, codeR 0) by simp [revokeD, hkf])
  have HF := Lib.hid hkf
  clear hkf
  go_enter Tryz.func157, Tryz.ntmps157
  go_wp2_with fail
  refine (keyOf_none HS.out.led HWf.out HF.out).mono ?_
  rintro e w2 ⟨rfl, hb2⟩
  have HS2 := Lib.hid ((HS.out.later hb2).later ((Below.refl w2.heap.size w2).alloc (Nat.le_refl _) (.cells #[.int .i64 0, .int .i64 0, .bool false, .float .f64 0, .int .i64 0] 132)))
  have hsf := run_store_float
  clear hb2 HS
  go_wp2_with (refine wpList_store_mid rfl 33 (.tmp 4) (.tmp 18) rfl (w.heap.size + 1) 0 #[.int .i64 0, .int .i64 0, .int .i64 0, .bool false] rfl rfl ?hh sizeResp (oneResp (codeR 0)) ?_)
  case hh => exact HS2.out.there
  refine bodyPost_ret (ret_resp rfl rfl (HS2.out.put (codeR 0)).resp) rfl ?_
  rw [HE.out]
  exact (HS2.out.put (codeR 0)).told
 | some x =>
  obtain ⟨hfk, hcl, htl, y, hy, hwy⟩ := key_facts HG.out hkf
  clear hcl htl
  have HF := Lib.hid hkf
  have HY := Lib.hid hy
  have HWy := Lib.hid hwy
  have HFk := Lib.hid hfk
  simp only at hfk
  clear hy hwy
  cases hrf : x.refresh with
  | true =>
   have HE := Lib.hid (show revokeD ⟨now, words, keys, dead⟩ ⟨no, kind, client, code, token, proof, by_⟩ = (killG ⟨now, words, keys, dead⟩ x.fam, codeR 0) by simp [revokeD, hkf, hrf])
   clear hkf hfk
   go_enter Tryz.func157, Tryz.ntmps157
   go_wp2_with fail
   refine (keyOf_some HS.out.led HWf.out HF.out).mono ?_
   rintro e w2 ⟨rfl, hb2⟩
   have HS2 := Lib.hid ((HS.out.later hb2).later ((Below.refl w2.heap.size w2).alloc (Nat.le_refl _) (.cells #[.int .i64 x.client, .int .i64 x.fam, .bool true, .float .f64 (floatOfInt .f64 x.till), .int .i64 x.state] 132)))
   have hsf := run_store_float
   clear hb2 HS
   go_wp2_with fail
   refine (kill_kept lb mw mk B ⟨now, words, keys, dead⟩ x.fam y _ HS2.out.led HY.out HWy.out t0 (by show words.length ≤ _; omega)).mono ?_
   rintro e w3 ⟨rfl, hl3, hk3⟩
   have HS3 := Lib.hid (HS2.out.step hl3 hk3)
   clear hl3 hk3 HS2
   go_wp2_with (refine wpList_store_mid rfl 33 (.tmp 4) (.tmp 25) rfl (w.heap.size + 1) 0 #[.int .i64 0, .int .i64 0, .int .i64 0, .bool false] rfl rfl ?hh sizeResp (oneResp (codeR 0)) ?_)
   case hh => exact HS3.out.there
   refine bodyPost_ret (ret_resp rfl rfl (HS3.out.put (codeR 0)).resp) rfl ?_
   rw [HE.out]
   exact (HS3.out.put (codeR 0)).told
  | false =>
   have HE := Lib.hid (show revokeD ⟨now, words, keys, dead⟩ ⟨no, kind, client, code, token, proof, by_⟩ = (⟨now, words, markK keys token 2, dead⟩, codeR 0) by simp [revokeD, hkf, hrf])
   clear hkf hfk
   go_enter Tryz.func157, Tryz.ntmps157
   go_wp2_with fail
   refine (keyOf_some HS.out.led HWf.out HF.out).mono ?_
   rintro e w2 ⟨rfl, hb2⟩
   have hs2 := (HS.out.later hb2).later ((Below.refl w2.heap.size w2).alloc (Nat.le_refl _) (.cells #[.int .i64 x.client, .int .i64 x.fam, .bool false, .float .f64 (floatOfInt .f64 x.till), .int .i64 2] 132))
   have hsf := run_store_float
   have c2 := hs2.led.cells.2.2
   have q4 : (w2.alloc (.cells #[.int .i64 x.client, .int .i64 x.fam, .bool false, .float .f64 (floatOfInt .f64 x.till), .int .i64 2] 132)).cell? ⟨w.heap.size, 4, none⟩ = some (.int .i64 token) := hs2.req.cell 4
   have HS2 := Lib.hid hs2
   clear hb2 HS hs2
   go_wp2_with fail
   refine region_tail 7 (by kernel_rfl) (by kernel_rfl) ?_
   simp only [List.take_succ_cons, List.take_zero, List.drop_succ_cons, List.drop_zero]
   repeat still_step
   refine wpStill_nil ?_
   refine wpList_put_I rfl (.tmp 30) (.tmp 32) (.tmp 33) 167 rfl Tryz.underlying167 Tryz.underlying2 rfl HS2.out.led.keys (by show keys.length < maxLen; unfold maxLen; omega) token rfl HWf.out (hkV (stK 2 x)) (by rw [hkV, stK, ← hrf]; rfl) ?_
   intro w3 hm3 hg3'
   have hg3 := drew_grown hg3'
   have hl3 := HS2.out.led.marked hg3 HFk.out hm3
   have HS3 := Lib.hid (HS2.out.grown hl3 hg3 (.inr (.inr rfl)))
   clear hm3 hg3 hg3' hl3 HS2 c2 q4
   go_wp2_with (refine wpList_store_mid rfl 33 (.tmp 4) (.tmp 34) rfl (w.heap.size + 1) 0 #[.int .i64 0, .int .i64 0, .int .i64 0, .bool false] rfl rfl ?hh sizeResp (oneResp (codeR 0)) ?_)
   case hh => exact HS3.out.there
   refine bodyPost_ret (ret_resp rfl rfl (HS3.out.put (codeR 0)).resp) rfl ?_
   rw [HE.out]
   exact (HS3.out.put (codeR 0)).told
end Go.Proofs.YtchfgdiipjbgoaaGreat
