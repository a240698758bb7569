/- A ledger: later times, the numbers of two keys, whether there is room, the keys given. -/
import Derived.Test.YtgkdajlkajmdiaaGreatQResR
import Derived.Laws.FloatArith
import Derived.Test.YtgkdajlkajmdiaaGreatQGdE
namespace Go.Proofs.YtgkdajlkajmdiaaGreat
open Go Go.RowKit Go.Lib
set_option linter.unusedVariables false
set_option maxRecDepth 100000

theorem run_min_fl {n : Int} (hn : Whole n) {P : Program} {w : World} (ts : Array TypeId) (t : TypeId) : (Builtin.min_ ts t #[.float .f64 (floatOfInt .f64 n), .float .f64 4696837146684686336]).run P w = .ok (.float .f64 (floatOfInt .f64 (upT n))) w := by
  have ho := order_of hn (show Whole 1000000 from ⟨by omega, by omega⟩)
  rw [flMax] at ho
  unfold upT
  rcases Int.lt_trichotomy n 1000000 with h | h | h
  · rw [cmp_lt h] at ho
    rw [if_pos (by omega)]
    simp [Builtin.min_, Builtin.min2, ho]
  · rw [cmp_eq h] at ho
    subst h
    rw [flMax] at ho ⊢
    simp [Builtin.min_, Builtin.min2, ho, flMax]
  · rw [cmp_gt h] at ho
    rw [if_neg (by omega), flMax]
    simp [Builtin.min_, Builtin.min2, ho]
theorem later_any (now by_ : Int) (w : World) (h0 : 0 ≤ now) (h1 : now ≤ 1000000) (b0 : 0 ≤ by_) (b1 : by_ ≤ 1000) :
    Calls Tryz.prog 119 #[.float .f64 (floatOfInt .f64 now), .int .i64 by_] w fun e w' => e = .returned (.float .f64 (floatOfInt .f64 (upT (now + by_)))) ∧ w' = w := by
  have ha := add_of (a := now) (b := by_) ⟨by omega, by omega⟩ ⟨by omega, by omega⟩ ⟨by omega, by omega⟩
  have hm := fun (ts : Array TypeId) (t : TypeId) (w : World) => run_min_fl (n := now + by_) ⟨by omega, by omega⟩ (P := Tryz.prog) (w := w) ts t
  have hop : ∀ t w, (binOp .add t (.float .f64 (floatOfInt .f64 now)) (.float .f64 (floatOfInt .f64 by_))).run Tryz.prog w = .ok (.float .f64 (floatOfInt .f64 (now + by_))) w := fun t w => run_float_arith w .add t .f64 _ _ _ ha
  go_enter Tryz.func119, Tryz.ntmps119
  go_wp2_with (first | simp only [hop] | simp only [hm])
  go_ret
  exact ⟨rfl, rfl⟩
theorem keyNos_any (r : RQ) (w : World) (h0 : 1 ≤ r.no) (h1 : r.no ≤ 99) : Calls Tryz.prog 215 #[rqV r] w (Ret (.tuple #[.int .i64 (10 * r.no + 1), .int .i64 (10 * r.no + 2)]) w) := by
  obtain ⟨no, kind, client, code, token, proof, by_⟩ := r
  simp only at h0 h1 ⊢
  unfold rqV
  have hb1 := (Below.refl w.heap.size w).alloc (Nat.le_refl _) (.cells #[.int .i64 no, .int .i64 kind, .int .i64 client, .int .i64 code, .int .i64 token, .string proof, .int .i64 by_] 29)
  have HB1 := Lib.hid hb1
  clear hb1
  go_enter Tryz.func215, Tryz.ntmps215
  go_wp2_with fail
  go_quiet (fail)
  go_wp2_with fail
  go_returns
  exact ⟨by go_num, below_drewN HB1.out _⟩
set_option maxHeartbeats 1000000 in
theorem there_any (lb mw mk B : Nat) (g : Gr) (r : RQ) (w : World) (hl : LedAt w B lb mw mk g) (n0 : 1 ≤ r.no) (n1 : r.no ≤ 99) :
    Calls Tryz.prog 197 #[.pointer (some ⟨lb, 0, none⟩), rqV r] w (Ret (.bool ((findK g.keys (10 * r.no + 1)).isSome || (findK g.keys (10 * r.no + 2)).isSome)) w) := by
  obtain ⟨no, kind, client, code, token, proof, by_⟩ := r
  simp only at n0 n1 ⊢
  have hb1 := (Below.refl w.heap.size w).alloc (Nat.le_refl _) (.cells #[.int .i64 no, .int .i64 kind, .int .i64 client, .int .i64 code, .int .i64 token, .string proof, .int .i64 by_] 29)
  have hl1 := hl.later hb1
  have c2 := hl1.cells.2.2
  have HV := Lib.hid (show rqV ⟨no, kind, client, code, token, proof, by_⟩ = .agg #[.int .i64 no, .int .i64 kind, .int .i64 client, .int .i64 code, .int .i64 token, .string proof, .int .i64 by_] from rfl)
  have HB1 := Lib.hid hb1
  have HL := Lib.hid hl1
  clear hb1 hl1 hl
  obtain ⟨i1, hi1⟩ : ∃ i1, i1 = (findK g.keys (10 * no + 1)).isSome := ⟨_, rfl⟩
  obtain ⟨i2, hi2⟩ : ∃ i2, i2 = (findK g.keys (10 * no + 2)).isSome := ⟨_, rfl⟩
  rw [← hi1, ← hi2]
  have HI1 := Lib.hid hi1
  have HI2 := Lib.hid hi2
  clear hi1 hi2
  rw [HV.out]
  go_enter Tryz.func197, Tryz.ntmps197
  go_wp2_with fail
  rw [← HV.out]
  refine (keyNos_any ⟨no, kind, client, code, token, proof, by_⟩ _ n0 n1).mono ?_
  rintro e w2 ⟨rfl, hb2⟩
  have hl2 := HL.out.later hb2
  have HB2 := Lib.hid (HB1.out.trans (hb2.mono HB1.out.size))
  clear hb2 c2
  have d2 := hl2.cells.2.2
  have hwf1 := wf_small (n := 10 * no + 1) (by omega) (by omega)
  have hwf2 := wf_small (n := 10 * no + 2) (by omega) (by omega)
  obtain ⟨c, f, b, t, s, hsh⟩ := hk_shape (findK g.keys (10 * no + 1))
  obtain ⟨c', f', b', t', s', hsh'⟩ := hk_shape (findK g.keys (10 * no + 2))
  have hlk1 : (Instr.lookup 158 (.map (some mk)) (.int .i64 (10 * no + 1)) true).run Tryz.prog w2 = .ok (.tuple #[.agg #[.int .i64 c, .int .i64 f, .bool b, .float .f64 t, .int .i64 s], .bool (findK g.keys (10 * no + 1)).isSome]) w2 := by
    have h := hl2.keys.look_ok Tryz.underlying2 Tryz.underlying158 (hkZ_zero _) hwf1
    rw [show (kyF g.keys (10 * no + 1)).getD hkZ = _ from hsh, show (kyF g.keys (10 * no + 1)).isSome = (findK g.keys (10 * no + 1)).isSome by simp [kyF]] at h
    exact h
  have hb3 := (Below.refl w2.heap.size w2).alloc (Nat.le_refl _) (.cells #[.int .i64 c, .int .i64 f, .bool b, .float .f64 t, .int .i64 s] 103)
  have hl3 := hl2.later hb3
  have d3 := hl3.cells.2.2
  have hlk2 : (Instr.lookup 158 (.map (some mk)) (.int .i64 (10 * no + 2)) true).run Tryz.prog (w2.alloc (.cells #[.int .i64 c, .int .i64 f, .bool b, .float .f64 t, .int .i64 s] 103)) = .ok (.tuple #[.agg #[.int .i64 c', .int .i64 f', .bool b', .float .f64 t', .int .i64 s'], .bool (findK g.keys (10 * no + 2)).isSome]) (w2.alloc (.cells #[.int .i64 c, .int .i64 f, .bool b, .float .f64 t, .int .i64 s] 103)) := by
    have h := hl3.keys.look_ok Tryz.underlying2 Tryz.underlying158 (hkZ_zero _) hwf2
    rw [show (kyF g.keys (10 * no + 2)).getD hkZ = _ from hsh', show (kyF g.keys (10 * no + 2)).isSome = (findK g.keys (10 * no + 2)).isSome by simp [kyF]] at h
    exact h
  have HB4 := Lib.hid (HB2.out.trans ((hb3.alloc hb3.size (.cells #[.int .i64 c', .int .i64 f', .bool b', .float .f64 t', .int .i64 s'] 103)).mono HB2.out.size))
  clear hsh hsh' hl2 hl3 hb3 hwf1 hwf2
  rw [← HI1.out] at hlk1
  rw [← HI2.out] at hlk2
  clear HI1 HI2
  have hsf := run_store_float
  cases i1 with
  | true =>
    go_wp2_with fail
    go_ret
    exact ⟨rfl, HB4.out⟩
  | false =>
    cases i2 with
    | true =>
      go_wp2_with fail
      go_ret
      exact ⟨rfl, HB4.out⟩
    | false =>
      go_wp2_with fail
      go_ret
      exact ⟨rfl, HB4.out⟩
set_option maxHeartbeats 1000000 in
theorem room_any (lb mw mk B : Nat) (g : Gr) (r : RQ) (w : World) (hl : LedAt w B lb mw mk g) (n0 : 1 ≤ r.no) (n1 : r.no ≤ 99) (hlen : g.keys.length ≤ 1000000) :
    Calls Tryz.prog 166 #[.pointer (some ⟨lb, 0, none⟩), rqV r] w (Ret (.int .i64 (roomC g r)) w) := by
  obtain ⟨no, kind, client, code, token, proof, by_⟩ := r
  simp only at n0 n1
  have hb1 := (Below.refl w.heap.size w).alloc (Nat.le_refl _) (.cells #[.int .i64 no, .int .i64 kind, .int .i64 client, .int .i64 code, .int .i64 token, .string proof, .int .i64 by_] 29)
  have hl1 := hl.later hb1
  have c2 := hl1.cells.2.2
  have hln : ∀ ty, (Builtin.len_ #[158] ty #[.map (some mk)]).run Tryz.prog (w.alloc (.cells #[.int .i64 no, .int .i64 kind, .int .i64 client, .int .i64 code, .int .i64 token, .string proof, .int .i64 by_] 29)) = .ok (.int .i64 g.keys.length) _ := fun ty => hl1.keys.len Tryz.underlying158 ty
  have HV := Lib.hid (show rqV ⟨no, kind, client, code, token, proof, by_⟩ = .agg #[.int .i64 no, .int .i64 kind, .int .i64 client, .int .i64 code, .int .i64 token, .string proof, .int .i64 by_] from rfl)
  have HB1 := Lib.hid hb1
  have HL := Lib.hid hl1
  clear hb1 hl1 hl
  by_cases hf : 38 < g.keys.length
  · have HR := Lib.hid (show roomC g ⟨no, kind, client, code, token, proof, by_⟩ = 9 by simp [roomC, hf])
    rw [HR.out, HV.out]
    go_enter Tryz.func166, Tryz.ntmps166
    go_wp2_with fail
    go_ret
    exact ⟨rfl, HB1.out⟩
  · have HR := Lib.hid (show roomC g ⟨no, kind, client, code, token, proof, by_⟩ = if (findK g.keys (10 * no + 1)).isSome || (findK g.keys (10 * no + 2)).isSome then 7 else 0 by simp [roomC, hf])
    have HT : Hid (∀ w, LedAt w B lb mw mk g → Calls Tryz.prog 197 #[.pointer (some ⟨lb, 0, none⟩), rqV ⟨no, kind, client, code, token, proof, by_⟩] w (Ret (.bool ((findK g.keys (10 * no + 1)).isSome || (findK g.keys (10 * no + 2)).isSome)) w)) := Lib.hid fun w h => there_any lb mw mk B g ⟨no, kind, client, code, token, proof, by_⟩ w h n0 n1
    generalize ((findK g.keys (10 * no + 1)).isSome || (findK g.keys (10 * no + 2)).isSome) = i1 at HR HT
    rw [HV.out]
    go_enter Tryz.func166, Tryz.ntmps166
    go_wp2_with fail
    rw [← HV.out]
    refine (HT.out _ HL.out).mono ?_
    rintro e w2 ⟨rfl, hb2⟩
    have HB2 := Lib.hid (HB1.out.trans (hb2.mono HB1.out.size))
    clear hb2 hln c2 HT
    cases i1 with
    | true =>
      go_wp2_with fail
      go_ret
      exact ⟨by rw [HR.out]; rfl, HB2.out⟩
    | false =>
      go_wp2_with fail
      go_ret
      exact ⟨by rw [HR.out]; rfl, HB2.out⟩
/-- What comes of giving. -/
def LedOut2 (B lb mw mk : Nat) (g : Gr) (v : RS) (w : World) (e : Ending) (w' : World) : Prop := e = .returned (rsV v) ∧ LedAt w' B lb mw mk g ∧ Kept w.heap.size lb mw mk w w'
set_option maxHeartbeats 2000000 in
theorem give_any (lb mw mk B : Nat) (g : Gr) (r : RQ) (fam : Int) (w : World) (hl : LedAt w B lb mw mk g) (n0 : 1 ≤ r.no) (n1 : r.no ≤ 99) (t0 : 0 ≤ g.now) (t1 : g.now ≤ 1000000) (hlen : g.keys.length ≤ 1000000)
    (h1 : findK g.keys (10 * r.no + 1) = none) (h2 : findK g.keys (10 * r.no + 2) = none) :
    Calls Tryz.prog 198 #[.pointer (some ⟨lb, 0, none⟩), rqV r, .int .i64 fam] w (LedOut2 B lb mw mk (giveG g r fam) (giveR r) w) := by
  obtain ⟨now, words, keys, dead⟩ := g
  obtain ⟨no, kind, client, code, token, proof, by_⟩ := r
  simp only at n0 n1 t0 t1 hlen h1 h2
  have hz := hl.size
  have HD := Lib.hid hl.places
  have hp0 : Row ((w.alloc (.cells #[.int .i64 no, .int .i64 kind, .int .i64 client, .int .i64 code, .int .i64 token, .string proof, .int .i64 by_] 29)).alloc (.cells #[.int .i64 0, .int .i64 0, .int .i64 0, .bool false] 33)) (w.heap.size + 1) 33 [.int .i64 0, .int .i64 0, .int .i64 0, .bool false] := heap_alloc2_new w _ _
  have hq0 : Row ((w.alloc (.cells #[.int .i64 no, .int .i64 kind, .int .i64 client, .int .i64 code, .int .i64 token, .string proof, .int .i64 by_] 29)).alloc (.cells #[.int .i64 0, .int .i64 0, .int .i64 0, .bool false] 33)) w.heap.size 29 [.int .i64 no, .int .i64 kind, .int .i64 client, .int .i64 code, .int .i64 token, .string proof, .int .i64 by_] :=
    Row.below (show Row (w.alloc (.cells #[.int .i64 no, .int .i64 kind, .int .i64 client, .int .i64 code, .int .i64 token, .string proof, .int .i64 by_] 29)) w.heap.size 29 _ from heap_alloc_new w _) ((Below.refl (w.alloc (.cells #[.int .i64 no, .int .i64 kind, .int .i64 client, .int .i64 code, .int .i64 token, .string proof, .int .i64 by_] 29)).heap.size (w.alloc (.cells #[.int .i64 no, .int .i64 kind, .int .i64 client, .int .i64 code, .int .i64 token, .string proof, .int .i64 by_] 29))).alloc (Nat.le_refl _) _) (by simp)
  have hb0 : Below w.heap.size w ((w.alloc (.cells #[.int .i64 no, .int .i64 kind, .int .i64 client, .int .i64 code, .int .i64 token, .string proof, .int .i64 by_] 29)).alloc (.cells #[.int .i64 0, .int .i64 0, .int .i64 0, .bool false] 33)) := ((Below.refl w.heap.size w).alloc (Nat.le_refl _) _).alloc (by simp) _
  have HB0 := Lib.hid (Kept.of_below (lb := lb) (mw := mw) (mk := mk) hb0)
  have HP := Lib.hid hp0
  have HQ := Lib.hid hq0
  have HL := Lib.hid (hl.later hb0)
  have HV := Lib.hid (show rqV ⟨no, kind, client, code, token, proof, by_⟩ = .agg #[.int .i64 no, .int .i64 kind, .int .i64 client, .int .i64 code, .int .i64 token, .string proof, .int .i64 by_] from rfl)
  have HZ := Lib.hid hz
  have H1 := Lib.hid h1
  have H2 := Lib.hid h2
  clear hp0 hq0 hb0 hl hz h1 h2
  rw [HV.out]
  go_enter Tryz.func198, Tryz.ntmps198
  go_wp2_with fail
  rw [← HV.out]
  refine (keyNos_any ⟨no, kind, client, code, token, proof, by_⟩ _ n0 n1).mono ?_
  rintro e w2 ⟨rfl, hb2⟩
  have hl2 := HL.out.later hb2
  have hp2 := HP.out.below hb2 HP.out.lt
  have hq2 := HQ.out.below hb2 HQ.out.lt
  have HB2 := Lib.hid (HB0.out.later hb2 (by simp; omega))
  obtain ⟨c0, _, c2⟩ := hl2.cells
  have q2 : w2.cell? ⟨w.heap.size, 2, none⟩ = some (.int .i64 client) := hq2.cell 2
  simp only at c0
  have HL2 := Lib.hid hl2
  have HP2 := Lib.hid hp2
  have HQ2 := Lib.hid hq2
  clear hl2 hp2 hq2 hb2 HL HP HQ
  go_wp2_with fail
  refine region_tail 14 (by kernel_rfl) (by kernel_rfl) ?_
  simp only [List.take_succ_cons, List.take_zero, List.drop_succ_cons, List.drop_zero]
  repeat still_step
  still_call (later_any now 60 _ t0 t1 (by omega) (by omega))
  repeat still_step
  refine wpStill_nil ?_
  refine wpList_put_I rfl (.tmp 17) (.tmp 18) (.tmp 27) 158 rfl Tryz.underlying158 Tryz.underlying2 rfl HL2.out.keys (by show keys.length < maxLen; unfold maxLen; omega) (10 * no + 1) rfl (wf_small (by omega) (by omega)) (hkV (accK ⟨no, kind, client, code, token, proof, by_⟩ fam now)) rfl ?_
  intro w3 hm3 hg3'
  have hg3 := drew_grown hg3'
  have hl3 := HL2.out.keyed (x := accK ⟨no, kind, client, code, token, proof, by_⟩ fam now) hg3 H1.out hm3
  have hp3 := HP2.out.grownI hg3 (ne_some (by have := HZ.out; omega))
  have hq3 := HQ2.out.grownI hg3 (ne_some (by have := HZ.out; omega))
  have HB3 := Lib.hid (HB2.out.grown hg3 HB2.out.size (.inr (.inr (.inl rfl))))
  obtain ⟨d0, _, d2⟩ := hl3.cells
  simp only at d0
  have r2 : w3.cell? ⟨w.heap.size, 2, none⟩ = some (.int .i64 client) := hq3.cell 2
  have HL3 := Lib.hid hl3
  have HP3 := Lib.hid hp3
  clear hl3 hp3 hq3 hm3 hg3 hg3' HL2 HP2 HQ2 c0 c2 q2
  go_wp2_with fail
  refine region_tail 14 (by kernel_rfl) (by kernel_rfl) ?_
  simp only [List.take_succ_cons, List.take_zero, List.drop_succ_cons, List.drop_zero]
  repeat still_step
  still_call (later_any now 300 _ t0 t1 (by omega) (by omega))
  repeat still_step
  refine wpStill_nil ?_
  refine wpList_put_I rfl (.tmp 31) (.tmp 32) (.tmp 41) 158 rfl Tryz.underlying158 Tryz.underlying2 rfl HL3.out.keys (by show (insK keys _).length < maxLen; rw [insK_length]; unfold maxLen; omega) (10 * no + 2) rfl (wf_small (by omega) (by omega)) (hkV (nextK ⟨no, kind, client, code, token, proof, by_⟩ fam now)) rfl ?_
  intro w4 hm4 hg4'
  have hg4 := drew_grown hg4'
  have hn2 : findK (insK keys (accK ⟨no, kind, client, code, token, proof, by_⟩ fam now)) (10 * no + 2) = none := by
    rw [findK_ins _ _ _ H1.out, if_neg (by simp only [accK]; omega)]
    exact H2.out
  have hl4 := HL3.out.keyed (x := nextK ⟨no, kind, client, code, token, proof, by_⟩ fam now) hg4 hn2 hm4
  have hp4 := HP3.out.grownI hg4 (ne_some (by have := HZ.out; omega))
  have HB4 := Lib.hid (HB3.out.grown hg4 HB3.out.size (.inr (.inr (.inl rfl))))
  have HT := Lib.hid (there_resp hp4 rfl)
  have HL4 := Lib.hid hl4
  have HP4 := Lib.hid hp4
  clear hl4 hp4 hm4 hg4 hg4' hn2 HL3 HP3 d0 d2 r2
  go_wp2_with (refine wpList_store_mid rfl 33 (.tmp 6) (.tmp 44) rfl (w.heap.size + 1) 0 #[.int .i64 0, .int .i64 (10 * no + 1), .int .i64 (10 * no + 2), .bool false] rfl rfl ?hh sizeResp (oneResp (giveR ⟨no, kind, client, code, token, proof, by_⟩)) ?_)
  case hh => exact HT.out
  refine bodyPost_ret (ret_resp rfl rfl (put_resp (s := giveR ⟨no, kind, client, code, token, proof, by_⟩) HP4.out rfl)) rfl ?_
  exact ⟨rfl, LedAt.setCells_res _ _ 0 HL4.out (by have := HZ.out; omega), Kept.setCells (by omega) _ 0 HB4.out⟩
end Go.Proofs.YtgkdajlkajmdiaaGreat
