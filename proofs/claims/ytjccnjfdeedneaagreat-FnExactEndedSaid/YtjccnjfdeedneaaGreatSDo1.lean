/- A ledger: later times, the numbers of two keys, whether there is room, the keys given. -/
import Derived.Test.YtjccnjfdeedneaaGreatSResR
import Derived.Laws.FloatArith
import Derived.Test.YtjccnjfdeedneaaGreatSGdD
namespace Go.Proofs.YtjccnjfdeedneaaGreat
open Go Go.RowKit Go.Lib
set_option linter.unusedVariables false
set_option maxRecDepth 100000

theorem run_min_fl {n : Int} (hn : Whole n) {P : Program} {w : World} (ts : Array TypeId) (t : TypeId) : (Builtin.min_ ts t #[.float .f64 (floatOfInt .f64 n), .float .f64 4696837146684686336]).run P w = .ok (.float .f64 (floatOfInt .f64 (upT n))) w := by
 have ho := order_of hn (show Whole 1000000 from ⟨by omega, by omega⟩)
 rw [flMax] at ho
 unfold upT
 rcases Int.lt_trichotomy n 1000000 with h | h | h
 ·rw [cmp_lt h] at ho
  rw [if_pos (by omega)]
  simp [Builtin.min_, Builtin.min2, ho]
 ·rw [cmp_eq h] at ho
  subst h
  rw [flMax] at ho ⊢
  simp [Builtin.min_, Builtin.min2, ho, flMax]
 ·rw [cmp_gt h] at ho
  rw [if_neg (by omega), flMax]
  simp [Builtin.min_, Builtin.min2, ho]
theorem keyNos_any (r : RQ) (w : World) (h0 : 1 ≤ r.no) (h1 : r.no ≤ 99) : Calls Tryz.prog 184 #[rqV r] w (Ret (.tuple #[.int .i64 (10 * r.no + 1), .int .i64 (10 * r.no + 2)]) w) := by
 obtain ⟨no, kind, client, code, token, proof, by_⟩ := r
 simp only at h0 h1 ⊢
 unfold rqV
 have hb1 := (Below.refl w.heap.size w).alloc (Nat.le_refl _) (.cells #[.int .i64 no, .int .i64 kind, .int .i64 client, .int .i64 code, .int .i64 token, .string proof, .int .i64 by_] 143)
 have HB1 := Lib.hid hb1
 clear hb1
 go_enter Tryz.func184, Tryz.ntmps184
 go_wp2_with fail
 go_quiet (fail)
 go_wp2_with fail
 go_returns
 exact ⟨by go_num, below_drewN HB1.out _⟩
set_option maxHeartbeats 1000000 in
theorem there_any (lb mw mk B : Nat) (g : Gr) (r : RQ) (w : World) (hl : LedAt w B lb mw mk g) (n0 : 1 ≤ r.no) (n1 : r.no ≤ 99) :
  Calls Tryz.prog 146 #[.pointer (some ⟨lb, 0, none⟩), rqV r] w (Ret (.bool ((findK g.keys (10 * r.no + 1)).isSome || (findK g.keys (10 * r.no + 2)).isSome)) w) := by
 obtain ⟨no, kind, client, code, token, proof, by_⟩ := r
 simp only at n0 n1 ⊢
 have hb1 := (Below.refl w.heap.size w).alloc (Nat.le_refl _) (.cells #[.int .i64 no, .int .i64 kind, .int .i64 client, .int .i64 code, .int .i64 token, .string proof, .int .i64 by_] 143)
 have hl1 := hl.later hb1
 have c2 := hl1.cells.2.2
 have HV := Lib.hid (show rqV ⟨no, kind, client, code, token, proof, by_⟩ = .agg #[.int .i64 no, .int .i64 kind, .int .i64 client, .int .i64 code, .int .i64 token, .string proof, .int .i64 by_] from rfl)
 have HB1 := Lib.hid hb1
 have HL := Lib.hid hl1
 clear hb1 hl1 hl
 obtain ⟨i1, hi1⟩ : ∃ i1, i1 = (findK g.keys (10 * no + 1)).isSome := ⟨_, rfl⟩
 obtain ⟨i2, hi2⟩ : ∃ i2, i2 = (findK g.keys (10 * no + 2)).isSome := ⟨_, rfl⟩
 rw [← hi1, ← hi2]
 have HI1 := Lib.hid hi1
 have HI2 := Lib.hid hi2
 clear hi1 hi2
 rw [HV.out]
 go_enter Tryz.func146, Tryz.ntmps146
 go_wp2_with fail
 rw [← HV.out]
 refine (keyNos_any ⟨no, kind, client, code, token, proof, by_⟩ _ n0 n1).mono ?_
 rintro e w2 ⟨rfl, hb2⟩
 have hl2 := HL.out.later hb2
 have HB2 := Lib.hid (HB1.out.trans (hb2.mono HB1.out.size))
 clear hb2 c2
 have d2 := hl2.cells.2.2
 have hwf1 := wf_small (n := 10 * no + 1) (by omega) (by omega)
 have hwf2 := wf_small (n := 10 * no + 2) (by omega) (by omega)
 obtain ⟨c, f, b, t, s, hsh⟩ := hk_shape (findK g.keys (10 * no + 1))
 obtain ⟨c', f', b', t', s', hsh'⟩ := hk_shape (findK g.keys (10 * no + 2))
 have hlk1 : (Instr.lookup 118 (.map (some mk)) (.int .i64 (10 * no + 1)) true).run Tryz.prog w2 = .ok (.tuple #[.agg #[.int .i64 c, .int .i64 f, .bool b, .float .f64 t, .int .i64 s], .bool (findK g.keys (10 * no + 1)).isSome]) w2 := by
  have h := hl2.keys.look_ok Tryz.underlying2 Tryz.underlying118 (hkZ_zero _) hwf1
  rw [show (kyF g.keys (10 * no + 1)).getD hkZ = _ from hsh, show (kyF g.keys (10 * no + 1)).isSome = (findK g.keys (10 * no + 1)).isSome by simp [kyF]] at h
  exact h
 have hb3 := (Below.refl w2.heap.size w2).alloc (Nat.le_refl _) (.cells #[.int .i64 c, .int .i64 f, .bool b, .float .f64 t, .int .i64 s] 245)
 have hl3 := hl2.later hb3
 have d3 := hl3.cells.2.2
 have hlk2 : (Instr.lookup 118 (.map (some mk)) (.int .i64 (10 * no + 2)) true).run Tryz.prog (w2.alloc (.cells #[.int .i64 c, .int .i64 f, .bool b, .float .f64 t, .int .i64 s] 245)) = .ok (.tuple #[.agg #[.int .i64 c', .int .i64 f', .bool b', .float .f64 t', .int .i64 s'], .bool (findK g.keys (10 * no + 2)).isSome]) (w2.alloc (.cells #[.int .i64 c, .int .i64 f, .bool b, .float .f64 t, .int .i64 s] 245)) := by
  have h := hl3.keys.look_ok Tryz.underlying2 Tryz.underlying118 (hkZ_zero _) hwf2
  rw [show (kyF g.keys (10 * no + 2)).getD hkZ = _ from hsh', show (kyF g.keys (10 * no + 2)).isSome = (findK g.keys (10 * no + 2)).isSome by simp [kyF]] at h
  exact h
 have HB4 := Lib.hid (HB2.out.trans ((hb3.alloc hb3.size (.cells #[.int .i64 c', .int .i64 f', .bool b', .float .f64 t', .int .i64 s'] 245)).mono HB2.out.size))
 clear hsh hsh' hl2 hl3 hb3 hwf1 hwf2
 rw [← HI1.out] at hlk1
 rw [← HI2.out] at hlk2
 clear HI1 HI2
 have hsf := run_store_float
 cases i1 with
 | true =>
  go_wp2_with fail
  go_ret
  exact ⟨rfl, HB4.out⟩
 | false =>
  cases i2 with
  | true =>
   go_wp2_with fail
   go_ret
   exact ⟨rfl, HB4.out⟩
  | false =>
   go_wp2_with fail
   go_ret
   exact ⟨rfl, HB4.out⟩
/-- What comes of giving. -/
def LedOut2 (B lb mw mk : Nat) (g : Gr) (v : RS) (w : World) (e : Ending) (w' : World) : Prop := e = .returned (rsV v) ∧ LedAt w' B lb mw mk g ∧ Kept w.heap.size lb mw mk w w'
end Go.Proofs.YtjccnjfdeedneaaGreat
