/- A ledger: a word is issued. -/
import Derived.Test.YtgkdajlkajmdiaaGreatQDoIn
namespace Go.Proofs.YtgkdajlkajmdiaaGreat
open Go Go.RowKit Go.Lib
set_option linter.unusedVariables false
set_option maxRecDepth 100000

theorem hw_shape (o : Option Wd) (d : Nat) : ∃ c s t u x, (o.map fun y => hwV y d).getD hwZ = .agg #[.int .i64 c, .string s, .float .f64 t, .bool u, .float .f64 x] := by
  cases o with
  | none => exact ⟨_, _, _, _, _, rfl⟩
  | some x => exact ⟨_, _, _, _, _, rfl⟩
/-- A word asked for, as a pair. -/
theorem LedAt.word_ok {w : World} {B lb mw mk : Nat} {g : Gr} (hl : LedAt w B lb mw mk g) (n : Int) (hwf : (Lit.int .i64 n).wf = true) : ∃ c s t u x, (∀ w', Below w.heap.size w w' → (Instr.lookup 157 (.map (some mw)) (.int .i64 n) true).run Tryz.prog w' = .ok (.tuple #[.agg #[.int .i64 c, .string s, .float .f64 t, .bool u, .float .f64 x], .bool (findW g.words n).isSome]) w') ∧
    (∀ y, findW g.words n = some y → c = y.client ∧ s = y.shade ∧ t = floatOfInt .f64 y.till ∧ u = y.used) := by
  obtain ⟨td, htd, hr, hw, hk, hd⟩ := hl
  obtain ⟨c, s, t, u, x, hsh⟩ := hw_shape (findW g.words n) (ddB g.dead td n)
  refine ⟨c, s, t, u, x, fun w' hb => ?_, fun y hy => ?_⟩
  · have h := (hw.later hb).look_ok Tryz.underlying2 Tryz.underlying157 (hwZ_zero _) hwf
    rw [show (wdF g.words g.dead td n).getD hwZ = _ from hsh, show (wdF g.words g.dead td n).isSome = (findW g.words n).isSome by simp [wdF]] at h
    exact h
  · rw [hy] at hsh
    simp only [Option.map_some, Option.getD_some, hwV, Value.agg.injEq, Array.mk.injEq, List.cons.injEq, Value.int.injEq, Value.string.injEq, Value.float.injEq, Value.bool.injEq, true_and] at hsh
    exact ⟨hsh.1.symm, hsh.2.1.symm, hsh.2.2.1.symm, hsh.2.2.2.1.symm⟩
theorem LedAt.words_len {w : World} {B lb mw mk : Nat} {g : Gr} (hl : LedAt w B lb mw mk g) (ty : TypeId) : (Builtin.len_ #[157] ty #[.map (some mw)]).run Tryz.prog w = .ok (.int .i64 g.words.length) w := by
  obtain ⟨td, htd, hr, hw, hk, hd⟩ := hl
  exact hw.len Tryz.underlying157 ty
set_option maxHeartbeats 2000000 in
theorem issue_any (lb mw mk B : Nat) (g : Gr) (r : RQ) (w : World) (hl : LedAt w B lb mw mk g) (n0 : 1 ≤ r.no) (n1 : r.no ≤ 99) (t0 : 0 ≤ g.now) (t1 : g.now ≤ 1000000) (hlen : g.words.length ≤ 1000000) (hdd : findW g.words r.no = none → isDeadB g.dead r.no = false) :
    Calls Tryz.prog 115 #[.pointer (some ⟨lb, 0, none⟩), rqV r] w (LedOut2 B lb mw mk (issueD g r).1 (issueD g r).2 w) := by
  obtain ⟨now, words, keys, dead⟩ := g
  obtain ⟨no, kind, client, code, token, proof, by_⟩ := r
  simp only at n0 n1 t0 t1 hlen hdd
  have HV := Lib.hid (show rqV ⟨no, kind, client, code, token, proof, by_⟩ = .agg #[.int .i64 no, .int .i64 kind, .int .i64 client, .int .i64 code, .int .i64 token, .string proof, .int .i64 by_] from rfl)
  have hs := SIn.start ⟨no, kind, client, code, token, proof, by_⟩ (codeR 0) hl
  have hc := hs.led.cells
  have hln := hs.led.words_len
  simp only [codeR] at hs hc hln
  obtain ⟨c0, c1, c2⟩ := hc
  have HS := Lib.hid hs
  have HL := Lib.hid hl
  clear hs hl
  by_cases hf : 20 ≤ words.length
  · have HE := Lib.hid (show issueD ⟨now, words, keys, dead⟩ ⟨no, kind, client, code, token, proof, by_⟩ = (⟨now, words, keys, dead⟩, codeR 9) by simp [issueD, hf])
    rw [HE.out, HV.out]
    clear HE
    go_enter Tryz.func115, Tryz.ntmps115
    go_wp2_with fail
    have h9 := SIn.start ⟨no, kind, client, code, token, proof, by_⟩ (codeR 9) HL.out
    refine bodyPost_ret (ret_resp rfl rfl h9.resp) rfl ?_
    exact h9.told
  · have hwf := wf_small (n := no) (by omega) (by omega)
    obtain ⟨W, hW⟩ : ∃ W, W = (w.alloc (.cells #[.int .i64 no, .int .i64 kind, .int .i64 client, .int .i64 code, .int .i64 token, .string proof, .int .i64 by_] 29)).alloc (.cells #[.int .i64 0, .int .i64 0, .int .i64 0, .bool false] 33) := ⟨_, rfl⟩
    have HSW : SIn B lb mw mk ⟨now, words, keys, dead⟩ ⟨no, kind, client, code, token, proof, by_⟩ (codeR 0) w W := by rw [hW]; exact HS.out
    rw [HV.out]
    go_enter Tryz.func115, Tryz.ntmps115
    go_wp2_with fail
    rw [← hW]
    have hln' : 0 < 1 := by omega
    obtain ⟨c, s, t, u, x, hlk', hsome⟩ := HSW.led.word_ok no hwf
    have hlk := hlk' _ (Below.refl _ _).drew
    have hbz := (Below.refl W.heap.size W).alloc (Nat.le_refl _) (.cells #[.int .i64 0, .string ⟨#[]⟩, .float .f64 0, .bool false, .float .f64 0] 182)
    have hlk2 := hlk' _ hbz.drew
    have q0a : (W.alloc (.cells #[.int .i64 0, .string ⟨#[]⟩, .float .f64 0, .bool false, .float .f64 0] 182)).cell? ⟨w.heap.size, 0, none⟩ = some (.int .i64 no) := (hbz.cell (p := ⟨w.heap.size, 0, none⟩) (by show w.heap.size < W.heap.size; have := HSW.size; omega)).trans (HSW.req.cell 0)
    have c1a : (W.alloc (.cells #[.int .i64 0, .string ⟨#[]⟩, .float .f64 0, .bool false, .float .f64 0] 182)).cell? ⟨lb, 1, none⟩ = some (.map (some mw)) := (hbz.cell (p := ⟨lb, 1, none⟩) (by show lb < W.heap.size; have := HSW.size; have := HSW.old.2.1; omega)).trans HSW.led.cells.2.1
    clear hbz
    obtain ⟨i1, hi1⟩ : ∃ i1, i1 = (findW words no).isSome := ⟨_, rfl⟩
    simp only at hlk hlk2
    rw [← hi1] at hlk hlk2
    have HI1 := Lib.hid hi1
    have HWf := Lib.hid hwf
    have q0 : W.cell? ⟨w.heap.size, 0, none⟩ = some (.int .i64 no) := HSW.req.cell 0
    have z0 := HSW.size
    have z1 := HSW.old.2.1
    have c1' := HSW.led.cells.2.1
    have hsf := run_store_float
    have HSO := Lib.hid HSW
    have HC := Lib.hid hsome
    clear HSW hlk' hsome hi1 hwf c0 c1 c2 hW hln HS HL hln'
    go_region
    all_goals
      have HS2' := Lib.hid (HSO.out.later (((Below.refl W.heap.size W).alloc (Nat.le_refl _) (.cells #[.int .i64 c, .string s, .float .f64 t, .bool u, .float .f64 x] 182)).drew))
      obtain ⟨W2, hW2⟩ : ∃ W2, W2 = (W.alloc (.cells #[.int .i64 c, .string s, .float .f64 t, .bool u, .float .f64 x] 182)).drew := ⟨_, rfl⟩
      rw [← hW2] at HS2' ⊢
      have HS2 := Lib.hid HS2'.out
      clear hW2 q0 c1' z0 z1 q0a c1a hlk hlk2 HC HSO HS2'
      cases i1 with
      | true =>
        have HE := Lib.hid (show issueD ⟨now, words, keys, dead⟩ ⟨no, kind, client, code, token, proof, by_⟩ = (⟨now, words, keys, dead⟩, codeR 7) by simp [issueD, hf, ← HI1.out])
        clear HI1
        go_wp2_with (refine wpList_store_mid rfl 33 (.tmp 4) (.tmp 25) rfl (w.heap.size + 1) 0 #[.int .i64 7, .int .i64 0, .int .i64 0, .bool false] rfl rfl ?hh sizeResp (oneResp (codeR 7)) ?_)
        case hh => exact HS2.out.there
        refine bodyPost_ret (ret_resp rfl rfl (HS2.out.put (codeR 7)).resp) rfl ?_
        rw [HE.out]
        exact (HS2.out.put (codeR 7)).told
      | false =>
        have hnone : findW words no = none := by have := HI1.out; simpa using this.symm
        have HN := Lib.hid hnone
        have HE := Lib.hid (show issueD ⟨now, words, keys, dead⟩ ⟨no, kind, client, code, token, proof, by_⟩ = (⟨now, insW words (newW ⟨now, words, keys, dead⟩ ⟨no, kind, client, code, token, proof, by_⟩), keys, dead⟩, ⟨0, no, 0, false⟩) by simp [issueD, hf, hnone])
        have HDd := Lib.hid (hdd hnone)
        clear hnone HI1 hdd
        obtain ⟨c0, c1, _⟩ := HS2.out.led.cells
        simp only at c0
        have q0 : W2.cell? ⟨w.heap.size, 0, none⟩ = some (.int .i64 no) := HS2.out.req.cell 0
        have q2 : W2.cell? ⟨w.heap.size, 2, none⟩ = some (.int .i64 client) := HS2.out.req.cell 2
        have q5 : W2.cell? ⟨w.heap.size, 5, none⟩ = some (.string proof) := HS2.out.req.cell 5
        obtain ⟨td, htd⟩ := HS2.out.led.td
        have HTD := Lib.hid htd
        clear htd
        go_wp2_with fail
        refine region_tail 17 (by kernel_rfl) (by kernel_rfl) ?_
        simp only [List.take_succ_cons, List.take_zero, List.drop_succ_cons, List.drop_zero]
        repeat still_step
        still_call (later_any now 10 _ t0 t1 (by omega) (by omega))
        repeat still_step
        still_call never_at
        repeat still_step
        refine wpStill_nil ?_
        refine wpList_put_I rfl (.tmp 29) (.tmp 31) (.tmp 42) 157 rfl Tryz.underlying157 Tryz.underlying2 rfl HTD.out.words (by show words.length < maxLen; unfold maxLen; omega) no rfl HWf.out (hwV (newW ⟨now, words, keys, dead⟩ ⟨no, kind, client, code, token, proof, by_⟩) infB) rfl ?_
        intro w3 hm3 hg3'
        have hg3 := drew_grown hg3'
        have hl3 := HTD.out.worded (x := newW ⟨now, words, keys, dead⟩ ⟨no, kind, client, code, token, proof, by_⟩) hg3 HN.out HDd.out hm3
        have HS3 := Lib.hid (HS2.out.grown hl3 hg3 (.inr (.inl rfl)))
        have q0' : w3.cell? ⟨w.heap.size, 0, none⟩ = some (.int .i64 no) := HS3.out.req.cell 0
        clear hm3 hg3 hg3' hl3 HTD HS2 c0 c1 q0 q2 q5
        go_wp2_with (refine wpList_store_mid rfl 33 (.tmp 4) (.tmp 45) rfl (w.heap.size + 1) 0 #[.int .i64 0, .int .i64 no, .int .i64 0, .bool false] rfl rfl ?hh sizeResp (oneResp ⟨0, no, 0, false⟩) ?_)
        case hh => exact HS3.out.there
        refine bodyPost_ret (ret_resp rfl rfl (HS3.out.put ⟨0, no, 0, false⟩).resp) rfl ?_
        rw [HE.out]
        exact (HS3.out.put ⟨0, no, 0, false⟩).told
end Go.Proofs.YtgkdajlkajmdiaaGreat
