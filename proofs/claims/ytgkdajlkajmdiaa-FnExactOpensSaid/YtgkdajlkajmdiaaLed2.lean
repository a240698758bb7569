/- A ledger asked: who is dead, which key there is, whether it opens. -/
import Derived.Test.YtgkdajlkajmdiaaLed
import Derived.Test.YtgkdajlkajmdiaaExt
import Derived.Test.YtgkdajlkajmdiaaKept
import Derived.Test.YtgkdajlkajmdiaaStoreTo
namespace Go.Proofs.Ytgkdajlkajmdiaa
open Go Go.RowKit Go.Lib
set_option linter.unusedVariables false

theorem whole_of {n : Int} (h0 : 0 ≤ n) (h1 : n ≤ 1000000) : Whole n := ⟨h0, by omega⟩
/-- The bits of a word's death against those of now. -/
theorem dd_leq {dead : List Int} {td : Int → Int} {now no : Int} (h0 : 0 ≤ now) (h1 : now ≤ 1000000) (ht : 0 ≤ td no ∧ td no ≤ now) :
    (FloatKind.f64.format.order (ddB dead td no) (floatOfInt .f64 now) == some .lt || FloatKind.f64.format.order (ddB dead td no) (floatOfInt .f64 now) == some .eq) = isDeadB dead no := by
  unfold ddB
  cases h : isDeadB dead no with
  | true =>
    rw [if_pos rfl, leq_of (whole_of ht.1 (by omega)) (whole_of h0 h1), decide_eq_true ht.2]
  | false =>
    rw [if_neg (by simp), leq_inf (whole_of h0 h1)]

theorem deadAt_any (c : Int) (s : ByteArray) (t dd now : Nat) (u b : Bool) (hb : (FloatKind.f64.format.order dd now == some .lt || FloatKind.f64.format.order dd now == some .eq) = b) (w : World) :
    Calls Try.prog 101 #[.agg #[.int .i64 c, .string s, .float .f64 t, .bool u, .float .f64 dd], .float .f64 now] w (Ret (.bool b) w) := by
  cases b with
  | true =>
    go_enter Try.func101, Try.ntmps101
    go_wp2_with fail
    go_ret
    exact ⟨rfl, by go_grown⟩
  | false =>
    go_enter Try.func101, Try.ntmps101
    go_wp2_with fail
    go_ret
    exact ⟨rfl, by go_grown⟩
theorem isDead_any (lb mw mk B : Nat) (g : Gr) (no : Int) (x : Wd) (w : World) (hl : LedAt w B lb mw mk g) (hx : findW g.words no = some x) (hwf : (Lit.int .i64 no).wf = true) (h0 : 0 ≤ g.now) (h1 : g.now ≤ 1000000) :
    Calls Try.prog 75 #[.pointer (some ⟨lb, 0, none⟩), .int .i64 no] w (Ret (.bool (isDeadB g.dead no)) w) := by
  obtain ⟨td, htd, hr, hm, _⟩ := hl
  have hcmp := dd_leq (dead := g.dead) h0 h1 (htd no)
  obtain ⟨dd, hdd⟩ : ∃ dd, dd = ddB g.dead td no := ⟨_, rfl⟩
  rw [← hdd] at hcmp
  have hlk : ∀ u : Ext w, (Instr.lookup 107 (.map (some mw)) (.int .i64 no) false).run Try.prog u.w = .ok (.agg #[.int .i64 x.client, .string x.shade, .float .f64 (floatOfInt .f64 x.till), .bool x.used, .float .f64 dd]) u.w := fun u => by
    have h := (hm.later u.below).look Try.underlying2 Try.underlying107 (hwZ_zero _) hwf
    rw [show (wdF g.words g.dead td no).getD hwZ = hwV x (ddB g.dead td no) by simp [wdF, hx], ← hdd] at h
    exact h
  have c0 : ∀ u : Ext w, u.w.cell? ⟨lb, 0, none⟩ = some (.float .f64 (floatOfInt .f64 g.now)) := fun u => u.cell (hr.cell 0)
  have c1 : ∀ u : Ext w, u.w.cell? ⟨lb, 1, none⟩ = some (.map (some mw)) := fun u => u.cell (hr.cell 1)
  have HC := Lib.hid hcmp
  clear hr hm htd hdd hcmp
  go_enter Try.func75, Try.ntmps75
  go_wp2_with fail
  refine ext_region w (by kernel_rfl) (by kernel_rfl) (Below.refl _ _) ?_
  repeat (go_big_quiet_step ((go_at_call 101; exact calls_ext (deadAt_any _ _ _ _ _ _ _ HC.out _))))
  refine wpQuiet_nil ?_
  intro w2 hb2
  have HB2 := Lib.hid hb2
  clear hb2
  go_wp2_with fail
  go_ret
  exact ⟨rfl, HB2.out⟩
theorem isDead_at {lb mw mk B : Nat} {g : Gr} {no : Int} {x : Wd} {w : World} {b : Bool} (hl : LedAt w B lb mw mk g) (hx : findW g.words no = some x) (hwf : (Lit.int .i64 no).wf = true) (h0 : 0 ≤ g.now) (h1 : g.now ≤ 1000000) (hd : isDeadB g.dead no = b) :
    Calls Try.prog 75 #[.pointer (some ⟨lb, 0, none⟩), .int .i64 no] w (Ret (.bool b) w) := by
  subst hd
  exact isDead_any lb mw mk B g no x w hl hx hwf h0 h1

/-- The key of that number and client. -/
def keyFor (ks : List Ky) (no client : Int) : Option Ky := match findK ks no with
  | none => none
  | some x => if x.client == client then some x else none
def keyForV (o : Option Ky) : Value := match o with
  | none => .tuple #[hkZ, .bool false]
  | some x => .tuple #[hkV x, .bool true]
set_option maxHeartbeats 1000000 in
theorem keyIn_any (mk n : Nat) (ks : List Ky) (no client : Int) (w : World) (hk : IMap Try.prog 2 w mk n (kyF ks)) (hwf : (Lit.int .i64 no).wf = true) :
    Calls Try.prog 74 #[.map (some mk), .int .i64 no, .int .i64 client] w (Ret (keyForV (keyFor ks no client)) w) := by
  have HK := Lib.hid hk
  have hsf := run_store_float
  clear hk
  cases hf : findK ks no with
  | none =>
    have HV : Hid (keyForV (keyFor ks no client) = .tuple #[.agg #[.int .i64 0, .int .i64 0, .bool false, .float .f64 0, .int .i64 0], .bool false]) := Lib.hid (by simp [keyFor, keyForV, hf, hkZ])
    have hlk : (Instr.lookup 108 (.map (some mk)) (.int .i64 no) true).run Try.prog (w.alloc (.cells #[.int .i64 0, .int .i64 0, .bool false, .float .f64 0, .int .i64 0] 84)) = .ok (.tuple #[.agg #[.int .i64 0, .int .i64 0, .bool false, .float .f64 0, .int .i64 0], .bool false]) (w.alloc (.cells #[.int .i64 0, .int .i64 0, .bool false, .float .f64 0, .int .i64 0] 84)) := by
      have h := (HK.out.alloc (.cells #[.int .i64 0, .int .i64 0, .bool false, .float .f64 0, .int .i64 0] 84)).look_ok Try.underlying2 Try.underlying108 (hkZ_zero _) hwf
      rw [show kyF ks no = none by simp [kyF, hf]] at h
      exact h
    rw [HV.out]
    clear hf
    go_enter Try.func74, Try.ntmps74
    go_wp2_with fail
    go_returns
    exact ⟨rfl, by go_grown⟩
  | some x =>
    have hlk : (Instr.lookup 108 (.map (some mk)) (.int .i64 no) true).run Try.prog (w.alloc (.cells #[.int .i64 0, .int .i64 0, .bool false, .float .f64 0, .int .i64 0] 84)) = .ok (.tuple #[.agg #[.int .i64 x.client, .int .i64 x.fam, .bool x.refresh, .float .f64 (floatOfInt .f64 x.till), .int .i64 x.state], .bool true]) (w.alloc (.cells #[.int .i64 0, .int .i64 0, .bool false, .float .f64 0, .int .i64 0] 84)) := by
      have h := (HK.out.alloc (.cells #[.int .i64 0, .int .i64 0, .bool false, .float .f64 0, .int .i64 0] 84)).look_ok Try.underlying2 Try.underlying108 (hkZ_zero _) hwf
      rw [show kyF ks no = some (hkV x) by simp [kyF, hf]] at h
      exact h
    by_cases hc : x.client = client
    · have HV : Hid (keyForV (keyFor ks no client) = .tuple #[.agg #[.int .i64 x.client, .int .i64 x.fam, .bool x.refresh, .float .f64 (floatOfInt .f64 x.till), .int .i64 x.state], .bool true]) := Lib.hid (by simp [keyFor, keyForV, hf, hkV, hc])
      have e1 : (x.client != client) = false := by simp [hc]
      rw [HV.out]
      clear hf hc
      go_enter Try.func74, Try.ntmps74
      go_wp2_with fail
      go_returns
      exact ⟨rfl, by go_grown⟩
    · have HV : Hid (keyForV (keyFor ks no client) = .tuple #[.agg #[.int .i64 0, .int .i64 0, .bool false, .float .f64 0, .int .i64 0], .bool false]) := Lib.hid (by simp [keyFor, keyForV, hf, hkZ, hc])
      have e1 : (x.client != client) = true := by simpa using hc
      rw [HV.out]
      clear hf hc
      go_enter Try.func74, Try.ntmps74
      go_wp2_with fail
      go_returns
      exact ⟨rfl, by go_grown⟩
theorem keyForV_shape (o : Option Ky) : ∃ c f b t s ok, keyForV o = .tuple #[.agg #[.int .i64 c, .int .i64 f, .bool b, .float .f64 t, .int .i64 s], .bool ok] := by
  cases o with
  | none => exact ⟨_, _, _, _, _, _, rfl⟩
  | some x => exact ⟨_, _, _, _, _, _, rfl⟩
theorem results_cell_tmp {P : Program} {fn : Func} {p q : Tmp} {ty : TypeId} (h : fn.results = #[.cell p ty, .tmp q]) (tmps : Array Value) (w : World) (g : Nat) (t : TypeId) (cs : Array Value) (fr : Nat × Nat) (d : TypeDesc)
    (hp : tmps.getD p undef = .pointer (some ⟨g, 0, none⟩)) (hg : w.heap[g]? = some (.cells cs t fr)) (hu : P.underlying ty = some d) (hd : (match d with | .struct _ | .array _ _ => true | _ => false) = true) (hi : (P.info? ty).map (·.size) = some cs.size) :
    (results fn tmps).run P w = .ok (.tuple #[.agg cs, tmps.getD q undef]) w := by
  have hp' : tmps[p]?.getD undef = .pointer (some ⟨g, 0, none⟩) := by simpa using hp
  simp [results, h, hp', asAddr, run_loadVar_row w g t ty cs fr d hg hu hd hi]
theorem sizeHk : (Try.prog.info? 84).map (·.size) = some 5 := by kernel_rfl
theorem results_key {fn : Func} {p q : Tmp} (h : fn.results = #[.cell p 84, .tmp q]) {tmps : Array Value} {w : World} {g : Nat} {c f s : Int} {b : Bool} {t : Nat} (hp : tmps.getD p undef = .pointer (some ⟨g, 0, none⟩))
    (hr : Row w g 84 [.int .i64 c, .int .i64 f, .bool b, .float .f64 t, .int .i64 s]) :
    (results fn tmps).run Try.prog w = .ok (.tuple #[.agg #[.int .i64 c, .int .i64 f, .bool b, .float .f64 t, .int .i64 s], tmps.getD q undef]) w := by
  have hu := Try.underlying84
  exact results_cell_tmp h tmps w g 84 #[.int .i64 c, .int .i64 f, .bool b, .float .f64 t, .int .i64 s] (0, 0) _ hp hr hu rfl sizeHk
set_option maxHeartbeats 1000000 in
theorem keyOf_any (lb mw mk B : Nat) (g : Gr) (no client : Int) (w : World) (hl : LedAt w B lb mw mk g) (hwf : (Lit.int .i64 no).wf = true) :
    Calls Try.prog 38 #[.pointer (some ⟨lb, 0, none⟩), .int .i64 no, .int .i64 client] w (Ret (keyForV (keyFor g.keys no client)) w) := by
  obtain ⟨td, htd, hr, hm, hk, _⟩ := hl
  have c2' := hr.cell 2
  have hlb := hr.lt
  have hb1 := (Below.refl w.heap.size w).alloc (Nat.le_refl _) (.cells #[.int .i64 0, .int .i64 0, .bool false, .float .f64 0, .int .i64 0] 84)
  have c2 : (w.alloc (.cells #[.int .i64 0, .int .i64 0, .bool false, .float .f64 0, .int .i64 0] 84)).cell? ⟨lb, 2, none⟩ = some (.map (some mk)) := (hb1.cell (p := ⟨lb, 2, none⟩) hlb).trans c2'
  have R1 : Row (w.alloc (.cells #[.int .i64 0, .int .i64 0, .bool false, .float .f64 0, .int .i64 0] 84)) w.heap.size 84 [.int .i64 0, .int .i64 0, .bool false, .float .f64 0, .int .i64 0] := heap_alloc_new w _
  have HK := Lib.hid (hk.later hb1)
  have HR := Lib.hid R1
  have hz := hb1.size
  have HB := Lib.hid hb1
  clear hr hm hk htd c2' hb1 R1
  go_enter Try.func38, Try.ntmps38
  go_wp2_with fail
  refine (keyIn_any mk g.keys.length g.keys no client _ HK.out hwf).mono ?_
  rintro e w2 ⟨rfl, hb2⟩
  have HB2 := Lib.hid (HB.out.trans (hb2.mono hz))
  have r2 := HR.out.below hb2 HR.out.lt
  have HT := Lib.hid (r2.there 0 5 (by simp))
  have HR2 := Lib.hid r2
  obtain ⟨c, f, b, t, s, ok, hs⟩ := keyForV_shape (keyFor g.keys no client)
  rw [hs]
  have HSs := Lib.hid hs
  clear hb2 hs r2 c2
  go_wp2_with (refine Stop.out (p := wpList _ _ _ [{ dst := _, op := .store 84 _ _, type := _, pos := _, after := _, guard := _ }, _] _ _) ?_)
  constructor
  refine wpList_store_to rfl 84 (.tmp 6) (.tmp 15) rfl w.heap.size 0 #[.int .i64 c, .int .i64 f, .bool b, .float .f64 t, .int .i64 s] rfl rfl HT.out (by kernel_rfl) (by simp [Value.oneCell']) ?_
  intro V hV
  have hk3 : Kept w2.heap.size w.heap.size w.heap.size w.heap.size w2 V := by rw [hV]; exact Kept.setCells (.inl rfl) _ 0 (Kept.refl _ _ _ _ _)
  have R3 : Row V w.heap.size 84 [.int .i64 c, .int .i64 f, .bool b, .float .f64 t, .int .i64 s] := by rw [hV]; exact HR2.out.setCells _ 0
  have HB3 := Lib.hid (HB2.out.trans (hk3.below (B := w.heap.size) HB2.out.size (by omega) (by omega) (by omega)))
  have HR3 := Lib.hid R3
  clear hV hk3 R3
  go_wp2_with fail
  refine bodyPost_ret (results_key rfl rfl HR3.out) rfl ?_
  exact ⟨by rw [HSs.out]; rfl, HB3.out⟩
theorem till_ways (now : Int) (dead : List Int) (x : Ky) : (x.state ≠ 0 ∧ keyOpenB now dead x = false) ∨ (x.state = 0 ∧ x.till < now ∧ keyOpenB now dead x = false) ∨ (x.state = 0 ∧ now ≤ x.till ∧ isDeadB dead x.fam = true ∧ keyOpenB now dead x = false) ∨ (x.state = 0 ∧ now ≤ x.till ∧ isDeadB dead x.fam = false ∧ keyOpenB now dead x = true) := by
  unfold keyOpenB
  by_cases h1 : x.state = 0
  · right
    by_cases h2 : now ≤ x.till
    · cases h3 : isDeadB dead x.fam <;> simp [h1, h2]
    · left; exact ⟨h1, by omega, by rw [decide_eq_false h2]; simp⟩
  · left; exact ⟨h1, by simp [h1]⟩
set_option maxHeartbeats 2000000 in
theorem opens_led (lb mw mk B : Nat) (g : Gr) (x : Ky) (y : Wd) (w : World) (hl : LedAt w B lb mw mk g) (hy : findW g.words x.fam = some y) (hwf : (Lit.int .i64 x.fam).wf = true) (h0 : 0 ≤ g.now) (h1 : g.now ≤ 1000000) (t0 : 0 ≤ x.till) (t1 : x.till ≤ 1000000) :
    Calls Try.prog 39 #[.pointer (some ⟨lb, 0, none⟩), hkV x] w (Ret (.bool (keyOpenB g.now g.dead x)) w) := by
  unfold hkV
  have hr : ∃ td : Int → Int, Row w lb 146 [.float .f64 (floatOfInt .f64 g.now), .map (some mw), .map (some mk)] := by
    obtain ⟨td, _, hr, _⟩ := hl
    exact ⟨td, hr⟩
  obtain ⟨_, hr⟩ := hr
  have hlb := hr.lt
  have hcmp := leq_of (whole_of h0 h1) (whole_of t0 t1)
  have hb1 := (Below.refl w.heap.size w).alloc (Nat.le_refl _) (.cells #[.int .i64 x.client, .int .i64 x.fam, .bool x.refresh, .float .f64 (floatOfInt .f64 x.till), .int .i64 x.state] 84)
  have c0 : ∀ u : Ext (w.alloc (.cells #[.int .i64 x.client, .int .i64 x.fam, .bool x.refresh, .float .f64 (floatOfInt .f64 x.till), .int .i64 x.state] 84)), u.w.cell? ⟨lb, 0, none⟩ = some (.float .f64 (floatOfInt .f64 g.now)) := fun u => u.cell ((hb1.cell (p := ⟨lb, 0, none⟩) hlb).trans (hr.cell 0))
  have f1 : ∀ u : Ext (w.alloc (.cells #[.int .i64 x.client, .int .i64 x.fam, .bool x.refresh, .float .f64 (floatOfInt .f64 x.till), .int .i64 x.state] 84)), u.w.cell? ⟨w.heap.size, 1, none⟩ = some (.int .i64 x.fam) := fun u => u.cell (by simp)
  have f3 : ∀ u : Ext (w.alloc (.cells #[.int .i64 x.client, .int .i64 x.fam, .bool x.refresh, .float .f64 (floatOfInt .f64 x.till), .int .i64 x.state] 84)), u.w.cell? ⟨w.heap.size, 3, none⟩ = some (.float .f64 (floatOfInt .f64 x.till)) := fun u => u.cell (by simp)
  have f4 : ∀ u : Ext (w.alloc (.cells #[.int .i64 x.client, .int .i64 x.fam, .bool x.refresh, .float .f64 (floatOfInt .f64 x.till), .int .i64 x.state] 84)), u.w.cell? ⟨w.heap.size, 4, none⟩ = some (.int .i64 x.state) := fun u => u.cell (by simp)
  have HLu : Hid (∀ u : Ext (w.alloc (.cells #[.int .i64 x.client, .int .i64 x.fam, .bool x.refresh, .float .f64 (floatOfInt .f64 x.till), .int .i64 x.state] 84)), LedAt u.w B lb mw mk g) := Lib.hid (fun u => (hl.later hb1).later u.below)
  have HY := Lib.hid hy
  have HWF := Lib.hid hwf
  clear hr hl hy hwf
  rcases till_ways g.now g.dead x with ⟨s1, te⟩ | ⟨s1, s2, te⟩ | ⟨s1, s2, s3, te⟩ | ⟨s1, s2, s3, te⟩
  all_goals
    have TE := Lib.hid te
    clear te
    rw [TE.out]
  · have e1 : (x.state == 0) = false := by simpa using s1
    have S1 := Lib.hid s1
    clear s1
    go_enter Try.func39, Try.ntmps39
    go_wp2_with fail
    refine ext_region (w.alloc (.cells #[.int .i64 x.client, .int .i64 x.fam, .bool x.refresh, .float .f64 (floatOfInt .f64 x.till), .int .i64 x.state] 84)) (by kernel_rfl) (by kernel_rfl) (Below.refl _ _) ?_
    repeat (go_big_quiet_step (fail))
    refine wpQuiet_nil ?_
    intro w2 hb2
    have HB2 := Lib.hid (hb1.trans (hb2.mono hb1.size))
    clear hb2
    go_wp2_with fail
    go_ret
    exact ⟨rfl, HB2.out⟩
  · have e1 : (x.state == 0) = true := by simpa using s1
    rw [decide_eq_false (by omega)] at hcmp
    have S1 := Lib.hid s1
    clear s1
    go_enter Try.func39, Try.ntmps39
    go_wp2_with fail
    refine ext_region (w.alloc (.cells #[.int .i64 x.client, .int .i64 x.fam, .bool x.refresh, .float .f64 (floatOfInt .f64 x.till), .int .i64 x.state] 84)) (by kernel_rfl) (by kernel_rfl) (Below.refl _ _) ?_
    repeat (go_big_quiet_step (fail))
    refine wpQuiet_nil ?_
    intro w2 hb2
    have HB2 := Lib.hid (hb1.trans (hb2.mono hb1.size))
    clear hb2
    go_wp2_with fail
    go_ret
    exact ⟨rfl, HB2.out⟩
  all_goals
    have e1 : (x.state == 0) = true := by simpa using s1
    rw [decide_eq_true s2] at hcmp
    have S1 := Lib.hid s1
    have S3 := Lib.hid s3
    clear s1 s3
    go_enter Try.func39, Try.ntmps39
    go_wp2_with fail
    refine ext_region (w.alloc (.cells #[.int .i64 x.client, .int .i64 x.fam, .bool x.refresh, .float .f64 (floatOfInt .f64 x.till), .int .i64 x.state] 84)) (by kernel_rfl) (by kernel_rfl) (Below.refl _ _) ?_
    repeat (go_big_quiet_step ((go_at_call 75; exact calls_ext (isDead_at (HLu.out _) HY.out HWF.out h0 h1 S3.out))))
    refine wpQuiet_nil ?_
    intro w2 hb2
    have HB2 := Lib.hid (hb1.trans (hb2.mono hb1.size))
    clear hb2
    go_wp2_with fail
    go_ret
    exact ⟨rfl, HB2.out⟩
end Go.Proofs.Ytgkdajlkajmdiaa
