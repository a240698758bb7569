/- A map from numbers (int64) that is ranged over, in whatever order: what is still to come. Over any program. A ledger: whole numbers, who is dead. A ledger: a word comes to be one of the dead. The ledger of a right grant. A ledger asked: who is dead, which key there is, whether it opens. -/
import Derived.Test.YtjccnjfdeedneaaGreatSGdB
import Derived.Maps.RangeWalk
import Derived.Lib.SlKeysI
import Derived.Test.YtjccnjfdeedneaaGreatSGdA
import Derived.StillTailTactics
namespace Go.Proofs.YtjccnjfdeedneaaGreat
open Go Go.RowKit Go.Lib Go.Maps
set_option linter.unusedVariables false

/-- Block b is a map (as IMap), block r goes through it; left tells which numbers are still to come, cnt how many. -/
def IRanges (P : Program) (k : TypeId) (w : World) (b r N : Nat) (F : Int → Option Value) (left : Int → Bool) (cnt : Nat) : Prop :=
 ∃ (D : DataW Value) (lf : Lit → Bool), w.ranges P k heldE b r N D lf cnt ∧ (Maps.size D = N ∧ ∀ i : Int, Maps.has D (.int .i64 i) = (F i).isSome ∧ ∀ z : Value, D.atKey (.int .i64 i) (.held z) = .held ((F i).getD z)) ∧ (∀ i, lf (.int .i64 i) = left i) ∧ (∀ i, left i = true → (F i).isSome = true)
section
variable {P : Program} {k e : TypeId} {w : World} {b r N : Nat} {F : Int → Option Value} {left : Int → Bool} {cnt : Nat}
theorem IRanges.map (h : IRanges P k w b r N F left cnt) : IMap P k w b N F := by
 obtain ⟨D, lf, h1, h2, _⟩ := h
 exact ⟨D, h1.owns, h2⟩
theorem IRanges.left_eq (h : IRanges P k w b r N F left cnt) : w.rangeLeft b r = cnt := by
 obtain ⟨D, lf, h1, _⟩ := h
 exact h1.left_eq
theorem IRanges.ne (h : IRanges P k w b r N F left cnt) : r ≠ b := by
 obtain ⟨D, lf, h1, _⟩ := h
 exact h1.ne
theorem IRanges.lt (h : IRanges P k w b r N F left cnt) : r < w.heap.size := by
 obtain ⟨D, lf, h1, _⟩ := h
 exact h1.lt
theorem IRanges.kept {w' : World} {row : Option Nat} (h : IRanges P k w b r N F left cnt) (hg : w.grownBy w' row) (hb : some b ≠ row) (hr : some r ≠ row) : IRanges P k w' b r N F left cnt := by
 obtain ⟨D, lf, h1, h2⟩ := h
 exact ⟨D, lf, h1.kept hg hb hr, h2⟩
variable {ops : Array Oper} {rest : List Oper} {o : Oper} {a : Act} {Q : Exit → Act → World → Prop}
theorem wpList_range_I (hg : o.guard = none) (m : Operand) (t : TypeId) (hop : o.op = Op.range t m) (ht : P.underlying t = some (.map k e)) (hk : P.underlying k = some (.int .i64)) (hm : a.eval m = .map (some b)) (hown : IMap P k w b N F)
  (hK : ∀ w', IRanges P k w' b w.heap.size N F (fun i => (F i).isSome) N → w.grownBy w' none → w'.heap.size = w.heap.size + 1 → wpList P ops Q rest (a.put o.dst (.pointer (some ⟨w.heap.size, 0, none⟩))) w') : wpList P ops Q (o :: rest) a w := by
 obtain ⟨D, h1, h2, h3⟩ := hown
 refine wpList_range_own w hg m t hop k e (int_keyed hk) ht heldE b N D hm h1 fun w' hr hgr hsz => hK w' ⟨D, Maps.has D, ?_, ⟨h2, h3⟩, fun i => (h3 i).1, fun i h => h⟩ hgr hsz
 rw [← h2]
 rw [h2] at hr ⊢
 exact hr
theorem wpList_next_I (hg : o.guard = none) (it : Operand) (hop : o.op = Op.next it false) (hk : P.underlying k = some (.int .i64)) (hit : a.eval it = .pointer (some ⟨r, 0, none⟩)) (h : IRanges P k w b r N F left cnt)
  (hDone : cnt = 0 → (∀ i, left i = false) → wpList P ops Q rest (a.put o.dst (.tuple #[.bool false])) w)
  (hMore : ∀ (x : Int) (v : Value) (w' : World) (cnt' : Nat), (Lit.int .i64 x).wf = true → left x = true → F x = some v → IRanges P k w' b r N F (fun z => left z && !(z == x)) cnt' → cnt' < cnt → w.grownBy w' (some r) → w'.heap.size = w.heap.size →
   (Instr.entry (.pointer (some ⟨r, 0, none⟩))).run P w' = .ok (.tuple #[.int .i64 x, v]) w' → wpList P ops Q rest (a.put o.dst (.tuple #[.bool true, .int .i64 x, v])) w') : wpList P ops Q (o :: rest) a w := by
 obtain ⟨D, lf, h1, ⟨h2, h3⟩, h4, h5⟩ := h
 refine wpList_next_ranges w hg it hop k (int_keyed hk) heldE (Value.int .i64) id (fun key kl hkey => by obtain ⟨x, rfl, _⟩ := Maps.keyOf_int_inv hk hkey; exact ⟨x, rfl⟩) (fun v y _ => ⟨v, rfl⟩) b r N D lf cnt hit h1 (fun hc hl => hDone hc fun i => by rw [← h4]; exact hl _) ?_
 intro x c kl y w' cnt' hkey hlk hv hat hrg hlt hgr hsz hen
 obtain ⟨x', ex, rfl, hwx⟩ := Maps.keyOf_int_inv hk hkey
 cases ex
 simp only [heldE, id, Option.some.injEq] at hv
 subst hv
 have hl : left x = true := by rw [← h4]; exact hlk
 have hs := h5 x hl
 have hF : F x = some c := by
  obtain ⟨c', hc'⟩ := Option.isSome_iff_exists.1 hs
  have h6 := (h3 x).2 c
  rw [hat] at h6
  rw [hc'] at h6 ⊢
  simp only [Option.getD_some, DataW.held.injEq] at h6
  rw [← h6]
 refine hMore x c w' cnt' hwx hl hF ⟨D, _, hrg, ⟨h2, h3⟩, fun i => ?_, fun i hi => ?_⟩ hlt hgr hsz hen
 ·show (lf (.int .i64 i) && !(Lit.int .i64 i).sameKey (.int .i64 x)) = _
  rw [h4]
  congr 1
  by_cases e : i = x
  ·subst e
   simp [WideAt.sameKey_self (wf_i64 hwx)]
  ·have : ¬ (Lit.int .i64 i).sameKey (.int .i64 x) = true := fun hh => e (by have := WideAt.sameKey_eq hh; injection this)
   simp [e, this]
 ·simp only [Bool.and_eq_true] at hi
  exact h5 i hi.1
/-- How many entries: as many as the list that names them. -/
theorem IMap.count {l : List Int} (h : IMap P k w b N F) (hk : P.underlying k = some (.int .i64)) (hnd : l.Nodup) (hm : ∀ i, i ∈ l ↔ (F i).isSome = true) : N = l.length := by
 obtain ⟨D, h1, h2, h3⟩ := h
 have hp : l.Perm (intKeys D) := CollectedI.perm (left := fun _ => false) ⟨hnd, fun x => by rw [hm, (h3 x).1]; simp⟩ h1 (int_keyed hk) hk (fun _ => rfl)
 obtain ⟨es, rfl, _, _⟩ := h1.entries (int_keyed hk)
 rw [← h2, hp.length_eq]
 simp [intKeys, Maps.size]
/-- What has been laid over: what has come of F, else what was there. -/
def overL (F G : Int → Option Value) (left : Int → Bool) (i : Int) : Option Value := if (F i).isSome && !left i then F i else G i
theorem overL_start (F G : Int → Option Value) : overL F G (fun i => (F i).isSome) = G := by
 funext i
 show (if (F i).isSome && !(F i).isSome then F i else G i) = G i
 cases (F i).isSome <;> rfl
theorem overL_step {F G : Int → Option Value} {left : Int → Bool} {x : Int} {v : Value} (h : F x = some v) (i : Int) : setAt (overL F G left) x v i = overL F G (fun z => left z && !(z == x)) i := by
 unfold setAt overL
 by_cases e : i = x
 ·subst e
  simp [h]
 ·simp [e]
def over (F G : Int → Option Value) (i : Int) : Option Value := match F i with | some v => some v | none => G i
theorem overL_end {F G : Int → Option Value} {left : Int → Bool} (h : ∀ i, left i = false) : overL F G left = over F G := by
 funext i
 unfold overL over
 rw [h]
 cases F i <;> rfl
/-- The share of a stripe. -/
def stF (F : Int → Option Value) (s : Nat) (i : Int) : Option Value := if i % 4 = s then F i else none
theorem stF_set_here {H : Int → Option Value} {s : Nat} {x : Int} {v : Value} (hx : x % 4 = s) (i : Int) : setAt (stF H s) x v i = stF (setAt H x v) s i := by
 unfold setAt stF
 by_cases e : i = x
 ·subst e; simp [hx]
 ·simp [e]
theorem stF_set_else {H : Int → Option Value} {s : Nat} {x : Int} {v : Value} (hx : x % 4 ≠ s) (i : Int) : stF H s i = stF (setAt H x v) s i := by
 unfold setAt stF
 by_cases e : i = x
 ·subst e; simp [hx]
 ·simp [e]
end
end Go.Proofs.YtjccnjfdeedneaaGreat
/- A ledger: whole numbers, who is dead. -/
namespace Go.Proofs.YtjccnjfdeedneaaGreat
open Go Go.RowKit Go.Lib
set_option linter.unusedVariables false

theorem whole_of {n : Int} (h0 : 0 ≤ n) (h1 : n ≤ 1000000) : Whole n := ⟨h0, by omega⟩
/-- The bits of a word's death against those of now. -/
theorem dd_leq {dead : List Int} {td : Int → Int} {now no : Int} (h0 : 0 ≤ now) (h1 : now ≤ 1000000) (ht : 0 ≤ td no ∧ td no ≤ now) :
  (FloatKind.f64.format.order (ddB dead td no) (floatOfInt .f64 now) == some .lt || FloatKind.f64.format.order (ddB dead td no) (floatOfInt .f64 now) == some .eq) = isDeadB dead no := by
 unfold ddB
 cases h : isDeadB dead no with
 | true =>
  rw [if_pos rfl, leq_of (whole_of ht.1 (by omega)) (whole_of h0 h1), decide_eq_true ht.2]
 | false =>
  rw [if_neg (by simp), leq_inf (whole_of h0 h1)]
end Go.Proofs.YtjccnjfdeedneaaGreat
/- A ledger: a word comes to be one of the dead. -/
namespace Go.Proofs.YtjccnjfdeedneaaGreat
open Go Go.RowKit Go.Lib
set_option linter.unusedVariables false

theorem region_tail {P : Program} {id : Nat} {Q : Exit → Act → World → Prop} {a : Act} {w : World} {l : List Oper} (n : Nat) (hm : P.follows .mixedOrders = true) (hB : Region.lexTailB .any l.toArray n = true)
  (h : wpStill P l.toArray w.drew (fun a' => wpList P l.toArray Q (l.drop n) a' w.drew) (l.take n) a) : (Code.region id l.toArray true).wp P Q a w := wp_region_still_tail n hm hB h
def KillKept (B lb mw mk : Nat) (g : Gr) (w : World) (e : Ending) (w' : World) : Prop := e = .returned (.tuple #[]) ∧ LedAt w' B lb mw mk g ∧ Kept w.heap.size lb mw mk w w'
def KillOut (B lb mw mk : Nat) (g : Gr) (w : World) (e : Ending) (w' : World) : Prop := e = .returned (.tuple #[]) ∧ LedAt w' B lb mw mk g ∧ Below B w w'
set_option maxRecDepth 100000 in
set_option maxHeartbeats 1000000 in
theorem kill_kept (lb mw mk B : Nat) (g : Gr) (no : Int) (x : Wd) (w : World) (hl : LedAt w B lb mw mk g) (hx : findW g.words no = some x) (hwf : (Lit.int .i64 no).wf = true) (h0 : 0 ≤ g.now) (hlen : g.words.length ≤ 1000000) :
  Calls Tryz.prog 168 #[.pointer (some ⟨lb, 0, none⟩), .int .i64 no] w (KillKept B lb mw mk (killG g no) w) := by
 obtain ⟨td, htd, hr, hm, hk, hd⟩ := hl
 obtain ⟨dd, hdd⟩ : ∃ dd, dd = ddB g.dead td no := ⟨_, rfl⟩
 have hlk : (Instr.lookup 117 (.map (some mw)) (.int .i64 no) false).run Tryz.prog w = .ok (.agg #[.int .i64 x.client, .string x.shade, .float .f64 (floatOfInt .f64 x.till), .bool x.used, .float .f64 dd]) w := by
  have h := hm.look Tryz.underlying2 Tryz.underlying117 (hwZ_zero _) hwf
  rw [show (wdF g.words g.dead td no).getD hwZ = hwV x (ddB g.dead td no) by simp [wdF, hx], ← hdd] at h
  exact h
 have hlb := hr.lt
 have hmw := hm.lt
 have hmk := hk.lt
 have c0 := hr.cell 0
 have c1 := hr.cell 1
 have hb1 := (Below.refl w.heap.size w).alloc (Nat.le_refl _) (.cells #[.int .i64 x.client, .string x.shade, .float .f64 (floatOfInt .f64 x.till), .bool x.used, .float .f64 dd] 207)
 have d0 : (w.alloc (.cells #[.int .i64 x.client, .string x.shade, .float .f64 (floatOfInt .f64 x.till), .bool x.used, .float .f64 dd] 207)).cell? ⟨lb, 0, none⟩ = some (.float .f64 (floatOfInt .f64 g.now)) := (hb1.cell (p := ⟨lb, 0, none⟩) hlb).trans c0
 have hb2 := (Below.refl w.heap.size w).alloc (Nat.le_refl _) (.cells #[.int .i64 x.client, .string x.shade, .float .f64 (floatOfInt .f64 x.till), .bool x.used, .float .f64 (floatOfInt .f64 g.now)] 207)
 have e1 : (w.alloc (.cells #[.int .i64 x.client, .string x.shade, .float .f64 (floatOfInt .f64 x.till), .bool x.used, .float .f64 (floatOfInt .f64 g.now)] 207)).cell? ⟨lb, 1, none⟩ = some (.map (some mw)) := (hb2.cell (p := ⟨lb, 1, none⟩) hlb).trans c1
 have hsf := run_store_float
 have HR := Lib.hid (hr.below hb2 hlb)
 have HM := Lib.hid (hm.later hb2)
 have HK := Lib.hid (hk.later hb2)
 have HX := Lib.hid hx
 have HD := Lib.hid hd
 have HT := Lib.hid htd
 have HB := Lib.hid (Kept.of_below (lb := lb) (mw := mw) (mk := mk) ((Below.refl w.heap.size w).alloc (Nat.le_refl _) (.cells #[.int .i64 x.client, .string x.shade, .float .f64 (floatOfInt .f64 x.till), .bool x.used, .float .f64 (floatOfInt .f64 g.now)] 207)))
 have HW := Lib.hid hwf
 clear hr hm hk hx hd htd hb1 hb2 hdd hwf
 go_enter Tryz.func168, Tryz.ntmps168
 go_wp2_with fail
 clear hlk c0 d0
 refine region_tail 6 (by kernel_rfl) (by kernel_rfl) ?_
 simp only [List.take_succ_cons, List.take_zero, List.drop_succ_cons, List.drop_zero]
 repeat still_step
 refine wpStill_nil ?_
 refine wpList_put_I rfl (.tmp 19) (.tmp 20) (.tmp 21) 117 rfl Tryz.underlying117 Tryz.underlying2 rfl HM.out (by unfold maxLen; omega) no rfl HW.out (hwV x (floatOfInt .f64 g.now)) rfl ?_
 intro w3 hm3 hg3'
 have hg3 : (w.alloc (.cells #[.int .i64 x.client, .string x.shade, .float .f64 (floatOfInt .f64 x.till), .bool x.used, .float .f64 (floatOfInt .f64 g.now)] 207)).grownBy w3 (some mw) := ⟨hg3'.os, hg3'.tape, hg3'.output, hg3'.size, hg3'.block⟩
 have hne1 : some lb ≠ some mw := fun e => HD.out.2.2.2.1 (Option.some.inj e)
 have hne2 : some mk ≠ some mw := fun e => HD.out.2.2.2.2.2 (Option.some.inj e).symm
 have HL := Lib.hid (LedAt.killed HT.out h0 HX.out (HR.out.grownI hg3 hne1) hm3 (HK.out.grown hg3 hne2) HD.out)
 have HB3 := Lib.hid (HB.out.grown hg3 (by simp) (.inr (.inl rfl)))
 clear hm3 hg3 hg3'
 go_wp2_with fail
 go_returns
 exact ⟨rfl, HL.out, HB3.out⟩
theorem kill_any (lb mw mk B : Nat) (g : Gr) (no : Int) (x : Wd) (w : World) (hl : LedAt w B lb mw mk g) (hx : findW g.words no = some x) (hwf : (Lit.int .i64 no).wf = true) (h0 : 0 ≤ g.now) (hlen : g.words.length ≤ 1000000) :
  Calls Tryz.prog 168 #[.pointer (some ⟨lb, 0, none⟩), .int .i64 no] w (KillOut B lb mw mk (killG g no) w) := by
 have hz : lb < w.heap.size := by obtain ⟨td, htd, hr, _⟩ := hl; exact hr.lt
 have hp : B ≤ lb ∧ B ≤ mw ∧ B ≤ mk := by obtain ⟨td, htd, hr, hw, hk, hd⟩ := hl; omega
 refine (kill_kept lb mw mk B g no x w hl hx hwf h0 hlen).mono ?_
 rintro e w' ⟨rfl, h1, h2⟩
 exact ⟨rfl, h1, h2.below (by omega) hp.1 hp.2.1 hp.2.2⟩
end Go.Proofs.YtjccnjfdeedneaaGreat
/- The ledger of a right grant. -/
namespace Go.Proofs.YtjccnjfdeedneaaGreat
open Go Go.RowKit Go.Lib
set_option linter.unusedVariables false

theorem timeOf_at {n : Int} {w : World} (h : isB n 0 1000000 = true) : Calls Tryz.prog 161 #[.int .i64 n] w fun e w' => e = .returned (.float .f64 (floatOfInt .f64 n)) ∧ w' = w :=
 (timeOf_any n w).mono fun _ _ ⟨h1, h2⟩ => ⟨by rw [h1, tmB_yes h], h2.symm⟩
theorem never_at {w : World} : Calls Tryz.prog 167 #[] w fun e w' => e = .returned (.float .f64 infB) ∧ w' = w := (never_any w).mono fun _ _ h => ⟨h.1, h.2.symm⟩
def LR (now : Int) (mw mk : Nat) : List Value := [.float .f64 (floatOfInt .f64 now), .map (some mw), .map (some mk)]
def L1 (now : Int) (ws : List Wd) (lb mw mk : Nat) (W : World) (i : Value) (wr : World) : Prop := ∃ k : Nat, k ≤ ws.length ∧ i = .int .i64 k ∧ Row wr lb 210 (LR now mw mk) ∧ IMap Tryz.prog 2 wr mw k (wdF (ws.take k) [] fun _ => 0) ∧ IMap Tryz.prog 2 wr mk 0 (fun _ => none) ∧ Below mw W wr
def L2 (now : Int) (ws : List Wd) (ks : List Ky) (lb mw mk : Nat) (W : World) (i : Value) (wr : World) : Prop := ∃ k : Nat, k ≤ ks.length ∧ i = .int .i64 k ∧ Row wr lb 210 (LR now mw mk) ∧ IMap Tryz.prog 2 wr mw ws.length (wdF ws [] fun _ => 0) ∧ IMap Tryz.prog 2 wr mk k (kyF (ks.take k)) ∧ Below mw W wr
def L3 (now : Int) (ws : List Wd) (ks : List Ky) (ds : List Int) (lb mw mk : Nat) (W : World) (i : Value) (wr : World) : Prop := ∃ k : Nat, k ≤ ds.length ∧ i = .int .i64 k ∧ LedAt wr mw lb mw mk ⟨now, ws, ks, ds.take k⟩ ∧ Below mw W wr
def LedOut (g : Gr) (w : World) (e : Ending) (w' : World) : Prop := ∃ B lb mw mk, e = .returned (.pointer (some ⟨lb, 0, none⟩)) ∧ w.heap.size ≤ B ∧ LedAt w' B lb mw mk g ∧ Below w.heap.size w w'
theorem drew_grown {w w' : World} {r : Option Nat} (h : w.drew.grownBy w' r) : w.grownBy w' r := ⟨h.os, h.tape, h.output, h.size, h.block⟩

theorem newLedger_any (now : Nat) (w : World) : Calls Tryz.prog 166 #[.float .f64 now] w fun e w' => e = .returned (.pointer (some ⟨w.heap.size + 2, 0, none⟩)) ∧ w' = ((w.alloc (.map #[] 0)).alloc (.map #[] 0)).alloc (.cells #[.float .f64 now, .map (some w.heap.size), .map (some (w.heap.size + 1))] 210) := by
 have hm1 := fun h w => run_makeMap_hintI (P := Tryz.prog) Tryz.underlying117 .i64 h w
 have hm2 := fun h w => run_makeMap_hintI (P := Tryz.prog) Tryz.underlying118 .i64 h w
 go_enter Tryz.func166, Tryz.ntmps166
 go_wp2_with fail
 go_ret
 exact ⟨by simp, by simp⟩
set_option maxRecDepth 100000 in
set_option maxHeartbeats 4000000 in
theorem ledgerOf_any (g : Gr) (h : GH) (w : World) (hin : GrIn w h g) (hg : grantB g = true) : Calls Tryz.prog 114 #[grV g.now h] w (LedOut g w) := by
 have hd20 : g.dead.length ≤ 20 := by
  have hf := gr_facts hg
  have := deadOk_le hf.2.2.2.1 hf.2.2.2.2.2 (fun x hx => (deadOk_up hf.2.2.2.2.2 x hx).2)
  omega
 obtain ⟨wp, wn, wc, kp, kn, kc, dp, dn, dc⟩ := h
 obtain ⟨now, ws, ks, ds⟩ := g
 obtain ⟨⟨hn1, hn2, hn3⟩, hl1, hl2, hl3⟩ := hin
 obtain ⟨⟨n0, n1⟩, hw20, hk40, hws, hks, hds⟩ := gr_facts hg
 simp only at hn1 hn2 hn3 hl1 hl2 hl3 n0 n1 hw20 hk40 hws hks hds hd20 ⊢
 unfold grV
 simp only
 have b1 : wn ≤ 20 := by omega
 have b2 : kn ≤ 40 := by omega
 have b3 : dn ≤ 20 := by omega
 have HN1 := Lib.hid hn1
 have HN2 := Lib.hid hn2
 have HN3 := Lib.hid hn3
 have t0 : isB now 0 1000000 = true := isB_iff.2 ⟨n0, n1⟩
 have HWs := Lib.hid hws
 have HKs := Lib.hid hks
 have HDs := Lib.hid hds
 obtain ⟨W, hW⟩ : ∃ W, W = (((w.alloc (.cells #[.int .i64 now, .slice wp wn wc, .slice kp kn kc, .slice dp dn dc] 31)).alloc (.map #[] 0)).alloc (.map #[] 0)).alloc (.cells #[.float .f64 (floatOfInt .f64 now), .map (some (w.heap.size + 1)), .map (some (w.heap.size + 2))] 210) := ⟨_, rfl⟩
 have hb0 : Below w.heap.size w W := by rw [hW]; go_grown
 have r0 : Row W w.heap.size 31 [.int .i64 now, .slice wp wn wc, .slice kp kn kc, .slice dp dn dc] := by
  rw [hW]
  exact Row.below (heap_alloc_new w _) ((((Below.refl _ _).alloc (Nat.le_refl _) _).alloc (by simp) _).alloc (by simp) _) (by simp)
 have m1 : IMap Tryz.prog 2 W (w.heap.size + 1) 0 (fun _ => none) := by
  rw [hW]
  have h := IMap.made (w.alloc (.cells #[.int .i64 now, .slice wp wn wc, .slice kp kn kc, .slice dp dn dc] 31)) Tryz.prog 2
  rw [World.size_alloc] at h
  exact (h.alloc _).alloc _
 have m2 : IMap Tryz.prog 2 W (w.heap.size + 2) 0 (fun _ => none) := by
  rw [hW]
  have h := IMap.made ((w.alloc (.cells #[.int .i64 now, .slice wp wn wc, .slice kp kn kc, .slice dp dn dc] 31)).alloc (.map #[] 0)) Tryz.prog 2
  rw [World.size_alloc, World.size_alloc] at h
  exact h.alloc _
 have r3 : Row W (w.heap.size + 3) 210 (LR now (w.heap.size + 1) (w.heap.size + 2)) := by
  rw [hW]
  have h := heap_alloc_new (((w.alloc (.cells #[.int .i64 now, .slice wp wn wc, .slice kp kn kc, .slice dp dn dc] 31)).alloc (.map #[] 0)).alloc (.map #[] 0)) (.cells #[.float .f64 (floatOfInt .f64 now), .map (some (w.heap.size + 1)), .map (some (w.heap.size + 2))] 210)
  rw [World.size_alloc, World.size_alloc, World.size_alloc] at h
  exact h
 obtain ⟨s, hs⟩ : ∃ s, s = w.heap.size := ⟨_, rfl⟩
 rw [← hs] at hW r0 m1 m2 r3 hb0
 have HW := Lib.hid hW
 have HB := Lib.hid hb0
 have R0 := Lib.hid r0
 have M1 := Lib.hid m1
 have M2 := Lib.hid m2
 have R3 := Lib.hid r3
 have HSz := Lib.hid hs
 have hsz : w.heap.size ≤ s := by omega
 have hl3W := r3.lt
 have HL1 := Lib.hid hl1
 have HL2 := Lib.hid hl2
 have HL3 := Lib.hid hl3
 have g1 : W.cell? ⟨s, 1, none⟩ = some (.slice wp wn wc) := r0.cell 1
 have HNL := Lib.hid (show Calls Tryz.prog 166 #[.float .f64 (floatOfInt .f64 now)] (w.alloc (.cells #[.int .i64 now, .slice wp wn wc, .slice kp kn kc, .slice dp dn dc] 31)) fun e w' => e = .returned (.pointer (some ⟨s + 3, 0, none⟩)) ∧ w' = W from (newLedger_any _ _).mono (by
  rintro e w' ⟨rfl, rfl⟩
  exact ⟨by simp [hs], by rw [hW]; simp [hs]⟩))
 clear hn1 hn2 hn3 hl1 hl2 hl3 hw20 hk40 hws hks hds hd20 hg hb0 r0 m1 m2 r3 hW
 go_enter Tryz.func114, Tryz.ntmps114
 go_wp2_with fail
 refine (timeOf_at t0).mono ?_
 rintro e w' ⟨rfl, rfl⟩
 go_wp2_with fail
 refine HNL.out.mono ?_
 rintro e w' ⟨rfl, hw'⟩
 rw [hw', ← hs]
 clear hs hw' w'
 go_wp2_with fail
 go_loopw [17] (L1 now ws (s + 3) (s + 1) (s + 2) W) (fun i _ => wn - (RowKit.intOf i).toNat)
 case atStart => exact ⟨0, by omega, rfl, R3.out, M1.out.same (fun i => by simp [wdF, findW]), M2.out, Below.refl _ _⟩
 case round =>
  obtain ⟨k, hk, rfl, hr, hm, hmk, hbel⟩ := hrel
  rw [← HN1.out] at hk
  have HBl := Lib.hid hbel
  have hzr := hbel.size
  have hlr := hr.lt
  have HRr := Lib.hid hr
  have HM := Lib.hid hm
  have HK := Lib.hid hmk
  have hgl : s < wr.heap.size := by omega
  clear hr hm hmk hbel
  by_cases hlt : k < wn
  ·obtain ⟨x, hx⟩ : ∃ x, ws[k]? = some x := ⟨_, List.getElem?_eq_getElem (by rw [← HN1.out]; exact hlt)⟩
   obtain ⟨⟨f1, f2, f3, f4, f5, f6⟩, f7⟩ := wordsOk_get HWs.out hx
   obtain ⟨b, o, rfl, hat⟩ := HL1.out.some hx
   obtain ⟨a0, a1, a2, a3, a4⟩ := wd_cells hat hx
   have hbw : b < w.heap.size := World.block_lt_of_cell? w _ a0
   have hbs : b < s + 1 := by omega
   have c0 := (HBl.out.cell (p := ⟨b, o + k * 5, none⟩) hbs).trans ((HB.out.cell (p := ⟨b, o + k * 5, none⟩) (by rw [HSz.out]; exact hbw)).trans a0)
   have c1 := (HBl.out.cell (p := ⟨b, o + k * 5 + 1, none⟩) hbs).trans ((HB.out.cell (p := ⟨b, o + k * 5 + 1, none⟩) (by rw [HSz.out]; exact hbw)).trans a1)
   have c2 := (HBl.out.cell (p := ⟨b, o + k * 5 + 2, none⟩) hbs).trans ((HB.out.cell (p := ⟨b, o + k * 5 + 2, none⟩) (by rw [HSz.out]; exact hbw)).trans a2)
   have c3 := (HBl.out.cell (p := ⟨b, o + k * 5 + 3, none⟩) hbs).trans ((HB.out.cell (p := ⟨b, o + k * 5 + 3, none⟩) (by rw [HSz.out]; exact hbw)).trans a3)
   have c4 := (HBl.out.cell (p := ⟨b, o + k * 5 + 4, none⟩) hbs).trans ((HB.out.cell (p := ⟨b, o + k * 5 + 4, none⟩) (by rw [HSz.out]; exact hbw)).trans a4)
   have ht : isB x.till 0 1000000 = true := isB_iff.2 ⟨f5, f6⟩
   have HWf := Lib.hid (wf_small (n := x.no) (by omega) (by omega))
   have HX := Lib.hid hx
   have HLt := Lib.hid f7
   clear a0 a1 a2 a3 a4 hx hat f7
   have hb1 := (Below.refl wr.heap.size wr).alloc (Nat.le_refl _) (.cells #[.int .i64 x.no, .int .i64 x.client, .string x.shade, .int .i64 x.till, .bool x.used] 163)
   have p1 : (wr.alloc (.cells #[.int .i64 x.no, .int .i64 x.client, .string x.shade, .int .i64 x.till, .bool x.used] 163)).cell? ⟨s + 3, 1, none⟩ = some (.map (some (s + 1))) := (hb1.cell (p := ⟨s + 3, 1, none⟩) hlr).trans (HRr.out.cell 1)
   have HRn := Lib.hid (HRr.out.below hb1 hlr)
   have HMn := Lib.hid (HM.out.later hb1)
   have HKn := Lib.hid (HK.out.later hb1)
   have HBn := Lib.hid (HBl.out.alloc (by omega) (.cells #[.int .i64 x.no, .int .i64 x.client, .string x.shade, .int .i64 x.till, .bool x.used] 163))
   clear hb1
   go_wp2_with fail
   refine region_tail 17 (by kernel_rfl) (by kernel_rfl) ?_
   simp only [List.take_succ_cons, List.take_zero, List.drop_succ_cons, List.drop_zero]
   repeat still_step
   still_call (timeOf_at ht)
   repeat still_step
   still_call never_at
   repeat still_step
   refine wpStill_nil ?_
   refine wpList_put_I rfl (.tmp 24) (.tmp 26) (.tmp 37) 117 rfl Tryz.underlying117 Tryz.underlying2 rfl HMn.out (by unfold maxLen; omega) x.no rfl HWf.out (hwV x infB) rfl ?_
   intro w3 hm3 hg3'
   have hg3 := drew_grown hg3'
   rw [grow_w HLt.out] at hm3
   have HM3 := Lib.hid (hm3.same (wdF_step HX.out HLt.out))
   have HR3 := Lib.hid (HRn.out.grownI hg3 (fun e => by have := Option.some.inj e; omega))
   have HK3 := Lib.hid (HKn.out.grown hg3 (fun e => by have := Option.some.inj e; omega))
   have HB3 := Lib.hid (HBn.out.grown hg3 (by simp; omega) (fun j hj => by cases hj; exact Nat.le_refl _))
   clear hm3 hg3 hg3'
   go_wp2_with fail
   go_roundw
   case rel => exact ⟨k + 1, by rw [← HN1.out]; omega, by go_num, HR3.out, HM3.out, HK3.out, HB3.out⟩
   case measure => simp [RowKit.intOf]; omega
  ·have hM : IMap Tryz.prog 2 wr (s + 1) ws.length (wdF ws [] fun _ => 0) := by
    have h := HM.out
    rw [List.take_of_length_le (by rw [← HN1.out]; omega)] at h
    have e : k = ws.length := by have := HN1.out; omega
    rw [e] at h
    exact h
   have HMa := Lib.hid hM
   have q2 : wr.cell? ⟨s, 2, none⟩ = some (.slice kp kn kc) := (HBl.out.cell (p := ⟨s, 2, none⟩) (by show s < s + 1; omega)).trans (R0.out.cell 2)
   clear hM
   go_wp2_with fail
   obtain ⟨wo, hwo⟩ : ∃ wo : World, wo = wr := ⟨_, rfl⟩
   rw [← hwo] at HBl hzr hlr HRr HK HMa ⊢
   clear HM hgl hlt hk hwo q2 g1
   go_loopw [42] (L2 now ws ks (s + 3) (s + 1) (s + 2) W) (fun i _ => kn - (RowKit.intOf i).toNat)
   case atStart => exact ⟨0, by omega, rfl, HRr.out, HMa.out, HK.out.same (fun i => by simp [kyF, findK]), HBl.out⟩
   case round =>
    clear HBl hzr hlr HRr HK HMa
    obtain ⟨k, hk, rfl, hr, hm, hmk, hbel⟩ := hrel
    rw [← HN2.out] at hk
    have HBl := Lib.hid hbel
    have hzr := hbel.size
    have hlr := hr.lt
    have HRr := Lib.hid hr
    have HM := Lib.hid hm
    have HK := Lib.hid hmk
    have hgl : s < wr.heap.size := by omega
    clear hr hm hmk hbel
    by_cases hlt : k < kn
    ·obtain ⟨x, hx⟩ : ∃ x, ks[k]? = some x := ⟨_, List.getElem?_eq_getElem (by rw [← HN2.out]; exact hlt)⟩
     obtain ⟨⟨f1, f2, f3, f4, f5, f6⟩, f7⟩ := keysOk_get HKs.out hx
     obtain ⟨b, o, rfl, hat⟩ := HL2.out.some hx
     obtain ⟨a0, a1, a2, a3, a4, a5⟩ := ky_cells hat hx
     have hbw : b < w.heap.size := World.block_lt_of_cell? w _ a0
     have hbs : b < s + 1 := by omega
     have c0 := (HBl.out.cell (p := ⟨b, o + k * 6, none⟩) hbs).trans ((HB.out.cell (p := ⟨b, o + k * 6, none⟩) (by rw [HSz.out]; exact hbw)).trans a0)
     have c1 := (HBl.out.cell (p := ⟨b, o + k * 6 + 1, none⟩) hbs).trans ((HB.out.cell (p := ⟨b, o + k * 6 + 1, none⟩) (by rw [HSz.out]; exact hbw)).trans a1)
     have c2 := (HBl.out.cell (p := ⟨b, o + k * 6 + 2, none⟩) hbs).trans ((HB.out.cell (p := ⟨b, o + k * 6 + 2, none⟩) (by rw [HSz.out]; exact hbw)).trans a2)
     have c3 := (HBl.out.cell (p := ⟨b, o + k * 6 + 3, none⟩) hbs).trans ((HB.out.cell (p := ⟨b, o + k * 6 + 3, none⟩) (by rw [HSz.out]; exact hbw)).trans a3)
     have c4 := (HBl.out.cell (p := ⟨b, o + k * 6 + 4, none⟩) hbs).trans ((HB.out.cell (p := ⟨b, o + k * 6 + 4, none⟩) (by rw [HSz.out]; exact hbw)).trans a4)
     have c5 := (HBl.out.cell (p := ⟨b, o + k * 6 + 5, none⟩) hbs).trans ((HB.out.cell (p := ⟨b, o + k * 6 + 5, none⟩) (by rw [HSz.out]; exact hbw)).trans a5)
     have ht : isB x.till 0 1000000 = true := isB_iff.2 f5
     have HWf := Lib.hid (wf_small (n := x.no) (by omega) (by omega))
     have HX := Lib.hid hx
     have HLt := Lib.hid f7
     clear a0 a1 a2 a3 a4 a5 hx hat f7
     have hb1 := (Below.refl wr.heap.size wr).alloc (Nat.le_refl _) (.cells #[.int .i64 x.no, .int .i64 x.client, .int .i64 x.fam, .bool x.refresh, .int .i64 x.till, .int .i64 x.state] 127)
     have p1 : (wr.alloc (.cells #[.int .i64 x.no, .int .i64 x.client, .int .i64 x.fam, .bool x.refresh, .int .i64 x.till, .int .i64 x.state] 127)).cell? ⟨s + 3, 2, none⟩ = some (.map (some (s + 2))) := (hb1.cell (p := ⟨s + 3, 2, none⟩) hlr).trans (HRr.out.cell 2)
     have HRn := Lib.hid (HRr.out.below hb1 hlr)
     have HMn := Lib.hid (HM.out.later hb1)
     have HKn := Lib.hid (HK.out.later hb1)
     have HBn := Lib.hid (HBl.out.alloc (by omega) (.cells #[.int .i64 x.no, .int .i64 x.client, .int .i64 x.fam, .bool x.refresh, .int .i64 x.till, .int .i64 x.state] 127))
     clear hb1
     go_wp2_with fail
     refine region_tail 18 (by kernel_rfl) (by kernel_rfl) ?_
     simp only [List.take_succ_cons, List.take_zero, List.drop_succ_cons, List.drop_zero]
     repeat still_step
     still_call (timeOf_at ht)
     repeat still_step
     refine wpStill_nil ?_
     refine wpList_put_I rfl (.tmp 49) (.tmp 51) (.tmp 63) 118 rfl Tryz.underlying118 Tryz.underlying2 rfl HKn.out (by unfold maxLen; omega) x.no rfl HWf.out (hkV x) rfl ?_
     intro w3 hm3 hg3'
     have hg3 := drew_grown hg3'
     rw [grow_k HLt.out] at hm3
     have HK3 := Lib.hid (hm3.same (kyF_step HX.out HLt.out))
     have HR3 := Lib.hid (HRn.out.grownI hg3 (fun e => by have := Option.some.inj e; omega))
     have HM3 := Lib.hid (HMn.out.grown hg3 (fun e => by have := Option.some.inj e; omega))
     have HB3 := Lib.hid (HBn.out.grown hg3 (by simp; omega) (fun j hj => by cases hj; omega))
     clear hm3 hg3 hg3'
     go_wp2_with fail
     go_roundw
     case rel => exact ⟨k + 1, by rw [← HN2.out]; omega, by go_num, HR3.out, HM3.out, HK3.out, HB3.out⟩
     case measure => simp [RowKit.intOf]; omega
    ·have hK : IMap Tryz.prog 2 wr (s + 2) ks.length (kyF ks) := by
      have h := HK.out
      rw [List.take_of_length_le (by rw [← HN2.out]; omega)] at h
      have e : k = ks.length := by have := HN2.out; omega
      rw [e] at h
      exact h
     have HLa : Hid (LedAt wr (s + 1) (s + 3) (s + 1) (s + 2) ⟨now, ws, ks, []⟩) := Lib.hid ⟨fun _ => 0, fun i => ⟨by simp, n0⟩, HRr.out, HM.out, hK, by omega, by omega, by omega, by omega, by omega, by omega⟩
     have q3 : wr.cell? ⟨s, 3, none⟩ = some (.slice dp dn dc) := (HBl.out.cell (p := ⟨s, 3, none⟩) (by show s < s + 1; omega)).trans (R0.out.cell 3)
     clear hK
     go_wp2_with fail
     obtain ⟨wo, hwo⟩ : ∃ wo : World, wo = wr := ⟨_, rfl⟩
     rw [← hwo] at HBl HLa ⊢
     clear HM HK HRr hgl hlt hk hwo q3 hzr hlr
     go_loopw [68] (L3 now ws ks ds (s + 3) (s + 1) (s + 2) W) (fun i _ => dn - (RowKit.intOf i).toNat)
     case atStart => exact ⟨0, by omega, rfl, HLa.out, HBl.out⟩
     case round =>
      clear HBl HLa
      obtain ⟨k, hk, rfl, hled, hbel⟩ := hrel
      rw [← HN3.out] at hk
      have HBl := Lib.hid hbel
      have HLd := Lib.hid hled
      have hzr := hbel.size
      clear hbel hled
      by_cases hlt : k < dn
      ·obtain ⟨x, hx⟩ : ∃ x, ds[k]? = some x := ⟨_, List.getElem?_eq_getElem (by rw [← HN3.out]; exact hlt)⟩
       obtain ⟨⟨f1, f2⟩, f3⟩ := deadOk_get HDs.out hx
       obtain ⟨y, hy, hyn⟩ := hasNo_find f2
       obtain ⟨j, hj, _⟩ := find_mem hy
       obtain ⟨⟨_, y9, _⟩, _⟩ := wordsOk_get HWs.out hj
       obtain ⟨b, o, rfl, hat⟩ := HL3.out.some hx
       have a0 := in_cells hat hx
       have hbw : b < w.heap.size := World.block_lt_of_cell? w _ a0
       have hbs : b < s + 1 := by omega
       have c0 : wr.cell? ⟨b, o + k, none⟩ = some (.int .i64 x) := (HBl.out.cell (p := ⟨b, o + k, none⟩) hbs).trans ((HB.out.cell (p := ⟨b, o + k, none⟩) (by rw [HSz.out]; exact hbw)).trans a0)
       have hwf := wf_small (n := x) (by omega) (by omega)
       have HWf := Lib.hid hwf
       have HY := Lib.hid hy
       have hins : insD (ds.take k) x = ds.take (k + 1) := by rw [insD_snoc f3, take_snoc hx]
       have HI := Lib.hid hins
       have hle : ws.length ≤ 1000000 := by have := HN1.out; omega
       clear hx hat a0 hy hj hyn f3 f2 hwf hins
       go_wp2_with fail
       refine (kill_any (s + 3) (s + 1) (s + 2) (s + 1) ⟨now, ws, ks, ds.take k⟩ x y _ HLd.out HY.out HWf.out n0 hle).mono ?_
       rintro e w3 ⟨rfl, hl3, hb3⟩
       have HB3 := Lib.hid (HBl.out.trans hb3)
       have HL4 : Hid (LedAt w3 (s + 1) (s + 3) (s + 1) (s + 2) ⟨now, ws, ks, ds.take (k + 1)⟩) := Lib.hid (by have h := hl3; unfold killG at h; simp only at h; rw [HI.out] at h; exact h)
       clear hl3 hb3
       go_wp2_with fail
       go_roundw
       case rel => exact ⟨k + 1, by rw [← HN3.out]; omega, by go_num, HL4.out, HB3.out⟩
       case measure => simp [RowKit.intOf]; omega
      ·have HLf : Hid (LedAt wr (s + 1) (s + 3) (s + 1) (s + 2) ⟨now, ws, ks, ds⟩) := Lib.hid (by
        have h := HLd.out
        rw [List.take_of_length_le (by rw [← HN3.out]; omega)] at h
        exact h)
       go_wp2_with fail
       go_ret
       exact ⟨s + 1, s + 3, s + 1, s + 2, rfl, by omega, HLf.out, (HSz.out ▸ HB.out).trans (HBl.out.mono (by omega))⟩
end Go.Proofs.YtjccnjfdeedneaaGreat
/- A ledger asked: who is dead, which key there is, whether it opens. -/
namespace Go.Proofs.YtjccnjfdeedneaaGreat
open Go Go.RowKit Go.Lib
set_option linter.unusedVariables false

theorem deadAt_any (c : Int) (s : ByteArray) (t dd now : Nat) (u b : Bool) (hb : (FloatKind.f64.format.order dd now == some .lt || FloatKind.f64.format.order dd now == some .eq) = b) (w : World) :
  Calls Tryz.prog 201 #[.agg #[.int .i64 c, .string s, .float .f64 t, .bool u, .float .f64 dd], .float .f64 now] w (Ret (.bool b) w) := by
 cases b with
 | true =>
  go_enter Tryz.func201, Tryz.ntmps201
  go_wp2_with fail
  go_ret
  exact ⟨rfl, by go_grown⟩
 | false =>
  go_enter Tryz.func201, Tryz.ntmps201
  go_wp2_with fail
  go_ret
  exact ⟨rfl, by go_grown⟩
theorem isDead_any (lb mw mk B : Nat) (g : Gr) (no : Int) (x : Wd) (w : World) (hl : LedAt w B lb mw mk g) (hx : findW g.words no = some x) (hwf : (Lit.int .i64 no).wf = true) (h0 : 0 ≤ g.now) (h1 : g.now ≤ 1000000) :
  Calls Tryz.prog 174 #[.pointer (some ⟨lb, 0, none⟩), .int .i64 no] w (Ret (.bool (isDeadB g.dead no)) w) := by
 obtain ⟨td, htd, hr, hm, _⟩ := hl
 have hcmp := dd_leq (dead := g.dead) h0 h1 (htd no)
 obtain ⟨dd, hdd⟩ : ∃ dd, dd = ddB g.dead td no := ⟨_, rfl⟩
 rw [← hdd] at hcmp
 have hlk : ∀ u : Ext w, (Instr.lookup 117 (.map (some mw)) (.int .i64 no) false).run Tryz.prog u.w = .ok (.agg #[.int .i64 x.client, .string x.shade, .float .f64 (floatOfInt .f64 x.till), .bool x.used, .float .f64 dd]) u.w := fun u => by
  have h := (hm.later u.below).look Tryz.underlying2 Tryz.underlying117 (hwZ_zero _) hwf
  rw [show (wdF g.words g.dead td no).getD hwZ = hwV x (ddB g.dead td no) by simp [wdF, hx], ← hdd] at h
  exact h
 have c0 : ∀ u : Ext w, u.w.cell? ⟨lb, 0, none⟩ = some (.float .f64 (floatOfInt .f64 g.now)) := fun u => u.cell (hr.cell 0)
 have c1 : ∀ u : Ext w, u.w.cell? ⟨lb, 1, none⟩ = some (.map (some mw)) := fun u => u.cell (hr.cell 1)
 have HC := Lib.hid hcmp
 clear hr hm htd hdd hcmp
 go_enter Tryz.func174, Tryz.ntmps174
 go_wp2_with fail
 refine ext_region w (by kernel_rfl) (by kernel_rfl) (Below.refl _ _) ?_
 repeat (go_big_quiet_step ((go_at_call 201; exact calls_ext (deadAt_any _ _ _ _ _ _ _ HC.out _))))
 refine wpQuiet_nil ?_
 intro w2 hb2
 have HB2 := Lib.hid hb2
 clear hb2
 go_wp2_with fail
 go_ret
 exact ⟨rfl, HB2.out⟩
theorem isDead_at {lb mw mk B : Nat} {g : Gr} {no : Int} {x : Wd} {w : World} {b : Bool} (hl : LedAt w B lb mw mk g) (hx : findW g.words no = some x) (hwf : (Lit.int .i64 no).wf = true) (h0 : 0 ≤ g.now) (h1 : g.now ≤ 1000000) (hd : isDeadB g.dead no = b) :
  Calls Tryz.prog 174 #[.pointer (some ⟨lb, 0, none⟩), .int .i64 no] w (Ret (.bool b) w) := by
 subst hd
 exact isDead_any lb mw mk B g no x w hl hx hwf h0 h1

/-- The key of that number and client. -/
def keyFor (ks : List Ky) (no client : Int) : Option Ky := match findK ks no with
 | none => none
 | some x => if x.client == client then some x else none
def keyForV (o : Option Ky) : Value := match o with
 | none => .tuple #[hkZ, .bool false]
 | some x => .tuple #[hkV x, .bool true]
set_option maxHeartbeats 1000000 in
theorem keyIn_any (mk n : Nat) (ks : List Ky) (no client : Int) (w : World) (hk : IMap Tryz.prog 2 w mk n (kyF ks)) (hwf : (Lit.int .i64 no).wf = true) :
  Calls Tryz.prog 224 #[.map (some mk), .int .i64 no, .int .i64 client] w (Ret (keyForV (keyFor ks no client)) w) := by
 have HK := Lib.hid hk
 have hsf := run_store_float
 clear hk
 cases hf : findK ks no with
 | none =>
  have HV : Hid (keyForV (keyFor ks no client) = .tuple #[.agg #[.int .i64 0, .int .i64 0, .bool false, .float .f64 0, .int .i64 0], .bool false]) := Lib.hid (by simp [keyFor, keyForV, hf, hkZ])
  have hlk : (Instr.lookup 118 (.map (some mk)) (.int .i64 no) true).run Tryz.prog (w.alloc (.cells #[.int .i64 0, .int .i64 0, .bool false, .float .f64 0, .int .i64 0] 245)) = .ok (.tuple #[.agg #[.int .i64 0, .int .i64 0, .bool false, .float .f64 0, .int .i64 0], .bool false]) (w.alloc (.cells #[.int .i64 0, .int .i64 0, .bool false, .float .f64 0, .int .i64 0] 245)) := by
   have h := (HK.out.alloc (.cells #[.int .i64 0, .int .i64 0, .bool false, .float .f64 0, .int .i64 0] 245)).look_ok Tryz.underlying2 Tryz.underlying118 (hkZ_zero _) hwf
   rw [show kyF ks no = none by simp [kyF, hf]] at h
   exact h
  rw [HV.out]
  clear hf
  go_enter Tryz.func224, Tryz.ntmps224
  go_wp2_with fail
  go_returns
  exact ⟨rfl, by go_grown⟩
 | some x =>
  have hlk : (Instr.lookup 118 (.map (some mk)) (.int .i64 no) true).run Tryz.prog (w.alloc (.cells #[.int .i64 0, .int .i64 0, .bool false, .float .f64 0, .int .i64 0] 245)) = .ok (.tuple #[.agg #[.int .i64 x.client, .int .i64 x.fam, .bool x.refresh, .float .f64 (floatOfInt .f64 x.till), .int .i64 x.state], .bool true]) (w.alloc (.cells #[.int .i64 0, .int .i64 0, .bool false, .float .f64 0, .int .i64 0] 245)) := by
   have h := (HK.out.alloc (.cells #[.int .i64 0, .int .i64 0, .bool false, .float .f64 0, .int .i64 0] 245)).look_ok Tryz.underlying2 Tryz.underlying118 (hkZ_zero _) hwf
   rw [show kyF ks no = some (hkV x) by simp [kyF, hf]] at h
   exact h
  by_cases hc : x.client = client
  ·have HV : Hid (keyForV (keyFor ks no client) = .tuple #[.agg #[.int .i64 x.client, .int .i64 x.fam, .bool x.refresh, .float .f64 (floatOfInt .f64 x.till), .int .i64 x.state], .bool true]) := Lib.hid (by simp [keyFor, keyForV, hf, hkV, hc])
   have e1 : (x.client != client) = false := by simp [hc]
   rw [HV.out]
   clear hf hc
   go_enter Tryz.func224, Tryz.ntmps224
   go_wp2_with fail
   go_returns
   exact ⟨rfl, by go_grown⟩
  ·have HV : Hid (keyForV (keyFor ks no client) = .tuple #[.agg #[.int .i64 0, .int .i64 0, .bool false, .float .f64 0, .int .i64 0], .bool false]) := Lib.hid (by simp [keyFor, keyForV, hf, hkZ, hc])
   have e1 : (x.client != client) = true := by simpa using hc
   rw [HV.out]
   clear hf hc
   go_enter Tryz.func224, Tryz.ntmps224
   go_wp2_with fail
   go_returns
   exact ⟨rfl, by go_grown⟩
theorem keyForV_shape (o : Option Ky) : ∃ c f b t s ok, keyForV o = .tuple #[.agg #[.int .i64 c, .int .i64 f, .bool b, .float .f64 t, .int .i64 s], .bool ok] := by
 cases o with
 | none => exact ⟨_, _, _, _, _, _, rfl⟩
 | some x => exact ⟨_, _, _, _, _, _, rfl⟩
theorem results_cell_tmp {P : Program} {fn : Func} {p q : Tmp} {ty : TypeId} (h : fn.results = #[.cell p ty, .tmp q]) (tmps : Array Value) (w : World) (g : Nat) (t : TypeId) (cs : Array Value) (fr : Nat × Nat) (d : TypeDesc)
  (hp : tmps.getD p undef = .pointer (some ⟨g, 0, none⟩)) (hg : w.heap[g]? = some (.cells cs t fr)) (hu : P.underlying ty = some d) (hd : (match d with | .struct _ | .array _ _ => true | _ => false) = true) (hi : (P.info? ty).map (·.size) = some cs.size) :
  (results fn tmps).run P w = .ok (.tuple #[.agg cs, tmps.getD q undef]) w := by
 have hp' : tmps[p]?.getD undef = .pointer (some ⟨g, 0, none⟩) := by simpa using hp
 simp [results, h, hp', asAddr, run_loadVar_row w g t ty cs fr d hg hu hd hi]
theorem sizeHk : (Tryz.prog.info? 245).map (·.size) = some 5 := by kernel_rfl
theorem results_key {fn : Func} {p q : Tmp} (h : fn.results = #[.cell p 245, .tmp q]) {tmps : Array Value} {w : World} {g : Nat} {c f s : Int} {b : Bool} {t : Nat} (hp : tmps.getD p undef = .pointer (some ⟨g, 0, none⟩))
  (hr : Row w g 245 [.int .i64 c, .int .i64 f, .bool b, .float .f64 t, .int .i64 s]) :
  (results fn tmps).run Tryz.prog w = .ok (.tuple #[.agg #[.int .i64 c, .int .i64 f, .bool b, .float .f64 t, .int .i64 s], tmps.getD q undef]) w := by
 have hu := Tryz.underlying245
 exact results_cell_tmp h tmps w g 245 #[.int .i64 c, .int .i64 f, .bool b, .float .f64 t, .int .i64 s] (0, 0) _ hp hr hu rfl sizeHk
theorem till_ways (now : Int) (dead : List Int) (x : Ky) : (x.state ≠ 0 ∧ keyOpenB now dead x = false) ∨ (x.state = 0 ∧ x.till < now ∧ keyOpenB now dead x = false) ∨ (x.state = 0 ∧ now ≤ x.till ∧ isDeadB dead x.fam = true ∧ keyOpenB now dead x = false) ∨ (x.state = 0 ∧ now ≤ x.till ∧ isDeadB dead x.fam = false ∧ keyOpenB now dead x = true) := by
 unfold keyOpenB
 by_cases h1 : x.state = 0
 ·right
  by_cases h2 : now ≤ x.till
  ·cases h3 : isDeadB dead x.fam <;> simp [h1, h2]
  ·left; exact ⟨h1, by omega, by rw [decide_eq_false h2]; simp⟩
 ·left; exact ⟨h1, by simp [h1]⟩
end Go.Proofs.YtjccnjfdeedneaaGreat
