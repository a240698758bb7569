/- A grant out of its ledger: the walk. -/
import Derived.Test.YtjccnjfdeedneaaGreatSGdE
import Derived.Test.YtjccnjfdeedneaaGreatSGdA
import Derived.Deep.DeepCutAuto
import Derived.Deep.RegionWith
import Derived.Deep.RegionLaw
import Derived.Test.YtjccnjfdeedneaaGreatSGdB
import Derived.Test.YtjccnjfdeedneaaGreatSSpA
namespace Go.Proofs.YtjccnjfdeedneaaGreat
open Go Go.RowKit Go.Lib
set_option linter.unusedVariables false
set_option maxRecDepth 100000

section
variable {P : Program} {ops : Array Oper} {rest : List Oper} {o : Oper} {a : Act} {Q : Exit → Act → World → Prop}
/-- 'l = append(l, x)', x one item that the call has just laid. -/
theorem wpList_appo {w0 : World} (hgd : o.guard = none) (s x : Operand) (t E : TypeId) (ho : o.op = .call { callee := .builtin .append, args := #[s, x], argTypes := #[t, t] })
  (i : TypeInfo) (z : Value) (K by_ : Nat) (ht : P.underlying t = some (.slice E)) (hi : P.info? E = some i) (hz : i.zero = some z) (hsize : i.size = K) (hby : i.bytes = by_) (hzs : z.cells.size = K) (hK : 0 < K) (hb32 : by_ ≤ 64)
  (base : Nat) (hbase : base ≤ w0.heap.size) (v : Value) (n : Nat) (xs vs : List Value) (hs : a.eval s = v) (hown : w0.ownsRow base E K v n xs) (A : Array Value) (hA : A = vs.toArray) (hx : a.eval x = .slice (some ⟨w0.heap.size, 0, none⟩) 1 1) (hvs : vs.length = K) (h1 : ∀ u ∈ vs, u.oneCell' = true) (hlen : n ≤ 1048576)
  (h : ∀ v' w', w'.ownsRow base E K v' (n + 1) (xs ++ vs) → (w0.alloc (.cells A E)).grownBy w' v.ownBlock → wpList P ops Q rest (a.put o.dst v') w') : wpList P ops Q (o :: rest) a (w0.alloc (.cells A E)) := by
 subst hA
 have hR : Row (w0.alloc (.cells vs.toArray E)) w0.heap.size E vs := heap_alloc_new w0 _
 have hm : (n + 1) * by_ ≤ 140737488355328 := by
  have := Nat.mul_le_mul_left (n + 1) hb32
  omega
 exact wpList_append_own _ hgd s x t ho base E i z K by_ ht hi hz hsize hby hzs hK v n xs hs (hown.alloc _) ⟨w0.heap.size, 0, none⟩ 1 1 vs hx (by rw [Nat.one_mul]; exact hvs)
  (fun j u hj => by rw [Addr.add_mid, Nat.zero_add, hR.cell]; exact hj) h1 (by unfold maxLen; omega) hm (Nat.le_trans hbase (by simp)) fun v' w' h2 h3 h4 => h v' w' h2 h3
/-- A call as one step of a region that draws its order. -/
theorem step_callTo {w : World} {KK : Act → World → Prop} {F : Prop} (hgd : o.guard = none) (f : FuncId) (args : Array Value) (hrun : (execOp a.eval o).run P w = .ok (.enter f args) w) (v : Value) (R : World → Prop)
  (hc : Calls P f args w fun e w' => e = .returned v ∧ R w') (h : ∀ w', R w' → KK (a.put o.dst v) w') : if Region.wanted o (yielded ops a.tmps) = true then Oper.wp P o a w KK Q else F := by
 have hw : Region.wanted o (yielded ops a.tmps) = true := by simp [Region.wanted, hgd]
 rw [if_pos hw]
 unfold Oper.wp
 rw [hrun, Oper.upon_enter]
 refine hc.mono fun e w'' hh => ?_
 obtain ⟨rfl, hr⟩ := hh
 exact h _ hr
/-- An append as one step of a region that draws its order. -/
theorem step_appo {w : World} {KK : Act → World → Prop} {F : Prop} (hgd : o.guard = none) (s x : Operand) (t E : TypeId) (ho : o.op = .call { callee := .builtin .append, args := #[s, x], argTypes := #[t, t] })
  (i : TypeInfo) (z : Value) (K by_ : Nat) (ht : P.underlying t = some (.slice E)) (hi : P.info? E = some i) (hz : i.zero = some z) (hsize : i.size = K) (hby : i.bytes = by_) (hzs : z.cells.size = K) (hK : 0 < K) (hb32 : by_ ≤ 64)
  (base : Nat) (hbase : base ≤ w.heap.size) (v : Value) (n : Nat) (xs vs : List Value) (hs : a.eval s = v) (hown : w.ownsRow base E K v n xs) (ad : Addr) (hx : a.eval x = .slice (some ad) 1 1) (hnews : ∀ j u, vs[j]? = some u → w.cell? (ad.add j) = some u) (hvs : vs.length = K) (h1 : ∀ u ∈ vs, u.oneCell' = true) (hlen : n ≤ 1048576)
  (h : ∀ v' w', w'.ownsRow base E K v' (n + 1) (xs ++ vs) → w.grownBy w' v.ownBlock → KK (a.put o.dst v') w') : if Region.wanted o (yielded ops a.tmps) = true then Oper.wp P o a w KK Q else F := by
 have hw : Region.wanted o (yielded ops a.tmps) = true := by simp [Region.wanted, hgd]
 rw [if_pos hw]
 have hm : (n + 1) * by_ ≤ 140737488355328 := by
  have := Nat.mul_le_mul_left (n + 1) hb32
  omega
 exact wp_append_own w s x t ho base E i z K by_ ht hi hz hsize hby hzs hK v n xs hs hown ad 1 1 vs hx (by rw [Nat.one_mul]; exact hvs) hnews h1 (by unfold maxLen; omega) hm hbase fun v' w' h2 h3 h4 => h v' w' h2 h3
end
theorem wd_one (a b : Int) (t : ByteArray) (c : Int) (u : Bool) : ∀ v ∈ [Value.int .i64 a, .int .i64 b, .string t, .int .i64 c, .bool u], v.oneCell' = true := by
 intro v hv
 simp at hv
 rcases hv with rfl | rfl | rfl | rfl | rfl <;> rfl
theorem own_slice {w : World} {b e s n : Nat} {v : Value} {x : List Value} (h : w.ownsRow b e s v n x) : ∃ p c, v = .slice p n c := by
 rcases h.2 with ⟨rfl, rfl⟩ | ⟨g, cap, cur, rfl, _⟩
 ·exact ⟨_, _, rfl⟩
 ·exact ⟨_, _, rfl⟩
theorem own_at {w : World} {b e n : Nat} {p : Option Addr} {c : Nat} {xs : List Value} (h : w.ownsRow b e 1 (.slice p n c) n xs) {k : Nat} {u : Value} (hk : xs[k]? = some u) : ∃ gN, p = some ⟨gN, 0, none⟩ ∧ b ≤ gN ∧ gN < w.heap.size ∧ w.cell? ⟨gN, k, none⟩ = some u := by
 have hkn : k < n * 1 := by rw [← h.1]; exact (List.getElem?_eq_some_iff.1 hk).1
 rcases h.2 with ⟨h1, rfl⟩ | ⟨g, cap, cur, hv, hg, hc, hr⟩
 ·omega
 ·simp only [Value.slice.injEq] at hv
  obtain ⟨rfl, _, rfl⟩ := hv
  refine ⟨g, rfl, hg, (Array.getElem?_eq_some_iff.1 hc).1, ?_⟩
  have h3 := h.cells (g := g) rfl k u hk
  rwa [Addr.add_mid, Nat.zero_add] at h3
theorem own_kept {w w' : World} {b e s n N p : Nat} {v : Value} {x : List Value} (h : w.ownsRow b e s v n x) (hk : Kept N p p p w w') (hne : (∀ k, v.ownBlock = some k → k < N) ∧ some p ≠ v.ownBlock) : w'.ownsRow b e s v n x := by
 refine ⟨h.1, ?_⟩
 rcases h.2 with h2 | ⟨g, cap, cur, rfl, hg, hc, hr⟩
 ·exact .inl h2
 ·have hlt := hne.1 g rfl
  have hgp : g ≠ p := fun e => hne.2 (by simp [Value.ownBlock, e])
  exact .inr ⟨g, cap, cur, rfl, hg, by rw [hk.block g hlt hgp hgp hgp]; exact hc, hr⟩
theorem sizeGrantZ : (Tryz.prog.info? 31).map (·.size) = some 4 := by kernel_rfl
theorem oneGrantZ (n : Int) (h : GH) : (#[.int .i64 n, .slice h.wp h.wn h.wc, .slice h.kp h.kn h.kc, .slice h.dp h.dn h.dc] : Array Value).all (·.oneCell') = true := by simp [Value.oneCell']
theorem ret_grant {fn : Func} {p : Tmp} (h : fn.results = #[.cell p 31]) {tmps : Array Value} {w : World} {g : Nat} {n : Int} {k : GH} (hp : tmps.getD p undef = .pointer (some ⟨g, 0, none⟩)) (hr : Row w g 31 (grL n k)) :
  (results fn tmps).run Tryz.prog w = .ok (grV n k) w := by
 have hu := Tryz.underlying31
 exact results_cell_row h tmps w g 31 (grL n k).toArray (0, 0) _ hp hr hu rfl sizeGrantZ
/-- A grant that the call itself has made. -/
def GrOwn (N : Nat) (g : Gr) (h : GH) (w : World) : Prop :=
 w.ownsRow N 163 5 (.slice h.wp h.wn h.wc) g.words.length (g.words.flatMap wdCf) ∧ w.ownsRow N 127 6 (.slice h.kp h.kn h.kc) g.keys.length (g.keys.flatMap kyCf) ∧ w.ownsRow N 2 1 (.slice h.dp h.dn h.dc) g.dead.length (g.dead.flatMap inCf)
def GrMade (g : Gr) (w : World) (e : Ending) (w' : World) : Prop := ∃ h : GH, e = .returned (grV g.now h) ∧ GrOwn w.heap.size g h w' ∧ Below w.heap.size w w'
/-- Where the walk stands: k words are told. -/
def GR1 (g : Gr) (N p : Nat) (W1 : World) (i : Value) (wr : World) : Prop := ∃ (k : Nat) (wp dp : Option Addr) (wc dc : Nat), k ≤ g.words.length ∧ i = .int .i64 k ∧
 Row wr p 31 [.int .i64 g.now, .slice wp k wc, .slice none 0 0, .slice dp (deadsOf g.dead (g.words.take k)).length dc] ∧
 wr.ownsRow N 163 5 (.slice wp k wc) k ((g.words.take k).flatMap wdCf) ∧ wr.ownsRow N 2 1 (.slice dp (deadsOf g.dead (g.words.take k)).length dc) (deadsOf g.dead (g.words.take k)).length ((deadsOf g.dead (g.words.take k)).flatMap inCf) ∧ Kept N p p p W1 wr
def GR2 (g : Gr) (N p : Nat) (wp dp : Option Addr) (wn wc dn dc : Nat) (W1 : World) (i : Value) (wr : World) : Prop := ∃ (k : Nat) (kp : Option Addr) (kc : Nat), k ≤ g.keys.length ∧ i = .int .i64 k ∧
 Row wr p 31 [.int .i64 g.now, .slice wp wn wc, .slice kp k kc, .slice dp dn dc] ∧
 wr.ownsRow N 127 6 (.slice kp k kc) k ((g.keys.take k).flatMap kyCf) ∧ Kept N p p p W1 wr
set_option maxHeartbeats 4000000 in
theorem grant_made (lb mw mk B : Nat) (g : Gr) (w : World) (hl : LedAt w B lb mw mk g) (hg : grantB g = true) : Calls Tryz.prog 116 #[.pointer (some ⟨lb, 0, none⟩)] w (GrMade g w) := by
 obtain ⟨⟨t0, t1⟩, hw20, hk40, hws, hks, hds⟩ := gr_facts hg
 have hde := deads_eq hg
 obtain ⟨td, htd⟩ := hl.td
 have hsz := hl.size
 have hcv : ∀ w : World, (convert 205 2 (.float .f64 (floatOfInt .f64 g.now))).run Tryz.prog w = .ok (.int .i64 g.now) w := fun w => conv_fl (whole_of t0 t1) w
 have c0 := (hl.later ((Below.refl w.heap.size w).alloc (Nat.le_refl _) (.cells #[.int .i64 0, .slice none 0 0, .slice none 0 0, .slice none 0 0] 31))).cells.1
 have hb2 := ((Below.refl w.heap.size w).alloc (Nat.le_refl _) (.cells #[.int .i64 0, .slice none 0 0, .slice none 0 0, .slice none 0 0] 31)).alloc (by simp) (.cells #[.int .i64 g.now, .slice none 0 0, .slice none 0 0, .slice none 0 0] 31)
 have c1 := (hl.later hb2).cells.2.1
 have HT2 : Hid (LedTd _ B lb mw mk g td) := Lib.hid (LedTd.later htd hb2)
 have HB2 := Lib.hid hb2
 have HSz := Lib.hid hsz
 have HWs := Lib.hid hws
 have HKs := Lib.hid hks
 have HDe := Lib.hid hde
 clear hb2 hsz hws hks hds hde hl htd
 go_enter Tryz.func116, Tryz.ntmps116
 go_wp2_with fail
 refine (keys_words _ _).mono ?_
 rintro e w' ⟨rfl, rfl⟩
 have HTa := Lib.hid (HT2.out.later ((Below.refl _ _).alloc (Nat.le_refl _) (.cells #[.map (some mw)] 117)))
 have ra : Row ((w.alloc (.cells #[.int .i64 0, .slice none 0 0, .slice none 0 0, .slice none 0 0] 31)).alloc (.cells #[.int .i64 g.now, .slice none 0 0, .slice none 0 0, .slice none 0 0] 31)) (w.heap.size + 1) 31 [.int .i64 g.now, .slice none 0 0, .slice none 0 0, .slice none 0 0] := heap_alloc2_new w _ _
 have rz : Row ((w.alloc (.cells #[.int .i64 0, .slice none 0 0, .slice none 0 0, .slice none 0 0] 31)).alloc (.cells #[.int .i64 g.now, .slice none 0 0, .slice none 0 0, .slice none 0 0] 31)) w.heap.size 31 [.int .i64 0, .slice none 0 0, .slice none 0 0, .slice none 0 0] :=
  Row.below (show Row (w.alloc (.cells #[.int .i64 0, .slice none 0 0, .slice none 0 0, .slice none 0 0] 31)) w.heap.size 31 _ from heap_alloc_new w _) ((Below.refl (w.alloc (.cells #[.int .i64 0, .slice none 0 0, .slice none 0 0, .slice none 0 0] 31)).heap.size _).alloc (Nat.le_refl _) _) (by simp)
 have hm0 : (((w.alloc (.cells #[.int .i64 0, .slice none 0 0, .slice none 0 0, .slice none 0 0] 31)).alloc (.cells #[.int .i64 g.now, .slice none 0 0, .slice none 0 0, .slice none 0 0] 31)).alloc (.cells #[.map (some mw)] 117)).cell? ⟨w.heap.size + 1 + 1, 0, none⟩ = some (.map (some mw)) := by
  have h := (show Row (((w.alloc (.cells #[.int .i64 0, .slice none 0 0, .slice none 0 0, .slice none 0 0] 31)).alloc (.cells #[.int .i64 g.now, .slice none 0 0, .slice none 0 0, .slice none 0 0] 31)).alloc (.cells #[.map (some mw)] 117)) _ _ [.map (some mw)] from heap_alloc_new ((w.alloc (.cells #[.int .i64 0, .slice none 0 0, .slice none 0 0, .slice none 0 0] 31)).alloc (.cells #[.int .i64 g.now, .slice none 0 0, .slice none 0 0, .slice none 0 0] 31)) (.cells #[.map (some mw)] 117)).cell 0
  rw [show ((w.alloc (.cells #[.int .i64 0, .slice none 0 0, .slice none 0 0, .slice none 0 0] 31)).alloc (.cells #[.int .i64 g.now, .slice none 0 0, .slice none 0 0, .slice none 0 0] 31)).heap.size = w.heap.size + 1 + 1 by simp] at h
  exact h
 have HRa := Lib.hid (ra.below ((Below.refl _ _).alloc (Nat.le_refl _) (.cells #[.map (some mw)] 117)) ra.lt)
 have HRz := Lib.hid (rz.below ((Below.refl _ _).alloc (Nat.le_refl _) (.cells #[.map (some mw)] 117)) rz.lt)
 have HBa := Lib.hid (HB2.out.alloc (by simp; omega) (.cells #[.map (some mw)] 117))
 clear ra rz HT2 HB2
 go_wp2_with fail
 refine (sorted_words HTa.out.words hm0 (by omega) (words_rise HWs.out) (words_mem _ _ _)).mono ?_
 rintro e W1 ⟨nv, rfl, hnv, hb1⟩
 obtain ⟨np, nc, rfl⟩ := own_slice hnv
 rw [List.length_map] at hnv ⊢
 have HT1 := Lib.hid (HTa.out.later hb1)
 have HR1 := Lib.hid (HRa.out.below hb1 HRa.out.lt)
 have HZ1 := Lib.hid (HRz.out.below hb1 HRz.out.lt)
 have HB1 := Lib.hid (HBa.out.trans (hb1.mono (by simp; omega)))
 have HN1 := Lib.hid hnv
 have HS1 := Lib.hid (show w.heap.size + 3 ≤ W1.heap.size from by have := hb1.size; simpa using this)
 clear hb1 hnv HTa HRa HRz HBa c0 c1 hm0
 go_wp2_with fail
 go_loopw [23] (GR1 g W1.heap.size (w.heap.size + 1) W1) (fun i _ => g.words.length - (RowKit.intOf i).toNat)
 case atStart => exact ⟨0, none, none, 0, 0, by omega, rfl, HR1.out, World.ownsRow_nil _ _ _ _, World.ownsRow_nil _ _ _ _, Kept.refl _ _ _ _ _⟩
 case round =>
  obtain ⟨k, wp, dp, wc, dc, hk, rfl, hrow, hwo, hdo, hkp⟩ := hrel
  have HRw := Lib.hid hrow
  have HWo := Lib.hid hwo
  have HDo := Lib.hid hdo
  have HKp := Lib.hid hkp
  have hsz := HSz.out
  have hs1 := HS1.out
  have HTr := Lib.hid (HT1.out.keptP hkp (by omega) (by omega))
  clear hrow hwo hdo hkp
  by_cases hlt : k < g.words.length
  ·obtain ⟨x, hx⟩ : ∃ x, g.words[k]? = some x := ⟨_, List.getElem?_eq_getElem hlt⟩
   obtain ⟨⟨f1, f2, f3, f4, f5, f6⟩, f7⟩ := wordsOk_get HWs.out hx
   have hfw := findW_get HWs.out hx
   obtain ⟨gN, rfl, hgb, hgl, hgc⟩ := own_at HN1.out (k := k) (u := .int .i64 x.no) (by simp [hx, encZ])
   have n0 : wr.cell? ⟨gN, k, none⟩ = some (.int .i64 x.no) := (World.cell?_of_block (HKp.out.block gN hgl (by simp at hgb; omega) (by simp at hgb; omega) (by simp at hgb; omega))).trans hgc
   have c1 : wr.cell? ⟨lb, 1, none⟩ = some (.map (some mw)) := HTr.out.led.cells.2.1
   have hwf := wf_small (n := x.no) (by omega) (by omega)
   obtain ⟨dd, hdd⟩ : ∃ dd, dd = ddB g.dead td x.no := ⟨_, rfl⟩
   have hlk : (Instr.lookup 117 (.map (some mw)) (.int .i64 x.no) false).run Tryz.prog wr = .ok (.agg #[.int .i64 x.client, .string x.shade, .float .f64 (floatOfInt .f64 x.till), .bool x.used, .float .f64 dd]) wr := by
    have h := HTr.out.words.look Tryz.underlying2 Tryz.underlying117 (hwZ_zero _) hwf
    rw [show (wdF g.words g.dead td x.no).getD hwZ = hwV x (ddB g.dead td x.no) by simp [wdF, hfw], ← hdd] at h
    exact h
   have hsf := run_store_float
   have hcv2 : ∀ w : World, (convert 205 2 (.float .f64 (floatOfInt .f64 x.till))).run Tryz.prog w = .ok (.int .i64 x.till) w := fun w => conv_fl (whole_of f5 f6) w
   have HX := Lib.hid hx
   have HFw := Lib.hid hfw
   have HPs := Lib.hid f4
   have HNz := Lib.hid hlt
   clear hx hfw f3 f4 f7 hdd hgb hgl hgc hcv
   go_upto_region 6 with fail
   obtain ⟨w6, hw6⟩ : ∃ w6, w6 = wr.alloc (.cells #[.int .i64 x.client, .string x.shade, .float .f64 (floatOfInt .f64 x.till), .bool x.used, .float .f64 dd] 207) := ⟨_, rfl⟩
   have hb6 : Below wr.heap.size wr w6 := by rw [hw6]; exact (Below.refl _ _).alloc (Nat.le_refl _) _
   have h6 : Row w6 wr.heap.size 207 [.int .i64 x.client, .string x.shade, .float .f64 (floatOfInt .f64 x.till), .bool x.used, .float .f64 dd] := by rw [hw6]; exact heap_alloc_new wr _
   rw [← hw6]
   have hzr := HKp.out.size
   have H6 := Lib.hid h6
   have HRw6 := Lib.hid (HRw.out.below hb6 HRw.out.lt)
   have HWo6 := Lib.hid (own_later HWo.out hb6)
   have HDo6 := Lib.hid (own_later HDo.out hb6)
   have HKp6 := Lib.hid (HKp.out.later hb6 hzr)
   have keep7 : ∀ w7, Below w6.heap.size w6 w7 → (w7.cell? ⟨w.heap.size + 1, 1, none⟩ = some (.slice wp k wc) ∧ w7.cell? ⟨wr.heap.size, 0, none⟩ = some (.int .i64 x.client) ∧ w7.cell? ⟨wr.heap.size, 1, none⟩ = some (.string x.shade) ∧ w7.cell? ⟨wr.heap.size, 2, none⟩ = some (.float .f64 (floatOfInt .f64 x.till)) ∧ w7.cell? ⟨wr.heap.size, 3, none⟩ = some (.bool x.used)) := fun w7 hb7 =>
    ⟨(HRw6.out.below hb7 HRw6.out.lt).cell 1, (H6.out.below hb7 H6.out.lt).cell 0, (H6.out.below hb7 H6.out.lt).cell 1, (H6.out.below hb7 H6.out.lt).cell 2, (H6.out.below hb7 H6.out.lt).cell 3⟩
   obtain ⟨a1, a2, a3, a4, a5⟩ := keep7 w6 (Below.refl _ _)
   have HK7 := Lib.hid keep7
   have hjn : x.shade.size + (⟨#[]⟩ : ByteArray).size ≤ 140737488355328 := by have := (of_decide_eq_true HPs.out).2.1; show x.shade.size + 0 ≤ _; omega
   have AF : Hid (∀ (w7 w8 : World) (v' : Value) (A : Array Value), Below w6.heap.size w6 w7 → w8.ownsRow W1.heap.size 163 5 v' (k + 1) ((g.words.take k).flatMap wdCf ++ [.int .i64 x.no, .int .i64 x.client, .string (x.shade ++ ⟨#[]⟩), .int .i64 x.till, .bool x.used]) → (w7.alloc (.cells A 163)).grownBy w8 (Value.slice wp k wc).ownBlock →
     ∃ wp' wc', v' = .slice wp' (k + 1) wc' ∧ Row w8 (w.heap.size + 1) 31 [.int .i64 g.now, .slice wp k wc, .slice none 0 0, .slice dp (deadsOf g.dead (g.words.take k)).length dc] ∧ w8.ownsRow W1.heap.size 163 5 (.slice wp' (k + 1) wc') (k + 1) ((g.words.take (k + 1)).flatMap wdCf) ∧
      w8.ownsRow W1.heap.size 2 1 (.slice dp (deadsOf g.dead (g.words.take k)).length dc) (deadsOf g.dead (g.words.take k)).length ((deadsOf g.dead (g.words.take k)).flatMap inCf) ∧ Kept W1.heap.size (w.heap.size + 1) (w.heap.size + 1) (w.heap.size + 1) W1 w8 ∧ (w8.cell? ⟨wr.heap.size, 0, none⟩ = some (.int .i64 x.client) ∧ w8.cell? ⟨wr.heap.size, 1, none⟩ = some (.string x.shade) ∧ w8.cell? ⟨wr.heap.size, 2, none⟩ = some (.float .f64 (floatOfInt .f64 x.till)) ∧ w8.cell? ⟨wr.heap.size, 3, none⟩ = some (.bool x.used)) ∧ ∀ u, ((w8.setCell ⟨w.heap.size + 1, 1, none⟩ u).cell? ⟨wr.heap.size, 0, none⟩ = some (.int .i64 x.client) ∧ (w8.setCell ⟨w.heap.size + 1, 1, none⟩ u).cell? ⟨wr.heap.size, 1, none⟩ = some (.string x.shade) ∧ (w8.setCell ⟨w.heap.size + 1, 1, none⟩ u).cell? ⟨wr.heap.size, 2, none⟩ = some (.float .f64 (floatOfInt .f64 x.till)) ∧ (w8.setCell ⟨w.heap.size + 1, 1, none⟩ u).cell? ⟨wr.heap.size, 3, none⟩ = some (.bool x.used))) := Lib.hid (fun w7 w8 v' A hb7 ho8 hg8 => by
    have hr7 := (HRw6.out.below hb7 HRw6.out.lt).below ((Below.refl w7.heap.size w7).alloc (Nat.le_refl _) (.cells A 163)) (HRw6.out.below hb7 HRw6.out.lt).lt
    have hw7 := (own_later HWo6.out hb7).alloc (.cells A 163)
    have hd7 := (own_later HDo6.out hb7).alloc (.cells A 163)
    have r8 := hr7.grownI hg8 (row_apart hr7 hw7 (by decide))
    have hh7 := (H6.out.below hb7 H6.out.lt).below ((Below.refl w7.heap.size w7).alloc (Nat.le_refl _) (.cells A 163)) (H6.out.below hb7 H6.out.lt).lt
    have h8 := hh7.grownI hg8 (row_apart hh7 hw7 (by decide))
    have d8 := hd7.kept hg8 (own_apart hd7 hw7 (by decide))
    obtain ⟨wp', wc', rfl⟩ := own_slice ho8
    rw [append_nil] at ho8
    change w8.ownsRow _ _ _ _ _ (List.flatMap wdCf (List.take k g.words) ++ wdCf x) at ho8
    rw [← flat_step (cf := wdCf) HX.out] at ho8
    have hz6 := HKp6.out.size
    have hz7 := hb7.size
    exact ⟨wp', wc', rfl, r8, ho8, d8, ((HKp6.out.later hb7 hz6).later ((Below.refl w7.heap.size w7).alloc (Nat.le_refl _) (.cells A 163)) (by omega)).grownO hg8 (by simp; omega) (fun j hj => (HWo6.out.lt j hj).1), ⟨h8.cell 0, h8.cell 1, h8.cell 2, h8.cell 3⟩, fun u => by
     have h9 := h8.kept (Kept.setCell (a := ⟨w.heap.size + 1, 1, none⟩) (Kept.refl (wr.heap.size + 1) (w.heap.size + 1) (w.heap.size + 1) (w.heap.size + 1) w8) u (.inl rfl)) (by omega) (by omega) (by omega) (by omega)
     exact ⟨h9.cell 0, h9.cell 1, h9.cell 2, h9.cell 3⟩⟩)
   clear hw6 h6 HRw HWo HDo HKp keep7 hb6 n0 c1 hwf
   go_cut [] (fun wx => ∃ wp' wc', Row wx (w.heap.size + 1) 31 [.int .i64 g.now, .slice wp' (k + 1) wc', .slice none 0 0, .slice dp (deadsOf g.dead (g.words.take k)).length dc] ∧ wx.ownsRow W1.heap.size 163 5 (.slice wp' (k + 1) wc') (k + 1) ((g.words.take (k + 1)).flatMap wdCf) ∧
    wx.ownsRow W1.heap.size 2 1 (.slice dp (deadsOf g.dead (g.words.take k)).length dc) (deadsOf g.dead (g.words.take k)).length ((deadsOf g.dead (g.words.take k)).flatMap inCf) ∧ Kept W1.heap.size (w.heap.size + 1) (w.heap.size + 1) (w.heap.size + 1) W1 wx)
   case first =>
    obtain ⟨i5, hi, hz0, hz1, hz2⟩ := info_parts infoWord
    refine region_L 15 (fun w' => w'.cell? ⟨w.heap.size + 1, 1, none⟩ = some (.slice wp k wc)) (fun w' => w'.cell? ⟨wr.heap.size, 0, none⟩ = some (.int .i64 x.client) ∧ w'.cell? ⟨wr.heap.size, 1, none⟩ = some (.string x.shade) ∧ w'.cell? ⟨wr.heap.size, 2, none⟩ = some (.float .f64 (floatOfInt .f64 x.till)) ∧ w'.cell? ⟨wr.heap.size, 3, none⟩ = some (.bool x.used)) (by kernel_rfl) ⟨fun _ => (HK7.out _ (Below.refl _ w6).drew).1, (HK7.out _ (Below.refl _ w6).drew).2⟩ (fun hHL => ?_)
    refine wpAnyL_take (i := 0) (v := ?_) (by rfl) rfl (by kernel_rfl) (by kernel_rfl) (by kernel_rfl) (fun _ _ _ h => h) (Or.inl ⟨by rfl, ?_⟩) hHL ?_
    rotate_left
    ·intro w hSw; (try dsimp only at hSw); (first | (go_simp; done) | (go_simp; with_reducible rfl))
    clear hHL
    intro hHL
    (try simp only [Act.put, List.setIfInBounds_toArray, List.set_cons_zero, List.set_cons_succ])
    refine wpAnyL_takeA (i := 1) (v := ?_) (by rfl) rfl (by kernel_rfl) (by kernel_rfl) (by kernel_rfl) (by kernel_rfl) (by kernel_rfl) (fun _ _ _ h => h) (Or.inl ⟨by rfl, ?_⟩) hHL ?_
    rotate_left
    ·intro w hSw; (try dsimp only at hSw); (first | (go_simp; done) | (go_simp; with_reducible rfl))
    clear hHL
    intro hHL
    (try simp only [Act.put, List.setIfInBounds_toArray, List.set_cons_zero, List.set_cons_succ])
    refine wpAnyL_take (i := 2) (v := ?_) (by rfl) rfl (by kernel_rfl) (by kernel_rfl) (by kernel_rfl) (fun _ _ _ h => h) (Or.inl ⟨by rfl, ?_⟩) hHL ?_
    rotate_left
    ·intro w hSw; (try dsimp only at hSw); (first | (go_simp; done) | (go_simp; with_reducible rfl))
    clear hHL
    intro hHL
    (try simp only [Act.put, List.setIfInBounds_toArray, List.set_cons_zero, List.set_cons_succ])
    refine wpAnyL_take (i := 3) (v := ?_) (by rfl) rfl (by kernel_rfl) (by kernel_rfl) (by kernel_rfl) (fun _ _ _ h => h) (Or.inl ⟨by rfl, ?_⟩) hHL ?_
    rotate_left
    ·intro w hSw; (try dsimp only at hSw); (first | (go_simp; done) | (go_simp; with_reducible rfl))
    clear hHL
    intro hHL
    (try simp only [Act.put, List.setIfInBounds_toArray, List.set_cons_zero, List.set_cons_succ])
    refine wpAnyL_take (i := 4) (v := ?_) (by rfl) rfl (by kernel_rfl) (by kernel_rfl) (by kernel_rfl) (fun _ _ _ h => h) (Or.inl ⟨by rfl, ?_⟩) hHL ?_
    rotate_left
    ·intro w hSw; (try dsimp only at hSw); (first | (go_simp; done) | (go_simp; with_reducible rfl))
    clear hHL
    intro hHL
    (try simp only [Act.put, List.setIfInBounds_toArray, List.set_cons_zero, List.set_cons_succ])
    refine wpAnyL_take (i := 5) (v := ?_) (by rfl) rfl (by kernel_rfl) (by kernel_rfl) (by kernel_rfl) (fun _ _ _ h => h) (Or.inl ⟨by rfl, ?_⟩) hHL ?_
    rotate_left
    ·intro w hSw; (try dsimp only at hSw); (first | (go_simp; done) | (go_simp; with_reducible rfl))
    clear hHL
    intro hHL
    (try simp only [Act.put, List.setIfInBounds_toArray, List.set_cons_zero, List.set_cons_succ])
    refine wpAnyL_take (i := 6) (v := ?_) (by rfl) rfl (by kernel_rfl) (by kernel_rfl) (by kernel_rfl) (fun _ _ _ h => h) (Or.inl ⟨by rfl, ?_⟩) hHL ?_
    rotate_left
    ·intro w hSw; (try dsimp only at hSw); (first | (go_simp; done) | (go_simp; with_reducible rfl))
    clear hHL
    intro hHL
    (try simp only [Act.put, List.setIfInBounds_toArray, List.set_cons_zero, List.set_cons_succ])
    refine wpAnyL_take (i := 8) (v := ?_) (by rfl) rfl (by kernel_rfl) (by kernel_rfl) (by kernel_rfl) (fun _ _ _ h => h) (Or.inl ⟨by rfl, ?_⟩) hHL ?_
    rotate_left
    ·intro w hSw; (try dsimp only at hSw); (first | (go_simp; done) | (go_simp; with_reducible rfl))
    clear hHL
    intro hHL
    (try simp only [Act.put, List.setIfInBounds_toArray, List.set_cons_zero, List.set_cons_succ])
    refine wpAnyL_take (i := 9) (v := ?_) (by rfl) rfl (by kernel_rfl) (by kernel_rfl) (by kernel_rfl) (fun _ _ _ h => h) (Or.inl ⟨by rfl, ?_⟩) hHL ?_
    rotate_left
    ·intro w hSw; (try dsimp only at hSw); (first | (go_simp; done) | (go_simp; with_reducible rfl))
    clear hHL
    intro hHL
    (try simp only [Act.put, List.setIfInBounds_toArray, List.set_cons_zero, List.set_cons_succ])
    refine wpAnyL_take (i := 10) (v := ?_) (by rfl) rfl (by kernel_rfl) (by kernel_rfl) (by kernel_rfl) (fun _ _ _ h => h) (Or.inl ⟨by rfl, ?_⟩) hHL ?_
    rotate_left
    ·intro w hSw; (try dsimp only at hSw); (first | (go_simp; done) | (go_simp; with_reducible rfl))
    clear hHL
    intro hHL
    (try simp only [Act.put, List.setIfInBounds_toArray, List.set_cons_zero, List.set_cons_succ])
    refine wpAnyL_take (i := 11) (v := ?_) (by rfl) rfl (by kernel_rfl) (by kernel_rfl) (by kernel_rfl) (fun _ _ _ h => h) (Or.inl ⟨by rfl, ?_⟩) hHL ?_
    rotate_left
    ·intro w hSw; (try dsimp only at hSw); (first | (go_simp; done) | (go_simp; with_reducible rfl))
    clear hHL
    intro hHL
    (try simp only [Act.put, List.setIfInBounds_toArray, List.set_cons_zero, List.set_cons_succ])
    refine wpAnyL_take (i := 12) (v := ?_) (by rfl) rfl (by kernel_rfl) (by kernel_rfl) (by kernel_rfl) (fun _ _ _ h => h) (Or.inl ⟨by rfl, ?_⟩) hHL ?_
    rotate_left
    ·intro w hSw; (try dsimp only at hSw); (first | (go_simp; done) | (go_simp; with_reducible rfl))
    clear hHL
    intro hHL
    (try simp only [Act.put, List.setIfInBounds_toArray, List.set_cons_zero, List.set_cons_succ])
    refine wpAnyL_ready (rs := [7]) (by kernel_rfl) (by simp) ?_
    refine AllReadyL.cons rfl (fun K hK => ?_) AllReadyL.nil
    refine step_callTo rfl 130 #[.string x.shade, .string ⟨#[]⟩] (by kernel_rfl) (.string (x.shade ++ ⟨#[]⟩)) _ (join_any x.shade ⟨#[]⟩ _ hjn) ?_
    intro w7 hb7
    have HB7 := Lib.hid ((Below.refl w6.heap.size w6).drew.trans hb7)
    refine hK.out _ _ ⟨fun _ => (HK7.out _ HB7.out).1, (HK7.out _ HB7.out).2⟩ (fun hHL => ?_)
    clear hK K hb7
    (try simp only [Act.put, List.setIfInBounds_toArray, List.set_cons_zero, List.set_cons_succ])
    refine wpAnyL_take (i := 13) (v := ?_) (by rfl) rfl (by kernel_rfl) (by kernel_rfl) (by kernel_rfl) (fun _ _ _ h => h) (Or.inl ⟨by rfl, ?_⟩) hHL ?_
    rotate_left
    ·intro w hSw; (try dsimp only at hSw); (first | (go_simp; done) | (go_simp; with_reducible rfl))
    clear hHL
    intro hHL
    (try simp only [Act.put, List.setIfInBounds_toArray, List.set_cons_zero, List.set_cons_succ])
    refine wpAnyL_ready (rs := [14]) (by kernel_rfl) (by simp) ?_
    refine AllReadyL.cons rfl (fun K hK => ?_) AllReadyL.nil
    go_simp
    refine hK.out _ _ ⟨fun _ => (HK7.out _ (HB7.out.alloc HB7.out.size _)).1, (HK7.out _ (HB7.out.alloc HB7.out.size _)).2⟩ (fun hHL => ?_)
    clear hK K
    (try simp only [Act.put, List.setIfInBounds_toArray, List.set_cons_zero, List.set_cons_succ])
    refine wpAnyL_ready (rs := [15]) (by kernel_rfl) (by simp) ?_
    refine AllReadyL.cons rfl (fun K hK => ?_) AllReadyL.nil
    refine step_appo rfl (.tmp 34) (.tmp 47) 28 163 rfl i5 _ 5 48 Tryz.underlying28 hi hz0 hz1 hz2 rfl (by decide) (by decide) W1.heap.size (by have := HB7.out.size; have := HKp6.out.size; simp; omega) _ k _ [.int .i64 x.no, .int .i64 x.client, .string (x.shade ++ ⟨#[]⟩), .int .i64 x.till, .bool x.used] rfl ((own_later HWo6.out HB7.out).alloc _) ⟨_, 0, none⟩ rfl (fun j u hj => by rw [Addr.add_mid, Nat.zero_add]; exact ((show Row _ _ _ _ from heap_alloc_new _ _).cell j).trans hj) rfl (wd_one _ _ _ _ _) (by omega) ?_
    intro v' w8 ho8 hg8
    obtain ⟨wp', wc', rfl, r8, o8, d8, k8, s8⟩ := AF.out _ _ _ _ HB7.out ho8 hg8
    refine hK.out _ _ ⟨fun h => Bool.noConfusion ((show Array.getD _ 15 true = true from by kernel_rfl).symm.trans h), s8.1⟩ (fun hHL => ?_)
    clear hK K ho8 hg8
    (try simp only [Act.put, List.setIfInBounds_toArray, List.set_cons_zero, List.set_cons_succ])
    have c8 : w8.cell? ⟨w.heap.size + 1, 1, none⟩ = some (.slice wp k wc) := r8.cell 1
    have f8 : w8.frozen? ⟨w.heap.size + 1, 1, none⟩ = false := r8.free 1
    refine wpAnyL_take (i := 16) (v := ?_) (by rfl) rfl (by kernel_rfl) (by kernel_rfl) (by kernel_rfl) (fun _ _ _ h => h) (Or.inl ⟨by rfl, ?_⟩) hHL ?_
    rotate_left
    ·intro w hSw; (try dsimp only at hSw); (first | (go_simp; done) | (go_simp; with_reducible rfl))
    clear hHL
    intro hHL
    (try simp only [Act.put, List.setIfInBounds_toArray, List.set_cons_zero, List.set_cons_succ])
    refine wpAnyL_ready (rs := [17]) (by kernel_rfl) (by simp) ?_
    refine AllReadyL.cons rfl (fun K hK => ?_) AllReadyL.nil
    go_simp
    refine hK.out _ _ ⟨fun h => Bool.noConfusion ((show Array.getD _ 15 true = true from by kernel_rfl).symm.trans h), s8.2 _⟩ (fun hHL => ?_)
    clear hK K
    refine wpAnyL_done (by kernel_rfl) ?_ _
    have R8 := Lib.hid r8
    have O8 := Lib.hid o8
    have D8 := Lib.hid d8
    have K8 := Lib.hid k8
    clear r8 o8 d8 k8 s8 c8 f8 hHL
    go_wp2_with fail
    go_meet
    exact ⟨wp', wc', R8.out.set 1 _, own_setCell _ O8.out (row_apart R8.out O8.out (by decide)), own_setCell _ D8.out (row_apart R8.out D8.out (by decide)), K8.out.setCell _ (.inl rfl)⟩
   case rest =>
    obtain ⟨wp', wc', hrow, hwo, hdo, hkp⟩ := hcut
    obtain ⟨wx, hwx⟩ : ∃ wx : World, wx = wc := ⟨_, rfl⟩
    rw [← hwx] at hrow hwo hdo hkp ⊢
    clear hwx
    have hzx := hkp.size
    have HRx := Lib.hid hrow
    have HWx := Lib.hid hwo
    have HDx := Lib.hid hdo
    have HKx := Lib.hid hkp
    have HTx := Lib.hid (HT1.out.keptP hkp (by omega) (by omega))
    have hwf := Lib.hid (wf_small (n := x.no) (by omega) (by omega))
    have hltx := hrow.lt
    clear hrow hwo hdo hkp hlk hsf hcv2 a1 a2 a3 a4 a5
    cases hd : isDeadB g.dead x.no with
    | false =>
     have hds : Hid (deadsOf g.dead (g.words.take (k + 1)) = deadsOf g.dead (g.words.take k)) := Lib.hid (by rw [deadsOf_step HX.out, hd]; simp)
     have HD := Lib.hid hd
     clear hd
     go_wp2_with fail
     refine (isDead_at HTx.out.led HFw.out hwf.out t0 t1 HD.out).mono ?_
     rintro e w9 ⟨rfl, hb9⟩
     have HR9 := Lib.hid (HRx.out.below hb9 hltx)
     have HW9 := Lib.hid (own_later HWx.out hb9)
     have HD9 := Lib.hid (own_later HDx.out hb9)
     have HK9 := Lib.hid (HKx.out.later hb9 hzx)
     clear hb9
     go_wp2_with fail
     go_roundw
     case rel => exact ⟨k + 1, wp', dp, wc', dc, by omega, by go_num, by rw [hds.out]; exact HR9.out, HW9.out, by rw [hds.out]; exact HD9.out, HK9.out⟩
     case measure => simp [RowKit.intOf]; omega
    | true =>
     have hds : Hid (deadsOf g.dead (g.words.take (k + 1)) = deadsOf g.dead (g.words.take k) ++ [x.no]) := Lib.hid (by rw [deadsOf_step HX.out, hd]; simp)
     have hdl : (deadsOf g.dead (g.words.take k)).length ≤ 1048576 := by have := deadsOf_len g.dead (g.words.take k); rw [List.length_take] at this; omega
     have HD := Lib.hid hd
     clear hd
     go_wp2_with fail
     refine (isDead_at HTx.out.led HFw.out hwf.out t0 t1 HD.out).mono ?_
     rintro e w9 ⟨rfl, hb9⟩
     have HR9 := Lib.hid (HRx.out.below hb9 hltx)
     have HW9 := Lib.hid (own_later HWx.out hb9)
     have HD9 := Lib.hid (own_later HDx.out hb9)
     have HK9 := Lib.hid (HKx.out.later hb9 hzx)
     have hz9 := hb9.size
     clear hb9
     obtain ⟨n, hn⟩ : ∃ n, n = (deadsOf g.dead (g.words.take k)).length := ⟨_, rfl⟩
     rw [← hn] at HR9 HD9 hdl
     have HNn := Lib.hid hn
     clear hn
     have d3 : w9.cell? ⟨w.heap.size + 1, 3, none⟩ = some (.slice dp n dc) := HR9.out.cell 3
     have AF : Hid (∀ (w10 : World) (v' : Value), w10.ownsRow W1.heap.size 2 1 v' (n + 1) ((deadsOf g.dead (g.words.take k)).flatMap inCf ++ [.int .i64 x.no]) → (w9.alloc (.cells #[.int .i64 x.no] 2)).grownBy w10 (Value.slice dp n dc).ownBlock →
       ∃ dp' dc', v' = .slice dp' (n + 1) dc' ∧ Row w10 (w.heap.size + 1) 31 [.int .i64 g.now, .slice wp' (k + 1) wc', .slice none 0 0, .slice dp n dc] ∧ w10.ownsRow W1.heap.size 163 5 (.slice wp' (k + 1) wc') (k + 1) ((g.words.take (k + 1)).flatMap wdCf) ∧
        w10.ownsRow W1.heap.size 2 1 (.slice dp' (n + 1) dc') (n + 1) ((deadsOf g.dead (g.words.take (k + 1))).flatMap inCf) ∧ Kept W1.heap.size (w.heap.size + 1) (w.heap.size + 1) (w.heap.size + 1) W1 w10) := Lib.hid (fun w10 v' ho10 hg10 => by
      have hra := HR9.out.below ((Below.refl w9.heap.size w9).alloc (Nat.le_refl _) (.cells #[.int .i64 x.no] 2)) HR9.out.lt
      have hda := HD9.out.alloc (.cells #[.int .i64 x.no] 2)
      have hwa := HW9.out.alloc (.cells #[.int .i64 x.no] 2)
      obtain ⟨dp', dc', rfl⟩ := own_slice ho10
      refine ⟨dp', dc', rfl, hra.grownI hg10 (row_apart hra hda (by decide)), hwa.kept hg10 (own_apart hwa hda (by decide)), ?_, (HK9.out.later ((Below.refl w9.heap.size w9).alloc (Nat.le_refl _) (.cells #[.int .i64 x.no] 2)) (by omega)).grownO hg10 (by simp; omega) (fun j hj => (HD9.out.lt j hj).1)⟩
      rw [hds.out, List.flatMap_append]
      exact ho10)
     obtain ⟨i8, hi, hz0, hz1, hz2⟩ := info_parts infoInt64
     go_wp2_with (at_builtin; refine wpList_appo rfl (.tmp 54) (.tmp 56) 24 2 rfl i8 _ 1 8 Tryz.underlying24 hi hz0 hz1 hz2 rfl (by decide) (by decide) W1.heap.size (by omega) _ n _ [.int .i64 x.no] rfl HD9.out _ rfl rfl rfl (by intro u hu; simp at hu; subst hu; rfl) hdl ?_; intro v' w10 ho10 hg10; obtain ⟨dp', dc', rfl, r10, o10, p10, k10⟩ := AF.out _ _ ho10 hg10; have d10 : w10.cell? ⟨w.heap.size + 1, 3, none⟩ = some (.slice dp n dc) := r10.cell 3; have f10 : w10.frozen? ⟨w.heap.size + 1, 3, none⟩ = false := r10.free 3; have R10 := Lib.hid r10; have O10 := Lib.hid o10; have P10 := Lib.hid p10; have K10 := Lib.hid k10; clear ho10 hg10 r10 o10 p10 k10)
     go_roundw
     case rel =>
      have hdn : (deadsOf g.dead (g.words.take (k + 1))).length = n + 1 := by rw [hds.out, HNn.out]; simp
      refine ⟨k + 1, wp', dp', wc', dc', by omega, by go_num, ?_, own_setCell _ O10.out (row_apart R10.out O10.out (by decide)), ?_, K10.out.setCell (a := ⟨w.heap.size + 1, 3, none⟩) _ (.inl rfl)⟩
      ·rw [hdn]; exact R10.out.set 3 _
      ·rw [hdn]; exact own_setCell _ P10.out (row_apart R10.out P10.out (by decide))
     case measure => simp [RowKit.intOf]; omega
  ·have hkn : k = g.words.length := by omega
   subst hkn
   have HRa : Hid (Row wr (w.heap.size + 1) 31 [.int .i64 g.now, .slice wp g.words.length wc, .slice none 0 0, .slice dp g.dead.length dc]) := Lib.hid (by
    have h := HRw.out
    rw [List.take_length, HDe.out] at h
    exact h)
   have HWa : Hid (wr.ownsRow W1.heap.size 163 5 (.slice wp g.words.length wc) g.words.length (g.words.flatMap wdCf)) := Lib.hid (by
    have h := HWo.out
    rw [List.take_length] at h
    exact h)
   have HDa : Hid (wr.ownsRow W1.heap.size 2 1 (.slice dp g.dead.length dc) g.dead.length (g.dead.flatMap inCf)) := Lib.hid (by
    have h := HDo.out
    rw [List.take_length, HDe.out] at h
    exact h)
   have HZa := Lib.hid (HZ1.out.kept HKp.out (by omega) (by omega) (by omega) (by omega))
   have HBa := Lib.hid (HB1.out.trans (HKp.out.below (B := w.heap.size) (by omega) (by omega) (by omega) (by omega)))
   have hza := HBa.out.size
   have c2 : wr.cell? ⟨lb, 2, none⟩ = some (.map (some mk)) := HTr.out.led.cells.2.2
   obtain ⟨wo, hwo⟩ : ∃ wo : World, wo = wr := ⟨_, rfl⟩
   rw [← hwo] at HRa HWa HDa HZa HBa hza c2 HTr ⊢
   have hwo1 : w.heap.size + 1 < wo.heap.size := HRa.out.lt
   clear HRw HWo HDo HKp hwo HT1 HR1 HZ1 HB1 HN1 hcv
   go_wp2_with fail
   refine (keys_keys _ _).mono ?_
   rintro e w' ⟨rfl, rfl⟩
   have hm0 : (wo.alloc (.cells #[.map (some mk)] 118)).cell? ⟨wo.heap.size, 0, none⟩ = some (.map (some mk)) := (show Row (wo.alloc (.cells #[.map (some mk)] 118)) wo.heap.size _ [.map (some mk)] from heap_alloc_new wo _).cell 0
   have hbl := (Below.refl wo.heap.size wo).alloc (Nat.le_refl _) (.cells #[.map (some mk)] 118)
   have HTb := Lib.hid (HTr.out.later hbl)
   have HRb := Lib.hid (HRa.out.below hbl HRa.out.lt)
   have HZb := Lib.hid (HZa.out.below hbl HZa.out.lt)
   have HWb := Lib.hid (own_later HWa.out hbl)
   have HDb := Lib.hid (own_later HDa.out hbl)
   have HBb := Lib.hid (HBa.out.trans (hbl.mono hza))
   have hlr := HRb.out.lt
   have hlz := HZb.out.lt
   clear hbl HTr HRa HZa HWa HDa HBa c2
   go_wp2_with fail
   refine (sorted_keys HTb.out.2.2.2.1 hm0 (by omega) (keys_rise HKs.out) (keys_mem _)).mono ?_
   rintro e W2 ⟨nv, rfl, hnv, hb2⟩
   obtain ⟨np, nc, rfl⟩ := own_slice hnv
   rw [List.length_map] at hnv ⊢
   have HT2 := Lib.hid (HTb.out.later hb2)
   have HR2 := Lib.hid (HRb.out.below hb2 hlr)
   have HZ2 := Lib.hid (HZb.out.below hb2 hlz)
   have HW2 := Lib.hid (own_later HWb.out hb2)
   have HD2 := Lib.hid (own_later HDb.out hb2)
   have HB2 := Lib.hid (HBb.out.trans (hb2.mono (by have := HBb.out.size; omega)))
   have HN2 := Lib.hid hnv
   have HS2 := Lib.hid (show w.heap.size + 2 ≤ W2.heap.size from by have := HR2.out.lt; omega)
   clear hb2 hnv HTb HRb HZb HWb HDb HBb hm0 hlr hlz hza
   go_wp2_with fail
   go_loopw [67] (GR2 g W2.heap.size (w.heap.size + 1) wp dp g.words.length wc g.dead.length dc W2) (fun i _ => g.keys.length - (RowKit.intOf i).toNat)
   case atStart => exact ⟨0, none, 0, by omega, rfl, HR2.out, World.ownsRow_nil _ _ _ _, Kept.refl _ _ _ _ _⟩
   case round =>
    obtain ⟨k, kp, kc, hk, rfl, hrow, hko, hkp⟩ := hrel
    have HRw := Lib.hid hrow
    have HKo := Lib.hid hko
    have HKp := Lib.hid hkp
    have hsz := HSz.out
    have hs2 := HS2.out
    have HTr := Lib.hid (HT2.out.keptP hkp (by omega) (by omega))
    have hzr := hkp.size
    clear hrow hko hkp
    by_cases hlt : k < g.keys.length
    ·obtain ⟨x, hx⟩ : ∃ x, g.keys[k]? = some x := ⟨_, List.getElem?_eq_getElem hlt⟩
     obtain ⟨⟨f1, f2, f3, f4, ⟨f5, f6⟩, f7⟩, f8⟩ := keysOk_get HKs.out hx
     have hfk := findK_get HKs.out hx
     obtain ⟨gN, rfl, hgb, hgl, hgc⟩ := own_at HN2.out (k := k) (u := .int .i64 x.no) (by simp [hx, encZ])
     have n0 : wr.cell? ⟨gN, k, none⟩ = some (.int .i64 x.no) := (World.cell?_of_block (HKp.out.block gN hgl (by simp at hgb; omega) (by simp at hgb; omega) (by simp at hgb; omega))).trans hgc
     have c2 : wr.cell? ⟨lb, 2, none⟩ = some (.map (some mk)) := HTr.out.led.cells.2.2
     have hwf := wf_small (n := x.no) (by omega) (by omega)
     have hlk : (Instr.lookup 118 (.map (some mk)) (.int .i64 x.no) false).run Tryz.prog wr = .ok (.agg #[.int .i64 x.client, .int .i64 x.fam, .bool x.refresh, .float .f64 (floatOfInt .f64 x.till), .int .i64 x.state]) wr := by
      have h := HTr.out.2.2.2.1.look Tryz.underlying2 Tryz.underlying118 (hkZ_zero _) hwf
      rw [show (kyF g.keys x.no).getD hkZ = hkV x by simp [kyF, hfk]] at h
      exact h
     have hsf := run_store_float
     have hcv2 : ∀ w : World, (convert 205 2 (.float .f64 (floatOfInt .f64 x.till))).run Tryz.prog w = .ok (.int .i64 x.till) w := fun w => conv_fl (whole_of f5 f6) w
     have HX := Lib.hid hx
     have HNz := Lib.hid hlt
     obtain ⟨w6, hw6⟩ : ∃ w6, w6 = wr.alloc (.cells #[.int .i64 x.client, .int .i64 x.fam, .bool x.refresh, .float .f64 (floatOfInt .f64 x.till), .int .i64 x.state] 245) := ⟨_, rfl⟩
     have hb6 : Below wr.heap.size wr w6 := by rw [hw6]; exact (Below.refl _ _).alloc (Nat.le_refl _) _
     have h6 : Row w6 wr.heap.size 245 [.int .i64 x.client, .int .i64 x.fam, .bool x.refresh, .float .f64 (floatOfInt .f64 x.till), .int .i64 x.state] := by rw [hw6]; exact heap_alloc_new wr _
     have HR6 := Lib.hid (HRw.out.below hb6 HRw.out.lt)
     have HK6 := Lib.hid (own_later HKo.out hb6)
     have HKp6 := Lib.hid (HKp.out.later hb6 hzr)
     have h60 : w6.cell? ⟨wr.heap.size, 0, none⟩ = some (.int .i64 x.client) := h6.cell 0
     have h61 : w6.cell? ⟨wr.heap.size, 1, none⟩ = some (.int .i64 x.fam) := h6.cell 1
     have h62 : w6.cell? ⟨wr.heap.size, 2, none⟩ = some (.bool x.refresh) := h6.cell 2
     have h63 : w6.cell? ⟨wr.heap.size, 3, none⟩ = some (.float .f64 (floatOfInt .f64 x.till)) := h6.cell 3
     have h64 : w6.cell? ⟨wr.heap.size, 4, none⟩ = some (.int .i64 x.state) := h6.cell 4
     have a2 : w6.cell? ⟨w.heap.size + 1, 2, none⟩ = some (.slice kp k kc) := HR6.out.cell 2
     have hz6 := hb6.size
     have AF : Hid (∀ (w10 : World) (v' : Value), w10.ownsRow W2.heap.size 127 6 v' (k + 1) ((g.keys.take k).flatMap kyCf ++ kyCf x) → (w6.alloc (.cells #[.int .i64 x.no, .int .i64 x.client, .int .i64 x.fam, .bool x.refresh, .int .i64 x.till, .int .i64 x.state] 127)).grownBy w10 (Value.slice kp k kc).ownBlock →
       ∃ kp' kc', v' = .slice kp' (k + 1) kc' ∧ Row w10 (w.heap.size + 1) 31 [.int .i64 g.now, .slice wp g.words.length wc, .slice kp k kc, .slice dp g.dead.length dc] ∧ w10.ownsRow W2.heap.size 127 6 (.slice kp' (k + 1) kc') (k + 1) ((g.keys.take (k + 1)).flatMap kyCf) ∧
        Kept W2.heap.size (w.heap.size + 1) (w.heap.size + 1) (w.heap.size + 1) W2 w10) := Lib.hid (fun w10 v' ho10 hg10 => by
      have hba := (Below.refl w6.heap.size w6).alloc (Nat.le_refl _) (.cells #[.int .i64 x.no, .int .i64 x.client, .int .i64 x.fam, .bool x.refresh, .int .i64 x.till, .int .i64 x.state] 127)
      have hra := HR6.out.below hba HR6.out.lt
      have hka := HK6.out.alloc (.cells #[.int .i64 x.no, .int .i64 x.client, .int .i64 x.fam, .bool x.refresh, .int .i64 x.till, .int .i64 x.state] 127)
      obtain ⟨kp', kc', rfl⟩ := own_slice ho10
      refine ⟨kp', kc', rfl, hra.grownI hg10 (row_apart hra hka (by decide)), ?_, (HKp6.out.later hba (by omega)).grownO hg10 (by simp; omega) (fun j hj => (HK6.out.lt j hj).1)⟩
      rw [flat_step (cf := kyCf) HX.out]
      exact ho10)
     have HK6f := Lib.hid HK6.out
     have hw6z : wr.heap.size < w6.heap.size := h6.lt
     have HW6 := Lib.hid hw6
     clear hx hfk f3 f4 f7 f8 hgb hgl hgc hb6 h6 HRw HKo HKp HR6 hw6
     obtain ⟨i5, hi, hz0, hz1, hz2⟩ := info_parts infoKey
     go_upto_region 14 with fail
     rw [← HW6.out]
     clear n0 c2 hlk hwf hsf
     go_wp2_with (at_builtin; refine wpList_appo rfl (.tmp 78) (.tmp 92) 29 127 rfl i5 _ 6 48 Tryz.underlying29 hi hz0 hz1 hz2 rfl (by decide) (by decide) W2.heap.size (by omega) _ k _ (kyCf x) rfl HK6f.out _ rfl rfl rfl (by intro u hu; simp [kyCf] at hu; rcases hu with rfl | rfl | rfl | rfl | rfl | rfl <;> rfl) (by omega) ?_; intro v' w10 ho10 hg10; obtain ⟨kp', kc', rfl, r10, o10, k10⟩ := AF.out _ _ ho10 hg10; have d10 : w10.cell? ⟨w.heap.size + 1, 2, none⟩ = some (.slice kp k kc) := r10.cell 2; have f10 : w10.frozen? ⟨w.heap.size + 1, 2, none⟩ = false := r10.free 2; have R10 := Lib.hid r10; have O10 := Lib.hid o10; have K10 := Lib.hid k10; clear ho10 hg10 r10 o10 k10 h60 h61 h62 h63 h64 a2)
     go_roundw
     case rel => exact ⟨k + 1, kp', kc', by omega, by go_num, R10.out.set 2 _, own_setCell _ O10.out (row_apart R10.out O10.out (by decide)), K10.out.setCell (a := ⟨w.heap.size + 1, 2, none⟩) _ (.inl rfl)⟩
     case measure => simp [RowKit.intOf]; omega
    ·have hkn : k = g.keys.length := by omega
     subst hkn
     have HKa : Hid (wr.ownsRow W2.heap.size 127 6 (.slice kp g.keys.length kc) g.keys.length (g.keys.flatMap kyCf)) := Lib.hid (by
      have h := HKo.out
      rw [List.take_length] at h
      exact h)
     have HZr := Lib.hid (HZ2.out.kept HKp.out (by omega) (by omega) (by omega) (by omega))
     have HWr := Lib.hid (own_kept HW2.out HKp.out ⟨fun k hk => (HW2.out.lt k hk).2, row_own_ne HR2.out HW2.out (by decide)⟩)
     have HDr := Lib.hid (own_kept HD2.out HKp.out ⟨fun k hk => (HD2.out.lt k hk).2, row_own_ne HR2.out HD2.out (by decide)⟩)
     have HBr := Lib.hid (HB2.out.trans (HKp.out.below (B := w.heap.size) (by omega) (by omega) (by omega) (by omega)))
     have y0 : wr.cell? ⟨w.heap.size + 1, 0, none⟩ = some (.int .i64 g.now) := HRw.out.cell 0
     have y1 : wr.cell? ⟨w.heap.size + 1, 1, none⟩ = some (.slice wp g.words.length wc) := HRw.out.cell 1
     have y2 : wr.cell? ⟨w.heap.size + 1, 2, none⟩ = some (.slice kp g.keys.length kc) := HRw.out.cell 2
     have y3 : wr.cell? ⟨w.heap.size + 1, 3, none⟩ = some (.slice dp g.dead.length dc) := HRw.out.cell 3
     have hth : wr.there w.heap.size 0 (#[.int .i64 g.now, .slice wp g.words.length wc, .slice kp g.keys.length kc, .slice dp g.dead.length dc] : Array Value).size := HZr.out.there 0 4 (by simp)
     have HT := Lib.hid hth
     clear hth
     go_wp2_with (refine Stop.out (p := wpList _ _ _ [{ dst := _, op := .store 31 _ _, type := _, pos := _, after := _, guard := _ }] _ _) ?_)
     constructor
     refine wpList_store_to rfl 31 (.tmp 2) (.tmp 96) rfl w.heap.size 0 #[.int .i64 g.now, .slice wp g.words.length wc, .slice kp g.keys.length kc, .slice dp g.dead.length dc] rfl rfl HT.out sizeGrantZ (oneGrantZ g.now ⟨wp, g.words.length, wc, kp, g.keys.length, kc, dp, g.dead.length, dc⟩) ?_
     intro Z hZ
     have hk5 : Kept (wr.heap.size) w.heap.size w.heap.size w.heap.size wr Z := by rw [hZ]; exact Kept.setCells (.inl rfl) _ 0 (Kept.refl _ _ _ _ _)
     have Z1 : Row Z w.heap.size 31 (grL g.now ⟨wp, g.words.length, wc, kp, g.keys.length, kc, dp, g.dead.length, dc⟩) := by rw [hZ]; exact HZr.out.setCells _ 0
     have HZ1 := Lib.hid Z1
     have HO : Hid (GrOwn w.heap.size g ⟨wp, g.words.length, wc, kp, g.keys.length, kc, dp, g.dead.length, dc⟩ Z) := Lib.hid ⟨own_down (own_kept HWr.out hk5 ⟨fun k hk => (HWr.out.lt k hk).2, row_own_ne HZr.out HWr.out (by decide)⟩) (by omega), own_down (own_kept HKa.out hk5 ⟨fun k hk => (HKa.out.lt k hk).2, row_own_ne HZr.out HKa.out (by decide)⟩) (by omega), own_down (own_kept HDr.out hk5 ⟨fun k hk => (HDr.out.lt k hk).2, row_own_ne HZr.out HDr.out (by decide)⟩) (by omega)⟩
     have HBz := Lib.hid (HBr.out.trans (hk5.below (B := w.heap.size) (by have := HBr.out.size; omega) (Nat.le_refl _) (Nat.le_refl _) (Nat.le_refl _)))
     clear hZ hk5 Z1 y0 y1 y2 y3
     go_wp2_with fail
     refine bodyPost_ret (ret_grant rfl rfl HZ1.out) rfl ?_
     exact ⟨_, rfl, HO.out, HBz.out⟩
end Go.Proofs.YtjccnjfdeedneaaGreat
