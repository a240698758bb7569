/- What all share: a key and a word asked of a stripe; who is dead. -/
import Derived.Test.YtjccnjfdeedneaaGreatSGdH
import Derived.Test.YtjccnjfdeedneaaGreatSGdK
import Derived.Test.YtjccnjfdeedneaaGreatSGdC
namespace Go.Proofs.YtjccnjfdeedneaaGreat
open Go Go.RowKit Go.Lib Go.MuLone
set_option linter.unusedVariables false
set_option linter.unusedSimpArgs false
set_option maxRecDepth 100000

theorem set_back {l : List Value} {o : Nat} {x v : Value} (h : l[o]? = some v) : (l.set o x).set o v = l := by
 rw [List.set_set]
 apply List.ext_getElem?
 intro i
 rw [List.getElem?_set]
 split
 ·next e =>
  subst e
  split
  ·exact h.symm
  ·next hn => rw [List.getElem?_eq_none (by omega)]
 ·rfl
theorem below_back {w w' : World} {b E : Nat} {l : List Value} (hg : w.grownBy w' (some b)) (h : Row w b E l) (h' : Row w' b E l) : Below w.heap.size w w' :=
 ⟨hg.os, hg.tape, hg.output, hg.size, fun k hk => by
  by_cases e : k = b
  ·subst e; exact h'.trans h.symm
  ·exact hg.block k hk (fun e2 => e (Option.some.inj e2))⟩
theorem gb_kept {w w' : World} {g : Nat} (k : Kept w.heap.size g g g w w') : w.grownBy w' (some g) :=
 ⟨k.os, k.tape, k.output, k.size, fun i hi hne => k.block i hi (fun e => hne (by rw [e])) (fun e => hne (by rw [e])) (fun e => hne (by rw [e]))⟩
set_option maxHeartbeats 1000000 in
theorem keyIn_F (mk n : Nat) (F : Int → Option Value) (ks : List Ky) (no client : Int) (w : World) (hk : IMap Tryz.prog 2 w mk n F) (hF : F no = kyF ks no) (hwf : (Lit.int .i64 no).wf = true) :
  Calls Tryz.prog 224 #[.map (some mk), .int .i64 no, .int .i64 client] w (Ret (keyForV (keyFor ks no client)) w) := by
 have HK := Lib.hid hk
 have hsf := run_store_float
 clear hk
 cases hf : findK ks no with
 | none =>
  have HV : Hid (keyForV (keyFor ks no client) = .tuple #[.agg #[.int .i64 0, .int .i64 0, .bool false, .float .f64 0, .int .i64 0], .bool false]) := Lib.hid (by simp [keyFor, keyForV, hf, hkZ])
  have hlk : (Instr.lookup 118 (.map (some mk)) (.int .i64 no) true).run Tryz.prog (w.alloc (.cells #[.int .i64 0, .int .i64 0, .bool false, .float .f64 0, .int .i64 0] 245)) = .ok (.tuple #[.agg #[.int .i64 0, .int .i64 0, .bool false, .float .f64 0, .int .i64 0], .bool false]) (w.alloc (.cells #[.int .i64 0, .int .i64 0, .bool false, .float .f64 0, .int .i64 0] 245)) := by
   have h := (HK.out.alloc (.cells #[.int .i64 0, .int .i64 0, .bool false, .float .f64 0, .int .i64 0] 245)).look_ok Tryz.underlying2 Tryz.underlying118 (hkZ_zero _) hwf
   rw [hF, show kyF ks no = none by simp [kyF, hf]] at h
   exact h
  rw [HV.out]
  clear hf hF
  go_enter Tryz.func224, Tryz.ntmps224
  go_wp2_with fail
  go_returns
  exact ⟨rfl, by go_grown⟩
 | some x =>
  have hlk : (Instr.lookup 118 (.map (some mk)) (.int .i64 no) true).run Tryz.prog (w.alloc (.cells #[.int .i64 0, .int .i64 0, .bool false, .float .f64 0, .int .i64 0] 245)) = .ok (.tuple #[.agg #[.int .i64 x.client, .int .i64 x.fam, .bool x.refresh, .float .f64 (floatOfInt .f64 x.till), .int .i64 x.state], .bool true]) (w.alloc (.cells #[.int .i64 0, .int .i64 0, .bool false, .float .f64 0, .int .i64 0] 245)) := by
   have h := (HK.out.alloc (.cells #[.int .i64 0, .int .i64 0, .bool false, .float .f64 0, .int .i64 0] 245)).look_ok Tryz.underlying2 Tryz.underlying118 (hkZ_zero _) hwf
   rw [hF, show kyF ks no = some (hkV x) by simp [kyF, hf]] at h
   exact h
  by_cases hc : x.client = client
  ·have HV : Hid (keyForV (keyFor ks no client) = .tuple #[.agg #[.int .i64 x.client, .int .i64 x.fam, .bool x.refresh, .float .f64 (floatOfInt .f64 x.till), .int .i64 x.state], .bool true]) := Lib.hid (by simp [keyFor, keyForV, hf, hkV, hc])
   have e1 : (x.client != client) = false := by simp [hc]
   rw [HV.out]
   clear hf hc hF
   go_enter Tryz.func224, Tryz.ntmps224
   go_wp2_with fail
   go_returns
   exact ⟨rfl, by go_grown⟩
  ·have HV : Hid (keyForV (keyFor ks no client) = .tuple #[.agg #[.int .i64 0, .int .i64 0, .bool false, .float .f64 0, .int .i64 0], .bool false]) := Lib.hid (by simp [keyFor, keyForV, hf, hkZ, hc])
   have e1 : (x.client != client) = true := by simpa using hc
   rw [HV.out]
   clear hf hc hF
   go_enter Tryz.func224, Tryz.ntmps224
   go_wp2_with fail
   go_returns
   exact ⟨rfl, by go_grown⟩
set_option maxHeartbeats 4000000 in
theorem stripe_keyOf {b o mk n : Nat} {E : TypeId} {l : List Value} {F : Int → Option Value} {ks : List Ky} {no client : Int} {w : World} (hr : Row w b E l) (hl0 : l[o]? = some (.int .i32 0)) (hl3 : l[o + 3]? = some (.map (some mk)))
  (hk : IMap Tryz.prog 2 w mk n F) (hF : F no = kyF ks no) (hne : mk ≠ b) (hwf : (Lit.int .i64 no).wf = true) :
  Calls Tryz.prog 211 #[.pointer (some ⟨b, o, none⟩), .int .i64 no, .int .i64 client] w (Ret (keyForV (keyFor ks no client)) w) := by
 have hbz := hr.lt
 obtain ⟨g, hg⟩ : ∃ g, g = w.heap.size := ⟨_, rfl⟩
 obtain ⟨W0, hW0⟩ : ∃ W0, W0 = w.alloc (.cells #[.int .i64 0, .int .i64 0, .bool false, .float .f64 0, .int .i64 0] 245) := ⟨_, rfl⟩
 have hb0 : Below w.heap.size w W0 := by rw [hW0]; exact (Below.refl _ _).alloc (Nat.le_refl _) _
 have q0 : Row W0 g 245 [.int .i64 0, .int .i64 0, .bool false, .float .f64 0, .int .i64 0] := by rw [hW0, hg]; exact heap_alloc_new w _
 have r0 : Row W0 b E l := hr.below hb0 hbz
 have k0 := hk.later hb0
 have hgb : b < g := by omega
 have m0 : W0.cell? ⟨b, o, none⟩ = some (.int .i32 0) := (r0.cell o).trans hl0
 have L0 := Lib.hid (lock_free muLib ⟨b, o, none⟩ W0 m0 (r0.free o))
 obtain ⟨W1, hW1⟩ : ∃ W1, W1 = W0.setCell ⟨b, o, none⟩ (.int .i32 1) := ⟨_, rfl⟩
 have r1 : Row W1 b E (l.set o (.int .i32 1)) := by rw [hW1]; exact r0.set o _
 have q1 : Row W1 g 245 [.int .i64 0, .int .i64 0, .bool false, .float .f64 0, .int .i64 0] := by rw [hW1]; exact Row.setElse (a := ⟨b, o, none⟩) q0 (by show g ≠ b; omega) _
 have k1 : IMap Tryz.prog 2 W1 mk n F := by rw [hW1]; exact k0.setCell (a := ⟨b, o, none⟩) hne _
 have g1 : w.grownBy W1 (some b) := by rw [hW1]; exact gb_skip (gb_below hb0) (gb_set _) (.inr rfl)
 have c3 : W1.cell? ⟨b, o + 3, none⟩ = some (.map (some mk)) := by rw [r1.cell, List.getElem?_set_ne (by omega)]; exact hl3
 have HW0 := Lib.hid hW0
 have HW1 := Lib.hid hW1
 have HG := Lib.hid hg
 have HR := Lib.hid hr
 have HR1 := Lib.hid r1
 have HQ1 := Lib.hid q1
 have HK1 := Lib.hid k1
 have HG1 := Lib.hid g1
 have HL0 := Lib.hid hl0
 have HF := Lib.hid hF
 clear hb0 q0 r0 k0 m0 r1 q1 k1 g1 hW0 hW1 hg hr hk hl0 hl3 hF
 go_enter_defers Tryz.func211, Tryz.ntmps211
 go_wp2_with fail
 rw [← HW0.out]
 refine L0.out.mono ?_
 rintro e w1 ⟨rfl, hw1⟩
 rw [hw1, ← HW1.out]
 clear hw1
 go_wp2_with fail
 refine (keyIn_F mk n F ks no client _ HK1.out HF.out hwf).mono ?_
 rintro e w2 ⟨rfl, hb2⟩
 obtain ⟨c, f, b', t, s, ok, hs⟩ := keyForV_shape (keyFor ks no client)
 rw [hs]
 have HSs := Lib.hid hs
 have r2 := HR1.out.below hb2 HR1.out.lt
 have q2 := HQ1.out.below hb2 HQ1.out.lt
 have HT := Lib.hid (q2.there 0 5 (by simp))
 have HR2 := Lib.hid r2
 have HQ2 := Lib.hid q2
 have HG2 := Lib.hid (gb_later HG1.out hb2)
 clear hb2 hs r2 q2 c3
 rw [← HG.out]
 go_wp2_with (refine Stop.out (p := wpList _ _ _ [{ dst := _, op := .store 245 _ _, type := _, pos := _, after := _, guard := _ }, _] _ _) ?_)
 constructor
 refine wpList_store_to rfl 245 (.tmp 6) (.tmp 22) rfl g 0 #[.int .i64 c, .int .i64 f, .bool b', .float .f64 t, .int .i64 s] rfl rfl HT.out (by kernel_rfl) (by simp [Value.oneCell']) ?_
 intro V hV
 have hk3 : Kept w2.heap.size g g g w2 V := by rw [hV]; exact Kept.setCells (.inl rfl) _ 0 (Kept.refl _ _ _ _ _)
 have R3 : Row V g 245 [.int .i64 c, .int .i64 f, .bool b', .float .f64 t, .int .i64 s] := by rw [hV]; exact HQ2.out.setCells _ 0
 have r3 := HR2.out.kept hk3 HR2.out.lt (by omega) (by omega) (by omega)
 have m3 : V.cell? ⟨b, o, none⟩ = some (.int .i32 1) := by
  rw [r3.cell, List.getElem?_set_self (by have := (List.getElem?_eq_some_iff.1 HL0.out).1; exact this)]
 have z3 := r3.free o
 have HG3 := Lib.hid (gb_skip HG2.out (gb_kept hk3) (.inl (Nat.le_of_eq HG.out.symm)))
 have HR3 := Lib.hid R3
 have HS3 := Lib.hid r3
 clear hV hk3 R3 r3
 go_wp2_with fail
 refine leaves_cons (f := 134) (args := #[.pointer (some ⟨b, o, none⟩)]) (by simp) (by simp [go_sem]) ?_
 refine (unlock_deferred muLib ⟨b, o, none⟩ .returning _ m3 z3).mono ?_
 rintro e u' w'' ⟨rfl, rfl, rfl⟩
 refine ⟨_, results_key rfl rfl (Row.setElse (a := ⟨b, o, none⟩) HR3.out (by show g ≠ b; omega) _), by rw [HSs.out]; rfl, ?_⟩
 refine below_back (gb_skip HG3.out (gb_set _) (.inr rfl)) HR.out ?_
 have h9 := HS3.out.set o (.int .i32 0)
 rw [set_back HL0.out] at h9
 exact h9
theorem sizeHw : (Tryz.prog.info? 207).map (·.size) = some 5 := by kernel_rfl
theorem ret_hw {fn : Func} {p : Tmp} (h : fn.results = #[.cell p 207]) {tmps : Array Value} {w : World} {g : Nat} {c : Int} {s : ByteArray} {t d : Nat} {u : Bool} (hp : tmps.getD p undef = .pointer (some ⟨g, 0, none⟩)) (hr : Row w g 207 [.int .i64 c, .string s, .float .f64 t, .bool u, .float .f64 d]) :
  (results fn tmps).run Tryz.prog w = .ok (.agg #[.int .i64 c, .string s, .float .f64 t, .bool u, .float .f64 d]) w := by
 have hu := Tryz.underlying207
 exact results_cell_row h tmps w g 207 #[.int .i64 c, .string s, .float .f64 t, .bool u, .float .f64 d] (0, 0) _ hp hr hu rfl sizeHw
set_option maxHeartbeats 4000000 in
theorem stripe_word {b o mw n dd : Nat} {E : TypeId} {l : List Value} {F : Int → Option Value} {y : Wd} {no : Int} {w : World} (hr : Row w b E l) (hl0 : l[o]? = some (.int .i32 0)) (hl2 : l[o + 2]? = some (.map (some mw)))
  (hk : IMap Tryz.prog 2 w mw n F) (hF : F no = some (hwV y dd)) (hne : mw ≠ b) (hwf : (Lit.int .i64 no).wf = true) :
  Calls Tryz.prog 212 #[.pointer (some ⟨b, o, none⟩), .int .i64 no] w (Ret (hwV y dd) w) := by
 have hbz := hr.lt
 obtain ⟨g, hg⟩ : ∃ g, g = w.heap.size := ⟨_, rfl⟩
 obtain ⟨W0, hW0⟩ : ∃ W0, W0 = w.alloc (.cells #[.int .i64 0, .string ⟨#[]⟩, .float .f64 0, .bool false, .float .f64 0] 207) := ⟨_, rfl⟩
 have hb0 : Below w.heap.size w W0 := by rw [hW0]; exact (Below.refl _ _).alloc (Nat.le_refl _) _
 have q0 : Row W0 g 207 [.int .i64 0, .string ⟨#[]⟩, .float .f64 0, .bool false, .float .f64 0] := by rw [hW0, hg]; exact heap_alloc_new w _
 have r0 : Row W0 b E l := hr.below hb0 hbz
 have k0 := hk.later hb0
 have hgb : b < g := by omega
 have m0 : W0.cell? ⟨b, o, none⟩ = some (.int .i32 0) := (r0.cell o).trans hl0
 have L0 := Lib.hid (lock_free muLib ⟨b, o, none⟩ W0 m0 (r0.free o))
 obtain ⟨W1, hW1⟩ : ∃ W1, W1 = W0.setCell ⟨b, o, none⟩ (.int .i32 1) := ⟨_, rfl⟩
 have r1 : Row W1 b E (l.set o (.int .i32 1)) := by rw [hW1]; exact r0.set o _
 have q1 : Row W1 g 207 [.int .i64 0, .string ⟨#[]⟩, .float .f64 0, .bool false, .float .f64 0] := by rw [hW1]; exact Row.setElse (a := ⟨b, o, none⟩) q0 (by show g ≠ b; omega) _
 have k1 : IMap Tryz.prog 2 W1 mw n F := by rw [hW1]; exact k0.setCell (a := ⟨b, o, none⟩) hne _
 have g1 : w.grownBy W1 (some b) := by rw [hW1]; exact gb_skip (gb_below hb0) (gb_set _) (.inr rfl)
 have c2 : W1.cell? ⟨b, o + 2, none⟩ = some (.map (some mw)) := by rw [r1.cell, List.getElem?_set_ne (by omega)]; exact hl2
 have hlk : (Instr.lookup 117 (.map (some mw)) (.int .i64 no) false).run Tryz.prog W1 = .ok (.agg #[.int .i64 y.client, .string y.shade, .float .f64 (floatOfInt .f64 y.till), .bool y.used, .float .f64 dd]) W1 := by
  have h := k1.look Tryz.underlying2 Tryz.underlying117 (hwZ_zero _) hwf
  rw [hF] at h
  exact h
 have HW0 := Lib.hid hW0
 have HW1 := Lib.hid hW1
 have HG := Lib.hid hg
 have HR := Lib.hid hr
 have HR1 := Lib.hid r1
 have HQ1 := Lib.hid q1
 have HG1 := Lib.hid g1
 have HL0 := Lib.hid hl0
 clear hb0 q0 r0 k0 m0 r1 q1 k1 g1 hW0 hW1 hg hr hk hl0 hl2 hF
 go_enter_defers Tryz.func212, Tryz.ntmps212
 go_wp2_with fail
 rw [← HW0.out]
 refine L0.out.mono ?_
 rintro e w1 ⟨rfl, hw1⟩
 rw [hw1, ← HW1.out]
 clear hw1
 have HT := Lib.hid (HQ1.out.there 0 5 (by simp))
 rw [← HG.out]
 go_wp2_with (refine Stop.out (p := wpList _ _ _ [{ dst := _, op := .store 207 _ _, type := _, pos := _, after := _, guard := _ }] _ _) ?_)
 constructor
 refine wpList_store_to rfl 207 (.tmp 4) (.tmp 17) rfl g 0 #[.int .i64 y.client, .string y.shade, .float .f64 (floatOfInt .f64 y.till), .bool y.used, .float .f64 dd] rfl rfl HT.out (by kernel_rfl) (by simp [Value.oneCell']) ?_
 intro V hV
 have hk3 : Kept W1.heap.size g g g W1 V := by rw [hV]; exact Kept.setCells (.inl rfl) _ 0 (Kept.refl _ _ _ _ _)
 have R3 : Row V g 207 [.int .i64 y.client, .string y.shade, .float .f64 (floatOfInt .f64 y.till), .bool y.used, .float .f64 dd] := by rw [hV]; exact HQ1.out.setCells _ 0
 have r3 := HR1.out.kept hk3 HR1.out.lt (by omega) (by omega) (by omega)
 have m3 : V.cell? ⟨b, o, none⟩ = some (.int .i32 1) := by
  rw [r3.cell, List.getElem?_set_self (by have := (List.getElem?_eq_some_iff.1 HL0.out).1; exact this)]
 have z3 := r3.free o
 have HG3 := Lib.hid (gb_skip HG1.out (gb_kept hk3) (.inl (Nat.le_of_eq HG.out.symm)))
 have HR3 := Lib.hid R3
 have HS3 := Lib.hid r3
 clear hV hk3 R3 r3 hlk c2
 go_wp2_with fail
 refine leaves_cons (f := 134) (args := #[.pointer (some ⟨b, o, none⟩)]) (by simp) (by simp [go_sem]) ?_
 refine (unlock_deferred muLib ⟨b, o, none⟩ .returning _ m3 z3).mono ?_
 rintro e u' w'' ⟨rfl, rfl, rfl⟩
 refine ⟨_, ret_hw rfl rfl (Row.setElse (a := ⟨b, o, none⟩) HR3.out (by show g ≠ b; omega) _), rfl, ?_⟩
 refine below_back (gb_skip HG3.out (gb_set _) (.inr rfl)) HR.out ?_
 have h9 := HS3.out.set o (.int .i32 0)
 rw [set_back HL0.out] at h9
 exact h9
end Go.Proofs.YtjccnjfdeedneaaGreat
