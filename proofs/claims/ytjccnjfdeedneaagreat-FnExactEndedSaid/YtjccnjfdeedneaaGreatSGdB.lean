/- A map from numbers (int64) to values of whatever type, that the call makes: what stands at which number. Over any program. Right grants: times, states, by the program. Right grants: the program's side, whole. GrantRight: the program answers as the model. A ledger: where it lies, and the grant that it is the ledger of. What comes to be one of the dead. Right grants, item by item. A struct stored: what follows is told of whatever world comes of it. Over any program. -/
import Derived.WalkKit
import Derived.Lib.Hide
import Derived.Below
import Derived.Maps.OwnSet
import Derived.Maps.Views
import Derived.Test.YtjccnjfdeedneaaGreatSGdA
import Derived.OpenShut
import Derived.WideShapes
import Derived.DataShut
import Derived.Deep.MidRow
namespace Go.Proofs.YtjccnjfdeedneaaGreat
open Go Go.RowKit Go.Lib Go.Maps
set_option linter.unusedVariables false

/-- Each element is told by itself. -/
def heldE (v : Value) : Option (DataW Value × List MemPlace) := some (.held v, [])
/-- Block b is a map of N entries; F tells what stands at which number. -/
def IMap (P : Program) (k : TypeId) (w : World) (b N : Nat) (F : Int → Option Value) : Prop :=
 ∃ D : DataW Value, w.ownsMap P k heldE b N D ∧ Maps.size D = N ∧ ∀ i : Int, Maps.has D (.int .i64 i) = (F i).isSome ∧ ∀ z : Value, D.atKey (.int .i64 i) (.held z) = .held ((F i).getD z)
def setAt (F : Int → Option Value) (i : Int) (v : Value) : Int → Option Value := fun j => if j = i then some v else F j
theorem setAt_same (F : Int → Option Value) (i : Int) (v : Value) : setAt F i v i = some v := by simp [setAt]
theorem setAt_other {F : Int → Option Value} {i j : Int} (h : j ≠ i) (v : Value) : setAt F i v j = F j := by simp [setAt, h]
def grow (N : Nat) (o : Option Value) : Nat := if o.isSome then N else N + 1
theorem wf_i64 {i : Int} (h : (Lit.int .i64 i).wf = true) : WideAt.IsKeyLit (.int .i64 i) := by simp [WideAt.IsKeyLit]

section
variable {P : Program} {k e : TypeId} {w : World} {b N : Nat} {F : Int → Option Value}
theorem IMap.made (w : World) (P : Program) (k : TypeId) : IMap P k (w.alloc (.map #[] 0)) w.heap.size 0 (fun _ => none) :=
 ⟨.map [], World.ownsMap_made _ _ _ _, rfl, fun i => ⟨rfl, fun z => rfl⟩⟩
theorem IMap.alloc (h : IMap P k w b N F) (o : Obj) : IMap P k (w.alloc o) b N F := by
 obtain ⟨D, h1, h2⟩ := h
 exact ⟨D, h1.alloc o, h2⟩
theorem IMap.setCell (h : IMap P k w b N F) {a : Addr} (ha : b ≠ a.block) (u : Value) : IMap P k (w.setCell a u) b N F := by
 obtain ⟨D, h1, h2⟩ := h
 exact ⟨D, h1.setCell ha u, h2⟩
theorem IMap.lt (h : IMap P k w b N F) : b < w.heap.size := by
 obtain ⟨D, h1, h2⟩ := h
 exact h1.lt
theorem IMap.below {w' : World} {B : Nat} (h : IMap P k w b N F) (hb : Below B w w') (hB : b < B) : IMap P k w' b N F := by
 obtain ⟨D, h1, h2⟩ := h
 obtain ⟨es, clock, hb1, r⟩ := h1
 exact ⟨D, ⟨es, clock, (hb.block b hB).trans hb1, r⟩, h2⟩
theorem IMap.later {w' : World} (h : IMap P k w b N F) (hb : Below w.heap.size w w') : IMap P k w' b N F := h.below hb h.lt
theorem IMap.grown {w' : World} {r : Option Nat} (h : IMap P k w b N F) (hg : w.grownBy w' r) (hr : some b ≠ r) : IMap P k w' b N F := by
 obtain ⟨D, h1, h2⟩ := h
 exact ⟨D, h1.kept hg hr, h2⟩
theorem IMap.same {F' : Int → Option Value} (h : IMap P k w b N F) (hF : ∀ i, F i = F' i) : IMap P k w b N F' := by
 obtain rfl : F = F' := funext hF
 exact h

variable {ops : Array Oper} {rest : List Oper} {o : Oper} {a : Act} {Q : Exit → Act → World → Prop}
theorem IMap.look {t : TypeId} (h : IMap P k w b N F) (hk : P.underlying k = some (.int .i64)) (ht : P.underlying t = some (.map k e)) {z : Value} (hz : (zeroValue e).run P w = .ok z w) {i : Int} (hi : (Lit.int .i64 i).wf = true) :
  (Instr.lookup t (.map (some b)) (.int .i64 i) false).run P w = .ok ((F i).getD z) w := by
 obtain ⟨D, h1, _, h2⟩ := h
 obtain ⟨v, ps, hrun, hv⟩ := h1.lookup (int_keyed hk) ht hz (show heldE z = some (.held z, []) from rfl) (keyOf_int_mk hk hi)
 rw [(h2 i).2 z] at hv
 simp only [heldE, Option.some.injEq, Prod.mk.injEq, DataW.held.injEq] at hv
 rw [hrun, hv.1]
theorem IMap.look_ok {t : TypeId} (h : IMap P k w b N F) (hk : P.underlying k = some (.int .i64)) (ht : P.underlying t = some (.map k e)) {z : Value} (hz : (zeroValue e).run P w = .ok z w) {i : Int} (hi : (Lit.int .i64 i).wf = true) :
  (Instr.lookup t (.map (some b)) (.int .i64 i) true).run P w = .ok (.tuple #[(F i).getD z, .bool (F i).isSome]) w := by
 obtain ⟨D, h1, _, h2⟩ := h
 obtain ⟨v, ps, hrun, hv⟩ := h1.look_ok (int_keyed hk) ht hz (show heldE z = some (.held z, []) from rfl) (keyOf_int_mk hk hi)
 rw [(h2 i).2 z] at hv
 simp only [heldE, Option.some.injEq, Prod.mk.injEq, DataW.held.injEq] at hv
 rw [hrun, hv.1, (h2 i).1]
theorem IMap.put {t : TypeId} (h : IMap P k w b N F) (hk : P.underlying k = some (.int .i64)) (ht : P.underlying t = some (.map k e)) (hN : N < maxLen) {i : Int} (hi : (Lit.int .i64 i).wf = true) (v : Value) :
  ∃ w', (Instr.mapUpdate t (.map (some b)) (.int .i64 i) v).run P w = .ok () w' ∧ IMap P k w' b (grow N (F i)) (setAt F i v) ∧ w.grownBy w' (some b) := by
 obtain ⟨D, h1, hs, h2⟩ := h
 obtain ⟨w', hrun, h3, h4⟩ := h1.update (int_keyed hk) ht hN (keyOf_int_mk hk hi) (show heldE v = some (.held v, []) from rfl)
 have hsz : Maps.size (D.put (.int .i64 i) (.held v)) = grow N (F i) := by
  rw [size_put (h1.tidy (int_keyed hk)), (h2 i).1, hs]
  unfold grow
  cases (F i).isSome <;> rfl
 refine ⟨w', hrun, ⟨D.put (.int .i64 i) (.held v), ?_, hsz, fun j => ?_⟩, h4⟩
 ·obtain ⟨es, clock, hb, Ft, hle, hD⟩ := h3
  refine ⟨es, clock, hb, Ft, ?_, hD⟩
  rw [← hsz, hD]
  simp [Maps.size, length_sorted]
 ·by_cases e1 : j = i
  ·subst e1
   exact ⟨by rw [has_put_same h1.isMap (wf_i64 hi), setAt_same]; rfl, fun z => by rw [atKey_put_same h1.isMap (wf_i64 hi), setAt_same]; rfl⟩
  ·have hne : (Lit.int .i64 j) ≠ .int .i64 i := fun h => e1 (by injection h)
   exact ⟨by rw [has_put_other hne, setAt_other e1]; exact (h2 j).1, fun z => by rw [atKey_put_other hne, setAt_other e1]; exact (h2 j).2 z⟩
theorem IMap.len {t : TypeId} (h : IMap P k w b N F) (ht : P.underlying t = some (.map k e)) (ty : TypeId) : (Builtin.len_ #[t] ty #[.map (some b)]).run P w = .ok (.int .i64 N) w := by
 obtain ⟨D, h1, hs, h2⟩ := h
 rw [h1.len ht ty, hs]

theorem wpList_lookup_I (hg : o.guard = none) (m x : Operand) (t : TypeId) (hop : o.op = Op.lookup t m x false) (ht : P.underlying t = some (.map k e)) (hk : P.underlying k = some (.int .i64)) {z : Value} (hz : ∀ w, (zeroValue e).run P w = .ok z w)
  (hm : a.eval m = .map (some b)) (hown : IMap P k w b N F) (i : Int) (hx : a.eval x = .int .i64 i) (hi : (Lit.int .i64 i).wf = true)
  (hK : wpList P ops Q rest (a.put o.dst ((F i).getD z)) w) : wpList P ops Q (o :: rest) a w := by
 refine wpList_plain hg fun K' hK' => ?_
 have hrun := hown.look hk ht (hz w) hi
 unfold Oper.wp
 simp [execOp, hop, hm, hx, hrun, Result.andThen]
 exact hK' _ _ hK
theorem wpList_lookup_I_ok (hg : o.guard = none) (m x : Operand) (t : TypeId) (hop : o.op = Op.lookup t m x true) (ht : P.underlying t = some (.map k e)) (hk : P.underlying k = some (.int .i64)) {z : Value} (hz : ∀ w, (zeroValue e).run P w = .ok z w)
  (hm : a.eval m = .map (some b)) (hown : IMap P k w b N F) (i : Int) (hx : a.eval x = .int .i64 i) (hi : (Lit.int .i64 i).wf = true)
  (hK : wpList P ops Q rest (a.put o.dst (.tuple #[(F i).getD z, .bool (F i).isSome])) w) : wpList P ops Q (o :: rest) a w := by
 refine wpList_plain hg fun K' hK' => ?_
 have hrun := hown.look_ok hk ht (hz w) hi
 unfold Oper.wp
 simp [execOp, hop, hm, hx, hrun, Result.andThen]
 exact hK' _ _ hK
theorem wpList_put_I (hg : o.guard = none) (m x v : Operand) (t : TypeId) (hop : o.op = Op.mapUpdate t m x v) (ht : P.underlying t = some (.map k e)) (hk : P.underlying k = some (.int .i64))
  (hm : a.eval m = .map (some b)) (hown : IMap P k w b N F) (hN : N < maxLen) (i : Int) (hx : a.eval x = .int .i64 i) (hi : (Lit.int .i64 i).wf = true) (val : Value) (hv : a.eval v = val)
  (hK : ∀ w', IMap P k w' b (grow N (F i)) (setAt F i val) → w.grownBy w' (some b) → wpList P ops Q rest (a.put o.dst undef) w') : wpList P ops Q (o :: rest) a w := by
 refine wpList_plain hg fun K' hK' => ?_
 obtain ⟨w', hrun, h3, h4⟩ := hown.put hk ht hN hi val
 unfold Oper.wp
 simp [execOp, hop, hm, hx, hv, hrun, Result.andThen]
 exact hK' _ _ (hK w' h3 h4)
theorem run_makeMap_hintI {t k e : TypeId} (ht : P.underlying t = some (.map k e)) (q : IntKind) (h : Int) (w : World) : (Instr.makeMap t (some (.int q h))).run P w = .ok (.map (some w.heap.size)) (w.alloc (.map #[] 0)) := by
 simp [Instr.makeMap, run_underlying ht, asInt, asIntOf, Result.andThen]
end
end Go.Proofs.YtjccnjfdeedneaaGreat
/- Right grants: times, states, by the program. -/
namespace Go.Proofs.YtjccnjfdeedneaaGreat
open Go Go.RowKit Go.Lib
set_option linter.unusedVariables false

theorem nan_any (w : World) : Calls Tryz.prog 192 #[] w fun e w' => e = .returned (.float .f64 nanB) ∧ w = w' := by
 have hx : ∀ w, (callFunc 213 #[.int .u64 9221120237041090561]).run Tryz.prog w = .ok (.value (.float .f64 9221120237041090561)) w := fun w => by kernel_rfl
 go_enter Tryz.func192, Tryz.ntmps192
 go_wp2_with fail
 go_ret
 exact ⟨rfl, rfl⟩
/-- The bits by which a time is kept. -/
def tmB (n : Int) : Nat := if 0 ≤ n ∧ n ≤ 1000000 then floatOfInt .f64 n else nanB
theorem tmB_yes {n : Int} (h : isB n 0 1000000 = true) : tmB n = floatOfInt .f64 n := by
 unfold isB at h
 simp at h
 simp [tmB, h]
theorem timeOf_any (n : Int) (w : World) : Calls Tryz.prog 161 #[.int .i64 n] w fun e w' => e = .returned (.float .f64 (tmB n)) ∧ w = w' := by
 by_cases h0 : n < 0
 ·have HT : Hid (tmB n = nanB) := Lib.hid (if_neg (by omega))
  go_enter Tryz.func161, Tryz.ntmps161
  go_wp2_with (go_at_call 192; refine (nan_any _).mono ?_; rintro e w' ⟨rfl, rfl⟩)
  go_ret
  exact ⟨by rw [HT.out]; rfl, rfl⟩
 ·by_cases h1 : 1000000 < n
  ·have HT : Hid (tmB n = nanB) := Lib.hid (if_neg (by omega))
   go_enter Tryz.func161, Tryz.ntmps161
   go_wp2_with (go_at_call 192; refine (nan_any _).mono ?_; rintro e w' ⟨rfl, rfl⟩)
   go_ret
   exact ⟨by rw [HT.out]; rfl, rfl⟩
  ·have HT : Hid (tmB n = floatOfInt .f64 n) := Lib.hid (if_pos (by omega))
   have hu : (Tryz.prog.underlying 2).isSome = true := by kernel_rfl
   have hf : Tryz.prog.underlying 205 = some (.float .f64) := by kernel_rfl
   have hr := fun w => run_convert_int_float (P := Tryz.prog) w 2 205 .i64 .f64 n hu hf
   go_enter Tryz.func161, Tryz.ntmps161
   go_wp2_with fail
   go_ret
   exact ⟨by rw [HT.out]; rfl, rfl⟩

theorem notNum_any (x : Nat) (w : World) : Calls Tryz.prog 160 #[.float .f64 x] w fun e w' => e = .returned (.bool (FloatKind.f64.format.order x x != some .eq)) ∧ w = w' := by
 go_enter Tryz.func160, Tryz.ntmps160
 go_wp2_with fail
 go_ret
 exact ⟨rfl, rfl⟩
theorem tmB_num (n : Int) : (!(FloatKind.f64.format.order (tmB n) (tmB n) != some .eq)) = isB n 0 1000000 := by
 by_cases h : 0 ≤ n ∧ n ≤ 1000000
 ·rw [show tmB n = floatOfInt .f64 n from if_pos h, neq_self ⟨h.1, by omega⟩]
  unfold isB
  rw [decide_eq_true h.1, decide_eq_true h.2]
  rfl
 ·rw [show tmB n = nanB from if_neg h, neq_nan]
  unfold isB
  by_cases h1 : 0 ≤ n
  ·rw [decide_eq_false (p := n ≤ 1000000) (by omega), Bool.and_false]; rfl
  ·rw [decide_eq_false h1, Bool.false_and]; rfl
theorem isTime_any (n : Int) (w : World) : Calls Tryz.prog 107 #[.int .i64 n] w fun e w' => e = .returned (.bool (isB n 0 1000000)) ∧ w = w' := by
 have HT := Lib.hid (tmB_num n)
 obtain ⟨c, hc⟩ : ∃ c, c = (FloatKind.f64.format.order (tmB n) (tmB n) != some .eq) := ⟨_, rfl⟩
 rw [← hc] at HT
 have HC := Lib.hid hc
 clear hc
 go_enter Tryz.func107, Tryz.ntmps107
 go_wp2_with (first | (go_at_call 161; refine (timeOf_any _ _).mono ?_; rintro e w' ⟨rfl, rfl⟩) | (go_at_call 160; refine (notNum_any _ _).mono ?_; rw [← HC.out]; rintro e w' ⟨rfl, rfl⟩))
 go_ret
 exact ⟨by rw [← HT.out]; rfl, rfl⟩
theorem isTime_at {n : Int} {b : Bool} {w : World} (h : isB n 0 1000000 = b) : Calls Tryz.prog 107 #[.int .i64 n] w fun e w' => e = .returned (.bool b) ∧ w' = w := by
 subst h
 exact (isTime_any n w).mono fun _ _ h => ⟨h.1, h.2.symm⟩
theorem state_any (x : Ky) (w : World) : Calls Tryz.prog 163 #[kyV x] w (Ret (.bool (stateB x)) w) := by
 obtain ⟨no, client, fam, refresh, till, state⟩ := x
 unfold kyV stateB isB
 simp only
 cases refresh with
 | true =>
  by_cases h0 : state = 0
  ·subst h0
   go_enter Tryz.func163, Tryz.ntmps163
   go_wp2_with fail
   go_ret
   exact ⟨rfl, by go_grown⟩
  ·have e0 : (state == 0) = false := beq_eq_false_iff_ne.2 h0
   by_cases h1 : state = 1
   ·subst h1
    go_enter Tryz.func163, Tryz.ntmps163
    go_wp2_with fail
    go_ret
    exact ⟨rfl, by go_grown⟩
   ·have e1 : (state == 1) = false := beq_eq_false_iff_ne.2 h1
    have HB : Hid ((decide (0 ≤ state) && decide (state ≤ 2) && !(true && state == 2)) = false) := Lib.hid (by
     by_cases h2 : state = 2
     ·subst h2; rfl
     ·by_cases h3 : 0 ≤ state
      ·rw [decide_eq_false (p := state ≤ 2) (by omega)]; simp
      ·rw [decide_eq_false h3]; simp)
    clear h0 h1
    go_enter Tryz.func163, Tryz.ntmps163
    go_wp2_with fail
    go_ret
    exact ⟨by rw [HB.out]; rfl, by go_grown⟩
 | false =>
  have HB : Hid ((decide (0 ≤ state) && decide (state ≤ 2) && !(false && state == 2)) = (decide (0 ≤ state) && decide (state ≤ 2))) := Lib.hid (by simp)
  by_cases h1 : 0 ≤ state
  ·have d : decide (0 ≤ state) = true := decide_eq_true h1
   by_cases h2 : state ≤ 2
   ·have d2 : decide (state ≤ 2) = true := decide_eq_true h2
    go_enter Tryz.func163, Tryz.ntmps163
    go_wp2_with fail
    go_ret
    exact ⟨by first | rfl | (rw [HB.out]; rfl) | (rw [HB.out, d]; rfl) | (rw [HB.out, d, d2]; rfl), by go_grown⟩
   ·have d2 : decide (state ≤ 2) = false := decide_eq_false h2
    go_enter Tryz.func163, Tryz.ntmps163
    go_wp2_with fail
    go_ret
    exact ⟨by first | rfl | (rw [HB.out]; rfl) | (rw [HB.out, d]; rfl) | (rw [HB.out, d, d2]; rfl), by go_grown⟩
  ·have d : decide (0 ≤ state) = false := decide_eq_false h1
   go_enter Tryz.func163, Tryz.ntmps163
   go_wp2_with fail
   go_ret
   exact ⟨by first | rfl | (rw [HB.out]; rfl) | (rw [HB.out, d]; rfl), by go_grown⟩
theorem state_at {x : Ky} {b : Bool} {w : World} (h : stateB x = b) : Calls Tryz.prog 163 #[.agg #[.int .i64 x.no, .int .i64 x.client, .int .i64 x.fam, .bool x.refresh, .int .i64 x.till, .int .i64 x.state]] w (Ret (.bool b) w) := by
 subst h
 exact state_any x w
end Go.Proofs.YtjccnjfdeedneaaGreat
/- Right grants: the program's side, whole. -/
namespace Go.Proofs.YtjccnjfdeedneaaGreat
open Go Go.RowKit Go.Lib
set_option linter.unusedVariables false

theorem drop_end {α : Type} {l : List α} {k n : Nat} (hn : n = l.length) (hk : n ≤ k) : l.drop k = [] := List.drop_of_length_le (by omega)
theorem wordsOk_no {l : List Wd} {k : Nat} {x : Wd} {b : Int} (hx : l[k]? = some x) (h : wordOk b x = false) : wordsOk b (l.drop k) = false := by rw [drop_cons hx, wordsOk, h]; rfl
theorem wordsOk_yes {l : List Wd} {k : Nat} {x : Wd} {b : Int} (hx : l[k]? = some x) (h : wordOk b x = true) : wordsOk b (l.drop k) = wordsOk x.no (l.drop (k + 1)) := by rw [drop_cons hx, wordsOk, h]; rfl
theorem keysOk_no {ws : List Wd} {l : List Ky} {k : Nat} {x : Ky} {b : Int} (hx : l[k]? = some x) (h : keyOk ws b x = false) : keysOk ws b (l.drop k) = false := by rw [drop_cons hx, keysOk, h]; rfl
theorem keysOk_yes {ws : List Wd} {l : List Ky} {k : Nat} {x : Ky} {b : Int} (hx : l[k]? = some x) (h : keyOk ws b x = true) : keysOk ws b (l.drop k) = keysOk ws x.no (l.drop (k + 1)) := by rw [drop_cons hx, keysOk, h]; rfl
theorem deadOk_no {ws : List Wd} {l : List Int} {k : Nat} {x : Int} {b : Int} (hx : l[k]? = some x) (h : (decide (b < x) && hasNo ws x) = false) : deadOk ws b (l.drop k) = false := by rw [drop_cons hx, deadOk, h]; rfl
theorem deadOk_yes {ws : List Wd} {l : List Int} {k : Nat} {x : Int} {b : Int} (hx : l[k]? = some x) (h : (decide (b < x) && hasNo ws x) = true) : deadOk ws b (l.drop k) = deadOk ws x (l.drop (k + 1)) := by rw [drop_cons hx, deadOk, h]; rfl
theorem wordI_ways (b : Int) (x : Wd) : (x.no ≤ b ∧ wordOk b x = false) ∨ (b < x.no ∧ 99 < x.no ∧ wordOk b x = false) ∨ (b < x.no ∧ x.no ≤ 99 ∧ isB x.client 1 3 = false ∧ wordOk b x = false) ∨ (b < x.no ∧ x.no ≤ 99 ∧ isB x.client 1 3 = true ∧ proofB x.shade = false ∧ wordOk b x = false) ∨
  (b < x.no ∧ x.no ≤ 99 ∧ isB x.client 1 3 = true ∧ proofB x.shade = true ∧ isB x.till 0 1000000 = false ∧ wordOk b x = false) ∨ (b < x.no ∧ x.no ≤ 99 ∧ isB x.client 1 3 = true ∧ proofB x.shade = true ∧ isB x.till 0 1000000 = true ∧ wordOk b x = true) := by
 unfold wordOk
 by_cases h1 : b < x.no
 ·right
  by_cases h2 : x.no ≤ 99
  ·cases h4 : isB x.client 1 3 <;> cases h5 : proofB x.shade <;> cases h6 : isB x.till 0 1000000 <;> simp [h1, h2]
  ·left; exact ⟨h1, by omega, by rw [decide_eq_false h2]; simp⟩
 ·left; exact ⟨by omega, by rw [decide_eq_false h1]; simp⟩
theorem keyI_ways (ws : List Wd) (b : Int) (x : Ky) : (x.no ≤ b ∧ keyOk ws b x = false) ∨ (b < x.no ∧ 999 < x.no ∧ keyOk ws b x = false) ∨ (b < x.no ∧ x.no ≤ 999 ∧ isB x.client 1 3 = false ∧ keyOk ws b x = false) ∨ (b < x.no ∧ x.no ≤ 999 ∧ isB x.client 1 3 = true ∧ hasNo ws x.fam = false ∧ keyOk ws b x = false) ∨
  (b < x.no ∧ x.no ≤ 999 ∧ isB x.client 1 3 = true ∧ hasNo ws x.fam = true ∧ isB x.till 0 1000000 = false ∧ keyOk ws b x = false) ∨ (b < x.no ∧ x.no ≤ 999 ∧ isB x.client 1 3 = true ∧ hasNo ws x.fam = true ∧ isB x.till 0 1000000 = true ∧ stateB x = false ∧ keyOk ws b x = false) ∨
  (b < x.no ∧ x.no ≤ 999 ∧ isB x.client 1 3 = true ∧ hasNo ws x.fam = true ∧ isB x.till 0 1000000 = true ∧ stateB x = true ∧ keyOk ws b x = true) := by
 unfold keyOk
 by_cases h1 : b < x.no
 ·right
  by_cases h2 : x.no ≤ 999
  ·cases h4 : isB x.client 1 3 <;> cases h5 : hasNo ws x.fam <;> cases h6 : isB x.till 0 1000000 <;> cases h7 : stateB x <;> simp [h1, h2]
  ·left; exact ⟨h1, by omega, by rw [decide_eq_false h2]; simp⟩
 ·left; exact ⟨by omega, by rw [decide_eq_false h1]; simp⟩
/-- The map of a grant's words: which numbers are there. -/
def noF (l : List Wd) (i : Int) : Option Value := if hasNo l i then some (.bool true) else none
theorem noF_get (l : List Wd) (i : Int) : (noF l i).getD (.bool false) = .bool (hasNo l i) := by
 unfold noF
 cases hasNo l i <;> rfl
theorem boolZ (w : World) : (zeroValue 4).run Tryz.prog w = .ok (.bool false) w := by kernel_rfl
def WIRel (l : List Wd) (w : World) (v i : Value) (wr : World) : Prop := ∃ (k : Nat) (b : Int), k ≤ l.length ∧ i = .int .i64 k ∧ v = .int .i64 b ∧ 0 ≤ b ∧ wordsOk 0 l = wordsOk b (l.drop k) ∧ Below w.heap.size w wr
def KIRel (ws : List Wd) (l : List Ky) (w : World) (v i : Value) (wr : World) : Prop := ∃ (k : Nat) (b : Int), k ≤ l.length ∧ i = .int .i64 k ∧ v = .int .i64 b ∧ 0 ≤ b ∧ keysOk ws 0 l = keysOk ws b (l.drop k) ∧ Below w.heap.size w wr
def DIRel (ws : List Wd) (l : List Int) (v i : Value) : Prop := ∃ (k : Nat) (b : Int), k ≤ l.length ∧ i = .int .i64 k ∧ v = .int .i64 b ∧ deadOk ws 0 l = deadOk ws b (l.drop k)

set_option maxHeartbeats 1000000 in
theorem words_imp (p : Option Addr) (n cap : Nat) (l : List Wd) (w : World) (hn : n = l.length) (hl : LIn wdCf w p l) (hc : n ≤ 1048576) (hs : ∀ x ∈ l, x.shade.size ≤ maxLen) : Calls Tryz.prog 108 #[.slice p n cap] w (Ret (.bool (decide (l.length ≤ 20) && wordsOk 0 l)) w) := by
 have HL := Lib.hid hl
 have HN := Lib.hid hn
 have HS := Lib.hid hs
 clear hs
 clear hl hn
 by_cases hbig : 20 < n
 ·have HB : Hid ((decide (l.length ≤ 20) && wordsOk 0 l) = false) := Lib.hid (by rw [decide_eq_false (by have := HN.out; omega), Bool.false_and])
  have d : decide (20 < (n : Int)) = true := decide_eq_true (by omega)
  go_enter Tryz.func108, Tryz.ntmps108
  go_wp2_with fail
  go_ret
  exact ⟨by rw [HB.out]; rfl, Below.refl _ _⟩
 have HA : Hid ((decide (l.length ≤ 20) && wordsOk 0 l) = wordsOk 0 l) := Lib.hid (by rw [decide_eq_true (by have := HN.out; omega), Bool.true_and])
 rw [HA.out]
 have d : decide (20 < (n : Int)) = false := decide_eq_false (by omega)
 go_enter Tryz.func108, Tryz.ntmps108
 go_wp2_with fail
 go_loopw [3, 11] (WIRel l w) (fun _ i _ => n - (RowKit.intOf i).toNat)
 case atStart => exact ⟨0, 0, by omega, rfl, rfl, by omega, rfl, Below.refl _ _⟩
 case round =>
  obtain ⟨k, b, hk, rfl, rfl, hb0, he, hbel⟩ := hrel
  rw [← HN.out] at hk
  have HE := Lib.hid he
  have HBl := Lib.hid hbel
  have hz := hbel.size
  clear he hbel
  by_cases hlt : k < n
  ·obtain ⟨x, hx⟩ : ∃ x, l[k]? = some x := ⟨_, List.getElem?_eq_getElem (by rw [← HN.out]; exact hlt)⟩
   obtain ⟨bb, o, rfl, hat⟩ := HL.out.some hx
   obtain ⟨a0, a1, a2, a3, a4⟩ := wd_cells hat hx
   have hbW : bb < w.heap.size := World.block_lt_of_cell? w _ a0
   have c0 := (HBl.out.cell (p := ⟨bb, o + k * 5, none⟩) hbW).trans a0
   have c1 := (HBl.out.cell (p := ⟨bb, o + k * 5 + 1, none⟩) hbW).trans a1
   have c2 := (HBl.out.cell (p := ⟨bb, o + k * 5 + 2, none⟩) hbW).trans a2
   have c3 := (HBl.out.cell (p := ⟨bb, o + k * 5 + 3, none⟩) hbW).trans a3
   have c4 := (HBl.out.cell (p := ⟨bb, o + k * 5 + 4, none⟩) hbW).trans a4
   have hsz := HS.out x (List.mem_of_getElem? hx)
   have HX := Lib.hid hx
   clear a0 a1 a2 a3 a4 hx hat
   rcases wordI_ways b x with ⟨t1, te⟩ | ⟨t1, t2, te⟩ | ⟨t1, t2, t3, te⟩ | ⟨t1, t2, t3, t4, te⟩ | ⟨t1, t2, t3, t4, t5, te⟩ | ⟨t1, t2, t3, t4, t5, te⟩
   ·have TE := Lib.hid te
    clear te
    have e0 : decide (x.no ≤ b) = true := decide_eq_true t1
    go_wp2_with (first | (go_at_call 128; refine (upto_at (by assumption)).mono ?_; rintro e w' ⟨rfl, rfl⟩) | (go_at_call 162; refine (proofI_at (by assumption) hsz).mono ?_; rintro e w' ⟨rfl, rfl⟩) | (go_at_call 107; refine (isTime_at (by assumption)).mono ?_; rintro e w' ⟨rfl, rfl⟩))
    go_ret
    exact ⟨by rw [HE.out.trans (wordsOk_no HX.out TE.out)]; rfl, HBl.out.alloc hz _⟩
   ·have TE := Lib.hid te
    clear te
    have e0 : decide (x.no ≤ b) = false := decide_eq_false (by omega)
    have e1 : decide (99 < x.no) = true := decide_eq_true t2
    go_wp2_with (first | (go_at_call 128; refine (upto_at (by assumption)).mono ?_; rintro e w' ⟨rfl, rfl⟩) | (go_at_call 162; refine (proofI_at (by assumption) hsz).mono ?_; rintro e w' ⟨rfl, rfl⟩) | (go_at_call 107; refine (isTime_at (by assumption)).mono ?_; rintro e w' ⟨rfl, rfl⟩))
    go_ret
    exact ⟨by rw [HE.out.trans (wordsOk_no HX.out TE.out)]; rfl, HBl.out.alloc hz _⟩
   ·have TE := Lib.hid te
    clear te
    have e0 : decide (x.no ≤ b) = false := decide_eq_false (by omega)
    have e1 : decide (99 < x.no) = false := decide_eq_false (by omega)
    go_wp2_with (first | (go_at_call 128; refine (upto_at (by assumption)).mono ?_; rintro e w' ⟨rfl, rfl⟩) | (go_at_call 162; refine (proofI_at (by assumption) hsz).mono ?_; rintro e w' ⟨rfl, rfl⟩) | (go_at_call 107; refine (isTime_at (by assumption)).mono ?_; rintro e w' ⟨rfl, rfl⟩))
    go_ret
    exact ⟨by rw [HE.out.trans (wordsOk_no HX.out TE.out)]; rfl, HBl.out.alloc hz _⟩
   ·have TE := Lib.hid te
    clear te
    have e0 : decide (x.no ≤ b) = false := decide_eq_false (by omega)
    have e1 : decide (99 < x.no) = false := decide_eq_false (by omega)
    go_wp2_with (first | (go_at_call 128; refine (upto_at (by assumption)).mono ?_; rintro e w' ⟨rfl, rfl⟩) | (go_at_call 162; refine (proofI_at (by assumption) hsz).mono ?_; rintro e w' ⟨rfl, rfl⟩) | (go_at_call 107; refine (isTime_at (by assumption)).mono ?_; rintro e w' ⟨rfl, rfl⟩))
    go_ret
    exact ⟨by rw [HE.out.trans (wordsOk_no HX.out TE.out)]; rfl, HBl.out.alloc hz _⟩
   ·have TE := Lib.hid te
    clear te
    have e0 : decide (x.no ≤ b) = false := decide_eq_false (by omega)
    have e1 : decide (99 < x.no) = false := decide_eq_false (by omega)
    go_wp2_with (first | (go_at_call 128; refine (upto_at (by assumption)).mono ?_; rintro e w' ⟨rfl, rfl⟩) | (go_at_call 162; refine (proofI_at (by assumption) hsz).mono ?_; rintro e w' ⟨rfl, rfl⟩) | (go_at_call 107; refine (isTime_at (by assumption)).mono ?_; rintro e w' ⟨rfl, rfl⟩))
    go_ret
    exact ⟨by rw [HE.out.trans (wordsOk_no HX.out TE.out)]; rfl, HBl.out.alloc hz _⟩
   ·have TE := Lib.hid te
    clear te
    have e0 : decide (x.no ≤ b) = false := decide_eq_false (by omega)
    have e1 : decide (99 < x.no) = false := decide_eq_false (by omega)
    go_wp2_with (first | (go_at_call 128; refine (upto_at (by assumption)).mono ?_; rintro e w' ⟨rfl, rfl⟩) | (go_at_call 162; refine (proofI_at (by assumption) hsz).mono ?_; rintro e w' ⟨rfl, rfl⟩) | (go_at_call 107; refine (isTime_at (by assumption)).mono ?_; rintro e w' ⟨rfl, rfl⟩))
    go_roundw
    case rel => exact ⟨k + 1, x.no, by rw [← HN.out]; omega, by go_num, rfl, by omega, HE.out.trans (wordsOk_yes HX.out TE.out), HBl.out.alloc hz _⟩
    case measure => simp [RowKit.intOf]; omega
  ·have HD : Hid (wordsOk 0 l = true) := Lib.hid (by rw [HE.out, drop_end HN.out (by omega)]; rfl)
   go_wp2_with fail
   go_ret
   exact ⟨by rw [HD.out]; rfl, HBl.out⟩

set_option maxHeartbeats 1000000 in
theorem keys_imp (p : Option Addr) (n cap : Nat) (l : List Ky) (ws : List Wd) (g N : Nat) (w : World) (hn : n = l.length) (hl : LIn kyCf w p l) (hc : n ≤ 1048576) (hm : IMap Tryz.prog 2 w g N (noF ws)) (hf : ∀ x ∈ l, (Lit.int .i64 x.fam).wf = true) : Calls Tryz.prog 109 #[.slice p n cap, .map (some g)] w (Ret (.bool (decide (l.length ≤ 40) && keysOk ws 0 l)) w) := by
 have HL := Lib.hid hl
 have HN := Lib.hid hn
 have HM := Lib.hid hm
 have HF := Lib.hid hf
 clear hm hf
 clear hl hn
 by_cases hbig : 40 < n
 ·have HB : Hid ((decide (l.length ≤ 40) && keysOk ws 0 l) = false) := Lib.hid (by rw [decide_eq_false (by have := HN.out; omega), Bool.false_and])
  have d : decide (40 < (n : Int)) = true := decide_eq_true (by omega)
  go_enter Tryz.func109, Tryz.ntmps109
  go_wp2_with fail
  go_ret
  exact ⟨by rw [HB.out]; rfl, Below.refl _ _⟩
 have HA : Hid ((decide (l.length ≤ 40) && keysOk ws 0 l) = keysOk ws 0 l) := Lib.hid (by rw [decide_eq_true (by have := HN.out; omega), Bool.true_and])
 rw [HA.out]
 have d : decide (40 < (n : Int)) = false := decide_eq_false (by omega)
 go_enter Tryz.func109, Tryz.ntmps109
 go_wp2_with fail
 go_loopw [5, 13] (KIRel ws l w) (fun _ i _ => n - (RowKit.intOf i).toNat)
 case atStart => exact ⟨0, 0, by omega, rfl, rfl, by omega, rfl, Below.refl _ _⟩
 case round =>
  obtain ⟨k, b, hk, rfl, rfl, hb0, he, hbel⟩ := hrel
  rw [← HN.out] at hk
  have HE := Lib.hid he
  have HBl := Lib.hid hbel
  have hz := hbel.size
  clear he hbel
  by_cases hlt : k < n
  ·obtain ⟨x, hx⟩ : ∃ x, l[k]? = some x := ⟨_, List.getElem?_eq_getElem (by rw [← HN.out]; exact hlt)⟩
   obtain ⟨bb, o, rfl, hat⟩ := HL.out.some hx
   obtain ⟨a0, a1, a2, a3, a4, a5⟩ := ky_cells hat hx
   have hbW : bb < w.heap.size := World.block_lt_of_cell? w _ a0
   have c0 := (HBl.out.cell (p := ⟨bb, o + k * 6, none⟩) hbW).trans a0
   have c1 := (HBl.out.cell (p := ⟨bb, o + k * 6 + 1, none⟩) hbW).trans a1
   have c2 := (HBl.out.cell (p := ⟨bb, o + k * 6 + 2, none⟩) hbW).trans a2
   have c3 := (HBl.out.cell (p := ⟨bb, o + k * 6 + 3, none⟩) hbW).trans a3
   have c4 := (HBl.out.cell (p := ⟨bb, o + k * 6 + 4, none⟩) hbW).trans a4
   have c5 := (HBl.out.cell (p := ⟨bb, o + k * 6 + 5, none⟩) hbW).trans a5
   have hlk : (Instr.lookup 170 (.map (some g)) (.int .i64 x.fam) false).run Tryz.prog (wr.alloc (.cells #[.int .i64 x.no, .int .i64 x.client, .int .i64 x.fam, .bool x.refresh, .int .i64 x.till, .int .i64 x.state] 127)) = .ok (.bool (hasNo ws x.fam)) (wr.alloc (.cells #[.int .i64 x.no, .int .i64 x.client, .int .i64 x.fam, .bool x.refresh, .int .i64 x.till, .int .i64 x.state] 127)) := by rw [← noF_get]; exact ((HM.out.later HBl.out).alloc _).look Tryz.underlying2 Tryz.underlying170 (boolZ _) (HF.out x (List.mem_of_getElem? hx))
   have HX := Lib.hid hx
   clear a0 a1 a2 a3 a4 a5 hx hat
   rcases keyI_ways ws b x with ⟨t1, te⟩ | ⟨t1, t2, te⟩ | ⟨t1, t2, t3, te⟩ | ⟨t1, t2, t3, th, te⟩ | ⟨t1, t2, t3, th, t5, te⟩ | ⟨t1, t2, t3, th, t5, t6, te⟩ | ⟨t1, t2, t3, th, t5, t6, te⟩
   ·have TE := Lib.hid te
    clear te
    have e0 : decide (x.no ≤ b) = true := decide_eq_true t1
    go_wp2_with (first | (go_at_call 128; refine (upto_at (by assumption)).mono ?_; rintro e w' ⟨rfl, rfl⟩) | (go_at_call 107; refine (isTime_at (by assumption)).mono ?_; rintro e w' ⟨rfl, rfl⟩) | (go_at_call 163; refine (state_at (by assumption)).mono ?_; rintro e w3 ⟨rfl, hb3⟩; have HB3 := Lib.hid hb3; have y0 : w3.cell? ⟨wr.heap.size, 0, none⟩ = some (.int .i64 x.no) := (hb3.cell (p := ⟨wr.heap.size, 0, none⟩) (by simp)).trans (by simp); clear hb3))
    go_ret
    exact ⟨by rw [HE.out.trans (keysOk_no HX.out TE.out)]; rfl, HBl.out.alloc hz _⟩
   ·have TE := Lib.hid te
    clear te
    have e0 : decide (x.no ≤ b) = false := decide_eq_false (by omega)
    have e1 : decide (999 < x.no) = true := decide_eq_true t2
    go_wp2_with (first | (go_at_call 128; refine (upto_at (by assumption)).mono ?_; rintro e w' ⟨rfl, rfl⟩) | (go_at_call 107; refine (isTime_at (by assumption)).mono ?_; rintro e w' ⟨rfl, rfl⟩) | (go_at_call 163; refine (state_at (by assumption)).mono ?_; rintro e w3 ⟨rfl, hb3⟩; have HB3 := Lib.hid hb3; have y0 : w3.cell? ⟨wr.heap.size, 0, none⟩ = some (.int .i64 x.no) := (hb3.cell (p := ⟨wr.heap.size, 0, none⟩) (by simp)).trans (by simp); clear hb3))
    go_ret
    exact ⟨by rw [HE.out.trans (keysOk_no HX.out TE.out)]; rfl, HBl.out.alloc hz _⟩
   ·have TE := Lib.hid te
    clear te
    have e0 : decide (x.no ≤ b) = false := decide_eq_false (by omega)
    have e1 : decide (999 < x.no) = false := decide_eq_false (by omega)
    go_wp2_with (first | (go_at_call 128; refine (upto_at (by assumption)).mono ?_; rintro e w' ⟨rfl, rfl⟩) | (go_at_call 107; refine (isTime_at (by assumption)).mono ?_; rintro e w' ⟨rfl, rfl⟩) | (go_at_call 163; refine (state_at (by assumption)).mono ?_; rintro e w3 ⟨rfl, hb3⟩; have HB3 := Lib.hid hb3; have y0 : w3.cell? ⟨wr.heap.size, 0, none⟩ = some (.int .i64 x.no) := (hb3.cell (p := ⟨wr.heap.size, 0, none⟩) (by simp)).trans (by simp); clear hb3))
    go_ret
    exact ⟨by rw [HE.out.trans (keysOk_no HX.out TE.out)]; rfl, HBl.out.alloc hz _⟩
   ·have TE := Lib.hid te
    clear te
    have e0 : decide (x.no ≤ b) = false := decide_eq_false (by omega)
    have e1 : decide (999 < x.no) = false := decide_eq_false (by omega)
    rw [th] at hlk
    go_wp2_with (first | (go_at_call 128; refine (upto_at (by assumption)).mono ?_; rintro e w' ⟨rfl, rfl⟩) | (go_at_call 107; refine (isTime_at (by assumption)).mono ?_; rintro e w' ⟨rfl, rfl⟩) | (go_at_call 163; refine (state_at (by assumption)).mono ?_; rintro e w3 ⟨rfl, hb3⟩; have HB3 := Lib.hid hb3; have y0 : w3.cell? ⟨wr.heap.size, 0, none⟩ = some (.int .i64 x.no) := (hb3.cell (p := ⟨wr.heap.size, 0, none⟩) (by simp)).trans (by simp); clear hb3))
    go_ret
    exact ⟨by rw [HE.out.trans (keysOk_no HX.out TE.out)]; rfl, HBl.out.alloc hz _⟩
   ·have TE := Lib.hid te
    clear te
    have e0 : decide (x.no ≤ b) = false := decide_eq_false (by omega)
    have e1 : decide (999 < x.no) = false := decide_eq_false (by omega)
    rw [th] at hlk
    go_wp2_with (first | (go_at_call 128; refine (upto_at (by assumption)).mono ?_; rintro e w' ⟨rfl, rfl⟩) | (go_at_call 107; refine (isTime_at (by assumption)).mono ?_; rintro e w' ⟨rfl, rfl⟩) | (go_at_call 163; refine (state_at (by assumption)).mono ?_; rintro e w3 ⟨rfl, hb3⟩; have HB3 := Lib.hid hb3; have y0 : w3.cell? ⟨wr.heap.size, 0, none⟩ = some (.int .i64 x.no) := (hb3.cell (p := ⟨wr.heap.size, 0, none⟩) (by simp)).trans (by simp); clear hb3))
    go_ret
    exact ⟨by rw [HE.out.trans (keysOk_no HX.out TE.out)]; rfl, HBl.out.alloc hz _⟩
   ·have TE := Lib.hid te
    clear te
    have e0 : decide (x.no ≤ b) = false := decide_eq_false (by omega)
    have e1 : decide (999 < x.no) = false := decide_eq_false (by omega)
    rw [th] at hlk
    go_wp2_with (first | (go_at_call 128; refine (upto_at (by assumption)).mono ?_; rintro e w' ⟨rfl, rfl⟩) | (go_at_call 107; refine (isTime_at (by assumption)).mono ?_; rintro e w' ⟨rfl, rfl⟩) | (go_at_call 163; refine (state_at (by assumption)).mono ?_; rintro e w3 ⟨rfl, hb3⟩; have HB3 := Lib.hid hb3; have y0 : w3.cell? ⟨wr.heap.size, 0, none⟩ = some (.int .i64 x.no) := (hb3.cell (p := ⟨wr.heap.size, 0, none⟩) (by simp)).trans (by simp); clear hb3))
    go_ret
    exact ⟨by rw [HE.out.trans (keysOk_no HX.out TE.out)]; rfl, (HBl.out.alloc hz _).trans (HB3.out.mono (by simp; omega))⟩
   ·have TE := Lib.hid te
    clear te
    have e0 : decide (x.no ≤ b) = false := decide_eq_false (by omega)
    have e1 : decide (999 < x.no) = false := decide_eq_false (by omega)
    rw [th] at hlk
    go_wp2_with (first | (go_at_call 128; refine (upto_at (by assumption)).mono ?_; rintro e w' ⟨rfl, rfl⟩) | (go_at_call 107; refine (isTime_at (by assumption)).mono ?_; rintro e w' ⟨rfl, rfl⟩) | (go_at_call 163; refine (state_at (by assumption)).mono ?_; rintro e w3 ⟨rfl, hb3⟩; have HB3 := Lib.hid hb3; have y0 : w3.cell? ⟨wr.heap.size, 0, none⟩ = some (.int .i64 x.no) := (hb3.cell (p := ⟨wr.heap.size, 0, none⟩) (by simp)).trans (by simp); clear hb3))
    go_roundw
    case rel => exact ⟨k + 1, x.no, by rw [← HN.out]; omega, by go_num, rfl, by omega, HE.out.trans (keysOk_yes HX.out TE.out), (HBl.out.alloc hz _).trans (HB3.out.mono (by simp; omega))⟩
    case measure => simp [RowKit.intOf]; omega
  ·have HD : Hid (keysOk ws 0 l = true) := Lib.hid (by rw [HE.out, drop_end HN.out (by omega)]; rfl)
   go_wp2_with fail
   go_ret
   exact ⟨by rw [HD.out]; rfl, HBl.out⟩

set_option maxHeartbeats 1000000 in
theorem dead_imp (p : Option Addr) (n cap : Nat) (l : List Int) (ws : List Wd) (g N : Nat) (w : World) (hn : n = l.length) (hl : LIn inCf w p l) (hc : n ≤ 1048576) (hm : IMap Tryz.prog 2 w g N (noF ws)) (hf : ∀ x ∈ l, (Lit.int .i64 x).wf = true) :
  Calls Tryz.prog 110 #[.slice p n cap, .map (some g)] w fun e w' => e = .returned (.bool (deadOk ws 0 l)) ∧ w = w' := by
 have HL := Lib.hid hl
 have HN := Lib.hid hn
 have HM := Lib.hid hm
 have HF := Lib.hid hf
 clear hl hn hm hf
 go_enter Tryz.func110, Tryz.ntmps110
 go_wp2_with fail
 go_loop [5, 10] (DIRel ws l) (fun _ i => n - (RowKit.intOf i).toNat)
 case atStart => exact ⟨0, 0, by omega, rfl, rfl, rfl⟩
 case round =>
  obtain ⟨k, b, hk, rfl, rfl, he⟩ := hrel
  rw [← HN.out] at hk
  have HE := Lib.hid he
  clear he
  by_cases hlt : k < n
  ·obtain ⟨x, hx⟩ : ∃ x, l[k]? = some x := ⟨_, List.getElem?_eq_getElem (by rw [← HN.out]; exact hlt)⟩
   obtain ⟨bb, o, rfl, hat⟩ := HL.out.some hx
   have a0 := in_cells hat hx
   have hlk : (Instr.lookup 170 (.map (some g)) (.int .i64 x) false).run Tryz.prog w = .ok (.bool (hasNo ws x)) w := by rw [← noF_get]; exact HM.out.look Tryz.underlying2 Tryz.underlying170 (boolZ _) (HF.out x (List.mem_of_getElem? hx))
   have HX := Lib.hid hx
   clear hx hat
   by_cases h1 : b < x
   ·have e0 : decide (x ≤ b) = false := decide_eq_false (by omega)
    cases th : hasNo ws x with
    | false =>
     have TE : Hid ((decide (b < x) && hasNo ws x) = false) := Lib.hid (by rw [th, Bool.and_false])
     rw [th] at hlk
     go_wp2_with fail
     go_ret
     exact ⟨by rw [HE.out.trans (deadOk_no HX.out TE.out)]; rfl, rfl⟩
    | true =>
     have TE : Hid ((decide (b < x) && hasNo ws x) = true) := Lib.hid (by rw [th, decide_eq_true h1]; rfl)
     rw [th] at hlk
     go_wp2_with fail
     go_round
     case rel => exact ⟨k + 1, x, by rw [← HN.out]; omega, by go_num, rfl, HE.out.trans (deadOk_yes HX.out TE.out)⟩
     case measure => simp [RowKit.intOf]; omega
   ·have e0 : decide (x ≤ b) = true := decide_eq_true (by omega)
    have TE : Hid ((decide (b < x) && hasNo ws x) = false) := Lib.hid (by rw [decide_eq_false h1, Bool.false_and])
    clear hlk
    go_wp2_with fail
    go_ret
    exact ⟨by rw [HE.out.trans (deadOk_no HX.out TE.out)]; rfl, rfl⟩
  ·have HD : Hid (deadOk ws 0 l = true) := Lib.hid (by rw [HE.out, drop_end HN.out (by omega)]; rfl)
   go_wp2_with fail
   go_ret
   exact ⟨by rw [HD.out]; rfl, rfl⟩
end Go.Proofs.YtjccnjfdeedneaaGreat
/- GrantRight: the program answers as the model. -/
namespace Go.Proofs.YtjccnjfdeedneaaGreat
open Go Go.RowKit Go.Lib
set_option linter.unusedVariables false

/-- The numbers that are looked up in a grant are within int64. -/
def GrWf (g : Gr) : Prop := (∀ x ∈ g.keys, (Lit.int .i64 x.fam).wf = true) ∧ ∀ x ∈ g.dead, (Lit.int .i64 x).wf = true
def NosRel (l : List Wd) (g : Nat) (W : World) (i : Value) (wr : World) : Prop := ∃ k N : Nat, k ≤ l.length ∧ N ≤ k ∧ i = .int .i64 k ∧ IMap Tryz.prog 2 wr g N (noF (l.take k)) ∧ Below g W wr
theorem noF_step {l : List Wd} {k : Nat} {x : Wd} (hx : l[k]? = some x) (i : Int) : setAt (noF (l.take k)) x.no (.bool true) i = noF (l.take (k + 1)) i := by
 unfold setAt noF hasNo
 rw [List.take_add_one, hx, Option.toList_some, List.any_append, List.any_cons, List.any_nil, Bool.or_false]
 by_cases h : i = x.no
 ·subst h; simp
 ·have h2 : (x.no == i) = false := beq_eq_false_iff_ne.2 (fun e => h e.symm)
  rw [if_neg h, h2, Bool.or_false]
theorem grow_le (N : Nat) (o : Option Value) : grow N o ≤ N + 1 := by unfold grow; split <;> omega
theorem wf_small {n : Int} (h0 : 0 ≤ n) (h1 : n ≤ 1000000) : (Lit.int .i64 n).wf = true := (Lit.wf_int_iff .i64 n).2 ⟨by show -9223372036854775808 ≤ n; omega, by show n ≤ 9223372036854775807; omega⟩
theorem wordsOk_all {l : List Wd} : ∀ {b : Int}, wordsOk b l = true → ∀ x ∈ l, b < x.no ∧ x.no ≤ 99 := by
 induction l with
 | nil => intro b _ x hx; cases hx
 | cons y r ih =>
  intro b h
  unfold wordsOk wordOk at h
  simp only [Bool.and_eq_true, decide_eq_true_eq] at h
  intro x hx
  rcases List.mem_cons.1 hx with rfl | hx
  ·omega
  ·have := ih h.2 x hx
   omega
theorem gr_and (now : Int) (ws : List Wd) (ks : List Ky) (ds : List Int) : grantB ⟨now, ws, ks, ds⟩ = (isB now 0 1000000 && (decide (ws.length ≤ 20) && wordsOk 0 ws) && (decide (ks.length ≤ 40) && keysOk ws 0 ks) && deadOk ws 0 ds) := by
 unfold grantB
 simp only
 generalize isB now 0 1000000 = a
 generalize decide (ws.length ≤ 20) = b
 generalize decide (ks.length ≤ 40) = c
 generalize wordsOk 0 ws = d
 generalize keysOk ws 0 ks = e
 generalize deadOk ws 0 ds = f
 revert a b c d e f
 decide

set_option maxRecDepth 100000 in
set_option maxHeartbeats 2000000 in
theorem grant_imp (g : Gr) (h : GH) (w : World) (hin : GrIn w h g) (hs : GrSmall g) (hf : GrWf g) : Calls Tryz.prog 49 #[grV g.now h] w (Ret (.bool (grantB g)) w) := by
 obtain ⟨wp, wn, wc, kp, kn, kc, dp, dn, dc⟩ := h
 obtain ⟨now, ws, ks, ds⟩ := g
 obtain ⟨⟨hn1, hn2, hn3⟩, hl1, hl2, hl3⟩ := hin
 obtain ⟨hc1, hc2, hc3, hsh⟩ := hs
 obtain ⟨hf1, hf2⟩ := hf
 simp only at hn1 hn2 hn3 hl1 hl2 hl3 hc1 hc2 hc3 hsh hf1 hf2 ⊢
 rw [gr_and]
 unfold grV
 simp only
 have b1 : wn ≤ 1048576 := by omega
 have b2 : kn ≤ 1048576 := by omega
 have b3 : dn ≤ 1048576 := by omega
 have HN1 := Lib.hid hn1
 have HN2 := Lib.hid hn2
 have HN3 := Lib.hid hn3
 have HF1 := Lib.hid hf1
 have HF2 := Lib.hid hf2
 have hb0 := (Below.refl w.heap.size w).alloc (Nat.le_refl _) (.cells #[.int .i64 now, .slice wp wn wc, .slice kp kn kc, .slice dp dn dc] 31)
 have hrow : Row (w.alloc (.cells #[.int .i64 now, .slice wp wn wc, .slice kp kn kc, .slice dp dn dc] 31)) w.heap.size 31 [.int .i64 now, .slice wp wn wc, .slice kp kn kc, .slice dp dn dc] := heap_alloc_new w _
 obtain ⟨W, hW⟩ : ∃ W, W = w.alloc (.cells #[.int .i64 now, .slice wp wn wc, .slice kp kn kc, .slice dp dn dc] 31) := ⟨_, rfl⟩
 rw [← hW] at hb0 hrow
 have HW := Lib.hid hW
 have HR := Lib.hid hrow
 have HL1 := Lib.hid (hl1.later hb0)
 have HL2 := Lib.hid (hl2.later hb0)
 have HL3 := Lib.hid (hl3.later hb0)
 have HB := Lib.hid hb0
 have HS := Lib.hid hsh
 have hz := hb0.size
 have hgl := hrow.lt
 have hmm := fun h w => run_makeMap_hintI (P := Tryz.prog) Tryz.underlying170 .i64 h w
 clear hn1 hn2 hn3 hl1 hl2 hl3 hc1 hc2 hc3 hsh hf1 hf2 hb0 hrow hW
 cases t0 : isB now 0 1000000 with
 | false =>
  go_enter Tryz.func49, Tryz.ntmps49
  go_wp2_with (go_at_call 107; refine (isTime_at t0).mono ?_; rintro e w' ⟨rfl, rfl⟩)
  go_ret
  exact ⟨rfl, by go_grown⟩
 | true =>
 cases tw : (decide (ws.length ≤ 20) && wordsOk 0 ws) with
 | false =>
  go_enter Tryz.func49, Tryz.ntmps49
  go_wp2_with (go_at_call 107; refine (isTime_at t0).mono ?_; rintro e w' ⟨rfl, rfl⟩)
  rw [← HW.out]
  refine (words_imp wp wn wc ws _ HN1.out HL1.out b1 HS.out).mono ?_
  rw [tw]
  rintro e w2 ⟨rfl, hb2⟩
  have HB2 := Lib.hid (HB.out.trans (hb2.mono hz))
  clear hb2
  go_wp2_with fail
  go_ret
  exact ⟨rfl, HB2.out⟩
 | true =>
 have TW := Lib.hid tw
 have htw : ws.length ≤ 20 ∧ wordsOk 0 ws = true := by simpa using tw
 have HWa := Lib.hid (wordsOk_all htw.2)
 have hw20 : wn ≤ 20 := by have := HN1.out; omega
 clear htw tw
 go_enter Tryz.func49, Tryz.ntmps49
 go_wp2_with (go_at_call 107; refine (isTime_at t0).mono ?_; rintro e w' ⟨rfl, rfl⟩)
 rw [← HW.out]
 refine (words_imp wp wn wc ws _ HN1.out HL1.out b1 HS.out).mono ?_
 rw [TW.out]
 rintro e w2 ⟨rfl, hb2⟩
 have HR2 := Lib.hid (HR.out.below hb2 hgl)
 have HB2 := Lib.hid (HB.out.trans (hb2.mono hz))
 have g1 : w2.cell? ⟨w.heap.size, 1, none⟩ = some (.slice wp wn wc) := HR2.out.cell 1
 have hz2 := HB2.out.size
 have hgl2 := HR2.out.lt
 have hm0 := IMap.made w2 Tryz.prog 2
 have hb3 := (Below.refl w2.heap.size w2).alloc (Nat.le_refl _) (.map #[] 0)
 obtain ⟨V, hV⟩ : ∃ V, V = w2.alloc (.map #[] 0) := ⟨_, rfl⟩
 rw [← hV] at hm0 hb3
 have HV := Lib.hid hV
 have HL1w := Lib.hid (HL1.out.later hb2)
 have HB3 := Lib.hid hb3
 have HL2w := Lib.hid (HL2.out.later hb2)
 have HL3w := Lib.hid (HL3.out.later hb2)
 have HRv := Lib.hid (HR2.out.below hb3 hgl2)
 have HBv := Lib.hid (HB2.out.trans (hb3.mono hz2))
 have g1v : V.cell? ⟨w.heap.size, 1, none⟩ = some (.slice wp wn wc) := HRv.out.cell 1
 obtain ⟨g, hg⟩ : ∃ g, g = w2.heap.size := ⟨_, rfl⟩
 rw [← hg] at hm0
 have HM := Lib.hid hm0
 have hgV := hm0.lt
 have hzv := HBv.out.size
 have hgv := HRv.out.lt
 have hgg : w.heap.size < g := by omega
 have HGe := Lib.hid hg
 clear hb2 hb3 hm0 hV
 go_wp2_with fail
 rw [← HV.out, ← hg]
 clear g1 hmm hg
 go_loopw [23] (NosRel ws g V) (fun i _ => wn - (RowKit.intOf i).toNat)
 case atStart => exact ⟨0, 0, by omega, by omega, rfl, HM.out.same (fun i => rfl), Below.refl _ _⟩
 case round =>
  obtain ⟨k, N, hk, hNk, rfl, hm, hbel⟩ := hrel
  rw [← HN1.out] at hk
  have HBl := Lib.hid hbel
  have HMk := Lib.hid hm
  have hzr := hbel.size
  have hgr : g < wr.heap.size := hm.lt
  have hgw : w.heap.size < wr.heap.size := by omega
  have HRr := Lib.hid (HRv.out.below hbel hgg)
  clear hbel hm
  by_cases hlt : k < wn
  ·obtain ⟨x, hx⟩ : ∃ x, ws[k]? = some x := ⟨_, List.getElem?_eq_getElem (by rw [← HN1.out]; exact hlt)⟩
   obtain ⟨b, o, rfl, hat⟩ := HL1w.out.some hx
   obtain ⟨a0, a1, a2, a3, a4⟩ := wd_cells hat hx
   have hbW : b < w2.heap.size := World.block_lt_of_cell? w2 _ a0
   have hbg : b < g := by rw [HGe.out]; exact hbW
   have c0 := (HBl.out.cell (p := ⟨b, o + k * 5, none⟩) hbg).trans ((HB3.out.cell (p := ⟨b, o + k * 5, none⟩) hbW).trans a0)
   have c1 := (HBl.out.cell (p := ⟨b, o + k * 5 + 1, none⟩) hbg).trans ((HB3.out.cell (p := ⟨b, o + k * 5 + 1, none⟩) hbW).trans a1)
   have c2 := (HBl.out.cell (p := ⟨b, o + k * 5 + 2, none⟩) hbg).trans ((HB3.out.cell (p := ⟨b, o + k * 5 + 2, none⟩) hbW).trans a2)
   have c3 := (HBl.out.cell (p := ⟨b, o + k * 5 + 3, none⟩) hbg).trans ((HB3.out.cell (p := ⟨b, o + k * 5 + 3, none⟩) hbW).trans a3)
   have c4 := (HBl.out.cell (p := ⟨b, o + k * 5 + 4, none⟩) hbg).trans ((HB3.out.cell (p := ⟨b, o + k * 5 + 4, none⟩) hbW).trans a4)
   have hwf := HWa.out x (List.mem_of_getElem? hx)
   have HWf := Lib.hid (wf_small (n := x.no) (by omega) (by omega))
   have HX := Lib.hid hx
   clear a0 a1 a2 a3 a4 hx hat hwf
   go_wp2_with (at_mapUpdate; refine wpList_put_I rfl (.tmp 27) (.tmp 29) (.const (.bool true)) 170 rfl Tryz.underlying170 Tryz.underlying2 rfl (HMk.out.alloc _) (by unfold maxLen; omega) x.no rfl HWf.out (.bool true) rfl ?_; intro w4 hm4 hg4)
   have HM4 := Lib.hid (hm4.same (noF_step HX.out))
   have hN4 := grow_le N (noF (List.take k ws) x.no)
   have HB4 := Lib.hid ((HBl.out.alloc (by omega) (.cells #[.int .i64 x.no, .int .i64 x.client, .string x.shade, .int .i64 x.till, .bool x.used] 163)).grown hg4 (by simp; omega) (fun j hj => by cases hj; omega))
   clear hm4 hg4
   go_wp2_with fail
   go_roundw
   case rel => exact ⟨k + 1, _, by rw [← HN1.out]; omega, by omega, by go_num, HM4.out, HB4.out⟩
   case measure => simp [RowKit.intOf]; omega
  ·have hM : IMap Tryz.prog 2 wr g N (noF ws) := by have h := HMk.out; rwa [List.take_of_length_le (by rw [← HN1.out]; omega)] at h
   have HMa := Lib.hid hM
   have HBa := Lib.hid (HBv.out.trans (HBl.out.mono (by omega)))
   have HL2r : Hid (LIn kyCf wr kp ks) := Lib.hid (by
    rcases HL2w.out with h | ⟨b, o, h1, h2⟩
    ·exact .inl h
    ·have h3 := LAt.later h2 HB3.out
     cases ks with
     | nil => exact .inl rfl
     | cons y r =>
      have hb : b < w2.heap.size := rangeAt_lt h2 (by simp [kyCf])
      exact .inr ⟨b, o, h1, h3.below HBl.out (by rw [HGe.out]; exact hb)⟩)
   have HL3r : Hid (LIn inCf wr dp ds) := Lib.hid (by
    rcases HL3w.out with h | ⟨b, o, h1, h2⟩
    ·exact .inl h
    ·have h3 := LAt.later h2 HB3.out
     cases ds with
     | nil => exact .inl rfl
     | cons y r =>
      have hb : b < w2.heap.size := rangeAt_lt h2 (by simp [inCf])
      exact .inr ⟨b, o, h1, h3.below HBl.out (by rw [HGe.out]; exact hb)⟩)
   have q2 : wr.cell? ⟨w.heap.size, 2, none⟩ = some (.slice kp kn kc) := HRr.out.cell 2
   have hza := HBa.out.size
   clear hM
   cases tk : (decide (ks.length ≤ 40) && keysOk ws 0 ks) with
   | false =>
    have TK := Lib.hid tk
    go_wp2_with fail
    refine (keys_imp kp kn kc ks ws g N _ HN2.out HL2r.out b2 HMa.out HF1.out).mono ?_
    rw [tk]
    rintro e w5 ⟨rfl, hb5⟩
    have HB5 := Lib.hid (HBa.out.trans (hb5.mono hza))
    clear hb5
    go_wp2_with fail
    go_ret
    exact ⟨by rw [TK.out]; rfl, HB5.out⟩
   | true =>
    have TK := Lib.hid tk
    go_wp2_with fail
    refine (keys_imp kp kn kc ks ws g N _ HN2.out HL2r.out b2 HMa.out HF1.out).mono ?_
    rw [tk]
    rintro e w5 ⟨rfl, hb5⟩
    have HB5 := Lib.hid (HBa.out.trans (hb5.mono hza))
    have q3 : w5.cell? ⟨w.heap.size, 3, none⟩ = some (.slice dp dn dc) := (HRr.out.below hb5 HRr.out.lt).cell 3
    have HM5 := Lib.hid (HMa.out.later hb5)
    have HL5 := Lib.hid (HL3r.out.later hb5)
    clear hb5 q2
    go_wp2_with fail
    refine (dead_imp dp dn dc ds ws g N _ HN3.out HL5.out b3 HM5.out HF2.out).mono ?_
    rintro e w6 ⟨rfl, rfl⟩
    go_wp2_with fail
    go_ret
    exact ⟨by rw [TK.out]; rfl, HB5.out⟩
end Go.Proofs.YtjccnjfdeedneaaGreat
/- A ledger: where it lies, and the grant that it is the ledger of. -/
namespace Go.Proofs.YtjccnjfdeedneaaGreat
open Go Go.RowKit Go.Lib
set_option linter.unusedVariables false

theorem Row.grownI {w w1 : World} {q : Nat} {E : TypeId} {l : List Value} {r : Option Nat} (h : Row w q E l) (hg : w.grownBy w1 r) (hr : some q ≠ r) : Row w1 q E l := by
 have h1 := hg.block q h.lt hr
 unfold Row at h ⊢
 rw [h1]
 exact h
/-- What a ledger has of a word; dd: the bits of the time from which on it is dead. -/
def hwV (x : Wd) (dd : Nat) : Value := .agg #[.int .i64 x.client, .string x.shade, .float .f64 (floatOfInt .f64 x.till), .bool x.used, .float .f64 dd]
def hkV (x : Ky) : Value := .agg #[.int .i64 x.client, .int .i64 x.fam, .bool x.refresh, .float .f64 (floatOfInt .f64 x.till), .int .i64 x.state]
def hwZ : Value := .agg #[.int .i64 0, .string ByteArray.empty, .float .f64 0, .bool false, .float .f64 0]
def hkZ : Value := .agg #[.int .i64 0, .int .i64 0, .bool false, .float .f64 0, .int .i64 0]
/-- The bits of a word's time of death: of a dead one some time that has been, else what is never due. -/
def ddB (dead : List Int) (td : Int → Int) (n : Int) : Nat := if isDeadB dead n then floatOfInt .f64 (td n) else infB
def wdF (ws : List Wd) (dead : List Int) (td : Int → Int) (i : Int) : Option Value := (findW ws i).map fun x => hwV x (ddB dead td i)
def kyF (ks : List Ky) (i : Int) : Option Value := (findK ks i).map hkV
/-- At lb lies the ledger of g; its maps lie in blocks mw, mk. -/
def LedAt (w : World) (B lb mw mk : Nat) (g : Gr) : Prop := ∃ td : Int → Int, (∀ i, 0 ≤ td i ∧ td i ≤ g.now) ∧ Row w lb 210 [.float .f64 (floatOfInt .f64 g.now), .map (some mw), .map (some mk)] ∧
 IMap Tryz.prog 2 w mw g.words.length (wdF g.words g.dead td) ∧ IMap Tryz.prog 2 w mk g.keys.length (kyF g.keys) ∧ B ≤ lb ∧ B ≤ mw ∧ B ≤ mk ∧ lb ≠ mw ∧ lb ≠ mk ∧ mw ≠ mk
theorem LedAt.later {w w' : World} {B lb mw mk : Nat} {g : Gr} (h : LedAt w B lb mw mk g) (hb : Below w.heap.size w w') : LedAt w' B lb mw mk g := by
 obtain ⟨td, h0, h1, h2, h3, h4⟩ := h
 exact ⟨td, h0, h1.below hb h1.lt, h2.later hb, h3.later hb, h4⟩
theorem run_store_float (w : World) (a : Addr) (b : Nat) : (store a (.float .f64 b)).run Tryz.prog w = stored Tryz.prog w a (.float .f64 b) .plain := run_store Tryz.prog w a _ .plain rfl
theorem run_field_dead (c : Int) (s : ByteArray) (t dd : Nat) (u : Bool) (w : World) : (Instr.field 207 (.agg #[.int .i64 c, .string s, .float .f64 t, .bool u, .float .f64 dd]) 4).run Tryz.prog w = .ok (.float .f64 dd) w := by kernel_rfl
theorem hwZ_zero (w : World) : (zeroValue 207).run Tryz.prog w = .ok hwZ w := by kernel_rfl
theorem hkZ_zero (w : World) : (zeroValue 245).run Tryz.prog w = .ok hkZ w := by kernel_rfl
theorem inf_any (w : World) : Calls Tryz.prog 194 #[.int .i64 1] w fun e w' => e = .returned (.float .f64 infB) ∧ w = w' := by
 have hx : ∀ w, (callFunc 213 #[.int .u64 9218868437227405312]).run Tryz.prog w = .ok (.value (.float .f64 9218868437227405312)) w := fun w => by kernel_rfl
 go_enter Tryz.func194, Tryz.ntmps194
 go_wp2_with fail
 go_ret
 exact ⟨rfl, rfl⟩
theorem never_any (w : World) : Calls Tryz.prog 167 #[] w fun e w' => e = .returned (.float .f64 infB) ∧ w = w' := by
 go_enter Tryz.func167, Tryz.ntmps167
 go_wp2_with (go_at_call 194; refine (inf_any _).mono ?_; rintro e w' ⟨rfl, rfl⟩)
 go_ret
 exact ⟨rfl, rfl⟩
end Go.Proofs.YtjccnjfdeedneaaGreat
/- What comes to be one of the dead. -/
namespace Go.Proofs.YtjccnjfdeedneaaGreat
open Go Go.RowKit Go.Lib
set_option linter.unusedVariables false

def insD : List Int → Int → List Int
 | [], f => [f]
 | d :: r, f => if d < f then d :: insD r f else if d = f then d :: r else f :: d :: r
def killG (g : Gr) (f : Int) : Gr := ⟨g.now, g.words, g.keys, insD g.dead f⟩
theorem isDead_ins (i f : Int) : ∀ l : List Int, isDeadB (insD l f) i = (f == i || isDeadB l i)
 | [] => by simp [insD, isDeadB]
 | d :: r => by
  have ih := isDead_ins i f r
  unfold isDeadB at ih ⊢
  unfold insD
  split
  ·rw [List.any_cons, ih, List.any_cons, ← Bool.or_assoc, ← Bool.or_assoc, Bool.or_comm (d == i)]
  ·split
   ·rename_i _ h
    subst h
    rw [List.any_cons, ← Bool.or_assoc, Bool.or_self]
   ·rw [List.any_cons, List.any_cons]
theorem wdF_kill {ws : List Wd} {dead : List Int} {td : Int → Int} {no now : Int} {x : Wd} (hx : findW ws no = some x) (i : Int) :
  setAt (wdF ws dead td) no (hwV x (floatOfInt .f64 now)) i = wdF ws (insD dead no) (fun j => if j = no then now else td j) i := by
 by_cases h : i = no
 ·subst h
  rw [setAt_same]
  have hd : isDeadB (insD dead i) i = true := by rw [isDead_ins]; simp
  simp [wdF, hx, ddB, hd]
 ·rw [setAt_other h]
  have hd : isDeadB (insD dead no) i = isDeadB dead i := by
   rw [isDead_ins, show (no == i) = false from beq_eq_false_iff_ne.2 (fun e => h e.symm), Bool.false_or]
  simp [wdF, ddB, hd, h]
theorem LedAt.killed {w' : World} {B lb mw mk : Nat} {g : Gr} {no : Int} {td : Int → Int} {x : Wd} (htd : ∀ i, 0 ≤ td i ∧ td i ≤ g.now) (h0 : 0 ≤ g.now) (hx : findW g.words no = some x)
  (hr : Row w' lb 210 [.float .f64 (floatOfInt .f64 g.now), .map (some mw), .map (some mk)]) (hm : IMap Tryz.prog 2 w' mw (grow g.words.length (wdF g.words g.dead td no)) (setAt (wdF g.words g.dead td) no (hwV x (floatOfInt .f64 g.now))))
  (hk : IMap Tryz.prog 2 w' mk g.keys.length (kyF g.keys)) (hd : B ≤ lb ∧ B ≤ mw ∧ B ≤ mk ∧ lb ≠ mw ∧ lb ≠ mk ∧ mw ≠ mk) : LedAt w' B lb mw mk (killG g no) := by
 refine ⟨fun j => if j = no then g.now else td j, fun i => ?_, hr, ?_, hk, hd⟩
 ·show 0 ≤ (if i = no then g.now else td i) ∧ (if i = no then g.now else td i) ≤ g.now
  split
  ·exact ⟨h0, Int.le_refl _⟩
  ·exact htd i
 ·have hg : grow g.words.length (wdF g.words g.dead td no) = g.words.length := by simp [grow, wdF, hx]
  rw [hg] at hm
  exact hm.same (wdF_kill hx)
end Go.Proofs.YtjccnjfdeedneaaGreat
/- Right grants, item by item. -/
namespace Go.Proofs.YtjccnjfdeedneaaGreat
open Go Go.RowKit Go.Lib
set_option linter.unusedVariables false

theorem isB_iff {n lo hi : Int} : isB n lo hi = true ↔ lo ≤ n ∧ n ≤ hi := by simp [isB]
theorem gr_facts {g : Gr} (h : grantB g = true) : (0 ≤ g.now ∧ g.now ≤ 1000000) ∧ g.words.length ≤ 20 ∧ g.keys.length ≤ 40 ∧ wordsOk 0 g.words = true ∧ keysOk g.words 0 g.keys = true ∧ deadOk g.words 0 g.dead = true := by
 unfold grantB at h
 simp only [Bool.and_eq_true, decide_eq_true_eq, isB_iff] at h
 obtain ⟨⟨⟨⟨⟨h1, h2⟩, h3⟩, h4⟩, h5⟩, h6⟩ := h
 exact ⟨h1, h2, h3, h4, h5, h6⟩
theorem wordsOk_get {l : List Wd} : ∀ {b : Int} {k : Nat} {x : Wd}, wordsOk b l = true → l[k]? = some x → (b < x.no ∧ x.no ≤ 99 ∧ (1 ≤ x.client ∧ x.client ≤ 3) ∧ proofB x.shade = true ∧ 0 ≤ x.till ∧ x.till ≤ 1000000) ∧ ∀ y ∈ l.take k, y.no < x.no := by
 induction l with
 | nil => intro b k x _ hx; simp at hx
 | cons z r ih =>
  intro b k x h hx
  unfold wordsOk wordOk at h
  simp only [Bool.and_eq_true, decide_eq_true_eq, isB_iff] at h
  obtain ⟨⟨⟨⟨⟨h1, h2⟩, h3⟩, h4⟩, h5⟩, h6⟩ := h
  cases k with
  | zero =>
   obtain rfl : z = x := by simpa using hx
   exact ⟨⟨h1, h2, h3, h4, h5⟩, by simp⟩
  | succ k =>
   have := ih h6 (by simpa using hx : r[k]? = some x)
   obtain ⟨⟨g1, g2⟩, g3⟩ := this
   refine ⟨⟨by omega, g2⟩, fun y hy => ?_⟩
   rw [List.take_succ_cons] at hy
   rcases List.mem_cons.1 hy with rfl | hy
   ·exact g1
   ·exact g3 y hy
theorem keysOk_get {ws : List Wd} {l : List Ky} : ∀ {b : Int} {k : Nat} {x : Ky}, keysOk ws b l = true → l[k]? = some x → (b < x.no ∧ x.no ≤ 999 ∧ (1 ≤ x.client ∧ x.client ≤ 3) ∧ hasNo ws x.fam = true ∧ (0 ≤ x.till ∧ x.till ≤ 1000000) ∧ stateB x = true) ∧ ∀ y ∈ l.take k, y.no < x.no := by
 induction l with
 | nil => intro b k x _ hx; simp at hx
 | cons z r ih =>
  intro b k x h hx
  unfold keysOk keyOk at h
  simp only [Bool.and_eq_true, decide_eq_true_eq, isB_iff] at h
  obtain ⟨⟨⟨⟨⟨⟨h1, h2⟩, h3⟩, h4⟩, h5⟩, h6⟩, h7⟩ := h
  cases k with
  | zero =>
   obtain rfl : z = x := by simpa using hx
   exact ⟨⟨h1, h2, h3, h4, h5, h6⟩, by simp⟩
  | succ k =>
   have := ih h7 (by simpa using hx : r[k]? = some x)
   obtain ⟨⟨g1, g2⟩, g3⟩ := this
   refine ⟨⟨by omega, g2⟩, fun y hy => ?_⟩
   rw [List.take_succ_cons] at hy
   rcases List.mem_cons.1 hy with rfl | hy
   ·exact g1
   ·exact g3 y hy
theorem deadOk_get {ws : List Wd} {l : List Int} : ∀ {b : Int} {k : Nat} {x : Int}, deadOk ws b l = true → l[k]? = some x → (b < x ∧ hasNo ws x = true) ∧ ∀ y ∈ l.take k, y < x := by
 induction l with
 | nil => intro b k x _ hx; simp at hx
 | cons z r ih =>
  intro b k x h hx
  unfold deadOk at h
  simp only [Bool.and_eq_true, decide_eq_true_eq] at h
  obtain ⟨⟨h1, h2⟩, h3⟩ := h
  cases k with
  | zero =>
   obtain rfl : z = x := by simpa using hx
   exact ⟨⟨h1, h2⟩, by simp⟩
  | succ k =>
   have := ih h3 (by simpa using hx : r[k]? = some x)
   obtain ⟨⟨g1, g2⟩, g3⟩ := this
   refine ⟨⟨by omega, g2⟩, fun y hy => ?_⟩
   rw [List.take_succ_cons] at hy
   rcases List.mem_cons.1 hy with rfl | hy
   ·exact g1
   ·exact g3 y hy
theorem insD_snoc {f : Int} : ∀ {l : List Int}, (∀ d ∈ l, d < f) → insD l f = l ++ [f]
 | [], _ => rfl
 | d :: r, h => by
  unfold insD
  rw [if_pos (h d (by simp)), insD_snoc fun e he => h e (List.mem_cons_of_mem _ he)]
  rfl
theorem take_snoc {α : Type} {l : List α} {k : Nat} {x : α} (h : l[k]? = some x) : l.take (k + 1) = l.take k ++ [x] := by
 rw [List.take_add_one, h, Option.toList_some]
theorem findW_take {l : List Wd} {k : Nat} {x : Wd} (h : l[k]? = some x) (hlt : ∀ y ∈ l.take k, y.no < x.no) (i : Int) : findW (l.take (k + 1)) i = if i = x.no then some x else findW (l.take k) i := by
 unfold findW
 rw [take_snoc h, List.find?_append]
 by_cases hi : i = x.no
 ·subst hi
  have hn : (l.take k).find? (fun y => y.no == x.no) = none := by
   rw [List.find?_eq_none]
   intro y hy
   have := hlt y hy
   simp; omega
  rw [hn]; simp
 ·have : (x.no == i) = false := beq_eq_false_iff_ne.2 (fun e => hi e.symm)
  rw [if_neg hi]; simp [this]
theorem findK_take {l : List Ky} {k : Nat} {x : Ky} (h : l[k]? = some x) (hlt : ∀ y ∈ l.take k, y.no < x.no) (i : Int) : findK (l.take (k + 1)) i = if i = x.no then some x else findK (l.take k) i := by
 unfold findK
 rw [take_snoc h, List.find?_append]
 by_cases hi : i = x.no
 ·subst hi
  have hn : (l.take k).find? (fun y => y.no == x.no) = none := by
   rw [List.find?_eq_none]
   intro y hy
   have := hlt y hy
   simp; omega
  rw [hn]; simp
 ·have : (x.no == i) = false := beq_eq_false_iff_ne.2 (fun e => hi e.symm)
  rw [if_neg hi]; simp [this]
theorem findW_lt {l : List Wd} {n : Int} (h : ∀ y ∈ l, y.no < n) : findW l n = none := by
 unfold findW
 rw [List.find?_eq_none]
 intro y hy
 have := h y hy
 simp; omega
theorem findK_lt {l : List Ky} {n : Int} (h : ∀ y ∈ l, y.no < n) : findK l n = none := by
 unfold findK
 rw [List.find?_eq_none]
 intro y hy
 have := h y hy
 simp; omega
theorem wdF_step {l : List Wd} {td : Int → Int} {k : Nat} {x : Wd} (h : l[k]? = some x) (hlt : ∀ y ∈ l.take k, y.no < x.no) (i : Int) : setAt (wdF (l.take k) [] td) x.no (hwV x infB) i = wdF (l.take (k + 1)) [] td i := by
 unfold setAt wdF
 rw [findW_take h hlt]
 by_cases hi : i = x.no
 ·rw [if_pos hi, if_pos hi]; rfl
 ·rw [if_neg hi, if_neg hi]
theorem kyF_step {l : List Ky} {k : Nat} {x : Ky} (h : l[k]? = some x) (hlt : ∀ y ∈ l.take k, y.no < x.no) (i : Int) : setAt (kyF (l.take k)) x.no (hkV x) i = kyF (l.take (k + 1)) i := by
 unfold setAt kyF
 rw [findK_take h hlt]
 by_cases hi : i = x.no
 ·rw [if_pos hi, if_pos hi]; rfl
 ·rw [if_neg hi, if_neg hi]
theorem grow_w {l : List Wd} {td : Int → Int} {k : Nat} {x : Wd} (hlt : ∀ y ∈ l.take k, y.no < x.no) : grow k (wdF (l.take k) [] td x.no) = k + 1 := by simp [grow, wdF, findW_lt hlt]
theorem grow_k {l : List Ky} {k : Nat} {x : Ky} (hlt : ∀ y ∈ l.take k, y.no < x.no) : grow k (kyF (l.take k) x.no) = k + 1 := by simp [grow, kyF, findK_lt hlt]
theorem hasNo_find {l : List Wd} {n : Int} (h : hasNo l n = true) : ∃ x, findW l n = some x ∧ x.no = n := by
 unfold hasNo at h
 obtain ⟨y, hy, hn⟩ := List.any_eq_true.1 h
 have hs : (l.find? fun x => x.no == n).isSome = true := List.find?_isSome.2 ⟨y, hy, hn⟩
 obtain ⟨x, hx⟩ := Option.isSome_iff_exists.1 hs
 exact ⟨x, hx, by have := List.find?_some hx; simpa using this⟩
theorem find_mem {l : List Wd} {n : Int} {x : Wd} (h : findW l n = some x) : ∃ k : Nat, l[k]? = some x ∧ x.no = n := by
 obtain ⟨k, hk⟩ := List.getElem?_of_mem (List.mem_of_find?_eq_some h)
 exact ⟨k, hk, by have := List.find?_some h; simpa using this⟩
theorem findK_mem {l : List Ky} {n : Int} {x : Ky} (h : findK l n = some x) : ∃ k : Nat, l[k]? = some x ∧ x.no = n := by
 obtain ⟨k, hk⟩ := List.getElem?_of_mem (List.mem_of_find?_eq_some h)
 exact ⟨k, hk, by have := List.find?_some h; simpa using this⟩
end Go.Proofs.YtjccnjfdeedneaaGreat
/- A struct stored: what follows is told of whatever world comes of it. Over any program. -/
namespace Go.Proofs.YtjccnjfdeedneaaGreat
open Go
/-- Where the walk is to stand still. -/
structure Stop (p : Prop) : Prop where
 out : p
theorem wpList_store_to {P : Program} {ops : Array Oper} {rest : List Oper} {op : Oper} {a : Act} {w : World} {Q : Exit → Act → World → Prop} (hgd : op.guard = none) (ty : TypeId) (x y : Operand) (ho : op.op = .store ty x y)
  (b o : Nat) (cells : Array Value) (hx : a.eval x = .pointer (some ⟨b, o, none⟩)) (hy : a.eval y = .agg cells)
  (ht : w.there b o cells.size) (hi : (P.info? ty).map (·.size) = some cells.size) (h1 : cells.all (·.oneCell') = true)
  (h : ∀ w', w' = w.setCells b o cells.toList → wpList P ops Q rest (a.put op.dst undef) w') : wpList P ops Q (op :: rest) a w :=
 wpList_store_mid hgd ty x y ho b o cells hx hy ht hi h1 (h _ rfl)
end Go.Proofs.YtjccnjfdeedneaaGreat
