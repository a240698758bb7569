/- What is asked: the letters a kind has, proofs, numbers; the walks of the model's side. ReqRight: the model's side. What the program says of the type byte. A buffer of bytes that the call owns: its first bytes, what append does to it, and the string made of it. Over any program. Shade: the walks. What is told, as data. What a request does to a grant: as plain mathematics. A ledger: what comes of one more word or key, of one changed, of the time. -/
import Derived.Test.YtjccnjfdeedneaaGreatRows
import Derived.Test.YtjccnjfdeedneaaGreatSGdA
import Derived.BigQuiet
import Derived.Outline
import Derived.Handy
import Derived.Lib.BufSteps
import Derived.Deep.MidRow
import Derived.Test.YtjccnjfdeedneaaGreatSGdB
import Derived.Test.YtjccnjfdeedneaaGreatSGdC
namespace Go.Proofs.YtjccnjfdeedneaaGreat
open Go Go.RowKit Go.Lib
set_option linter.unusedVariables false

def hasB (t : ByteArray) (c : Int) : Bool := t.data.toList.any fun x => decide ((x.toNat : Int) = c)
def HasRel (t : ByteArray) (c : Int) (i : Value) : Prop := ∃ k : Nat, k ≤ t.size ∧ i = .int .i64 k ∧ ∀ j, (h : j < t.size) → j < k → (t[j].toNat : Int) ≠ c
theorem hasB_yes {t : ByteArray} {c : Int} {k : Nat} (hk : k < t.size) (h : (t[k].toNat : Int) = c) : hasB t c = true := by
 unfold hasB
 rw [List.any_eq_true]
 exact ⟨t[k], by rw [ByteArray.getElem_eq_getElem_data]; simp, decide_eq_true h⟩
theorem hasB_no {t : ByteArray} {c : Int} (h : ∀ j, (h : j < t.size) → (t[j].toNat : Int) ≠ c) : hasB t c = false := by
 unfold hasB
 rw [List.any_eq_false]
 intro x hx
 obtain ⟨j, hj, rfl⟩ := List.mem_iff_getElem.1 hx
 have h1 := h j (by simpa using hj)
 rw [ByteArray.getElem_eq_getElem_data] at h1
 simpa using h1
set_option maxHeartbeats 400000 in
theorem has_spec (t : ByteArray) (c : Int) (w : World) (ht : t.size ≤ 8) : Calls Tryz.prog 188 #[.string t, .int .u8 c] w fun e w' => e = .returned (.bool (hasB t c)) ∧ w = w' := by
 go_enter Tryz.func188, Tryz.ntmps188
 go_wp2_with fail
 go_loop [5] (HasRel t c) (fun i => t.size - (RowKit.intOf i).toNat)
 case atStart => exact ⟨0, by omega, rfl, fun j _ h => by omega⟩
 case round =>
  obtain ⟨k, hk, rfl, hr⟩ := hrel
  have HR := Lib.hid hr
  clear hr
  by_cases hlt : k < t.size
  ·by_cases he : (t[k].toNat : Int) = c
   ·have d : ((t[k].toNat : Int) == c) = true := beq_iff_eq.2 he
    have HE := Lib.hid he
    clear he
    go_wp2_with fail
    go_ret
    exact ⟨by rw [hasB_yes hlt HE.out]; rfl, rfl⟩
   ·have d : ((t[k].toNat : Int) == c) = false := beq_eq_false_iff_ne.2 he
    have HE := Lib.hid he
    clear he
    go_wp2_with fail
    go_round
    case rel =>
     refine ⟨k + 1, by omega, by go_num, fun j hj hjk => ?_⟩
     by_cases e : j = k
     ·subst e; exact HE.out
     ·exact HR.out j hj (by omega)
    case measure => simp [RowKit.intOf]; omega
  ·obtain rfl : k = t.size := by omega
   go_wp2_with fail
   go_ret
   exact ⟨by rw [hasB_no fun j hj => HR.out j hj hj]; rfl, rfl⟩

/-- What a kind has. -/
def takesS (k : Int) : ByteArray := if k = 1 then ⟨#[99, 112]⟩ else if k = 2 then ⟨#[99, 100, 112]⟩ else if k = 3 ∨ k = 4 ∨ k = 5 then ⟨#[99, 116]⟩ else ⟨#[98]⟩
theorem takes_spec (k : Int) (w : World) : Calls Tryz.prog 186 #[.int .i64 k] w fun e w' => e = .returned (.string (takesS k)) ∧ w = w' := by
 by_cases h1 : k = 1
 ·subst h1
  go_enter Tryz.func186, Tryz.ntmps186
  go_wp2_with fail
  go_ret
  exact ⟨rfl, rfl⟩
 have d1 : (k == 1) = false := beq_eq_false_iff_ne.2 h1
 by_cases h2 : k = 2
 ·subst h2
  go_enter Tryz.func186, Tryz.ntmps186
  go_wp2_with fail
  go_ret
  exact ⟨rfl, rfl⟩
 have d2 : (k == 2) = false := beq_eq_false_iff_ne.2 h2
 by_cases h3 : k = 3
 ·subst h3
  go_enter Tryz.func186, Tryz.ntmps186
  go_wp2_with fail
  go_ret
  exact ⟨rfl, rfl⟩
 have d3 : (k == 3) = false := beq_eq_false_iff_ne.2 h3
 by_cases h4 : k = 4
 ·subst h4
  go_enter Tryz.func186, Tryz.ntmps186
  go_wp2_with fail
  go_ret
  exact ⟨rfl, rfl⟩
 have d4 : (k == 4) = false := beq_eq_false_iff_ne.2 h4
 by_cases h5 : k = 5
 ·subst h5
  go_enter Tryz.func186, Tryz.ntmps186
  go_wp2_with fail
  go_ret
  exact ⟨rfl, rfl⟩
 have d5 : (k == 5) = false := beq_eq_false_iff_ne.2 h5
 have HT : Hid (takesS k = ⟨#[98]⟩) := Lib.hid (by unfold takesS; rw [if_neg h1, if_neg h2, if_neg (by omega)])
 clear h1 h2 h3 h4 h5
 go_enter Tryz.func186, Tryz.ntmps186
 go_wp2_with fail
 go_ret
 exact ⟨by rw [HT.out]; rfl, rfl⟩
theorem takes_small (k : Int) : (takesS k).size ≤ 8 := by
 unfold takesS
 split
 ·decide
 ·split
  ·decide
  ·split <;> decide

/-- May a number be so, if it is had, and else is zero? -/
def numB (has : Bool) (n most : Int) : Bool := if has then isB n 1 most else n == 0
set_option maxHeartbeats 400000 in
theorem num_spec (has : Bool) (n most : Int) (w : World) : Calls Tryz.prog 187 #[.bool has, .int .i64 n, .int .i64 most] w fun e w' => e = .returned (.bool (numB has n most)) ∧ w = w' := by
 cases has with
 | true =>
  cases hb : isB n 1 most with
  | true =>
   go_enter Tryz.func187, Tryz.ntmps187
   go_wp2_with (go_at_call 102; refine (is_spec _ _ _ _).mono ?_; rintro e w' ⟨rfl, rfl⟩)
   go_ret
   exact ⟨by simp [numB, hb], rfl⟩
  | false =>
   go_enter Tryz.func187, Tryz.ntmps187
   go_wp2_with (go_at_call 102; refine (is_spec _ _ _ _).mono ?_; rintro e w' ⟨rfl, rfl⟩)
   go_ret
   exact ⟨by simp [numB, hb], rfl⟩
 | false =>
  go_enter Tryz.func187, Tryz.ntmps187
  go_wp2_with fail
  go_ret
  exact ⟨by simp [numB], rfl⟩
end Go.Proofs.YtjccnjfdeedneaaGreat
/- ReqRight: the model's side. -/
namespace Go.Proofs.YtjccnjfdeedneaaGreat
open Go Go.RowKit Go.Lib
set_option linter.unusedVariables false

/-- What is asked, as data. -/
structure RQ where
 no : Int
 kind : Int
 client : Int
 code : Int
 token : Int
 proof : ByteArray
 upTo : Int
def rqV (r : RQ) : Value := .agg #[.int .i64 r.no, .int .i64 r.kind, .int .i64 r.client, .int .i64 r.code, .int .i64 r.token, .string r.proof, .int .i64 r.upTo]
/-- What is asked is within int64, and its proof within the reach. -/
def RQ64 (r : RQ) : Prop := (-9223372036854775808 ≤ r.no ∧ r.no ≤ 9223372036854775807) ∧ (-9223372036854775808 ≤ r.kind ∧ r.kind ≤ 9223372036854775807) ∧ (-9223372036854775808 ≤ r.client ∧ r.client ≤ 9223372036854775807) ∧ (-9223372036854775808 ≤ r.code ∧ r.code ≤ 9223372036854775807) ∧
 (-9223372036854775808 ≤ r.token ∧ r.token ≤ 9223372036854775807) ∧ r.proof.size ≤ maxLen ∧ (-9223372036854775808 ≤ r.upTo ∧ r.upTo ≤ 9223372036854775807)
def rightB (r : RQ) : Bool :=
 isB r.no 1 99 && isB r.kind 1 6 && (numB (hasB (takesS r.kind) 99) r.client 3 && numB (hasB (takesS r.kind) 100) r.code 99 && numB (hasB (takesS r.kind) 116) r.token 999 && numB (hasB (takesS r.kind) 98) r.upTo 1000 &&
  if hasB (takesS r.kind) 112 then proofB r.proof else r.proof.toList.isEmpty)

theorem has_at {t : ByteArray} {c : Int} {b : Bool} {w : World} (h : hasB t c = b) (ht : t.size ≤ 8) : Calls Tryz.prog 188 #[.string t, .int .u8 c] w fun e w' => e = .returned (.bool b) ∧ w' = w := by
 subst h
 exact (has_spec t c w ht).mono fun _ _ h => ⟨h.1, h.2.symm⟩
theorem num_at {has : Bool} {n most : Int} {b : Bool} {w : World} (h : numB has n most = b) : Calls Tryz.prog 187 #[.bool has, .int .i64 n, .int .i64 most] w fun e w' => e = .returned (.bool b) ∧ w' = w := by
 subst h
 exact (num_spec has n most w).mono fun _ _ h => ⟨h.1, h.2.symm⟩

set_option maxRecDepth 100000 in
set_option maxHeartbeats 1000000 in
theorem right_spec (r : RQ) (w : World) (hp : r.proof.size ≤ maxLen) : Calls Tryz.prog 150 #[rqV r] w fun e w' => e = .returned (.bool (rightB r)) ∧ Below w.heap.size w w' := by
 obtain ⟨no, kind, client, code, token, proof, upTo⟩ := r
 unfold rqV
 simp only at hp ⊢
 cases h1 : isB no 1 99 with
 | false =>
  go_enter Tryz.func150, Tryz.ntmps150
  go_wp2_with (go_at_call 102; refine (is_spec _ _ _ _).mono ?_; rintro e w' ⟨rfl, rfl⟩)
  go_ret
  exact ⟨by simp [rightB, h1], by go_grown⟩
 | true =>
  cases h2 : isB kind 1 6 with
  | false =>
   go_enter Tryz.func150, Tryz.ntmps150
   go_wp2_with (go_at_call 102; refine (is_spec _ _ _ _).mono ?_; rintro e w' ⟨rfl, rfl⟩)
   go_ret
   exact ⟨by simp [rightB, h1, h2], by go_grown⟩
  | true =>
   have HT := Lib.hid (takes_small kind)
   go_enter Tryz.func150, Tryz.ntmps150
   go_wp2_with (go_at_call 102; refine (is_spec _ _ _ _).mono ?_; rintro e w' ⟨rfl, rfl⟩)
   refine (takes_spec _ _).mono ?_
   rintro e w' ⟨rfl, rfl⟩
   cases b1 : numB (hasB (takesS kind) 99) client 3 with
   | false =>
    go_wp2_with fail
    go_quiet (first | (go_at_call 188; refine Calls.quiet_of_same (has_at (by first | assumption | rfl) HT.out)) | (go_at_call 187; refine Calls.quiet_of_same (num_at (by assumption))) | (go_at_call 103; refine Calls.quiet_of_same (proof_at (by assumption) hp)))
    go_wp2_with fail
    go_ret
    exact ⟨by simp [rightB, h1, h2, b1], below_drewN ((Below.refl _ _).alloc (Nat.le_refl _) _) _⟩
   | true =>
    cases b2 : numB (hasB (takesS kind) 100) code 99 with
    | false =>
     go_wp2_with fail
     go_quiet (first | (go_at_call 188; refine Calls.quiet_of_same (has_at (by first | assumption | rfl) HT.out)) | (go_at_call 187; refine Calls.quiet_of_same (num_at (by assumption))) | (go_at_call 103; refine Calls.quiet_of_same (proof_at (by assumption) hp)))
     go_wp2_with fail
     go_ret
     exact ⟨by simp [rightB, h1, h2, b1, b2], below_drewN ((Below.refl _ _).alloc (Nat.le_refl _) _) _⟩
    | true =>
     cases b3 : numB (hasB (takesS kind) 116) token 999 with
     | false =>
      go_wp2_with fail
      go_quiet (first | (go_at_call 188; refine Calls.quiet_of_same (has_at (by first | assumption | rfl) HT.out)) | (go_at_call 187; refine Calls.quiet_of_same (num_at (by assumption))) | (go_at_call 103; refine Calls.quiet_of_same (proof_at (by assumption) hp)))
      go_wp2_with fail
      go_ret
      exact ⟨by simp [rightB, h1, h2, b1, b2, b3], below_drewN ((Below.refl _ _).alloc (Nat.le_refl _) _) _⟩
     | true =>
      cases b4 : numB (hasB (takesS kind) 98) upTo 1000 with
      | false =>
       go_wp2_with fail
       go_quiet (first | (go_at_call 188; refine Calls.quiet_of_same (has_at (by first | assumption | rfl) HT.out)) | (go_at_call 187; refine Calls.quiet_of_same (num_at (by assumption))) | (go_at_call 103; refine Calls.quiet_of_same (proof_at (by assumption) hp)))
       go_wp2_with fail
       go_ret
       exact ⟨by simp [rightB, h1, h2, b1, b2, b3, b4], below_drewN ((Below.refl _ _).alloc (Nat.le_refl _) _) _⟩
      | true =>
       cases b5 : hasB (takesS kind) 112 with
       | true =>
        cases b6 : proofB proof with
        | false =>
         go_wp2_with fail
         go_quiet (first | (go_at_call 188; refine Calls.quiet_of_same (has_at (by first | assumption | rfl) HT.out)) | (go_at_call 187; refine Calls.quiet_of_same (num_at (by assumption))) | (go_at_call 103; refine Calls.quiet_of_same (proof_at (by assumption) hp)))
         go_wp2_with fail
         go_ret
         exact ⟨by simp [rightB, h1, h2, b1, b2, b3, b4, b5, b6], below_drewN ((Below.refl _ _).alloc (Nat.le_refl _) _) _⟩
        | true =>
         go_wp2_with fail
         go_quiet (first | (go_at_call 188; refine Calls.quiet_of_same (has_at (by first | assumption | rfl) HT.out)) | (go_at_call 187; refine Calls.quiet_of_same (num_at (by assumption))) | (go_at_call 103; refine Calls.quiet_of_same (proof_at (by assumption) hp)))
         go_wp2_with fail
         go_ret
         exact ⟨by simp [rightB, h1, h2, b1, b2, b3, b4, b5, b6], below_drewN ((Below.refl _ _).alloc (Nat.le_refl _) _) _⟩
       | false =>
        go_wp2_with fail
        go_quiet (first | (go_at_call 188; refine Calls.quiet_of_same (has_at (by first | assumption | rfl) HT.out)) | (go_at_call 187; refine Calls.quiet_of_same (num_at (by assumption))) | (go_at_call 103; refine Calls.quiet_of_same (proof_at (by assumption) hp)))
        go_wp2_with fail
        go_ret
        exact ⟨by simp [rightB, h1, h2, b1, b2, b3, b4, b5], below_drewN ((Below.refl _ _).alloc (Nat.le_refl _) _) _⟩
end Go.Proofs.YtjccnjfdeedneaaGreat
/- What the program says of the type byte. -/
namespace Go.Proofs.YtjccnjfdeedneaaGreat
open Go Go.RowKit Go.Lib

theorem info5 : (Tryz.prog.info? 5).map (fun i => (i.zero, i.size, i.bytes)) = some (some (.int .u8 0), 1, 1) := by kernel_rfl
theorem info5s : (Tryz.prog.info? 5).map (·.size) = some 1 := by kernel_rfl
theorem ret_str {a b : ByteArray} (h : a = b) : Ending.returned (.string a) = .returned (.string b) := by rw [h]
end Go.Proofs.YtjccnjfdeedneaaGreat
/- A buffer of bytes that the call owns: its first bytes, what append does to it, and the string made of it. Over any program. -/
namespace Go.Proofs.YtjccnjfdeedneaaGreat
open Go Go.RowKit Go.Lib

/-- v is a slice of the call's own that holds the bytes l; below W0's heap nothing has changed. -/
def Buf (E : TypeId) (W0 w : World) (v : Value) (l : List UInt8) : Prop := OwnBuf W0.heap.size E v l.length (byteCells l) W0 w
theorem Buf.below {E : TypeId} {W0 w : World} {v : Value} {l : List UInt8} (h : Buf E W0 w v l) : Below W0.heap.size W0 w := h.2.1
theorem Buf.alloc {E : TypeId} {W0 w : World} {v : Value} {l : List UInt8} (h : Buf E W0 w v l) (o : Obj) : Buf E W0 (w.alloc o) v l := OwnBuf.alloc h o
theorem Buf.nil (E : TypeId) {W0 w : World} (h : Below W0.heap.size W0 w) : Buf E W0 w (.slice none 0 0) [] := ⟨World.ownsRowF_nil _ _ _ _, h, h.size⟩
theorem Buf.lit (E : TypeId) {W0 w : World} (h : Below W0.heap.size W0 w) : Buf E W0 (w.alloc (.cells #[] E)) (.slice (some ⟨w.heap.size, 0, none⟩) 0 0) [] :=
 ⟨World.ownsRowF_of (World.ownsRow_lit w #[] 0 h.size (by decide) rfl), h.alloc h.size _, Nat.le_trans h.size (by simp)⟩
theorem Buf.later {E : TypeId} {W0 w w' : World} {v : Value} {l : List UInt8} (h : Buf E W0 w v l) (hb : Below w.heap.size w w') : Buf E W0 w' v l := by
 refine ⟨?_, h.2.1.trans (hb.mono h.2.2), Nat.le_trans h.2.2 hb.size⟩
 obtain ⟨h1, h2⟩ := h.1
 refine ⟨h1, ?_⟩
 rcases h2 with h2 | ⟨g, cap, cur, fz, hv, hg, hc, hr⟩
 ·exact .inl h2
 ·exact .inr ⟨g, cap, cur, fz, hv, hg, by rw [hb.block g (Array.getElem?_eq_some_iff.1 hc).1]; exact hc, hr⟩

theorem byteCells_snoc (l : List UInt8) (c : UInt8) : byteCells (l ++ [c]) = byteCells l ++ [.int .u8 (c.toNat : Int)] := by simp [byteCells]
theorem strCells_eq (s : ByteArray) : strCells s = byteCells s.data.toList := by
 unfold strCells byteCells
 apply List.ext_getElem?
 intro i
 by_cases h : i < s.size
 ·simp [h]
 ·simp [h]

section
variable {P : Program} {ops : Array Oper} {rest : List Oper} {o : Oper} {a : Act} {Q : Exit → Act → World → Prop}

/-- 'b = append(b, c)'. -/
theorem wpList_push (hgd : o.guard = none) (s x : Operand) (t E : TypeId) (ho : o.op = .call { callee := .builtin .append, args := #[s, x], argTypes := #[t, t] })
  (i : TypeInfo) (ht : P.underlying t = some (.slice E)) (hi : P.info? E = some i) (hz : i.zero = some (.int .u8 0)) (hsize : i.size = 1) (hby : i.bytes = 1)
  (W0 w0 : World) (v : Value) (l : List UInt8) (c : UInt8) (hs : a.eval s = v) (hb : Buf E W0 w0 v l) (hx : a.eval x = .slice (some ⟨w0.heap.size, 0, none⟩) 1 1) (hlen : l.length + 1 ≤ 140737488355328)
  (h : ∀ v' w', Buf E W0 w' v' (l ++ [c]) → wpList P ops Q rest (a.put o.dst v') w') : wpList P ops Q (o :: rest) a (w0.alloc (.cells #[.int .u8 (c.toNat : Int)] E)) := by
 refine wpList_append_byte hgd s x t ho W0.heap.size E i ht hi hz hsize hby v l.length (byteCells l) hs W0 w0 _ hb hx hlen fun v' w' h' => h v' w' ?_
 unfold Buf
 rw [byteCells_snoc, List.length_append]
 exact h'

/-- .. c a constant. -/
theorem wpList_push_const (hgd : o.guard = none) (s x : Operand) (t E : TypeId) (ho : o.op = .call { callee := .builtin .append, args := #[s, x], argTypes := #[t, t] })
  (i : TypeInfo) (ht : P.underlying t = some (.slice E)) (hi : P.info? E = some i) (hz : i.zero = some (.int .u8 0)) (hsize : i.size = 1) (hby : i.bytes = 1)
  (W0 w0 : World) (v : Value) (l : List UInt8) (c : UInt8) (C : Int) (hC : C = (c.toNat : Int)) (hs : a.eval s = v) (hb : Buf E W0 w0 v l) (hx : a.eval x = .slice (some ⟨w0.heap.size, 0, none⟩) 1 1) (hlen : l.length + 1 ≤ 140737488355328)
  (h : ∀ v' w', Buf E W0 w' v' (l ++ [c]) → wpList P ops Q rest (a.put o.dst v') w') : wpList P ops Q (o :: rest) a (w0.alloc (.cells #[.int .u8 C] E)) := by
 subst hC
 exact wpList_push hgd s x t E ho i ht hi hz hsize hby W0 w0 v l c hs hb hx hlen h

/-- 'b = append(b, s...)', s a string. -/
theorem wpList_text {w : World} (hgd : o.guard = none) (sl x : Operand) (t u E : TypeId) (ho : o.op = .call { callee := .builtin .append, args := #[sl, x], argTypes := #[t, u] })
  (i : TypeInfo) (ht : P.underlying t = some (.slice E)) (hu : P.underlying u = some .string) (hi : P.info? E = some i) (hz : i.zero = some (.int .u8 0)) (hsize : i.size = 1) (hby : i.bytes = 1)
  (W0 : World) (v : Value) (l : List UInt8) (s : ByteArray) (hs : a.eval sl = v) (hb : Buf E W0 w v l) (hx : a.eval x = .string s) (hlen : l.length + s.size ≤ 140737488355328)
  (h : ∀ v' w', Buf E W0 w' v' (l ++ s.data.toList) → wpList P ops Q rest (a.put o.dst v') w') : wpList P ops Q (o :: rest) a w := by
 refine wpList_append_text hgd sl x t u ho W0.heap.size E i ht hu hi hz hsize hby v l.length (byteCells l) hs W0 hb s hx hlen fun v' w' h' => h v' w' ?_
 unfold Buf
 rw [byteCells_append, List.length_append, ← strCells_eq, ← size_eq]
 exact h'

/-- .. with a word on what else is kept. -/
theorem wpList_text_g {w : World} (hgd : o.guard = none) (sl x : Operand) (t u E : TypeId) (ho : o.op = .call { callee := .builtin .append, args := #[sl, x], argTypes := #[t, u] })
  (i : TypeInfo) (ht : P.underlying t = some (.slice E)) (hu : P.underlying u = some .string) (hi : P.info? E = some i) (hz : i.zero = some (.int .u8 0)) (hsize : i.size = 1) (hby : i.bytes = 1)
  (W0 : World) (v : Value) (l : List UInt8) (s : ByteArray) (hs : a.eval sl = v) (hb : Buf E W0 w v l) (hx : a.eval x = .string s) (hlen : l.length + s.size ≤ 140737488355328)
  (h : ∀ v' w', Buf E W0 w' v' (l ++ s.data.toList) → w.grownBy w' v.ownBlock → wpList P ops Q rest (a.put o.dst v') w') : wpList P ops Q (o :: rest) a w := by
 refine wpList_append_own_stringF w hgd sl x t u ho W0.heap.size E i ht hu hi hz hsize hby v l.length (byteCells l) hs hb.1 s hx (by unfold maxLen; omega) hlen hb.2.2 fun v' w' h1 h2 _ => h v' w' ?_ h2
 unfold Buf
 rw [byteCells_append, List.length_append, ← strCells_eq, ← size_eq]
 exact OwnBuf.grown hb h1 h2
theorem wpList_push_const_g (hgd : o.guard = none) (s x : Operand) (t E : TypeId) (ho : o.op = .call { callee := .builtin .append, args := #[s, x], argTypes := #[t, t] })
  (i : TypeInfo) (ht : P.underlying t = some (.slice E)) (hi : P.info? E = some i) (hz : i.zero = some (.int .u8 0)) (hsize : i.size = 1) (hby : i.bytes = 1)
  (W0 w0 : World) (v : Value) (l : List UInt8) (c : UInt8) (C : Int) (hC : C = (c.toNat : Int)) (hs : a.eval s = v) (hb : Buf E W0 w0 v l) (h1 : Nat) (hx : a.eval x = .slice (some ⟨h1, 0, none⟩) 1 1) (hh1 : h1 = w0.heap.size) (hlen : l.length + 1 ≤ 140737488355328)
  (h : ∀ v' w', Buf E W0 w' v' (l ++ [c]) → (w0.alloc (.cells #[.int .u8 C] E)).grownBy w' v.ownBlock → wpList P ops Q rest (a.put o.dst v') w') : wpList P ops Q (o :: rest) a (w0.alloc (.cells #[.int .u8 C] E)) := by
 subst hC
 subst hh1
 have hb' := hb.alloc (.cells #[.int .u8 (c.toNat : Int)] E)
 have hR : Row (w0.alloc (.cells #[.int .u8 (c.toNat : Int)] E)) w0.heap.size E [.int .u8 (c.toNat : Int)] := heap_alloc_new w0 _
 refine wpList_append_ownF _ hgd s x t ho W0.heap.size E i (.int .u8 0) 1 1 ht hi hz hsize hby rfl (by decide) v l.length (byteCells l) hs hb'.1 ⟨w0.heap.size, 0, none⟩ 1 1 [.int .u8 (c.toNat : Int)] hx rfl
  (fun j u hj => by rw [Addr.add_mid, Nat.zero_add, hR.cell]; exact hj) (by intro u hu; simp at hu; subst hu; rfl) (by unfold maxLen; omega) (by omega) hb'.2.2 fun v' w' h1 h2 _ => h v' w' ?_ h2
 unfold Buf
 rw [byteCells_snoc, List.length_append]
 exact OwnBuf.grown hb' h1 h2
/-- A block of another element type is not the buffer's. -/
theorem Buf.apart {E T : TypeId} {W0 w : World} {v : Value} {l : List UInt8} (h : Buf E W0 w v l) {q : Nat} {c : Array Value} {fr : Nat × Nat} (hq : w.heap[q]? = some (.cells c T fr)) (hT : T ≠ E) : some q ≠ v.ownBlock := fun e => by
 rcases h.1.2 with ⟨rfl, _⟩ | ⟨g, cap, cur, fz, rfl, _, hg, _⟩
 ·cases e
 ·simp only [Value.ownBlock, Option.some.injEq] at e
  subst e
  rw [hq] at hg
  simp only [Option.some.injEq, Obj.cells.injEq] at hg
  exact hT hg.2.1
theorem Buf.keeps {E T : TypeId} {W0 w w' : World} {v : Value} {l : List UInt8} (h : Buf E W0 w v l) {q : Nat} {c : Array Value} {fr : Nat × Nat} (hq : w.heap[q]? = some (.cells c T fr)) (hT : T ≠ E) (hg : w.grownBy w' v.ownBlock) : w'.heap[q]? = some (.cells c T fr) :=
 (hg.block q (Array.getElem?_eq_some_iff.1 hq).1 (h.apart hq hT)).trans hq

/-- 'b = append(b, ..)', several bytes that lie in a row: as a step of a region that draws its order. -/
theorem step_push {w : World} {K : Act → World → Prop} {F : Prop} (hgd : o.guard = none) (s x : Operand) (t E : TypeId) (ho : o.op = .call { callee := .builtin .append, args := #[s, x], argTypes := #[t, t] })
  (i : TypeInfo) (ht : P.underlying t = some (.slice E)) (hi : P.info? E = some i) (hz : i.zero = some (.int .u8 0)) (hsize : i.size = 1) (hby : i.bytes = 1)
  (W0 : World) (v : Value) (l news : List UInt8) (ad : Addr) (m c : Nat) (hs : a.eval s = v) (hb : Buf E W0 w v l) (hx : a.eval x = .slice (some ad) m c) (hm : news.length = m)
  (hn : ∀ j u, (byteCells news)[j]? = some u → w.cell? (ad.add j) = some u) (hlen : l.length + m ≤ 140737488355328)
  (h : ∀ v' w', Buf E W0 w' v' (l ++ news) → K (a.put o.dst v') w') : if Region.wanted o (yielded ops a.tmps) = true then Oper.wp P o a w K Q else F := by
 have hw : Region.wanted o (yielded ops a.tmps) = true := by simp [Region.wanted, hgd]
 rw [if_pos hw]
 obtain ⟨v', w', hr, h2, h3, _⟩ := run_append_ownF (P := P) w W0.heap.size t o.type E i (.int .u8 0) 1 1 ht hi hz hsize hby rfl (by decide) v l.length (byteCells l) hb.1 ad m c (byteCells news) (by rw [byteCells_length, hm, Nat.mul_one]) hn
  (fun u hu => by obtain ⟨y, _, rfl⟩ := List.mem_map.1 hu; rfl) (by unfold maxLen; omega) (by omega) hb.2.2
 unfold Oper.wp execOp
 simp only [ho, resolve, invoke, builtin, Sem.run_bind, Sem.run_pure, Result.andThen_ok, List.map_toArray, List.map_cons, List.map_nil, hs, hx, hr]
 refine h v' w' ?_
 unfold Buf
 rw [byteCells_append, List.length_append, hm]
 exact OwnBuf.grown hb h2 h3
/-- 'b = append(b, s...)', s a string: as a step of a region that draws its order. -/
theorem step_text {w : World} {K : Act → World → Prop} {F : Prop} (hgd : o.guard = none) (sl x : Operand) (t u E : TypeId) (ho : o.op = .call { callee := .builtin .append, args := #[sl, x], argTypes := #[t, u] })
  (i : TypeInfo) (ht : P.underlying t = some (.slice E)) (hu : P.underlying u = some .string) (hi : P.info? E = some i) (hz : i.zero = some (.int .u8 0)) (hsize : i.size = 1) (hby : i.bytes = 1)
  (W0 : World) (v : Value) (l : List UInt8) (s : ByteArray) (hs : a.eval sl = v) (hb : Buf E W0 w v l) (hx : a.eval x = .string s) (hlen : l.length + s.size ≤ 140737488355328)
  (h : ∀ v' w', Buf E W0 w' v' (l ++ s.data.toList) → K (a.put o.dst v') w') : if Region.wanted o (yielded ops a.tmps) = true then Oper.wp P o a w K Q else F := by
 have hw : Region.wanted o (yielded ops a.tmps) = true := by simp [Region.wanted, hgd]
 rw [if_pos hw]
 obtain ⟨v', w', hr, h2, h3, _⟩ := run_append_own_stringF (P := P) w W0.heap.size t u o.type E i ht hu hi hz hsize hby v l.length (byteCells l) hb.1 s (by unfold maxLen; omega) hlen hb.2.2
 unfold Oper.wp execOp
 simp only [ho, resolve, invoke, builtin, Sem.run_bind, Sem.run_pure, Result.andThen_ok, List.map_toArray, List.map_cons, List.map_nil, hs, hx, hr]
 refine h v' w' ?_
 unfold Buf
 rw [byteCells_append, List.length_append, ← strCells_eq, ← size_eq]
 exact OwnBuf.grown hb h2 h3
theorem Buf.drew {E : TypeId} {W0 w : World} {v : Value} {l : List UInt8} (h : Buf E W0 w v l) : Buf E W0 w.drew v l := ⟨h.1, h.2.1.drew, h.2.2⟩

/-- 'string(b)'. -/
theorem wpList_buf_str {w : World} (hgd : o.guard = none) (x : Operand) (src dst E : TypeId) (ho : o.op = .convert src dst x) (hs : P.underlying src = some (.slice E)) (he : P.underlying E = some (.int .u8)) (hd : P.underlying dst = some .string)
  (W0 : World) (v : Value) (l : List UInt8) (hx : a.eval x = v) (hb : Buf E W0 w v l) (hK : wpList P ops Q rest (a.put o.dst (.string ⟨l.toArray⟩)) w) : wpList P ops Q (o :: rest) a w := by
 refine wpList_plain hgd fun K hK' => ?_
 rcases hb.1.2 with ⟨rfl, h0⟩ | ⟨g, cap, cur, fz, rfl, hBg, hg, hfz, hnc, hcm, hcs, htk⟩
 ·obtain rfl : l = [] := List.eq_nil_of_length_eq_zero h0
  have hrun := run_convert_nil_bytes (P := P) w src dst E 0 hs he hd
  unfold Oper.wp
  simp [execOp, ho, hx, hrun, Result.andThen]
  exact hK' _ _ hK
 ·have hB : Bytes w g 0 ⟨l.toArray⟩ := fun j hj => by
   have hj' : j < l.length := hj
   have e : cur.toList[j]? = some (.int .u8 (l[j].toNat : Int)) := by
    have h1 : (cur.toList.take (l.length * 1))[j]? = (byteCells l)[j]? := by rw [htk]
    rw [List.getElem?_take_of_lt (by omega)] at h1
    rw [h1]
    simp [byteCells, hj']
   have e2 : w.cell? ⟨g, 0 + j, none⟩ = cur.toList[j]? := by
    simp [World.cell?, hg]
   rw [e2, e]
   rfl
  have hrun := run_convert_whole (P := P) w src E dst hs he hd g 0 ⟨l.toArray⟩ hB cap
  rw [show (⟨l.toArray⟩ : ByteArray).size = l.length from rfl] at hrun
  unfold Oper.wp
  simp [execOp, ho, hx, hrun, Result.andThen]
  exact hK' _ _ hK
end
end Go.Proofs.YtjccnjfdeedneaaGreat
/- Shade: the walks. -/
namespace Go.Proofs.YtjccnjfdeedneaaGreat
open Go Go.RowKit Go.Lib

theorem rev_step (s : ByteArray) (k : Nat) (h : k < s.size) : s.data.toList.reverse.take (s.size - k) = s.data.toList.reverse.take (s.size - (k + 1)) ++ [s[k]] := by
 have hl : s.data.toList.length = s.size := (size_eq s).symm
 rw [show s.size - k = (s.size - (k + 1)) + 1 by omega, List.take_succ_eq_append_getElem (by simp; omega)]
 congr 2
 rw [List.getElem_reverse]
 simp [ByteArray.getElem_eq_getElem_data]
 congr 1
 omega

def ShadeRel (s : ByteArray) (w : World) (b i : Value) (wr : World) : Prop := ∃ k : Nat, k ≤ s.size ∧ i = .int .i64 ((k : Int) - 1) ∧ Buf 5 w wr b (s.data.toList.reverse.take (s.size - k))

def shadeT (s : ByteArray) : ByteArray := ⟨s.data.toList.reverse.toArray⟩

theorem shadeT_size (s : ByteArray) : (shadeT s).size = s.size := by
 show s.data.toList.reverse.toArray.size = s.size
 simp

/-- The row when k bytes are in their places, from its end on. -/
def shadeCells (s : ByteArray) (k : Nat) : List Value := List.replicate (s.size - k) (.int .u8 0) ++ byteCells (s.data.toList.reverse.drop (s.size - k))
theorem shadeCells_len (s : ByteArray) (k : Nat) : (shadeCells s k).length = s.size := by
 have hl : s.data.toList.length = s.size := (size_eq s).symm
 simp [shadeCells, byteCells, hl]
theorem shadeCells_zero (s : ByteArray) : shadeCells s 0 = List.replicate s.size (.int .u8 0) := by
 have hl : s.data.toList.length = s.size := (size_eq s).symm
 have e : s.data.toList.reverse.drop s.size = [] := List.drop_eq_nil_of_le (by simp [hl])
 unfold shadeCells
 rw [Nat.sub_zero, e]
 simp [byteCells]
theorem shadeCells_set (s : ByteArray) (k : Nat) (h : k < s.size) : (shadeCells s k).set (s.size - 1 - k) (.int .u8 (s[k].toNat : Int)) = shadeCells s (k + 1) := by
 have hl : s.data.toList.length = s.size := (size_eq s).symm
 have e1 : s.size - k = (s.size - (k + 1)) + 1 := by omega
 have e2 : s.size - 1 - k = s.size - (k + 1) := by omega
 have hg : s.data.toList.reverse[s.size - (k + 1)]'(by simp; omega) = s[k] := by
  rw [List.getElem_reverse]
  simp [ByteArray.getElem_eq_getElem_data]
  congr 1
  omega
 unfold shadeCells
 rw [e2, e1]
 rw [List.replicate_succ', List.append_assoc, List.set_append_right _ _ (by simp)]
 rw [List.drop_eq_getElem_cons (i := s.size - (k + 1)) (by simp; omega), hg]
 simp [byteCells]
def ShadeRel2 (s : ByteArray) (g : Nat) (w : World) (i : Value) (wr : World) : Prop := ∃ k : Nat, k ≤ s.size ∧ i = .int .i64 k ∧ Row wr g 5 (shadeCells s k) ∧ Below w.heap.size w wr

theorem below_two {w w1 w2 : World} (h1 : Below w.heap.size w w1) (h2 : Below w1.heap.size w1 w2) : Below w.heap.size w w2 := h1.trans (h2.mono h1.size)
end Go.Proofs.YtjccnjfdeedneaaGreat
/- What is told, as data. -/
namespace Go.Proofs.YtjccnjfdeedneaaGreat
open Go Go.RowKit Go.Lib

/-- What is told. -/
structure RS where
 code : Int
 token : Int
 next : Int
 yes : Bool
def rsV (s : RS) : Value := .agg #[.int .i64 s.code, .int .i64 s.token, .int .i64 s.next, .bool s.yes]
end Go.Proofs.YtjccnjfdeedneaaGreat
/- What a request does to a grant: as plain mathematics. -/
namespace Go.Proofs.YtjccnjfdeedneaaGreat
open Go Go.RowKit Go.Lib
set_option linter.unusedVariables false

def codeR (c : Int) : RS := ⟨c, 0, 0, false⟩
def upT (n : Int) : Int := if n ≤ 1000000 then n else 1000000
def insW : List Wd → Wd → List Wd
 | [], x => [x]
 | y :: r, x => if y.no < x.no then y :: insW r x else x :: y :: r
def insK : List Ky → Ky → List Ky
 | [], x => [x]
 | y :: r, x => if y.no < x.no then y :: insK r x else x :: y :: r
def usedW (x : Wd) : Wd := ⟨x.no, x.client, x.shade, x.till, true⟩
def stK (s : Int) (x : Ky) : Ky := ⟨x.no, x.client, x.fam, x.refresh, x.till, s⟩
def useW (l : List Wd) (n : Int) : List Wd := l.map fun x => if x.no == n then usedW x else x
def markK (l : List Ky) (n s : Int) : List Ky := l.map fun x => if x.no == n then stK s x else x
def roomC (g : Gr) (r : RQ) : Int := if 38 < g.keys.length then 9 else if (findK g.keys (10 * r.no + 1)).isSome || (findK g.keys (10 * r.no + 2)).isSome then 7 else 0
def accK (r : RQ) (fam now : Int) : Ky := ⟨10 * r.no + 1, r.client, fam, false, upT (now + 60), 0⟩
def nextK (r : RQ) (fam now : Int) : Ky := ⟨10 * r.no + 2, r.client, fam, true, upT (now + 300), 0⟩
def giveG (g : Gr) (r : RQ) (fam : Int) : Gr := ⟨g.now, g.words, insK (insK g.keys (accK r fam g.now)) (nextK r fam g.now), g.dead⟩
def giveR (r : RQ) : RS := ⟨0, 10 * r.no + 1, 10 * r.no + 2, false⟩
def newW (g : Gr) (r : RQ) : Wd := ⟨r.no, r.client, r.proof, upT (g.now + 10), false⟩
def issueD (g : Gr) (r : RQ) : Gr × RS :=
 if 20 ≤ g.words.length then (g, codeR 9) else if (findW g.words r.no).isSome then (g, codeR 7) else (⟨g.now, insW g.words (newW g r), g.keys, g.dead⟩, ⟨0, r.no, 0, false⟩)
def wordFor (g : Gr) (r : RQ) : Option Wd := match findW g.words r.code with
 | none => none
 | some x => if x.client == r.client && x.shade.toList == (shadeT r.proof).toList then some x else none
def redeemD (g : Gr) (r : RQ) : Gr × RS :=
 if roomC g r = 0 then match wordFor g r with
  | none => (g, codeR 6)
  | some x => if x.used then (killG g r.code, codeR 10) else if decide (x.till < g.now) || isDeadB g.dead r.code then (g, codeR 8) else (giveG ⟨g.now, useW g.words r.code, g.keys, g.dead⟩ r r.code, giveR r)
 else (g, codeR (roomC g r))
def refreshD (g : Gr) (r : RQ) : Gr × RS :=
 if roomC g r = 0 then match keyFor g.keys r.token r.client with
  | none => (g, codeR 6)
  | some x => if x.refresh then if x.state == 1 then (killG g x.fam, codeR 10) else if keyOpenB g.now g.dead x then (giveG ⟨g.now, g.words, markK g.keys r.token 1, g.dead⟩ r x.fam, giveR r) else (g, codeR 8) else (g, codeR 6)
 else (g, codeR (roomC g r))
def revokeD (g : Gr) (r : RQ) : Gr × RS := match keyFor g.keys r.token r.client with
 | none => (g, codeR 0)
 | some x => if x.refresh then (killG g x.fam, codeR 0) else (⟨g.now, g.words, markK g.keys r.token 2, g.dead⟩, codeR 0)
def askD (g : Gr) (r : RQ) : Gr × RS := (g, ⟨0, 0, 0, match keyFor g.keys r.token r.client with
 | none => false
 | some x => keyOpenB g.now g.dead x⟩)
def tickD (g : Gr) (r : RQ) : Gr × RS := (⟨upT (g.now + r.upTo), g.words, g.keys, g.dead⟩, codeR 0)
def doD (g : Gr) (r : RQ) : Gr × RS :=
 if r.kind = 1 then issueD g r else if r.kind = 2 then redeemD g r else if r.kind = 3 then refreshD g r else if r.kind = 4 then revokeD g r else if r.kind = 5 then askD g r else tickD g r

theorem insW_length (x : Wd) : ∀ l, (insW l x).length = l.length + 1
 | [] => rfl
 | y :: r => by unfold insW; split <;> simp [insW_length x r]
theorem insK_length (x : Ky) : ∀ l, (insK l x).length = l.length + 1
 | [] => rfl
 | y :: r => by unfold insK; split <;> simp [insK_length x r]
theorem useW_length (l : List Wd) (n : Int) : (useW l n).length = l.length := by simp [useW]
theorem markK_length (l : List Ky) (n s : Int) : (markK l n s).length = l.length := by simp [markK]
theorem findW_ins (x : Wd) (i : Int) : ∀ l, findW l x.no = none → findW (insW l x) i = if i = x.no then some x else findW l i
 | [], _ => by
  by_cases h : i = x.no
  ·subst h; simp [findW, insW]
  ·have e : (x.no == i) = false := beq_eq_false_iff_ne.2 (fun e => h e.symm)
   simp [findW, insW, h, e]
 | y :: r, hn => by
  have hy : (y.no == x.no) = false ∧ findW r x.no = none := by
   unfold findW at hn ⊢
   rw [List.find?_cons] at hn
   cases e : (y.no == x.no) with
   | true => rw [e] at hn; simp at hn
   | false => rw [e] at hn; exact ⟨rfl, hn⟩
  have ih := findW_ins x i r hy.2
  unfold insW
  split
  ·unfold findW at ih ⊢
   rw [List.find?_cons, List.find?_cons]
   cases e : (y.no == i) with
   | true =>
    have : i ≠ x.no := fun h => by rw [h] at e; rw [e] at hy; exact absurd hy.1 (by simp)
    rw [if_neg this]
   | false => exact ih
  ·unfold findW
   rw [List.find?_cons]
   by_cases h : i = x.no
   ·subst h; simp
   ·have e : (x.no == i) = false := beq_eq_false_iff_ne.2 (fun e => h e.symm)
    rw [e, if_neg h]
theorem findK_ins (x : Ky) (i : Int) : ∀ l, findK l x.no = none → findK (insK l x) i = if i = x.no then some x else findK l i
 | [], _ => by
  by_cases h : i = x.no
  ·subst h; simp [findK, insK]
  ·have e : (x.no == i) = false := beq_eq_false_iff_ne.2 (fun e => h e.symm)
   simp [findK, insK, h, e]
 | y :: r, hn => by
  have hy : (y.no == x.no) = false ∧ findK r x.no = none := by
   unfold findK at hn ⊢
   rw [List.find?_cons] at hn
   cases e : (y.no == x.no) with
   | true => rw [e] at hn; simp at hn
   | false => rw [e] at hn; exact ⟨rfl, hn⟩
  have ih := findK_ins x i r hy.2
  unfold insK
  split
  ·unfold findK at ih ⊢
   rw [List.find?_cons, List.find?_cons]
   cases e : (y.no == i) with
   | true =>
    have : i ≠ x.no := fun h => by rw [h] at e; rw [e] at hy; exact absurd hy.1 (by simp)
    rw [if_neg this]
   | false => exact ih
  ·unfold findK
   rw [List.find?_cons]
   by_cases h : i = x.no
   ·subst h; simp
   ·have e : (x.no == i) = false := beq_eq_false_iff_ne.2 (fun e => h e.symm)
    rw [e, if_neg h]
theorem findW_use (n i : Int) : ∀ l, findW (useW l n) i = (findW l i).map fun x => if i = n then usedW x else x
 | [] => rfl
 | y :: r => by
  have ih := findW_use n i r
  unfold findW useW at ih ⊢
  rw [List.map_cons, List.find?_cons, List.find?_cons]
  have hno : (if y.no == n then usedW y else y).no = y.no := by split <;> rfl
  rw [hno]
  cases e : (y.no == i) with
  | false => exact ih
  | true =>
   obtain rfl : y.no = i := by simpa using e
   by_cases h : y.no = n <;> simp [h]
theorem findK_mark (n s i : Int) : ∀ l, findK (markK l n s) i = (findK l i).map fun x => if i = n then stK s x else x
 | [] => rfl
 | y :: r => by
  have ih := findK_mark n s i r
  unfold findK markK at ih ⊢
  rw [List.map_cons, List.find?_cons, List.find?_cons]
  have hno : (if y.no == n then stK s y else y).no = y.no := by split <;> rfl
  rw [hno]
  cases e : (y.no == i) with
  | false => exact ih
  | true =>
   obtain rfl : y.no = i := by simpa using e
   by_cases h : y.no = n <;> simp [h]

/-- What the maps of a ledger come to hold. -/
theorem wdF_ins {ws : List Wd} {dead : List Int} {td : Int → Int} {x : Wd} (h : findW ws x.no = none) (hd : isDeadB dead x.no = false) (i : Int) : setAt (wdF ws dead td) x.no (hwV x infB) i = wdF (insW ws x) dead td i := by
 unfold setAt wdF
 rw [findW_ins x i ws h]
 by_cases hi : i = x.no
 ·subst hi; simp [ddB, hd]
 ·rw [if_neg hi, if_neg hi]
theorem kyF_ins {ks : List Ky} {x : Ky} (h : findK ks x.no = none) (i : Int) : setAt (kyF ks) x.no (hkV x) i = kyF (insK ks x) i := by
 unfold setAt kyF
 rw [findK_ins x i ks h]
 by_cases hi : i = x.no
 ·subst hi; simp
 ·rw [if_neg hi, if_neg hi]
theorem wdF_use {ws : List Wd} {dead : List Int} {td : Int → Int} {n : Int} {x : Wd} (h : findW ws n = some x) (i : Int) : setAt (wdF ws dead td) n (hwV (usedW x) (ddB dead td n)) i = wdF (useW ws n) dead td i := by
 unfold setAt wdF
 rw [findW_use]
 by_cases hi : i = n
 ·subst hi; simp [h]
 ·simp [hi]
theorem kyF_mark {ks : List Ky} {n s : Int} {x : Ky} (h : findK ks n = some x) (i : Int) : setAt (kyF ks) n (hkV (stK s x)) i = kyF (markK ks n s) i := by
 unfold setAt kyF
 rw [findK_mark]
 by_cases hi : i = n
 ·subst hi; simp [h]
 ·simp [hi]
theorem upT_range {n : Int} (h : 0 ≤ n) : 0 ≤ upT n ∧ upT n ≤ 1000000 := by unfold upT; split <;> omega
theorem dead_no {ws : List Wd} {l : List Int} {n : Int} {b : Int} (h : deadOk ws b l = true) (hn : findW ws n = none) : isDeadB l n = false := by
 unfold isDeadB
 rw [List.any_eq_false]
 intro d hd
 have h2 := (deadOk_up h d hd).2
 unfold hasNo at h2
 obtain ⟨y, hy, hyd⟩ := List.any_eq_true.1 h2
 unfold findW at hn
 rw [List.find?_eq_none] at hn
 have := hn y hy
 have e := eq_of_beq hyd
 rw [e] at this
 simpa using this
end Go.Proofs.YtjccnjfdeedneaaGreat
/- A ledger: what comes of one more word or key, of one changed, of the time. -/
namespace Go.Proofs.YtjccnjfdeedneaaGreat
open Go Go.RowKit Go.Lib
set_option linter.unusedVariables false

theorem ne_some {a b : Nat} (h : a ≠ b) : some a ≠ some b := fun e => h (Option.some.inj e)
theorem LedAt.keyed {w w3 : World} {B lb mw mk : Nat} {g : Gr} {x : Ky} (hl : LedAt w B lb mw mk g) (hg : w.grownBy w3 (some mk)) (hx : findK g.keys x.no = none)
  (hm : IMap Tryz.prog 2 w3 mk (grow g.keys.length (kyF g.keys x.no)) (setAt (kyF g.keys) x.no (hkV x))) : LedAt w3 B lb mw mk ⟨g.now, g.words, insK g.keys x, g.dead⟩ := by
 obtain ⟨td, htd, hr, hw, hk, hd⟩ := hl
 refine ⟨td, htd, hr.grownI hg (ne_some hd.2.2.2.2.1), hw.grown hg (ne_some hd.2.2.2.2.2), ?_, hd⟩
 have e : grow g.keys.length (kyF g.keys x.no) = (insK g.keys x).length := by simp [grow, kyF, hx, insK_length]
 rw [e] at hm
 exact hm.same (kyF_ins hx)
theorem LedAt.marked {w w3 : World} {B lb mw mk : Nat} {g : Gr} {x : Ky} {n s : Int} (hl : LedAt w B lb mw mk g) (hg : w.grownBy w3 (some mk)) (hx : findK g.keys n = some x)
  (hm : IMap Tryz.prog 2 w3 mk (grow g.keys.length (kyF g.keys n)) (setAt (kyF g.keys) n (hkV (stK s x)))) : LedAt w3 B lb mw mk ⟨g.now, g.words, markK g.keys n s, g.dead⟩ := by
 obtain ⟨td, htd, hr, hw, hk, hd⟩ := hl
 refine ⟨td, htd, hr.grownI hg (ne_some hd.2.2.2.2.1), hw.grown hg (ne_some hd.2.2.2.2.2), ?_, hd⟩
 have e : grow g.keys.length (kyF g.keys n) = (markK g.keys n s).length := by simp [grow, kyF, hx, markK_length]
 rw [e] at hm
 exact hm.same (kyF_mark hx)
/-- The parts of a ledger, by what is known of the dead. -/
def LedTd (w : World) (B lb mw mk : Nat) (g : Gr) (td : Int → Int) : Prop := (∀ i, 0 ≤ td i ∧ td i ≤ g.now) ∧ Row w lb 210 [.float .f64 (floatOfInt .f64 g.now), .map (some mw), .map (some mk)] ∧
 IMap Tryz.prog 2 w mw g.words.length (wdF g.words g.dead td) ∧ IMap Tryz.prog 2 w mk g.keys.length (kyF g.keys) ∧ B ≤ lb ∧ B ≤ mw ∧ B ≤ mk ∧ lb ≠ mw ∧ lb ≠ mk ∧ mw ≠ mk
theorem LedAt.td {w : World} {B lb mw mk : Nat} {g : Gr} (hl : LedAt w B lb mw mk g) : ∃ td, LedTd w B lb mw mk g td := hl
theorem LedTd.later {w w' : World} {B lb mw mk : Nat} {g : Gr} {td : Int → Int} (h : LedTd w B lb mw mk g td) (hb : Below w.heap.size w w') : LedTd w' B lb mw mk g td := ⟨h.1, h.2.1.below hb h.2.1.lt, h.2.2.1.later hb, h.2.2.2.1.later hb, h.2.2.2.2⟩
theorem LedTd.led {w : World} {B lb mw mk : Nat} {g : Gr} {td : Int → Int} (h : LedTd w B lb mw mk g td) : LedAt w B lb mw mk g := ⟨td, h⟩
theorem LedTd.words {w : World} {B lb mw mk : Nat} {g : Gr} {td : Int → Int} (hl : LedTd w B lb mw mk g td) : IMap Tryz.prog 2 w mw g.words.length (wdF g.words g.dead td) := hl.2.2.1
theorem LedTd.worded {w w3 : World} {B lb mw mk : Nat} {g : Gr} {x : Wd} {td : Int → Int} (hl : LedTd w B lb mw mk g td) (hg : w.grownBy w3 (some mw)) (hx : findW g.words x.no = none) (hdd : isDeadB g.dead x.no = false)
  (hm : IMap Tryz.prog 2 w3 mw (grow g.words.length (wdF g.words g.dead td x.no)) (setAt (wdF g.words g.dead td) x.no (hwV x infB))) : LedAt w3 B lb mw mk ⟨g.now, insW g.words x, g.keys, g.dead⟩ := by
 obtain ⟨htd, hr, hw, hk, hd⟩ := hl
 refine ⟨td, htd, hr.grownI hg (ne_some hd.2.2.2.1), ?_, hk.grown hg (ne_some hd.2.2.2.2.2.symm), hd⟩
 have e : grow g.words.length (wdF g.words g.dead td x.no) = (insW g.words x).length := by simp [grow, wdF, hx, insW_length]
 rw [e] at hm
 exact hm.same (wdF_ins hx hdd)
theorem LedTd.used {w w3 : World} {B lb mw mk : Nat} {g : Gr} {x : Wd} {n : Int} {td : Int → Int} (hl : LedTd w B lb mw mk g td) (hg : w.grownBy w3 (some mw)) (hx : findW g.words n = some x)
  (hm : IMap Tryz.prog 2 w3 mw (grow g.words.length (wdF g.words g.dead td n)) (setAt (wdF g.words g.dead td) n (hwV (usedW x) (ddB g.dead td n)))) : LedAt w3 B lb mw mk ⟨g.now, useW g.words n, g.keys, g.dead⟩ := by
 obtain ⟨htd, hr, hw, hk, hd⟩ := hl
 refine ⟨td, htd, hr.grownI hg (ne_some hd.2.2.2.1), ?_, hk.grown hg (ne_some hd.2.2.2.2.2.symm), hd⟩
 have e : grow g.words.length (wdF g.words g.dead td n) = (useW g.words n).length := by simp [grow, wdF, hx, useW_length]
 rw [e] at hm
 exact hm.same (wdF_use hx)
theorem LedAt.size {w : World} {B lb mw mk : Nat} {g : Gr} (hl : LedAt w B lb mw mk g) : B ≤ w.heap.size ∧ lb < w.heap.size ∧ mw < w.heap.size ∧ mk < w.heap.size := by
 obtain ⟨td, htd, hr, hw, hk, hd⟩ := hl
 have := hr.lt
 have := hw.lt
 have := hk.lt
 omega
theorem LedAt.cells {w : World} {B lb mw mk : Nat} {g : Gr} (hl : LedAt w B lb mw mk g) : w.cell? ⟨lb, 0, none⟩ = some (.float .f64 (floatOfInt .f64 g.now)) ∧ w.cell? ⟨lb, 1, none⟩ = some (.map (some mw)) ∧ w.cell? ⟨lb, 2, none⟩ = some (.map (some mk)) := by
 obtain ⟨td, htd, hr, _⟩ := hl
 exact ⟨hr.cell 0, hr.cell 1, hr.cell 2⟩
theorem LedAt.keys {w : World} {B lb mw mk : Nat} {g : Gr} (hl : LedAt w B lb mw mk g) : IMap Tryz.prog 2 w mk g.keys.length (kyF g.keys) := by
 obtain ⟨td, htd, hr, hw, hk, hd⟩ := hl
 exact hk
theorem LedAt.places {w : World} {B lb mw mk : Nat} {g : Gr} (hl : LedAt w B lb mw mk g) : B ≤ lb ∧ B ≤ mw ∧ B ≤ mk := by
 obtain ⟨td, htd, hr, hw, hk, hd⟩ := hl
 omega
theorem LedTd.setCell {w : World} {B lb mw mk : Nat} {g : Gr} {td : Int → Int} (hl : LedTd w B lb mw mk g td) {a : Addr} (u : Value) (h1 : a.block ≠ lb ∧ a.block ≠ mw ∧ a.block ≠ mk) : LedTd (w.setCell a u) B lb mw mk g td := by
 obtain ⟨htd, hr, hw, hk, hd⟩ := hl
 refine ⟨htd, ?_, hw.setCell h1.2.1.symm u, hk.setCell h1.2.2.symm u, hd⟩
 unfold Row at hr ⊢
 rw [Below.heap_setCell _ _ _ _ h1.1.symm]
 exact hr
theorem LedAt.setCell {w : World} {B lb mw mk : Nat} {g : Gr} (hl : LedAt w B lb mw mk g) {a : Addr} (u : Value) (h : w.heap.size ≤ a.block ∨ (a.block ≠ lb ∧ a.block ≠ mw ∧ a.block ≠ mk)) : LedAt (w.setCell a u) B lb mw mk g := by
 have hz := hl.size
 obtain ⟨td, htd, hr, hw, hk, hd⟩ := hl
 have h1 : a.block ≠ lb ∧ a.block ≠ mw ∧ a.block ≠ mk := by omega
 refine ⟨td, htd, ?_, hw.setCell h1.2.1.symm u, hk.setCell h1.2.2.symm u, hd⟩
 unfold Row at hr ⊢
 rw [Below.heap_setCell _ _ _ _ h1.1.symm]
 exact hr
theorem LedAt.setCells_res {B lb mw mk : Nat} {g : Gr} : ∀ (vs : List Value) {w : World} (p o : Nat), LedAt w B lb mw mk g → p ≠ lb ∧ p ≠ mw ∧ p ≠ mk → LedAt (w.setCells p o vs) B lb mw mk g
 | [], _, _, _, h, _ => h
 | v :: r, _, p, o, h, hp => LedAt.setCells_res r p (o + 1) (h.setCell (a := ⟨p, o, none⟩) v (.inr hp)) hp
theorem hk_shape (o : Option Ky) : ∃ c f b t s, (o.map hkV).getD hkZ = .agg #[.int .i64 c, .int .i64 f, .bool b, .float .f64 t, .int .i64 s] := by
 cases o with
 | none => exact ⟨_, _, _, _, _, rfl⟩
 | some x => exact ⟨_, _, _, _, _, rfl⟩
end Go.Proofs.YtjccnjfdeedneaaGreat
