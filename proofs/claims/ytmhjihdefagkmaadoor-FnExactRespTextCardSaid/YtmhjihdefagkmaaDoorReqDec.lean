/- A number in digits: the model's side. -/
import Derived.Test.YtmhjihdefagkmaaDoorRows
import Derived.Test.YtmhjihdefagkmaaDoorAid
import Derived.BigQuiet
import Derived.Outline
import Derived.Handy
import Derived.Below
import Derived.WalkSpells
import Derived.WalkLawsBesides
namespace Go.Proofs.YtmhjihdefagkmaaDoor
open Go Go.RowKit Go.Lib
set_option linter.unusedVariables false

/-- The digits of a number that is not zero. -/
def decL (m : Nat) : List UInt8 := if h : m = 0 then [] else decL (m / 10) ++ [UInt8.ofNat (48 + m % 10)]
theorem decL_zero : decL 0 = [] := by unfold decL; rfl
theorem decL_pos {m : Nat} (h : m ≠ 0) : decL m = decL (m / 10) ++ [UInt8.ofNat (48 + m % 10)] := by rw [decL]; simp [h]
def decB (n : Int) : ByteArray := if n = 0 then ⟨#[48]⟩ else if n < 0 then ⟨#[45]⟩ ++ ⟨(decL n.natAbs).toArray⟩ else ⟨(decL n.natAbs).toArray⟩
def digB (m : Nat) : ByteArray := ⟨#[UInt8.ofNat (48 + m % 10)]⟩
theorem digRow (w : World) (m : Nat) (v : Int) (hv : v = ((48 + m % 10 : Nat) : Int)) : Row (w.alloc (.cells #[.int .u8 v] 5)) w.heap.size 5 (byteCells (digB m).data.toList ++ []) := by
  unfold Row
  rw [heap_alloc_new]
  subst hv
  simp [byteCells, digB]
  omega
theorem decL_len : ∀ (k m : Nat), m < 10 ^ k → (decL m).length ≤ k
  | 0, m, h => by
    obtain rfl : m = 0 := by simpa using h
    rw [decL_zero]
    exact Nat.le_refl _
  | k + 1, m, h => by
    by_cases h0 : m = 0
    · subst h0
      rw [decL_zero]
      exact Nat.zero_le _
    · rw [decL_pos h0, List.length_append]
      have := decL_len k (m / 10) (by rw [Nat.pow_succ] at h; omega)
      simp
      omega
theorem dec_short {M m : Nat} {t : ByteArray} (hM : M < 10 ^ 19) (h : decL M = decL m ++ t.data.toList) : t.size ≤ 19 := by
  have h1 := decL_len 19 M hM
  rw [h, List.length_append] at h1
  rw [Lib.size_eq]
  omega
theorem dec_step {m M : Nat} {t : ByteArray} (h : decL M = decL m ++ t.data.toList) (hm : ¬ m = 0) : decL M = decL (m / 10) ++ (digB m ++ t).data.toList := by
  rw [h, decL_pos hm]
  simp [digB]
/-- The number left, what is written. -/
def DecPos (M : Nat) (w : World) (i o : Value) (wr : World) : Prop := ∃ (m : Nat) (t : ByteArray), i = .int .i64 (m : Int) ∧ m ≤ M ∧ o = .string t ∧ decL M = decL m ++ t.data.toList ∧ Below w.heap.size w wr
def DecNeg (M : Nat) (w : World) (i o : Value) (wr : World) : Prop := ∃ (m : Nat) (t : ByteArray), i = .int .i64 (-(m : Int)) ∧ m ≤ M ∧ o = .string t ∧ decL M = decL m ++ t.data.toList ∧ Below w.heap.size w wr
set_option maxRecDepth 100000 in
set_option maxHeartbeats 800000 in
theorem dec_spec (n : Int) (w : World) (hn : -9223372036854775808 ≤ n ∧ n ≤ 9223372036854775807) : Calls Tryd.prog 7 #[.int .i64 n] w fun e w' => e = .returned (.string (decB n)) ∧ Below w.heap.size w w' := by
  by_cases h0 : n = 0
  · subst h0
    go_enter Tryd.func7, Tryd.ntmps7
    go_wp2_with fail
    go_ret
    exact ⟨rfl, Below.refl _ _⟩
  have d0 : (n == 0) = false := beq_eq_false_iff_ne.2 h0
  by_cases hneg : n < 0
  · have d1 : decide (n < 0) = true := decide_eq_true hneg
    obtain ⟨M, rfl⟩ : ∃ M : Nat, n = -(M : Int) := ⟨n.natAbs, by omega⟩
    have d2 : decide (0 < M) = true := decide_eq_true (by omega)
    go_enter Tryd.func7, Tryd.ntmps7
    go_wp2_with fail
    go_loopw [0, 4] (DecNeg M w) (fun i _ _ => (RowKit.intOf i).natAbs)
    case atStart => exact ⟨M, ⟨#[]⟩, rfl, Nat.le_refl _, rfl, by simp, Below.refl _ _⟩
    case round =>
      obtain ⟨m, t, rfl, hm, rfl, ht, hb⟩ := hrel
      by_cases hm0 : m = 0
      · subst hm0
        have hl := dec_short (by omega) ht
        have HT := Lib.hid ht
        have HB := Lib.hid hb
        clear ht hb
        go_wp2_with fail
        go_ret
        exact ⟨by rw [decB, if_neg h0, if_pos (by omega), show (-(M : Int)).natAbs = M by omega, HT.out, decL_zero]; rfl, HB.out⟩
      · have dm : (-(m : Int) != 0) = true := by rw [bne_iff_ne]; omega
        have hl := dec_short (by omega) ht
        have hds : (digB m).size ≤ 1 := Nat.le_refl 1
        have HT := Lib.hid ht
        have HB := Lib.hid hb
        clear ht hb
        by_cases hz : m % 10 = 0
        · have HR := Lib.hid (digRow wr m (48 + -((m : Int) % 10)) (by omega))
          go_wp2_with (refine wpList_bytes_str rfl (.tmp 21) 30 9 5 rfl Tryd.underlying30 Tryd.underlying5 Tryd.underlying9 wr.heap.size 1 1 (digB m) rfl [] HR.out rfl ?_)
          refine ⟨⟨m / 10, digB m ++ t, by go_num, by omega, rfl, dec_step HT.out hm0, HB.out.alloc HB.out.size _⟩, ?_⟩
          simp [RowKit.intOf]
          omega
        · have HR := Lib.hid (digRow wr m (48 + (m : Int) % 10) (by omega))
          go_wp2_with (refine wpList_bytes_str rfl (.tmp 21) 30 9 5 rfl Tryd.underlying30 Tryd.underlying5 Tryd.underlying9 wr.heap.size 1 1 (digB m) rfl [] HR.out rfl ?_)
          refine ⟨⟨m / 10, digB m ++ t, by go_num, by omega, rfl, dec_step HT.out hm0, HB.out.alloc HB.out.size _⟩, ?_⟩
          simp [RowKit.intOf]
          omega
  · have d1 : decide (n < 0) = false := decide_eq_false hneg
    obtain ⟨M, rfl⟩ : ∃ M : Nat, n = M := ⟨n.natAbs, by omega⟩
    go_enter Tryd.func7, Tryd.ntmps7
    go_wp2_with fail
    go_loopw [0, 4] (DecPos M w) (fun i _ _ => (RowKit.intOf i).natAbs)
    case atStart => exact ⟨M, ⟨#[]⟩, rfl, Nat.le_refl _, rfl, by simp, Below.refl _ _⟩
    case round =>
      obtain ⟨m, t, rfl, hm, rfl, ht, hb⟩ := hrel
      by_cases hm0 : m = 0
      · subst hm0
        have hl := dec_short (by omega) ht
        have HT := Lib.hid ht
        have HB := Lib.hid hb
        clear ht hb
        go_wp2_with fail
        go_ret
        exact ⟨by rw [decB, if_neg h0, if_neg (by omega), show (M : Int).natAbs = M from rfl, HT.out, decL_zero]; rfl, HB.out⟩
      · have dm : ((m : Int) != 0) = true := by rw [bne_iff_ne]; omega
        have hl := dec_short (by omega) ht
        have hds : (digB m).size ≤ 1 := Nat.le_refl 1
        have HT := Lib.hid ht
        have HB := Lib.hid hb
        clear ht hb
        have HR := Lib.hid (digRow wr m (48 + (m : Int) % 10) (by omega))
        go_wp2_with (refine wpList_bytes_str rfl (.tmp 21) 30 9 5 rfl Tryd.underlying30 Tryd.underlying5 Tryd.underlying9 wr.heap.size 1 1 (digB m) rfl [] HR.out rfl ?_)
        refine ⟨⟨m / 10, digB m ++ t, by go_num, by omega, rfl, dec_step HT.out hm0, HB.out.alloc HB.out.size _⟩, ?_⟩
        simp [RowKit.intOf]
        omega
end Go.Proofs.YtmhjihdefagkmaaDoor
