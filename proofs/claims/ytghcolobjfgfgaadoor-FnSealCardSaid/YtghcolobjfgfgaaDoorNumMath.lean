/- Plain mathematics of the numbers' bytes. -/
import Derived.Laws.BitsAllLaws
import Derived.RowKit
import Derived.IntWalk
namespace Go.Proofs.YtghcolobjfgfgaaDoor.Nu
open Go Go.RowKit
/-- The number from 0 up to which n is folded. -/
def fold (n : Int) : Nat := if n < 0 then (2 * (-(n + 1)) + 1).toNat else (2 * n).toNat
def enc : Nat → Nat → List UInt8
  | 0, x => [UInt8.ofNat x]
  | k + 1, x => if x < 128 then [UInt8.ofNat x] else UInt8.ofNat (x % 128 + 128) :: enc k (x / 128)
theorem fold_lt {n : Int} (h : -9223372036854775808 ≤ n) (h' : n ≤ 9223372036854775807) : fold n < 18446744073709551616 := by
  unfold fold; split <;> omega
theorem enc_last (k x : Nat) (h : x < 128) : enc k x = [UInt8.ofNat x] := by
  cases k
  · rfl
  · simp [enc, h]
theorem enc_more (k x : Nat) (h : ¬ x < 128) : enc (k + 1) x = UInt8.ofNat (x % 128 + 128) :: enc k (x / 128) := by
  simp [enc, h]
theorem enc_length (k x : Nat) : 1 ≤ (enc k x).length ∧ (enc k x).length ≤ k + 1 := by
  induction k generalizing x with
  | zero => simp [enc]
  | succ k ih =>
    unfold enc
    split
    · simp
    · have := ih (x / 128)
      simp
      omega
theorem xor_ones64 (x : Nat) (h : x < 18446744073709551616) : x ^^^ 18446744073709551615 = 18446744073709551615 - x := by
  have h1 : (BitVec.ofNat 64 x ^^^ BitVec.allOnes 64) = ~~~ (BitVec.ofNat 64 x) := BitVec.xor_allOnes
  have h2 := congrArg BitVec.toNat h1
  rw [BitVec.toNat_xor, BitVec.toNat_not, BitVec.toNat_ofNat, Nat.mod_eq_of_lt (by omega)] at h2
  simpa using h2
theorem fold_bits_neg (n : Int) (h1 : -9223372036854775808 ≤ n) (h : n < 0) :
    bits BinOp.xor IntKind.u64 (IntKind.u64.wrap (IntKind.u64.wrap n * 2)) (IntKind.u64.wrap (n / 9223372036854775808)) = (fold n : Nat) := by
  have e1 : IntKind.u64.wrap (IntKind.u64.wrap n * 2) = ((2 * n + 18446744073709551616).toNat : Int) := by
    rw [IntKind.wrap_u64, IntKind.wrap_u64]; omega
  have e2 : IntKind.u64.wrap (n / 9223372036854775808) = ((18446744073709551615 : Nat) : Int) := by
    rw [IntKind.wrap_u64]; omega
  rw [e1, e2, u64_xor_nat _ _ (by omega) (by omega), xor_ones64 _ (by omega)]
  unfold fold
  rw [if_pos h]
  congr 1
  omega
theorem fold_bits_pos (n : Int) (h2 : n ≤ 9223372036854775807) (h : 0 ≤ n) :
    bits BinOp.xor IntKind.u64 (n * 2) (n / 9223372036854775808) = (fold n : Nat) := by
  have e1 : n * 2 = ((2 * n).toNat : Int) := by omega
  have e2 : n / 9223372036854775808 = ((0 : Nat) : Int) := by omega
  rw [e1, e2, u64_xor_nat _ _ (by omega) (by omega), Nat.xor_zero]
  unfold fold
  rw [if_neg (by omega)]
theorem fold_neg (n : Int) (h : n < 0) : 2 * -(n + 1) + 1 = ((fold n : Nat) : Int) := by
  unfold fold; rw [if_pos h]; omega
theorem fold_pos (n : Int) (h : 0 ≤ n) : 2 * n = ((fold n : Nat) : Int) := by
  unfold fold; rw [if_neg (by omega)]; omega
theorem lt9 {j x : Nat} (hj : j ≤ 9) (hx : 128 ≤ x) (h : x * 128 ^ j < 18446744073709551616) : j < 9 := by
  by_cases e : j = 9
  · subst e
    omega
  · omega
theorem next {j x : Nat} (h : x * 128 ^ j < 18446744073709551616) : x / 128 * 128 ^ (j + 1) < 18446744073709551616 := by
  have h1 : x / 128 * 128 ≤ x := Nat.div_mul_le_self x 128
  have h2 : x / 128 * 128 * 128 ^ j ≤ x * 128 ^ j := Nat.mul_le_mul_right _ h1
  rw [show (128 : Nat) ^ (j + 1) = 128 * 128 ^ j from by rw [Nat.pow_succ, Nat.mul_comm], ← Nat.mul_assoc]
  omega
theorem enc_step {j x : Nat} {pre all : List UInt8} (hj : j < 9) (hx : 128 ≤ x) (h : pre ++ enc (9 - j) x = all) :
    (pre ++ [UInt8.ofNat (x % 128 + 128)]) ++ enc (9 - (j + 1)) (x / 128) = all := by
  rw [← h, List.append_assoc, show 9 - j = (9 - (j + 1)) + 1 from by omega, enc_more _ _ (by omega)]
  rfl
end Go.Proofs.YtghcolobjfgfgaaDoor.Nu
