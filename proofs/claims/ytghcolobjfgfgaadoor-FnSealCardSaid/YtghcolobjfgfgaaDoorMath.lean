/- Plain mathematics of the CRC. -/
import Derived.Laws.BitsAllLaws
namespace Go.Proofs.YtghcolobjfgfgaaDoor.Ma
def bit1 (r : Nat) : Nat := if r % 2 = 1 then (r / 2) ^^^ 3988292384 else r / 2
def bits8 : Nat → Nat → Nat
  | 0, r => r
  | k + 1, r => bits8 k (bit1 r)
def step (r b : Nat) : Nat := bits8 8 (r ^^^ b)
def fold : Nat → List UInt8 → Nat
  | r, [] => r
  | r, b :: l => fold (step r b.toNat) l
theorem bit1_lt {r : Nat} (h : r < 4294967296) : bit1 r < 4294967296 := by
  unfold bit1
  split
  · exact Nat.xor_lt_two_pow (n := 32) (by omega) (by omega)
  · omega
theorem bits8_lt (k : Nat) : ∀ {r : Nat}, r < 4294967296 → bits8 k r < 4294967296 := by
  induction k with
  | zero => exact fun h => h
  | succ k ih => exact fun h => ih (bit1_lt h)
theorem bits8_snoc (k : Nat) : ∀ r, bits8 (k + 1) r = bit1 (bits8 k r) := by
  induction k with
  | zero => exact fun _ => rfl
  | succ k ih => exact fun r => ih (bit1 r)
theorem step_lt {r b : Nat} (h : r < 4294967296) (hb : b < 256) : step r b < 4294967296 :=
  bits8_lt 8 (Nat.xor_lt_two_pow (n := 32) (by omega) (by omega))
theorem fold_lt (l : List UInt8) : ∀ {r : Nat}, r < 4294967296 → fold r l < 4294967296 := by
  induction l with
  | nil => exact fun h => h
  | cons b l ih => exact fun h => ih (step_lt h (UInt8.toNat_lt b))
theorem fold_append (l m : List UInt8) : ∀ r, fold r (l ++ m) = fold (fold r l) m := by
  induction l with
  | nil => exact fun _ => rfl
  | cons b l ih => exact fun r => ih _
end Go.Proofs.YtghcolobjfgfgaaDoor.Ma
