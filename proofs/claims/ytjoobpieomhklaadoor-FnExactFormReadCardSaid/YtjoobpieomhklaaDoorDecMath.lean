/- What a coded text stands for: plain mathematics on lists of bytes. -/
import Derived.Lib.Bytealg
namespace Go.Proofs.YtjoobpieomhklaaDoor
open Go Go.Lib
set_option linter.unusedVariables false

/-- A digit of base 16. -/
def HexP (c : Nat) : Prop := (48 ≤ c ∧ c ≤ 57) ∨ (65 ≤ c ∧ c ≤ 70)
instance (c : Nat) : Decidable (HexP c) := by unfold HexP; infer_instance
def hexV (c : Nat) : Nat := if c ≤ 57 then c - 48 else c - 55
theorem hexV_lt {c : Nat} (h : HexP c) : hexV c < 16 := by
  unfold HexP at h
  unfold hexV
  split <;> omega
/-- Do '%' and two digits stand at the beginning? -/
def HitP : List UInt8 → Prop
  | c :: a :: b :: _ => c = 37 ∧ HexP a.toNat ∧ HexP b.toNat
  | _ => False
instance (l : List UInt8) : Decidable (HitP l) := by
  unfold HitP
  split <;> infer_instance
def hexB (a b : UInt8) : UInt8 := UInt8.ofNat (16 * hexV a.toNat + hexV b.toNat)
def decL : List UInt8 → List UInt8
  | c :: a :: b :: r => if HitP (c :: a :: b :: r) then hexB a b :: decL r else c :: decL (a :: b :: r)
  | [c, a] => [c, a]
  | [c] => [c]
  | [] => []
theorem decL_nil : decL [] = [] := by simp [decL]
theorem decL_hit {c a b : UInt8} {r : List UInt8} (h : HitP (c :: a :: b :: r)) : decL (c :: a :: b :: r) = hexB a b :: decL r := by
  rw [decL, if_pos h]
theorem decL_miss {c : UInt8} {r : List UInt8} (h : ¬ HitP (c :: r)) : decL (c :: r) = c :: decL r := by
  match r, h with
  | [], _ => simp [decL]
  | [a], _ => simp [decL]
  | a :: b :: r, h => rw [decL, if_neg h]
theorem decL_len : ∀ (n : Nat) (l : List UInt8), l.length ≤ n → (decL l).length ≤ l.length
  | _, [], _ => by simp [decL_nil]
  | 0, c :: r, h => by simp at h
  | n + 1, c :: r, h => by
    by_cases hh : HitP (c :: r)
    · match r, hh, h with
      | a :: b :: r', hh, h =>
        rw [decL_hit hh]
        have := decL_len n r' (by simp at h; omega)
        simp; omega
      | [], hh, _ => exact absurd hh (by simp [HitP])
      | [_], hh, _ => exact absurd hh (by simp [HitP])
    · rw [decL_miss hh]
      have := decL_len n r (by simp at h; omega)
      simp; omega
theorem hexB_toNat {a b : UInt8} (ha : HexP a.toNat) (hb : HexP b.toNat) : (hexB a b).toNat = 16 * hexV a.toNat + hexV b.toNat := by
  have h1 := hexV_lt ha
  have h2 := hexV_lt hb
  unfold hexB
  rw [UInt8.toNat_ofNat']
  exact Nat.mod_eq_of_lt (by omega)
end Go.Proofs.YtjoobpieomhklaaDoor
