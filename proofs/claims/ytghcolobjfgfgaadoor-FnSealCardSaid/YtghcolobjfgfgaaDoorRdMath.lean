/- Plain mathematics of reading a number. -/
import Derived.Laws.BitsAllLaws
import Derived.RowKit
import Derived.IntWalk
import Derived.Laws.BitsLemmas
namespace Go.Proofs.YtghcolobjfgfgaaDoor.Rd
open Go Go.RowKit
def unf (u : Nat) : Int := if u % 2 = 1 then -((u / 2 : Nat) : Int) - 1 else ((u / 2 : Nat) : Int)
def put (s : ByteArray) (p k u : Nat) (h : p + k < s.size) : Nat := u + s[p + k].toNat % 128 * 2 ^ (7 * k)
def rd (s : ByteArray) (p : Nat) : Nat → Nat → Nat → Int × Int × Int
  | 0, _, _ => (0, 0, 3)
  | f + 1, k, u =>
    if h : p + k < s.size then
      if k = 9 ∧ 1 < s[p + k].toNat then (0, 0, 3)
      else if s[p + k].toNat < 128 then
        if s[p + k].toNat = 0 ∧ 0 < k then (0, 0, 3) else (unf (put s p k u h), ((p + k + 1 : Nat) : Int), 0)
      else rd s p f (k + 1) (put s p k u h)
    else (0, 0, 4)
theorem unf_odd {u : Nat} (h : u % 2 = 1) : unf u = -((u : Int) / 2) - 1 := by unfold unf; rw [if_pos h]; omega
theorem unf_even {u : Nat} (h : ¬ u % 2 = 1) : unf u = (u : Int) / 2 := by unfold unf; rw [if_neg h]; omega
theorem rd_short {s : ByteArray} {p k u : Nat} (hk : k ≤ 9) (h : s.size ≤ p + k) : rd s p (10 - k) k u = (0, 0, 4) := by
  rw [show 10 - k = (9 - k) + 1 from by omega, rd, dif_neg (by omega)]
theorem rd_big {s : ByteArray} {p k u : Nat} (hk : k = 9) (h : p + k < s.size) (hc : 1 < s[p + k].toNat) : rd s p (10 - k) k u = (0, 0, 3) := by
  rw [show 10 - k = (9 - k) + 1 from by omega, rd, dif_pos h, if_pos ⟨hk, hc⟩]
theorem rd_zero {s : ByteArray} {p k u : Nat} (hk : k ≤ 9) (h : p + k < s.size) (h9 : ¬ (k = 9 ∧ 1 < s[p + k].toNat)) (hc : s[p + k].toNat = 0) (h0 : 0 < k) : rd s p (10 - k) k u = (0, 0, 3) := by
  rw [show 10 - k = (9 - k) + 1 from by omega, rd, dif_pos h, if_neg h9, if_pos (by omega), if_pos ⟨hc, h0⟩]
theorem rd_done {s : ByteArray} {p k u : Nat} (hk : k ≤ 9) (h : p + k < s.size) (h9 : ¬ (k = 9 ∧ 1 < s[p + k].toNat)) (hc : s[p + k].toNat < 128) (h0 : ¬ (s[p + k].toNat = 0 ∧ 0 < k)) :
    rd s p (10 - k) k u = (unf (put s p k u h), ((p + k + 1 : Nat) : Int), 0) := by
  rw [show 10 - k = (9 - k) + 1 from by omega, rd, dif_pos h, if_neg h9, if_pos hc, if_neg h0]
theorem rd_last {s : ByteArray} {p k u : Nat} (hk : k ≤ 9) (h : p + k < s.size) (h9 : ¬ (k = 9 ∧ 1 < s[p + k].toNat)) (hc : s[p + k].toNat < 128) :
    rd s p (10 - k) k u = (if s[p + k].toNat = 0 ∧ 0 < k then (0, 0, 3) else (unf (put s p k u h), ((p + k + 1 : Nat) : Int), 0)) := by
  rw [show 10 - k = (9 - k) + 1 from by omega, rd, dif_pos h, if_neg h9, if_pos hc]
theorem rd_more {s : ByteArray} {p k u : Nat} (hk : k < 9) (h : p + k < s.size) (hc : 128 ≤ s[p + k].toNat) :
    rd s p (10 - k) k u = rd s p (10 - (k + 1)) (k + 1) (put s p k u h) := by
  rw [show 10 - k = (10 - (k + 1)) + 1 from by omega, rd, dif_pos h, if_neg (by omega), if_neg (by omega)]
theorem put_lt {s : ByteArray} {p k u : Nat} {h : p + k < s.size} (hu : u < 2 ^ (7 * k)) : put s p k u h < 2 ^ (7 * (k + 1)) := by
  unfold put
  have h1 : s[p + k].toNat % 128 ≤ 127 := by omega
  have h2 := Nat.mul_le_mul_right (2 ^ (7 * k)) h1
  rw [show 7 * (k + 1) = 7 * k + 7 from by omega, Nat.pow_add]
  omega
theorem pow_le {k : Nat} (h : k ≤ 9) : 2 ^ (7 * k) ≤ 9223372036854775808 := by
  have : 2 ^ (7 * k) ≤ 2 ^ 63 := Nat.pow_le_pow_right (by decide) (by omega)
  simpa using this
theorem put_lt64 {s : ByteArray} {p k u : Nat} {h : p + k < s.size} (hk : k ≤ 9) (hu : u < 2 ^ (7 * k)) (h9 : ¬ (k = 9 ∧ 1 < s[p + k].toNat)) : put s p k u h < 18446744073709551616 := by
  by_cases e : k = 9
  · subst e
    have h1 : s[p + 9].toNat % 128 ≤ 1 := by omega
    unfold put
    omega
  · have h1 := put_lt (s := s) (p := p) (h := h) hu
    have h2 := pow_le (k := k + 1) (by omega)
    omega
theorem add_lt64 {s : ByteArray} {p k : Nat} {h : p + k < s.size} (hk : k ≤ 9) (h9 : ¬ (k = 9 ∧ 1 < s[p + k].toNat)) : s[p + k].toNat % 128 * 2 ^ (7 * k) < 18446744073709551616 := by
  have := put_lt64 (h := h) hk (show 0 < 2 ^ (7 * k) from Nat.pow_pos (by decide)) h9
  unfold put at this
  omega
theorem put_wrap {s : ByteArray} {p k u : Nat} {h : p + k < s.size} (hk : k ≤ 9) (hu : u < 2 ^ (7 * k)) (h9 : ¬ (k = 9 ∧ 1 < s[p + k].toNat)) :
    IntKind.u64.wrap ((u : Int) + IntKind.u64.wrap ((s[p + k].toNat : Int) % 128 * 2 ^ (7 * k))) = ((put s p k u h : Nat) : Int) := by
  have h1 := put_lt64 (h := h) hk hu h9
  have h2 := add_lt64 (h := h) hk h9
  have e1 : (s[p + k].toNat : Int) % 128 * 2 ^ (7 * k) = ((s[p + k].toNat % 128 * 2 ^ (7 * k) : Nat) : Int) := by
    rw [Int.natCast_mul, Int.natCast_pow]
    rfl
  rw [e1, IntKind.wrap_u64, IntKind.wrap_u64]
  unfold put at *
  omega
theorem and127 (c : Nat) (hc : c < 256) : bits BinOp.and IntKind.u8 (c : Int) 127 = ((c % 128 : Nat) : Int) := by
  rw [show (127 : Int) = ((127 : Nat) : Int) from rfl, u8_and_nat _ _ hc (by omega), show 127 = 2 ^ 7 - 1 from rfl, Nat.and_two_pow_sub_one_eq_mod]
theorem put_or {s : ByteArray} {p k u : Nat} {h : p + k < s.size} (hk : k ≤ 9) (hu : u < 2 ^ (7 * k)) (h9 : ¬ (k = 9 ∧ 1 < s[p + k].toNat)) :
    bits BinOp.or IntKind.u64 (u : Int) (IntKind.u64.wrap (IntKind.u64.wrap (bits BinOp.and IntKind.u8 (s[p + k].toNat : Int) 127) * 2 ^ (7 * k))) = ((put s p k u h : Nat) : Int) := by
  have h1 := put_lt64 (h := h) hk hu h9
  have h2 := add_lt64 (h := h) hk h9
  have h3 := pow_le hk
  have h4 : s[p + k].toNat % 128 < 128 := Nat.mod_lt _ (by decide)
  rw [and127 _ (UInt8.toNat_lt _)]
  have e0 : IntKind.u64.wrap ((s[p + k].toNat % 128 : Nat) : Int) = ((s[p + k].toNat % 128 : Nat) : Int) := by rw [IntKind.wrap_u64]; omega
  have e1 : ((s[p + k].toNat % 128 : Nat) : Int) * 2 ^ (7 * k) = ((s[p + k].toNat % 128 * 2 ^ (7 * k) : Nat) : Int) := by
    rw [Int.natCast_mul, Int.natCast_pow]
    rfl
  rw [e0, e1]
  have e2 : IntKind.u64.wrap ((s[p + k].toNat % 128 * 2 ^ (7 * k) : Nat) : Int) = ((s[p + k].toNat % 128 * 2 ^ (7 * k) : Nat) : Int) := by rw [IntKind.wrap_u64]; omega
  rw [e2, u64_or_nat _ _ (by omega) h2, Nat.or_comm, nat_join (7 * k) _ _ (Nat.mul_mod_left _ _) hu]
  unfold put
  rw [Nat.add_comm]
theorem put_or0 {s : ByteArray} {p : Nat} {h : p < s.size} :
    bits BinOp.or IntKind.u64 0 (IntKind.u64.wrap (IntKind.u64.wrap (bits BinOp.and IntKind.u8 (s[p].toNat : Int) 127))) = ((put s p 0 0 h : Nat) : Int) := by
  have := put_or (s := s) (p := p) (k := 0) (u := 0) (h := h) (by omega) (by decide) (by omega)
  simpa using this
theorem ofNat64 (a : Nat) : BitVec.ofInt 64 (a : Int) = BitVec.ofNat 64 a := BitVec.ofInt_natCast 64 a
theorem xor_m1 (a : Nat) (h : a < 9223372036854775808) : bits BinOp.xor IntKind.i64 (a : Int) (-1) = -(a : Int) - 1 := by
  have h1 : (BitVec.ofInt 64 (a : Int) ^^^ BitVec.ofInt 64 (-1)).toNat = 18446744073709551615 - a := by
    rw [show BitVec.ofInt 64 (-1) = BitVec.allOnes 64 from rfl, BitVec.xor_allOnes, BitVec.toNat_not, ofNat64, BitVec.toNat_ofNat, Nat.mod_eq_of_lt (by omega)]
  show IntKind.i64.wrap ((BitVec.ofInt 64 (a : Int) ^^^ BitVec.ofInt 64 (-1)).toNat : Int) = _
  rw [h1, IntKind.wrap_i64]
  omega
theorem xor_00 (a : Nat) (h : a < 9223372036854775808) : bits BinOp.xor IntKind.i64 (a : Int) 0 = (a : Int) := by
  have h1 : (BitVec.ofInt 64 (a : Int) ^^^ BitVec.ofInt 64 0).toNat = a := by
    rw [show BitVec.ofInt 64 0 = 0#64 from rfl, BitVec.xor_zero, ofNat64, BitVec.toNat_ofNat, Nat.mod_eq_of_lt (by omega)]
  show IntKind.i64.wrap ((BitVec.ofInt 64 (a : Int) ^^^ BitVec.ofInt 64 0).toNat : Int) = _
  rw [h1, IntKind.wrap_i64]
  omega
theorem unf_bits (y : Nat) (hy : y < 18446744073709551616) :
    bits BinOp.xor IntKind.i64 ((y : Int) / 2) (wrap64 (-wrap64 (bits BinOp.and IntKind.u64 (y : Int) 1))) = unf y := by
  rw [show (1 : Int) = ((1 : Nat) : Int) from rfl, u64_and_nat y 1 hy (by omega), Nat.and_one_is_mod, show (y : Int) / 2 = ((y / 2 : Nat) : Int) from by omega]
  unfold unf
  by_cases h : y % 2 = 1
  · rw [if_pos h, h, show wrap64 (-wrap64 ((1 : Nat) : Int)) = -1 from by unfold wrap64; omega, xor_m1 _ (by omega)]
  · rw [if_neg h, show y % 2 = 0 from by omega, show wrap64 (-wrap64 ((0 : Nat) : Int)) = 0 from by unfold wrap64; omega, xor_00 _ (by omega)]
end Go.Proofs.YtghcolobjfgfgaaDoor.Rd
