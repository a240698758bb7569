/- Whole numbers as floats: what they read as, how they compare, add, and go back. Over any program. -/
import Derived.WalkKit
import Derived.WalkLawsBesides
namespace Go.Proofs.Ytchfgdiipjbgoaa
open Go
set_option linter.unusedVariables false

theorem log2_scale {n : Nat} (h : n ≠ 0) (k : Nat) : (n * 2 ^ k).log2 = n.log2 + k := by
  have h1 : 2 ^ n.log2 ≤ n := Nat.log2_self_le h
  have h2 : n < 2 ^ (n.log2 + 1) := Nat.lt_log2_self
  have hp : 0 < 2 ^ k := Nat.two_pow_pos k
  refine (Nat.log2_eq_iff (Nat.mul_ne_zero h (by omega))).2 ⟨?_, ?_⟩
  · rw [Nat.pow_add]; exact Nat.mul_le_mul_right _ h1
  · rw [show n.log2 + k + 1 = (n.log2 + 1) + k by omega, Nat.pow_add]; exact Nat.mul_lt_mul_of_pos_right h2 hp

theorem cut_exact (neg : Bool) (n d q : Nat) (h : n = q * 2 ^ (min d (n.log2 + 2))) : Ieee.Toward.even.cut neg n d = q := by
  have hp := Nat.two_pow_pos (min d (n.log2 + 2))
  unfold Ieee.Toward.cut
  simp only [Nat.one_shiftLeft]
  generalize 2 ^ min d (n.log2 + 2) = G at *
  have h1 : n / G = q := by rw [h]; exact Nat.mul_div_cancel _ hp
  have h2 : n % G = 0 := by rw [h]; exact Nat.mul_mod_left _ _
  rw [h1, h2]
  have e1 : decide (G < 2 * 0) = false := decide_eq_false (by omega)
  have e2 : (G == 2 * 0) = false := beq_eq_false_iff_ne.2 (by omega)
  rw [e1, e2]
  simp

def flW (c : Nat) : Nat := (1022 + c.log2) * 4503599627370496 + c * 2 ^ (52 - c.log2)
theorem log2_le52 {c : Nat} (h0 : c ≠ 0) (h : c < 2 ^ 53) : c.log2 ≤ 52 := by
  have := (Nat.log2_lt h0).2 h
  omega
theorem mant {c : Nat} (h0 : c ≠ 0) (h : c < 2 ^ 53) : 4503599627370496 ≤ c * 2 ^ (52 - c.log2) ∧ c * 2 ^ (52 - c.log2) < 9007199254740992 := by
  have hl := log2_le52 h0 h
  have h1 : 2 ^ c.log2 ≤ c := Nat.log2_self_le h0
  have h2 : c < 2 ^ (c.log2 + 1) := Nat.lt_log2_self
  have e1 : 2 ^ c.log2 * 2 ^ (52 - c.log2) = 4503599627370496 := by rw [← Nat.pow_add, show c.log2 + (52 - c.log2) = 52 by omega]
  have e2 : 2 ^ (c.log2 + 1) * 2 ^ (52 - c.log2) = 9007199254740992 := by rw [← Nat.pow_add, show c.log2 + 1 + (52 - c.log2) = 53 by omega]
  exact ⟨by rw [← e1]; exact Nat.mul_le_mul_right _ h1, by rw [← e2]; exact Nat.mul_lt_mul_of_pos_right h2 (Nat.two_pow_pos _)⟩
theorem nearest_scaled (c k : Nat) (h0 : c ≠ 0) (h : c < 2 ^ 53) : Ieee.double.nearest false (c * 2 ^ k) (-(k : Int)) = flW c := by
  have hl := log2_le52 h0 h
  obtain ⟨m1, m2⟩ := mant h0 h
  have hm : c * 2 ^ k ≠ 0 := Nat.mul_ne_zero h0 (by have := Nat.two_pow_pos k; omega)
  have elp : Ieee.double.leastPlace = -1074 := by decide
  have efb : Ieee.double.fractionBits = 52 := rfl
  have ebi : Ieee.double.binade = 4503599627370496 := by decide
  have einf : Ieee.double.infRung = 9218868437227405312 := by decide
  have elast : max (-(k : Int) + ((c * 2 ^ k).log2 : Nat) - (Ieee.double.fractionBits : Nat)) Ieee.double.leastPlace = (c.log2 : Int) - 52 := by
    rw [log2_scale h0, elp, efb]; omega
  unfold Ieee.Format.nearest
  rw [if_neg hm]
  simp only [elast]
  have e1 : (-(k : Int) - ((c.log2 : Int) - 52)).toNat = (52 - c.log2) - k := by omega
  have e2 : ((c.log2 : Int) - 52 - -(k : Int)).toNat = k - (52 - c.log2) := by omega
  have e3 : ((c.log2 : Int) - 52 - Ieee.double.leastPlace).toNat = 1022 + c.log2 := by rw [elp]; omega
  rw [e1, e2, e3, ebi, einf]
  have hcut : Ieee.Toward.even.cut false ((c * 2 ^ k) <<< ((52 - c.log2) - k)) (k - (52 - c.log2)) = c * 2 ^ (52 - c.log2) := by
    refine cut_exact _ _ _ _ ?_
    rw [Nat.shiftLeft_eq, Nat.mul_assoc, ← Nat.pow_add, log2_scale h0]
    by_cases hk : k ≤ 52 - c.log2
    · rw [show k - (52 - c.log2) = 0 by omega, Nat.zero_min, Nat.pow_zero, Nat.mul_one, show k + (52 - c.log2 - k) = 52 - c.log2 by omega]
    · rw [show 52 - c.log2 - k = 0 by omega, Nat.add_zero, Nat.min_eq_left (by omega), Nat.mul_assoc, ← Nat.pow_add, show 52 - c.log2 + (k - (52 - c.log2)) = k by omega]
  rw [hcut]
  unfold Ieee.Format.word flW
  rw [Nat.min_eq_left (by omega)]
  simp
theorem read_flW {c : Nat} (h0 : c ≠ 0) (h : c < 2 ^ 53) : Ieee.double.read (flW c) = .number false (c * 2 ^ (52 - c.log2)) ((c.log2 : Int) - 52) := by
  have hl := log2_le52 h0 h
  obtain ⟨m1, m2⟩ := mant h0 h
  have elp : Ieee.double.leastPlace = -1074 := by decide
  have ebi : Ieee.double.binade = 4503599627370496 := by decide
  have einf : Ieee.double.infRung = 9218868437227405312 := by decide
  have esw : Ieee.double.signWeight = 9223372036854775808 := by decide
  unfold Ieee.Format.read
  simp only [elp, ebi, einf, esw]
  unfold flW
  generalize c * 2 ^ (52 - c.log2) = m at *
  generalize c.log2 = l at *
  have a1 : ((1022 + l) * 4503599627370496 + m) / 9223372036854775808 = 0 := by omega
  have a2 : ((1022 + l) * 4503599627370496 + m) % 9223372036854775808 = (1022 + l) * 4503599627370496 + m := by omega
  have a3 : ((1022 + l) * 4503599627370496 + m) % 4503599627370496 = m - 4503599627370496 := by omega
  have a4 : ((1022 + l) * 4503599627370496 + m) / 4503599627370496 = 1023 + l := by omega
  rw [a1, a2, if_neg (by omega), if_pos (by omega), a3, a4]
  have b1 : 4503599627370496 + (m - 4503599627370496) = m := by omega
  have b2 : (-1074 : Int) + ((1023 + l - 1 : Nat) : Int) = (l : Int) - 52 := by omega
  rw [b1, b2]
  rfl

def fl (n : Nat) : Nat := Ieee.double.nearest false n 0
theorem fl_eq {c : Nat} (h0 : c ≠ 0) (h : c < 2 ^ 53) : fl c = flW c := by
  have := nearest_scaled c 0 h0 h
  simpa [fl] using this
theorem fl_scaled (c k : Nat) (h : c < 2 ^ 53) : Ieee.double.nearest false (c * 2 ^ k) (-(k : Int)) = fl c := by
  by_cases h0 : c = 0
  · subst h0
    simp [fl, Ieee.Format.nearest]
  · rw [fl_eq h0 h, nearest_scaled c k h0 h]
theorem read_fl {n : Nat} (h : n < 2 ^ 53) : ∃ k : Nat, Ieee.double.read (fl n) = .number false (n * 2 ^ k) (-(k : Int)) := by
  by_cases h0 : n = 0
  · subst h0
    have h1 : ∀ x k : Nat, x = 0 → k = 1074 → Ieee.double.read (fl 0) = .number false x (-(k : Int)) := by rintro _ _ rfl rfl; decide
    obtain ⟨k, hk⟩ : ∃ k : Nat, k = 1074 := ⟨_, rfl⟩
    exact ⟨k, h1 _ _ (Nat.zero_mul _) hk⟩
  · refine ⟨52 - n.log2, ?_⟩
    rw [fl_eq h0 h, read_flW h0 h]
    have hl := log2_le52 h0 h
    congr 1
    omega
theorem cmp_lt {x y : Int} (h : x < y) : compare x y = .lt := by simp [compare, compareOfLessAndEq, h]
theorem cmp_eq {x y : Int} (h : x = y) : compare x y = .eq := by simp [compare, compareOfLessAndEq, h]
theorem cmp_gt {x y : Int} (h : y < x) : compare x y = .gt := by
  have h1 : ¬ x < y := by omega
  have h2 : ¬ x = y := by omega
  simp [compare, compareOfLessAndEq, h1, h2]
theorem signed_scale (n i M : Nat) (h : i ≤ M) : Ieee.signed false (n * 2 ^ i) (M - i) = ((n * 2 ^ M : Nat) : Int) := by
  unfold Ieee.signed
  simp only [Bool.false_eq_true, if_false]
  rw [Nat.shiftLeft_eq, Nat.mul_assoc, ← Nat.pow_add, show i + (M - i) = M by omega]
theorem order_fl {a b : Nat} (ha : a < 2 ^ 53) (hb : b < 2 ^ 53) : Ieee.double.order (fl a) (fl b) = some (compare (a : Int) (b : Int)) := by
  obtain ⟨i, hi⟩ := read_fl ha
  obtain ⟨j, hj⟩ := read_fl hb
  unfold Ieee.Format.order
  rw [hi, hj]
  simp only [Ieee.Datum.order]
  have e1 : (-(i : Int) - min (-(i : Int)) (-(j : Int))).toNat = max i j - i := by omega
  have e2 : (-(j : Int) - min (-(i : Int)) (-(j : Int))).toNat = max i j - j := by omega
  rw [e1, e2, signed_scale a i (max i j) (by omega), signed_scale b j (max i j) (by omega)]
  have hp : 0 < 2 ^ max i j := Nat.two_pow_pos _
  generalize 2 ^ max i j = G at hp
  rcases Nat.lt_trichotomy a b with h | h | h
  · rw [cmp_lt (Int.ofNat_lt.2 (Nat.mul_lt_mul_of_pos_right h hp)), cmp_lt (Int.ofNat_lt.2 h)]
  · subst h
    rw [cmp_eq rfl, cmp_eq rfl]
  · rw [cmp_gt (Int.ofNat_lt.2 (Nat.mul_lt_mul_of_pos_right h hp)), cmp_gt (Int.ofNat_lt.2 h)]

/-- The bits of a whole number that is a float. -/
theorem ofInt_fl (k : Nat) : floatOfInt .f64 (k : Int) = fl k := by
  have h : decide ((k : Int) < 0) = false := decide_eq_false (by omega)
  unfold floatOfInt FloatKind.nearest FloatKind.encode fl
  rw [h]
  rfl
def Whole (n : Int) : Prop := 0 ≤ n ∧ n < 9007199254740992
theorem Whole.nat {n : Int} (h : Whole n) : ∃ k : Nat, n = k ∧ k < 2 ^ 53 := ⟨n.toNat, by have := h.1; omega, by have := h.2; omega⟩
theorem order_of {a b : Int} (ha : Whole a) (hb : Whole b) : FloatKind.f64.format.order (floatOfInt .f64 a) (floatOfInt .f64 b) = some (compare a b) := by
  obtain ⟨i, rfl, hi⟩ := ha.nat
  obtain ⟨j, rfl, hj⟩ := hb.nat
  rw [ofInt_fl, ofInt_fl]
  exact order_fl hi hj
theorem leq_of {a b : Int} (ha : Whole a) (hb : Whole b) : (FloatKind.f64.format.order (floatOfInt .f64 a) (floatOfInt .f64 b) == some .lt || FloatKind.f64.format.order (floatOfInt .f64 a) (floatOfInt .f64 b) == some .eq) = decide (a ≤ b) := by
  rw [order_of ha hb]
  rcases Int.lt_trichotomy a b with h | h | h
  · rw [cmp_lt h, decide_eq_true (by omega)]; rfl
  · rw [cmp_eq h, decide_eq_true (by omega)]; rfl
  · rw [cmp_gt h, decide_eq_false (by omega)]; rfl
theorem gtr_of {a b : Int} (ha : Whole a) (hb : Whole b) : (FloatKind.f64.format.order (floatOfInt .f64 a) (floatOfInt .f64 b) == some .gt) = decide (b < a) := by
  rw [order_of ha hb]
  rcases Int.lt_trichotomy a b with h | h | h
  · rw [cmp_lt h, decide_eq_false (by omega)]; rfl
  · rw [cmp_eq h, decide_eq_false (by omega)]; rfl
  · rw [cmp_gt h, decide_eq_true (by omega)]; rfl
theorem neq_self {a : Int} (ha : Whole a) : (FloatKind.f64.format.order (floatOfInt .f64 a) (floatOfInt .f64 a) != some .eq) = false := by
  rw [order_of ha ha, cmp_eq rfl]; rfl
theorem add_of {a b : Int} (ha : Whole a) (hb : Whole b) (hs : Whole (a + b)) : floatBits .add .f64 (floatOfInt .f64 a) (floatOfInt .f64 b) = some (floatOfInt .f64 (a + b)) := by
  obtain ⟨m, rfl, hm⟩ := ha.nat
  obtain ⟨n, rfl, hn⟩ := hb.nat
  have hc : m + n < 2 ^ 53 := by have := hs.2; omega
  rw [show ((m : Int) + (n : Int)) = ((m + n : Nat) : Int) by omega, ofInt_fl, ofInt_fl, ofInt_fl]
  obtain ⟨i, hi⟩ := read_fl hm
  obtain ⟨j, hj⟩ := read_fl hn
  unfold floatBits
  simp only
  show Ieee.double.add (fl m) (fl n) = _
  unfold Ieee.Format.add
  rw [hi, hj]
  simp only [Ieee.Datum.sum, Option.map_some]
  have e0 : min (-(i : Int)) (-(j : Int)) = -((max i j : Nat) : Int) := by omega
  have e1 : (-(i : Int) - -((max i j : Nat) : Int)).toNat = max i j - i := by omega
  have e2 : (-(j : Int) - -((max i j : Nat) : Int)).toNat = max i j - j := by omega
  rw [e0, e1, e2, signed_scale m i (max i j) (by omega), signed_scale n j (max i j) (by omega)]
  have e3 : (((m * 2 ^ max i j : Nat) : Int) + ((n * 2 ^ max i j : Nat) : Int)) = (((m + n) * 2 ^ max i j : Nat) : Int) := by rw [Nat.add_mul]; omega
  rw [e3]
  have e4 : (if (((m + n) * 2 ^ max i j : Nat) : Int) = 0 then (false && false) else decide ((((m + n) * 2 ^ max i j : Nat) : Int) < 0)) = false := by
    split
    · rfl
    · exact decide_eq_false (by omega)
  rw [e4, Int.natAbs_natCast]
  show some (Ieee.double.nearest false ((m + n) * 2 ^ max i j) (-((max i j : Nat) : Int))) = some (fl (m + n))
  rw [fl_scaled _ _ hc]
theorem toInt_of {a : Int} (ha : Whole a) : floatToIntVal .f64 (floatOfInt .f64 a) .i64 = some a := by
  have hlo := ha.1
  have hhi := ha.2
  obtain ⟨n, rfl, hn⟩ := ha.nat
  rw [ofInt_fl]
  obtain ⟨k, hk⟩ := read_fl hn
  have ht : (Ieee.double.read (fl n)).toInt .zero = some (n : Int) := by
    rw [hk]
    unfold Ieee.Datum.toInt
    simp only [Ieee.Datum.integral]
    have hc : Ieee.Toward.cut .zero false ((n * 2 ^ k) <<< (-(k : Int)).toNat) (- -(k : Int)).toNat = n := by
      rw [show (-(k : Int)).toNat = 0 by omega, show (- -(k : Int)).toNat = k by omega, Nat.shiftLeft_zero]
      unfold Ieee.Toward.cut
      simp only [Nat.one_shiftLeft, Bool.toNat_false, Nat.add_zero]
      by_cases h0 : n = 0
      · subst h0; simp
      · rw [log2_scale h0, Nat.min_eq_left (by omega)]
        exact Nat.mul_div_cancel _ (Nat.two_pow_pos k)
    rw [hc]
    simp [Ieee.signed]
  unfold floatToIntVal
  rw [show FloatKind.f64.decode (fl n) = Ieee.double.read (fl n) from rfl, ht]
  simp only
  rw [if_pos]
  have e1 : IntKind.i64.min = -9223372036854775808 := by decide
  have e2 : IntKind.i64.max = 9223372036854775807 := by decide
  rw [e1, e2]
  omega

/-- What is not a number is unlike itself; what is infinite is more than each number. -/
def nanB : Nat := 9221120237041090561
def infB : Nat := 9218868437227405312
theorem neq_nan : (FloatKind.f64.format.order nanB nanB != some .eq) = true := by decide
theorem read_inf : Ieee.double.read infB = .infinity false := by decide
theorem order_inf {b : Int} (hb : Whole b) : FloatKind.f64.format.order infB (floatOfInt .f64 b) = some .gt := by
  obtain ⟨n, rfl, hn⟩ := hb.nat
  obtain ⟨k, hk⟩ := read_fl hn
  rw [ofInt_fl]
  show Ieee.double.order infB (fl n) = _
  unfold Ieee.Format.order
  rw [hk, read_inf]
  rfl
theorem leq_inf {b : Int} (hb : Whole b) : (FloatKind.f64.format.order infB (floatOfInt .f64 b) == some .lt || FloatKind.f64.format.order infB (floatOfInt .f64 b) == some .eq) = false := by
  rw [order_inf hb]; rfl
theorem flMax : floatOfInt .f64 1000000 = 4696837146684686336 := by decide
end Go.Proofs.Ytchfgdiipjbgoaa
