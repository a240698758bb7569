/- Plain mathematics: what is read from a number's bytes is the number. -/
import Derived.Test.YtghcolobjfgfgaaDoorTxt
import Derived.Test.YtghcolobjfgfgaaDoorText
namespace Go.Proofs.YtghcolobjfgfgaaDoor
open Go Go.RowKit

theorem get_at (s : ByteArray) (i : Nat) (h : i < s.size) : s.data.toList[i]? = some s[i] := by
  rw [List.getElem?_eq_getElem (by simpa using h)]
  rfl
theorem byte_of {s : ByteArray} {i : Nat} {b : UInt8} (h : s.data.toList[i]? = some b) : ∃ hi : i < s.size, s[i] = b := by
  have hi : i < s.size := by
    have := (List.getElem?_eq_some_iff.1 h).1
    simpa using this
  exact ⟨hi, Option.some.inj ((get_at s i hi).symm.trans h)⟩

theorem unf_fold (n : Int) : Rd.unf (Nu.fold n) = n := by
  unfold Rd.unf Nu.fold
  split <;> split <;> omega

theorem pow_step (k : Nat) : 2 ^ (7 * (k + 1)) = 128 * 2 ^ (7 * k) := by
  rw [show 7 * (k + 1) = 7 + 7 * k from by omega, Nat.pow_add]
theorem mul_split (x q : Nat) : x % 128 * q + x / 128 * (128 * q) = x * q := by
  rw [← Nat.mul_assoc, ← Nat.add_mul]
  congr 1
  omega
theorem lt_two {x : Nat} (h : x * 2 ^ (7 * 9) < 18446744073709551616) : x < 2 := by omega

theorem rd_enc (s : ByteArray) (p : Nat) : ∀ (m k u x : Nat), k + m = 9 → x * 2 ^ (7 * k) < 18446744073709551616 → (0 < k → x ≠ 0) →
    (∀ i, i < (Nu.enc m x).length → s.data.toList[p + k + i]? = (Nu.enc m x)[i]?) →
    Rd.rd s p (m + 1) k u = (Rd.unf (u + x * 2 ^ (7 * k)), ((p + k + (Nu.enc m x).length : Nat) : Int), 0) := by
  intro m
  induction m with
  | zero =>
    intro k u x hk hx h0 hs
    obtain rfl : k = 9 := by omega
    have hx2 := lt_two hx
    have e := Nu.enc_last 0 x (by omega)
    rw [e] at hs ⊢
    obtain ⟨hi, hb⟩ := byte_of (show s.data.toList[p + 9]? = some (UInt8.ofNat x) from by simpa using hs 0 (by simp))
    have hn : s[p + 9].toNat = x := by rw [hb]; simp; omega
    rw [Rd.rd, dif_pos hi, if_neg (by omega), if_pos (by omega), if_neg (by have := h0 (by omega); omega)]
    unfold Rd.put
    rw [hn, Nat.mod_eq_of_lt (show x < 128 by omega)]
    simp
  | succ m ih =>
    intro k u x hk hx h0 hs
    by_cases hlt : x < 128
    · have e := Nu.enc_last (m + 1) x hlt
      rw [e] at hs ⊢
      obtain ⟨hi, hb⟩ := byte_of (show s.data.toList[p + k]? = some (UInt8.ofNat x) from by simpa using hs 0 (by simp))
      have hn : s[p + k].toNat = x := by rw [hb]; simp; omega
      rw [Rd.rd, dif_pos hi, if_neg (by omega), if_pos (by omega), if_neg (by intro h; have := h0 h.2; omega)]
      unfold Rd.put
      rw [hn, Nat.mod_eq_of_lt hlt]
      simp
    · have e := Nu.enc_more m x hlt
      rw [e] at hs ⊢
      obtain ⟨hi, hb⟩ := byte_of (show s.data.toList[p + k]? = some (UInt8.ofNat (x % 128 + 128)) from by simpa using hs 0 (by simp))
      have hn : s[p + k].toNat = x % 128 + 128 := by rw [hb]; simp; omega
      rw [Rd.rd, dif_pos hi, if_neg (by omega), if_neg (by omega)]
      have hxs : x / 128 * 2 ^ (7 * (k + 1)) < 18446744073709551616 := by
        rw [pow_step]
        have := mul_split x (2 ^ (7 * k))
        omega
      rw [ih (k + 1) _ (x / 128) (by omega) hxs (by omega) (fun i hl => by
        have := hs (i + 1) (by simp; omega)
        rw [show p + (k + 1) + i = p + k + (i + 1) from by omega, this]
        simp)]
      unfold Rd.put
      rw [hn, show (x % 128 + 128) % 128 = x % 128 from by omega, pow_step, Nat.add_assoc, mul_split]
      simp
      omega

theorem rd_cut (s : ByteArray) (p : Nat) : ∀ (m k u x : Nat), k + m = 9 → x * 2 ^ (7 * k) < 18446744073709551616 → s.size + 1 = p + k + (Nu.enc m x).length →
    (∀ i, i + 1 < (Nu.enc m x).length → s.data.toList[p + k + i]? = (Nu.enc m x)[i]?) → Rd.rd s p (m + 1) k u = (0, 0, 4) := by
  intro m
  induction m with
  | zero =>
    intro k u x hk hx hsz hs
    obtain rfl : k = 9 := by omega
    have hx2 := lt_two hx
    rw [Nu.enc_last 0 x (by omega)] at hsz
    simp at hsz
    rw [Rd.rd, dif_neg (by omega)]
  | succ m ih =>
    intro k u x hk hx hsz hs
    by_cases hlt : x < 128
    · rw [Nu.enc_last (m + 1) x hlt] at hsz
      simp at hsz
      rw [Rd.rd, dif_neg (by omega)]
    · have e := Nu.enc_more m x hlt
      rw [e] at hs hsz
      have hl := (Nu.enc_length m (x / 128)).1
      obtain ⟨hi, hb⟩ := byte_of (show s.data.toList[p + k]? = some (UInt8.ofNat (x % 128 + 128)) from by simpa using hs 0 (by simp; omega))
      have hn : s[p + k].toNat = x % 128 + 128 := by rw [hb]; simp; omega
      rw [Rd.rd, dif_pos hi, if_neg (by omega), if_neg (by omega)]
      have hxs : x / 128 * 2 ^ (7 * (k + 1)) < 18446744073709551616 := by
        rw [pow_step]
        have := mul_split x (2 ^ (7 * k))
        omega
      exact ih (k + 1) _ (x / 128) (by omega) hxs (by simp at hsz; omega) (fun i hl => by
        have := hs (i + 1) (by simp; omega)
        rw [show p + (k + 1) + i = p + k + (i + 1) from by omega, this]
        simp)

/-- A text whose bytes from p on are those of n. -/
def Has (s : ByteArray) (p : Nat) (n : Int) : Prop := ∀ i, i < (Nu.enc 9 (Nu.fold n)).length → s.data.toList[p + i]? = (Nu.enc 9 (Nu.fold n))[i]?
theorem numText_len (n : Int) : (numText n).size = (Nu.enc 9 (Nu.fold n)).length := by
  show (Nu.enc 9 (Nu.fold n)).toArray.size = _
  rw [List.size_toArray]
theorem num_of_has {s : ByteArray} {p : Nat} {n : Int} (hs : s.size ≤ 8000) (h1 : -9223372036854775808 ≤ n) (h2 : n ≤ 9223372036854775807) (h : Has s p n) :
    numR s p = (n, ((p + (numText n).size : Nat) : Int), 0) := by
  have hf := Nu.fold_lt h1 h2
  have := rd_enc s p 9 0 0 (Nu.fold n) (by omega) (by omega) (fun h => absurd h (by omega)) (fun i hi => by simpa using h i hi)
  have e : numR s p = Rd.rd s p 10 0 0 := by unfold numR; rw [if_neg (by omega), if_neg (by omega)]; rfl
  rw [e, this, numText_len]
  simp [unf_fold]
theorem num_of_cut {s : ByteArray} {n : Int} (h1 : -9223372036854775808 ≤ n) (h2 : n ≤ 9223372036854775807) (hsz : s.size + 1 = (numText n).size)
    (h : ∀ i, i < s.size → s.data.toList[i]? = (Nu.enc 9 (Nu.fold n))[i]?) : numR s 0 = (0, 0, 4) := by
  have hf := Nu.fold_lt h1 h2
  have hl := (Nu.enc_length 9 (Nu.fold n)).2
  rw [numText_len] at hsz
  have := rd_cut s 0 9 0 0 (Nu.fold n) (by omega) (by omega) (by simpa using hsz) (fun i hi => by simpa using h i (by omega))
  have e : numR s 0 = Rd.rd s 0 10 0 0 := by unfold numR; rw [if_neg (by omega), if_neg (by omega)]; rfl
  rw [e, this]
end Go.Proofs.YtghcolobjfgfgaaDoor
