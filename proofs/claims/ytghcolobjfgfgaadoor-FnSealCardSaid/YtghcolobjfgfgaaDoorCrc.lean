/- The CRC: the walks. -/
import Derived.Test.YtghcolobjfgfgaaDoorRows
import Derived.Test.YtghcolobjfgfgaaDoorMath
import Derived.WalkKit
import Derived.WalkSpells
import Derived.WalkLawsBesides
import Derived.BigQuiet
import Derived.Deep.QuietTactic
import Derived.Lib.Hide
import Derived.Outline
import Derived.OwnWalk
namespace Go.Proofs.YtghcolobjfgfgaaDoor
open Go Go.RowKit

theorem and1 (x : Nat) (h : x < 4294967296) : bits .and .u32 (x : Int) 1 = ((x % 2 : Nat) : Int) := by
  rw [show (1 : Int) = ((1 : Nat) : Int) from rfl, u32_and_nat x 1 h (by omega), Nat.and_one_is_mod]
theorem ret_u32 {a b : Nat} (h : a = b) : Ending.returned (.int .u32 a) = .returned (.int .u32 b) := by rw [h]
theorem and1_yes (x : Nat) (h : x < 4294967296) (e : x % 2 = 1) : (bits .and .u32 (x : Int) 1 == 1) = true := by rw [and1 x h, e]; rfl
theorem and1_no (x : Nat) (h : x < 4294967296) (e : ¬ x % 2 = 1) : (bits .and .u32 (x : Int) 1 == 1) = false := by
  rw [and1 x h, show x % 2 = 0 from by omega]; rfl
theorem bit1_yes (x : Nat) (h : x < 4294967296) (e : x % 2 = 1) : bits .xor .u32 ((x : Int) / 2) 3988292384 = ((Ma.bit1 x : Nat) : Int) := by
  rw [show ((x : Int) / 2) = ((x / 2 : Nat) : Int) from by omega, show (3988292384 : Int) = ((3988292384 : Nat) : Int) from rfl, u32_xor_nat _ _ (by omega) (by omega)]
  unfold Ma.bit1
  rw [if_pos e]
theorem bit1_no (x : Nat) (e : ¬ x % 2 = 1) : ((x : Int) / 2) = ((Ma.bit1 x : Nat) : Int) := by
  unfold Ma.bit1
  rw [if_neg e]
  omega

theorem byte_any (r b : Nat) (w : World) (hr : r < 4294967296) (hb : b < 256) :
    Calls Tryd.prog 47 #[.int .u32 r, .int .u8 b] w fun e w' => e = .returned (.int .u32 (Ma.step r b : Nat)) ∧ w = w' := by
  go_enter Tryd.func47, Tryd.ntmps47
  go_wp2
  go_loop [0, 10] (fun a i => ∃ k : Nat, k ≤ 8 ∧ i = .int .i64 k ∧ a = .int .u32 (Ma.bits8 k (r ^^^ b) : Nat)) (fun _ i => 8 - (intOf i).toNat)
  case atStart => exact ⟨0, by omega, rfl, by rw [u32_xor_nat r b hr (by omega)]; rfl⟩
  case round =>
    obtain ⟨k, hk, rfl, rfl⟩ := hrel
    have hx : Ma.bits8 k (r ^^^ b) < 4294967296 := Ma.bits8_lt k (Nat.xor_lt_two_pow (n := 32) (by omega) (by omega))
    have HS := Lib.hid (Ma.bits8_snoc k (r ^^^ b))
    have HE : Hid (Ma.step r b = Ma.bits8 8 (r ^^^ b)) := Lib.hid rfl
    generalize hv : Ma.bits8 k (r ^^^ b) = x at *
    have HV := Lib.hid hv
    clear hv
    by_cases hlt : k < 8
    · by_cases e : x % 2 = 1
      · have f := and1_yes x hx e
        have G := Lib.hid (bit1_yes x hx e)
        clear e
        go_wp2
        go_round
        case rel => exact ⟨k + 1, by omega, by go_num, by rw [G.out, HS.out]⟩
        case measure => simp [intOf]; omega
      · have f := and1_no x hx e
        have G := Lib.hid (bit1_no x e)
        clear e
        go_wp2
        go_round
        case rel => exact ⟨k + 1, by omega, by go_num, by rw [G.out, HS.out]⟩
        case measure => simp [intOf]; omega
    · go_wp2
      go_ret
      exact ⟨ret_u32 (by rw [HE.out, ← HV.out, show k = 8 from by omega]), rfl⟩

theorem xor_ones (x : Nat) (h : x < 4294967296) : x ^^^ 4294967295 = 4294967295 - x := by
  have h1 : (BitVec.ofNat 32 x ^^^ BitVec.allOnes 32) = ~~~ (BitVec.ofNat 32 x) := BitVec.xor_allOnes
  have h2 := congrArg BitVec.toNat h1
  rw [BitVec.toNat_xor, BitVec.toNat_not, BitVec.toNat_ofNat, Nat.mod_eq_of_lt (by omega)] at h2
  simpa using h2
theorem not1 (x : Nat) (h : x < 4294967296) : bits .xor .u32 (x : Int) 4294967295 = ((4294967295 - x : Nat) : Int) := by
  rw [show (4294967295 : Int) = ((4294967295 : Nat) : Int) from rfl, u32_xor_nat _ _ h (by omega), xor_ones x h]
theorem not2 (x : Nat) (h : x < 4294967296) : bits .xor .u32 IntKind.u32.max (x : Int) = ((4294967295 - x : Nat) : Int) := by
  rw [show IntKind.u32.max = ((4294967295 : Nat) : Int) from rfl, u32_xor_nat _ _ (by omega) h, Nat.xor_comm, xor_ones x h]
theorem w64 (n : Nat) (h : n < 9223372036854775808) : wrap64 (n : Int) = n := by
  unfold wrap64
  omega
theorem ret_i64 {a b : Int} (h : a = b) : Ending.returned (.int .i64 a) = .returned (.int .i64 b) := by rw [h]
theorem val_u32 {a b : Int} (h : a = b) : Value.int .u32 a = Value.int .u32 b := by rw [h]
theorem take_snoc (s : ByteArray) (k : Nat) (h : k < s.size) : s.data.toList.take (k + 1) = s.data.toList.take k ++ [s[k]] := by
  rw [List.take_succ_eq_append_getElem (by simpa using h)]; rfl
theorem fold_snoc (r : Nat) (s : ByteArray) (k : Nat) (h : k < s.size) : Ma.fold r (s.data.toList.take (k + 1)) = Ma.step (Ma.fold r (s.data.toList.take k)) s[k].toNat := by
  rw [take_snoc s k h, Ma.fold_append]; rfl
theorem take_all (s : ByteArray) (k : Nat) (h : s.size ≤ k) : s.data.toList.take k = s.data.toList := List.take_of_length_le (by simpa using h)

/-- What both give: the CRC of what has the CRC c and s behind it. -/
def more (c : Nat) (s : ByteArray) : Nat := 4294967295 - Ma.fold (4294967295 - c) s.data.toList

theorem more_impl (c : Nat) (s : ByteArray) (w : World) (hs : s.size ≤ 8000) (h1 : c < 4294967296) :
    Calls Tryd.prog 22 #[.int .i64 c, .string s] w fun e w' => e = .returned (.int .i64 (more c s : Nat)) ∧ w = w' := by
  have d0 : decide ((c : Int) < 0) = false := decide_eq_false (by omega)
  have d1 : decide (4294967295 < (c : Int)) = false := decide_eq_false (by omega)
  have d2 : decide (8000 < (s.size : Int)) = false := decide_eq_false (by omega)
  have HN := Lib.hid (not2 c h1)
  have hc0 : 4294967295 - c < 4294967296 := by omega
  have HM : Hid (more c s = 4294967295 - Ma.fold (4294967295 - c) s.data.toList) := Lib.hid rfl
  generalize hm : more c s = m at *
  clear hm
  generalize hd : 4294967295 - c = d at *
  clear hd
  go_enter Tryd.func22, Tryd.ntmps22
  go_wp2_with fail
  go_loop [5, 23] (fun a i => ∃ k : Nat, k ≤ s.size ∧ i = .int .i64 k ∧ a = .int .u32 (Ma.fold d (s.data.toList.take k) : Nat)) (fun _ i => s.size - (intOf i).toNat)
  case atStart => exact ⟨0, by omega, rfl, by rw [HN.out]; rfl⟩
  case round =>
    obtain ⟨k, hk, rfl, rfl⟩ := hrel
    have hx := Ma.fold_lt (s.data.toList.take k) hc0
    by_cases hlt : k < s.size
    · have HS := Lib.hid (fold_snoc d s k hlt)
      have hb := UInt8.toNat_lt s[k]
      go_wp2_with (go_at_call 47; refine (byte_any _ _ _ hx hb).mono ?_; rintro e w' ⟨rfl, rfl⟩)
      go_round
      case rel => exact ⟨k + 1, by omega, by go_num, by rw [HS.out]⟩
      case measure => simp [intOf]; omega
    · have HT := Lib.hid (take_all s k (by omega))
      have HN2 := Lib.hid (not2 _ hx)
      go_wp2_with fail
      go_ret
      exact ⟨ret_i64 (by rw [HT.out] at HN2 ⊢; rw [HM.out, HN2.out, w64 _ (by omega)]), rfl⟩

theorem more_impl_no (c : Int) (s : ByteArray) (w : World) (hs : s.size ≤ maxLen) (h1 : 8000 < s.size ∨ c < 0 ∨ 4294967295 < c) :
    Calls Tryd.prog 22 #[.int .i64 c, .string s] w fun e w' => e = .returned (.int .i64 0) ∧ w = w' := by
  unfold maxLen at hs
  by_cases h : 8000 < s.size
  · have d2 : decide (8000 < (s.size : Int)) = true := decide_eq_true (by omega)
    go_enter Tryd.func22, Tryd.ntmps22
    go_wp2_with fail
    go_ret
    exact ⟨rfl, rfl⟩
  · have d2 : decide (8000 < (s.size : Int)) = false := decide_eq_false (by omega)
    by_cases g : c < 0
    · have d0 : decide ((c : Int) < 0) = true := decide_eq_true (by omega)
      go_enter Tryd.func22, Tryd.ntmps22
      go_wp2_with fail
      go_ret
      exact ⟨rfl, rfl⟩
    · have d0 : decide ((c : Int) < 0) = false := decide_eq_false (by omega)
      have d1 : decide (4294967295 < (c : Int)) = true := decide_eq_true (by omega)
      clear h1 h g
      go_enter Tryd.func22, Tryd.ntmps22
      go_wp2_with fail
      go_ret
      exact ⟨rfl, rfl⟩

theorem crc_impl (s : ByteArray) (w : World) (hs : s.size ≤ 8000) :
    Calls Tryd.prog 24 #[.string s] w fun e w' => e = .returned (.int .i64 (more 0 s : Nat)) ∧ w = w' := by
  go_enter Tryd.func24, Tryd.ntmps24
  go_wp2_with (go_at_call 22; refine (more_impl 0 s _ hs (by omega)).mono ?_; rintro e w' ⟨rfl, rfl⟩)
  go_ret
  exact ⟨rfl, rfl⟩

theorem crc_impl_no (s : ByteArray) (w : World) (hs : s.size ≤ maxLen) (h : 8000 < s.size) :
    Calls Tryd.prog 24 #[.string s] w fun e w' => e = .returned (.int .i64 0) ∧ w = w' := by
  go_enter Tryd.func24, Tryd.ntmps24
  go_wp2_with (go_at_call 22; refine (more_impl_no 0 s _ hs (Or.inl h)).mono ?_; rintro e w' ⟨rfl, rfl⟩)
  go_ret
  exact ⟨rfl, rfl⟩

theorem crc_spec_in (c : Nat) (s : ByteArray) (w : World) (hs : s.size ≤ maxLen) (h1 : c < 4294967296) :
    Calls Tryd.prog 43 #[.int .i64 c, .string s] w fun e w' => e = .returned (.int .i64 (more c s : Nat)) ∧ w = w' := by
  unfold maxLen at hs
  have HN := Lib.hid (not1 c h1)
  have hc0 : 4294967295 - c < 4294967296 := by omega
  have HM : Hid (more c s = 4294967295 - Ma.fold (4294967295 - c) s.data.toList) := Lib.hid rfl
  generalize hm : more c s = m at *
  clear hm
  generalize hd : 4294967295 - c = d at *
  clear hd
  go_enter Tryd.func43, Tryd.ntmps43
  go_wp2_with fail
  go_loop [5, 6] (fun a i => ∃ k : Nat, k ≤ s.size ∧ i = .int .i64 k ∧ a = .int .u32 (Ma.fold d (s.data.toList.take k) : Nat)) (fun _ i => s.size - (intOf i).toNat)
  case atStart => exact ⟨0, by omega, rfl, by rw [HN.out]; rfl⟩
  case round =>
    obtain ⟨k, hk, rfl, rfl⟩ := hrel
    have hx := Ma.fold_lt (s.data.toList.take k) hc0
    by_cases hlt : k < s.size
    · have HS := Lib.hid (fold_snoc d s k hlt)
      have hb := UInt8.toNat_lt s[k]
      have HX := Lib.hid (u32_xor_nat (Ma.fold d (s.data.toList.take k)) s[k].toNat hx (by omega))
      have hy : Ma.fold d (s.data.toList.take k) ^^^ s[k].toNat < 4294967296 := Nat.xor_lt_two_pow (n := 32) (by omega) (by omega)
      have HE : Hid (Ma.step (Ma.fold d (s.data.toList.take k)) s[k].toNat = Ma.bits8 8 (Ma.fold d (s.data.toList.take k) ^^^ s[k].toNat)) := Lib.hid rfl
      generalize hy0 : Ma.fold d (s.data.toList.take k) ^^^ s[k].toNat = y at *
      clear hy0
      go_wp2_with fail
      go_loop [5, 7] (fun a i => ∃ j : Nat, j ≤ 8 ∧ i = .int .i64 j ∧ a = .int .u32 (Ma.bits8 j y : Nat)) (fun _ i => 8 - (intOf i).toNat)
      case atStart => exact ⟨0, by omega, rfl, by rw [HX.out]; rfl⟩
      case round =>
        obtain ⟨j, hj, rfl, rfl⟩ := hrel
        have hz : Ma.bits8 j y < 4294967296 := Ma.bits8_lt j hy
        have HJ := Lib.hid (Ma.bits8_snoc j y)
        generalize hv : Ma.bits8 j y = x at *
        have HV := Lib.hid hv
        clear hv
        by_cases hlt : j < 8
        · by_cases e : x % 2 = 1
          · have f := and1_yes x hz e
            have G := Lib.hid (bit1_yes x hz e)
            clear e
            go_wp2
            go_round
            case rel => exact ⟨j + 1, by omega, by go_num, by rw [G.out, HJ.out]⟩
            case measure => simp [intOf]; omega
          · have f := and1_no x hz e
            have G := Lib.hid (bit1_no x e)
            clear e
            go_wp2
            go_round
            case rel => exact ⟨j + 1, by omega, by go_num, by rw [G.out, HJ.out]⟩
            case measure => simp [intOf]; omega
        · go_wp2
          go_round
          case rel => exact ⟨k + 1, by omega, by go_num, by rw [HS.out, HE.out, ← HV.out, show j = 8 from by omega]⟩
          case measure => simp [intOf]; omega
    · have HT := Lib.hid (take_all s k (by omega))
      have HN2 := Lib.hid (not1 _ hx)
      go_wp2_with fail
      go_ret
      exact ⟨ret_i64 (by rw [HT.out] at HN2 ⊢; rw [HM.out, HN2.out, w64 _ (by omega)]), rfl⟩
end Go.Proofs.YtghcolobjfgfgaaDoor
