/- Shade: the walks. -/
import Derived.Test.YtjoobpieomhklaaBuf
import Derived.Test.YtjoobpieomhklaaRows
import Derived.Outline
namespace Go.Proofs.Ytjoobpieomhklaa
open Go Go.RowKit Go.Lib

theorem rev_step (s : ByteArray) (k : Nat) (h : k < s.size) : s.data.toList.reverse.take (s.size - k) = s.data.toList.reverse.take (s.size - (k + 1)) ++ [s[k]] := by
  have hl : s.data.toList.length = s.size := (size_eq s).symm
  rw [show s.size - k = (s.size - (k + 1)) + 1 by omega, List.take_succ_eq_append_getElem (by simp; omega)]
  congr 2
  rw [List.getElem_reverse]
  simp [ByteArray.getElem_eq_getElem_data]
  congr 1
  omega

def ShadeRel (s : ByteArray) (w : World) (b i : Value) (wr : World) : Prop := ∃ k : Nat, k ≤ s.size ∧ i = .int .i64 ((k : Int) - 1) ∧ Buf 5 w wr b (s.data.toList.reverse.take (s.size - k))

def shadeT (s : ByteArray) : ByteArray := ⟨s.data.toList.reverse.toArray⟩

theorem shadeT_size (s : ByteArray) : (shadeT s).size = s.size := by
  show s.data.toList.reverse.toArray.size = s.size
  simp

set_option maxRecDepth 100000 in
theorem shade_spec (s : ByteArray) (w : World) (hs : s.size ≤ 40) :
    Calls Try.prog 16 #[.string s] w fun e w' => e = .returned (.string (shadeT s)) ∧ Below w.heap.size w w' := by
  obtain ⟨i5, hi, hz0, hz1, hz2⟩ := info_parts info5
  go_enter Try.func16, Try.ntmps16
  go_wp2_with fail
  go_loopw [3, 4] (ShadeRel s w) (fun _ i _ => (RowKit.intOf i + 1).toNat)
  case atStart => exact ⟨s.size, by omega, by go_num, by rw [Nat.sub_self, List.take_zero]; exact Buf.lit _ (Below.refl _ _)⟩
  case round =>
    obtain ⟨k, hk, rfl, hb⟩ := hrel
    have HB := Lib.hid hb
    have hbs := hb.below.size
    clear hb
    by_cases hlt : 0 < k
    · obtain ⟨j, rfl⟩ : ∃ j, k = j + 1 := ⟨k - 1, by omega⟩
      have HR := Lib.hid (rev_step s j (by omega))
      have hj : j < s.size := by omega
      have e1 : ((j + 1 : Nat) : Int) - 1 = (j : Int) := by omega
      go_wp2_with (at_builtin; refine wpList_push rfl (.tmp 16) (.tmp 20) 41 5 rfl i5 Try.underlying41 hi hz0 hz1 hz2 w _ _ _ _ rfl HB.out rfl ?p1 ?p2)
      case p1 => simp; omega
      intro v' w1 hb1
      rw [← HR.out] at hb1
      have HB1 := Lib.hid hb1
      clear hb1
      go_wp2_with fail
      go_roundw
      case rel => exact ⟨j, by omega, by go_num, HB1.out⟩
      case measure => simp [RowKit.intOf]
    · obtain rfl : k = 0 := by omega
      have HE : Hid ((⟨(s.data.toList.reverse.take s.size).toArray⟩ : ByteArray) = shadeT s) := Lib.hid (by unfold shadeT; rw [List.take_of_length_le (by simp)])
      go_wp2_with (refine wpList_buf_str rfl (.tmp 22) 41 9 5 rfl Try.underlying41 Try.underlying5 Try.underlying9 w _ _ rfl HB.out ?_)
      go_wp2_with fail
      go_ret
      exact ⟨ret_str HE.out, HB.out.below⟩
theorem shade_spec_no (s : ByteArray) (w : World) (hs : s.size ≤ maxLen) (h : 40 < s.size) :
    Calls Try.prog 16 #[.string s] w fun e w' => e = .returned (.string ⟨#[]⟩) ∧ w = w' := by
  unfold maxLen at hs
  go_enter Try.func16, Try.ntmps16
  go_wp2_with fail
  go_ret
  exact ⟨rfl, rfl⟩
theorem shade_impl_no (s : ByteArray) (w : World) (hs : s.size ≤ maxLen) (h : 40 < s.size) :
    Calls Try.prog 17 #[.string s] w fun e w' => e = .returned (.string ⟨#[]⟩) ∧ w = w' := by
  unfold maxLen at hs
  go_enter Try.func17, Try.ntmps17
  go_wp2_with fail
  go_ret
  exact ⟨rfl, rfl⟩

/-- The row when k bytes are in their places, from its end on. -/
def shadeCells (s : ByteArray) (k : Nat) : List Value := List.replicate (s.size - k) (.int .u8 0) ++ byteCells (s.data.toList.reverse.drop (s.size - k))
theorem shadeCells_len (s : ByteArray) (k : Nat) : (shadeCells s k).length = s.size := by
  have hl : s.data.toList.length = s.size := (size_eq s).symm
  simp [shadeCells, byteCells, hl]
theorem shadeCells_zero (s : ByteArray) : shadeCells s 0 = List.replicate s.size (.int .u8 0) := by
  have hl : s.data.toList.length = s.size := (size_eq s).symm
  have e : s.data.toList.reverse.drop s.size = [] := List.drop_eq_nil_of_le (by simp [hl])
  unfold shadeCells
  rw [Nat.sub_zero, e]
  simp [byteCells]
theorem shadeCells_set (s : ByteArray) (k : Nat) (h : k < s.size) : (shadeCells s k).set (s.size - 1 - k) (.int .u8 (s[k].toNat : Int)) = shadeCells s (k + 1) := by
  have hl : s.data.toList.length = s.size := (size_eq s).symm
  have e1 : s.size - k = (s.size - (k + 1)) + 1 := by omega
  have e2 : s.size - 1 - k = s.size - (k + 1) := by omega
  have hg : s.data.toList.reverse[s.size - (k + 1)]'(by simp; omega) = s[k] := by
    rw [List.getElem_reverse]
    simp [ByteArray.getElem_eq_getElem_data]
    congr 1
    omega
  unfold shadeCells
  rw [e2, e1]
  rw [List.replicate_succ', List.append_assoc, List.set_append_right _ _ (by simp)]
  rw [List.drop_eq_getElem_cons (i := s.size - (k + 1)) (by simp; omega), hg]
  simp [byteCells]
def ShadeRel2 (s : ByteArray) (g : Nat) (w : World) (i : Value) (wr : World) : Prop := ∃ k : Nat, k ≤ s.size ∧ i = .int .i64 k ∧ Row wr g 5 (shadeCells s k) ∧ Below w.heap.size w wr

set_option maxRecDepth 100000 in
theorem shade_impl (s : ByteArray) (w : World) (hs : s.size ≤ 40) :
    Calls Try.prog 17 #[.string s] w fun e w' => e = .returned (.string (shadeT s)) ∧ Below w.heap.size w w' := by
  obtain ⟨i5, hi, hz0, hz1, hz2⟩ := info_parts info5
  go_enter Try.func17, Try.ntmps17
  go_wp2_with (refine wpList_make_bytes rfl (.tmp 9) (.tmp 9) 41 rfl 5 i5 (.int .u8 0) Try.underlying41 hi hz0 hz1 hz2 rfl .i64 .i64 _ _ s.size rfl rfl ?h1 ?h2 (by omega) w.heap.size w (Below.refl _ _) (Nat.le_refl _) ?_)
  case h1 => rfl
  case h2 => rfl
  intro w1 g hg hr hb hl
  have HR := Lib.hid hr
  have HB0 := Lib.hid hb
  clear hr hb
  go_wp2_with fail
  go_loopw [13] (ShadeRel2 s g w) (fun i _ => s.size - (RowKit.intOf i).toNat)
  case atStart => exact ⟨0, by omega, rfl, by rw [shadeCells_zero]; exact HR.out, HB0.out⟩
  case round =>
    obtain ⟨k, hk, rfl, hrow, hbel⟩ := hrel
    by_cases hlt : k < s.size
    · obtain ⟨j, hj⟩ : ∃ j, j = s.size - 1 - k := ⟨_, rfl⟩
      obtain ⟨v, hv⟩ : ∃ v, (shadeCells s k)[j]? = some v := ⟨_, List.getElem?_eq_getElem (by rw [shadeCells_len]; omega)⟩
      have hcell : wr.cell? ⟨g, j, none⟩ = some v := (hrow.cell j).trans hv
      have hfz : wr.frozen? ⟨g, j, none⟩ = false := hrow.free _
      have HR1 := Lib.hid (shadeCells_set s k hlt ▸ hrow.set (s.size - 1 - k) (.int .u8 (s[k].toNat : Int)))
      have HB1 := Lib.hid (hbel.setCell (p := ⟨g, s.size - 1 - k, none⟩) hg (.int .u8 (s[k].toNat : Int)))
      have e1 : (s.size : Int) - 1 - (k : Int) = (j : Int) := by omega
      have HJ := Lib.hid hj
      clear hrow hj hv
      go_wp2_with fail
      go_roundw
      case rel => exact ⟨k + 1, by omega, by go_num, HJ.out ▸ HR1.out, HJ.out ▸ HB1.out⟩
      case measure => simp [RowKit.intOf]; omega
    · obtain rfl : k = s.size := by omega
      have HE : Hid (shadeCells s s.size = byteCells (shadeT s).data.toList ++ []) := Lib.hid (by simp [shadeCells, shadeT])
      have HR1 := Lib.hid (HE.out ▸ hrow)
      clear hrow
      go_wp2_with (refine wpList_bytes_str rfl (.tmp 27) 41 9 5 rfl Try.underlying41 Try.underlying5 Try.underlying9 g _ _ (shadeT s) rfl [] HR1.out ?e1 ?_)
      case e1 => exact (shadeT_size s).symm
      go_wp2_with fail
      go_ret
      exact ⟨rfl, hbel⟩

theorem below_two {w w1 w2 : World} (h1 : Below w.heap.size w w1) (h2 : Below w1.heap.size w1 w2) : Below w.heap.size w w2 := h1.trans (h2.mono h1.size)
theorem lawShade (s : ByteArray) (w : World) (hs : s.size ≤ maxLen) : Calls Try.prog 6 #[.string s] w fun e w' => e = .returned (.bool true) ∧ Below w.heap.size w w' := by
  have hs' := hs
  unfold maxLen at hs'
  by_cases hb : 1048576 < s.size
  · go_enter Try.func6, Try.ntmps6
    go_wp2
    go_ret
    exact ⟨rfl, Below.refl _ _⟩
  · by_cases h8 : s.size ≤ 40
    · go_enter Try.func6, Try.ntmps6
      go_wp2_with fail
      refine (shade_spec s _ h8).mono ?_
      rintro e w1 ⟨rfl, hb1⟩
      have HB1 := Lib.hid hb1
      clear hb1
      go_wp2_with fail
      refine (shade_impl s _ h8).mono ?_
      rintro e w2 ⟨rfl, hb2⟩
      have HB2 := Lib.hid (below_two HB1.out hb2)
      clear hb2
      go_wp2_with fail
      go_ret
      exact ⟨rfl, HB2.out⟩
    · go_enter Try.func6, Try.ntmps6
      go_wp2_with (first | (go_at_call 16; refine (shade_spec_no s _ hs (by omega)).mono ?_; rintro e w' ⟨rfl, rfl⟩) | (go_at_call 17; refine (shade_impl_no s _ hs (by omega)).mono ?_; rintro e w' ⟨rfl, rfl⟩))
      go_ret
      exact ⟨rfl, Below.refl _ _⟩
end Go.Proofs.Ytjoobpieomhklaa
