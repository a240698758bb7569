/- PutNum and PutText: the laws. -/
import Derived.Test.YtghcolobjfgfgaaNum2
namespace Go.Proofs.Ytghcolobjfgfgaa
open Go Go.RowKit Go.Lib

theorem below_two {w w1 w2 : World} (h1 : Below w.heap.size w w1) (h2 : Below w1.heap.size w1 w2) : Below w.heap.size w w2 := h1.trans (h2.mono h1.size)

def numText (n : Int) : ByteArray := ⟨(Nu.enc 9 (Nu.fold n)).toArray⟩
theorem numText_size (n : Int) : (numText n).size ≤ 10 := by
  have := Nu.enc_length 9 (Nu.fold n)
  show (Nu.enc 9 (Nu.fold n)).toArray.size ≤ 10
  rw [List.size_toArray]
  omega

theorem num_spec' (n : Int) (w : World) (h1 : -9223372036854775808 ≤ n) (h2 : n ≤ 9223372036854775807) :
    Calls Try.prog 9 #[.int .i64 n] w fun e w' => e = .returned (.string (numText n)) ∧ Below w.heap.size w w' := num_spec n w h1 h2
theorem num_impl' (n : Int) (w : World) (h1 : -9223372036854775808 ≤ n) (h2 : n ≤ 9223372036854775807) :
    Calls Try.prog 10 #[.int .i64 n] w fun e w' => e = .returned (.string (numText n)) ∧ Below w.heap.size w w' := num_impl n w h1 h2

theorem lawPutNum (n : Int) (w : World) (hw : (Lit.int .i64 n).wf = true) :
    Calls Try.prog 3 #[.int .i64 n] w fun e w' => e = .returned (.bool true) ∧ Below w.heap.size w w' := by
  have hb : -9223372036854775808 ≤ n ∧ n ≤ 9223372036854775807 := by
    simp only [Lit.wf, Bool.and_eq_true, decide_eq_true_eq] at hw
    exact hw
  obtain ⟨h1, h2⟩ := hb
  have H1 := Lib.hid h1
  have H2 := Lib.hid h2
  clear hw h1 h2
  go_enter Try.func3, Try.ntmps3
  go_wp2_with fail
  refine (num_spec' n _ H1.out H2.out).mono ?_
  rintro e w1 ⟨rfl, hb1⟩
  have HB1 := Lib.hid hb1
  clear hb1
  go_wp2_with fail
  refine (num_impl' n _ H1.out H2.out).mono ?_
  rintro e w2 ⟨rfl, hb2⟩
  have HB2 := Lib.hid (below_two HB1.out hb2)
  clear hb2
  go_wp2_with fail
  go_ret
  exact ⟨rfl, HB2.out⟩

def putText (t : ByteArray) : ByteArray := numText t.size ++ t
theorem text_spec (t : ByteArray) (w : World) (ht : t.size ≤ 8000) :
    Calls Try.prog 11 #[.string t] w fun e w' => e = .returned (.string (putText t)) ∧ Below w.heap.size w w' := by
  have hn := numText_size t.size
  have HE : Hid (putText t = numText t.size ++ t) := Lib.hid rfl
  go_enter Try.func11, Try.ntmps11
  go_wp2_with fail
  refine (num_spec' _ _ (by omega) (by omega)).mono ?_
  rintro e w1 ⟨rfl, hb1⟩
  have HB1 := Lib.hid hb1
  clear hb1
  go_wp2_with fail
  go_ret
  exact ⟨by rw [HE.out]; rfl, HB1.out⟩
theorem text_spec_no (t : ByteArray) (w : World) (hs : t.size ≤ maxLen) (ht : 8000 < t.size) :
    Calls Try.prog 11 #[.string t] w fun e w' => e = .returned (.string ⟨#[]⟩) ∧ w = w' := by
  unfold maxLen at hs
  go_enter Try.func11, Try.ntmps11
  go_wp2_with fail
  go_ret
  exact ⟨rfl, rfl⟩
theorem text_impl (t : ByteArray) (w : World) (ht : t.size ≤ 8000) :
    Calls Try.prog 12 #[.string t] w fun e w' => e = .returned (.string (putText t)) ∧ Below w.heap.size w w' := by
  have hn := numText_size t.size
  have HE : Hid (putText t = numText t.size ++ t) := Lib.hid rfl
  go_enter Try.func12, Try.ntmps12
  go_wp2_with fail
  refine (num_impl' _ _ (by omega) (by omega)).mono ?_
  rintro e w1 ⟨rfl, hb1⟩
  have HB1 := Lib.hid hb1
  clear hb1
  go_wp2_with fail
  refine (join_any _ _ _ (by omega)).mono ?_
  rintro e w2 ⟨rfl, hb2⟩
  have HB2 := Lib.hid (below_two HB1.out hb2)
  clear hb2
  go_wp2_with fail
  go_ret
  exact ⟨by rw [HE.out]; rfl, HB2.out⟩
theorem text_impl_no (t : ByteArray) (w : World) (hs : t.size ≤ maxLen) (ht : 8000 < t.size) :
    Calls Try.prog 12 #[.string t] w fun e w' => e = .returned (.string ⟨#[]⟩) ∧ w = w' := by
  unfold maxLen at hs
  go_enter Try.func12, Try.ntmps12
  go_wp2_with fail
  go_ret
  exact ⟨rfl, rfl⟩

theorem lawPutText (t : ByteArray) (w : World) (hs : t.size ≤ maxLen) :
    Calls Try.prog 4 #[.string t] w fun e w' => e = .returned (.bool true) ∧ Below w.heap.size w w' := by
  have hs' := hs
  unfold maxLen at hs'
  by_cases hb : 1048576 < t.size
  · go_enter Try.func4, Try.ntmps4
    go_wp2
    go_ret
    exact ⟨rfl, Below.refl _ _⟩
  · by_cases h8 : t.size ≤ 8000
    · go_enter Try.func4, Try.ntmps4
      go_wp2_with fail
      refine (text_spec t _ h8).mono ?_
      rintro e w1 ⟨rfl, hb1⟩
      have HB1 := Lib.hid hb1
      clear hb1
      go_wp2_with fail
      refine (text_impl t _ h8).mono ?_
      rintro e w2 ⟨rfl, hb2⟩
      have HB2 := Lib.hid (below_two HB1.out hb2)
      clear hb2
      go_wp2_with fail
      go_ret
      exact ⟨rfl, HB2.out⟩
    · go_enter Try.func4, Try.ntmps4
      go_wp2_with (first | (go_at_call 11; refine (text_spec_no t _ hs (by omega)).mono ?_; rintro e w' ⟨rfl, rfl⟩) | (go_at_call 12; refine (text_impl_no t _ hs (by omega)).mono ?_; rintro e w' ⟨rfl, rfl⟩))
      go_ret
      exact ⟨rfl, Below.refl _ _⟩
end Go.Proofs.Ytghcolobjfgfgaa
