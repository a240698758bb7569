/- PutNum and PutText: the laws. -/
import Derived.Test.YtghcolobjfgfgaaDoorNum2
namespace Go.Proofs.YtghcolobjfgfgaaDoor
open Go Go.RowKit Go.Lib

theorem below_two {w w1 w2 : World} (h1 : Below w.heap.size w w1) (h2 : Below w1.heap.size w1 w2) : Below w.heap.size w w2 := h1.trans (h2.mono h1.size)

def numText (n : Int) : ByteArray := ⟨(Nu.enc 9 (Nu.fold n)).toArray⟩
theorem numText_size (n : Int) : (numText n).size ≤ 10 := by
  have := Nu.enc_length 9 (Nu.fold n)
  show (Nu.enc 9 (Nu.fold n)).toArray.size ≤ 10
  rw [List.size_toArray]
  omega

theorem num_spec' (n : Int) (w : World) (h1 : -9223372036854775808 ≤ n) (h2 : n ≤ 9223372036854775807) :
    Calls Tryd.prog 10 #[.int .i64 n] w fun e w' => e = .returned (.string (numText n)) ∧ Below w.heap.size w w' := num_spec n w h1 h2
theorem num_impl' (n : Int) (w : World) (h1 : -9223372036854775808 ≤ n) (h2 : n ≤ 9223372036854775807) :
    Calls Tryd.prog 9 #[.int .i64 n] w fun e w' => e = .returned (.string (numText n)) ∧ Below w.heap.size w w' := num_impl n w h1 h2

def putText (t : ByteArray) : ByteArray := numText t.size ++ t
theorem text_spec (t : ByteArray) (w : World) (ht : t.size ≤ 8000) :
    Calls Tryd.prog 14 #[.string t] w fun e w' => e = .returned (.string (putText t)) ∧ Below w.heap.size w w' := by
  have hn := numText_size t.size
  have HE : Hid (putText t = numText t.size ++ t) := Lib.hid rfl
  go_enter Tryd.func14, Tryd.ntmps14
  go_wp2_with fail
  refine (num_spec' _ _ (by omega) (by omega)).mono ?_
  rintro e w1 ⟨rfl, hb1⟩
  have HB1 := Lib.hid hb1
  clear hb1
  go_wp2_with fail
  go_ret
  exact ⟨by rw [HE.out]; rfl, HB1.out⟩
theorem text_spec_no (t : ByteArray) (w : World) (hs : t.size ≤ maxLen) (ht : 8000 < t.size) :
    Calls Tryd.prog 14 #[.string t] w fun e w' => e = .returned (.string ⟨#[]⟩) ∧ w = w' := by
  unfold maxLen at hs
  go_enter Tryd.func14, Tryd.ntmps14
  go_wp2_with fail
  go_ret
  exact ⟨rfl, rfl⟩
theorem text_impl (t : ByteArray) (w : World) (ht : t.size ≤ 8000) :
    Calls Tryd.prog 13 #[.string t] w fun e w' => e = .returned (.string (putText t)) ∧ Below w.heap.size w w' := by
  have hn := numText_size t.size
  have HE : Hid (putText t = numText t.size ++ t) := Lib.hid rfl
  go_enter Tryd.func13, Tryd.ntmps13
  go_wp2_with fail
  refine (num_impl' _ _ (by omega) (by omega)).mono ?_
  rintro e w1 ⟨rfl, hb1⟩
  have HB1 := Lib.hid hb1
  clear hb1
  go_wp2_with fail
  refine (join_any _ _ _ (by omega)).mono ?_
  rintro e w2 ⟨rfl, hb2⟩
  have HB2 := Lib.hid (below_two HB1.out hb2)
  clear hb2
  go_wp2_with fail
  go_ret
  exact ⟨by rw [HE.out]; rfl, HB2.out⟩
theorem text_impl_no (t : ByteArray) (w : World) (hs : t.size ≤ maxLen) (ht : 8000 < t.size) :
    Calls Tryd.prog 13 #[.string t] w fun e w' => e = .returned (.string ⟨#[]⟩) ∧ w = w' := by
  unfold maxLen at hs
  go_enter Tryd.func13, Tryd.ntmps13
  go_wp2_with fail
  go_ret
  exact ⟨rfl, rfl⟩

end Go.Proofs.YtghcolobjfgfgaaDoor
