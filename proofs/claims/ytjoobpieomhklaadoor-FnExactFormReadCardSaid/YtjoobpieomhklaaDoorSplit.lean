/- spec.l01Split: the walk. -/
import Derived.Test.YtjoobpieomhklaaDoorOwn
import Derived.Test.YtjoobpieomhklaaDoorSplitMath
import Derived.Test.YtjoobpieomhklaaDoorCode1
namespace Go.Proofs.YtjoobpieomhklaaDoor
open Go Go.RowKit Go.Lib
set_option linter.unusedVariables false

def strV (p : List UInt8) : Value := .string ⟨p.toArray⟩
theorem strInfo : (Tryd.prog.info? 9).map (fun i => (i.zero, i.size, i.bytes)) = some (some (.string ByteArray.empty), 1, 16) := by kernel_rfl
/-- What lies between two places of a text. -/
def mid (s : ByteArray) (f k : Nat) : List UInt8 := (s.data.toList.drop f).take (k - f)
theorem extract_mid (s : ByteArray) (f k : Nat) : (Value.string (s.extract f k)) = strV (mid s f k) := by
  unfold strV mid
  congr 1
  apply Go.WideShapes.bytes_inj
  rw [extract_data]
def SplitRel (s : ByteArray) (w : World) (v f i : Value) (wr : World) : Prop := ∃ (k fr n : Nat) (ps : List (List UInt8)), k ≤ s.size ∧ fr ≤ k ∧ i = .int .i64 k ∧ f = .int .i64 fr ∧ n = ps.length ∧ n ≤ k ∧ (38 : UInt8) ∉ mid s fr k ∧ ps ++ splitL (s.data.toList.drop fr) = splitL s.data.toList ∧ Own 9 1 w wr v n (ps.map strV)
def SplitOut (s : ByteArray) (w : World) (e : Ending) (w' : World) : Prop := ∃ g cap n, e = .returned (.slice (some ⟨g, 0, none⟩) n cap) ∧ n = (splitL s.data.toList).length ∧ w.heap.size ≤ g ∧ g < w'.heap.size ∧ w'.rangeAt g 0 ((splitL s.data.toList).map strV) ∧ Below w.heap.size w w'

theorem mid_step (s : ByteArray) {f k : Nat} (hf : f ≤ k) (hk : k < s.size) : mid s f (k + 1) = mid s f k ++ [s[k]] := by
  have hl : s.data.toList.length = s.size := (size_eq s).symm
  unfold mid
  rw [show k + 1 - f = (k - f) + 1 by omega, List.take_succ_eq_append_getElem (by rw [List.length_drop]; omega)]
  congr 2
  rw [List.getElem_drop]
  simp [ByteArray.getElem_eq_getElem_data]
  congr 1
  omega
theorem drop_mid (s : ByteArray) {f k : Nat} (hf : f ≤ k) (hk : k < s.size) : s.data.toList.drop f = mid s f k ++ s[k] :: s.data.toList.drop (k + 1) := by
  have hl : s.data.toList.length = s.size := (size_eq s).symm
  have h1 : s.data.toList.drop k = s[k] :: s.data.toList.drop (k + 1) := by
    rw [List.drop_eq_getElem_cons (by omega)]
    rfl
  rw [← h1]
  unfold mid
  have h2 := (List.take_append_drop (k - f) (s.data.toList.drop f)).symm
  rw [List.drop_drop, show f + (k - f) = k by omega] at h2
  exact h2
theorem mid_all (s : ByteArray) {f : Nat} (hf : f ≤ s.size) : mid s f s.size = s.data.toList.drop f := by
  have hl : s.data.toList.length = s.size := (size_eq s).symm
  unfold mid
  exact List.take_of_length_le (by rw [List.length_drop]; omega)

set_option maxRecDepth 100000 in
theorem split_spec (s : ByteArray) (w : World) (hs : s.size ≤ 8000) :
    Calls Tryd.prog 9 #[.string s, .int .u8 38] w (SplitOut s w) := by
  obtain ⟨i5, hi, hz0, hz1, hz2⟩ := info_parts strInfo
  go_enter Tryd.func9, Tryd.ntmps9
  go_wp2_with fail
  go_loopw [5, 6, 7] (SplitRel s w) (fun _ _ i _ => s.size - (RowKit.intOf i).toNat)
  case atStart => exact ⟨0, 0, 0, [], by omega, by omega, rfl, rfl, rfl, by omega, by simp [mid], by simp, Own.lit _ _ (Below.refl _ _)⟩
  case round =>
    obtain ⟨k, fr, n, ps, hk, hfr, rfl, rfl, hn, hnk, hno, he, hown⟩ := hrel
    have HO := Lib.hid hown
    have HN := Lib.hid hn
    have HE := Lib.hid he
    have H38 := Lib.hid hno
    have hz := hown.2.size
    clear hown hn he hno
    by_cases hlt : k < s.size
    · by_cases hc : s[k].toNat = 38
      · have hcb : ((s[k].toNat : Int) == 38) = true := by rw [hc]; rfl
        have HC : Hid (s[k] = 38) := Lib.hid (UInt8.toNat_inj.1 hc)
        have HD := Lib.hid (drop_mid s hfr hlt)
        have HX := Lib.hid (extract_mid s fr k)
        clear hc
        go_wp2_with (at_builtin; refine wpList_app rfl (.tmp 20) (.tmp 25) 29 9 rfl i5 _ 1 16 Tryd.underlying29 hi hz0 hz1 hz2 rfl (by omega) (by omega) w _ n _ [strV (mid s fr k)] rfl HO.out _ (congrArg (fun x => #[x]) HX.out) rfl rfl (by intro u hu; simp at hu; subst hu; rfl) (by omega) ?_)
        intro v' w1 hown1 _ _
        have HO1 := Lib.hid hown1
        clear hown1
        go_wp2_with fail
        go_roundw
        case rel =>
          refine ⟨k + 1, k + 1, n + 1, ps ++ [mid s fr k], by omega, by omega, by go_num, by go_num, by rw [List.length_append, HN.out]; rfl, by omega, by simp [mid], ?_, by rw [List.map_append]; exact HO1.out⟩
          have he := HE.out
          rw [HD.out, HC.out, splitL_hit _ _ H38.out] at he
          rw [List.append_assoc]
          exact he
        case measure => simp [RowKit.intOf]; omega
      · have hcb : ((s[k].toNat : Int) == 38) = false := by rw [beq_eq_false_iff_ne]; omega
        have HC : Hid ((38 : UInt8) ≠ s[k]) := Lib.hid (fun e => hc (by rw [← e]; rfl))
        have HM := Lib.hid (mid_step s hfr hlt)
        clear hc
        go_wp2_with fail
        go_roundw
        case rel => exact ⟨k + 1, fr, n, ps, by omega, by omega, by go_num, rfl, HN.out, by omega, by rw [HM.out, List.mem_append]; rintro (h | h); exact H38.out h; exact HC.out (by simpa using h), HE.out, HO.out⟩
        case measure => simp [RowKit.intOf]; omega
    · obtain rfl : k = s.size := by omega
      have HX := Lib.hid (show Value.string (s.extract fr s.size) = strV (s.data.toList.drop fr) by rw [extract_mid, mid_all s hfr])
      have HF : Hid (ps ++ [s.data.toList.drop fr] = splitL s.data.toList) := Lib.hid (by rw [← HE.out, splitL_none _ (by rw [← mid_all s hfr]; exact H38.out)])
      go_wp2_with (at_builtin; refine wpList_app rfl (.tmp 29) (.tmp 33) 29 9 rfl i5 _ 1 16 Tryd.underlying29 hi hz0 hz1 hz2 rfl (by omega) (by omega) w _ n _ [strV (s.data.toList.drop fr)] rfl HO.out _ (congrArg (fun x => #[x]) HX.out) rfl rfl (by intro u hu; simp at hu; subst hu; rfl) (by omega) ?_)
      intro v' w1 hown1 _ hnn
      rw [show ps.map strV ++ [strV (s.data.toList.drop fr)] = (splitL s.data.toList).map strV by rw [← HF.out, List.map_append]; rfl] at hown1
      have hn1 : n + 1 = (splitL s.data.toList).length := by rw [← HF.out, List.length_append, HN.out]; rfl
      rcases hown1.open with ⟨e, _⟩ | ⟨g, cap, rfl, h1, h2, _, _, h3, _⟩
      · exact absurd e hnn
      · have HB := Lib.hid hown1.2
        have HR := Lib.hid h3
        have HN1 := Lib.hid hn1
        clear hown1 hnn h3 hn1
        go_wp2_with fail
        go_ret
        exact ⟨g, cap, n + 1, rfl, HN1.out, h1, h2, HR.out, HB.out⟩
end Go.Proofs.YtjoobpieomhklaaDoor
