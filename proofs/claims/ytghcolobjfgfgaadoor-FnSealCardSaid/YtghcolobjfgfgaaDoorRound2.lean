/- Plain mathematics: the four readings of the law on numbers and texts. -/
import Derived.Test.YtghcolobjfgfgaaDoorRound
import Derived.Lib.Strings
namespace Go.Proofs.YtghcolobjfgfgaaDoor
open Go Go.RowKit

theorem app_list (a b : ByteArray) : (a ++ b).data.toList = a.data.toList ++ b.data.toList := by simp
theorem app_size (a b : ByteArray) : (a ++ b).size = a.size + b.size := by simp
theorem list_len (a : ByteArray) : a.data.toList.length = a.size := by simp
theorem ext_list (a : ByteArray) (i j : Nat) : (a.extract i j).data.toList = (a.data.toList.drop i).take (j - i) := Lib.extract_data a i j
theorem numText_list (n : Int) : (numText n).data.toList = Nu.enc 9 (Nu.fold n) := by
  show (Nu.enc 9 (Nu.fold n)).toArray.toList = _
  simp
theorem has_mid (a b c : ByteArray) (n : Int) (hb : b = numText n) : Has ((a ++ b) ++ c) a.size n := fun i hi => by
  rw [app_list, app_list, List.append_assoc, List.getElem?_append_right (by rw [list_len]; omega), list_len, show a.size + i - a.size = i from by omega, List.getElem?_append_left (by rw [hb, numText_list]; exact hi), hb, numText_list]
theorem has_front (b c : ByteArray) (n : Int) (hb : b = numText n) : Has (b ++ c) 0 n := fun i hi => by
  rw [app_list, Nat.zero_add, List.getElem?_append_left (by rw [hb, numText_list]; exact hi), hb, numText_list]

theorem t1 (n : Int) (h1 : -9223372036854775808 ≤ n) (h2 : n ≤ 9223372036854775807) :
    numR (((⟨#[120, 121]⟩ : ByteArray) ++ numText n) ++ (⟨#[122]⟩ : ByteArray)) 2 = (n, ((numText n).size : Int) + 2, 0) := by
  have hs := numText_size n
  have := num_of_has (p := 2) (by rw [app_size, app_size]; show 2 + (numText n).size + 1 ≤ 8000; omega) h1 h2 (has_mid (⟨#[120, 121]⟩ : ByteArray) (numText n) (⟨#[122]⟩ : ByteArray) n rfl)
  rw [show ((2 : Nat) : Int) = 2 from rfl] at this
  rw [this]
  simp
  omega
theorem t2 (n : Int) (h1 : -9223372036854775808 ≤ n) (h2 : n ≤ 9223372036854775807) : numR ((numText n).extract 0 ((numText n).size - 1)) 0 = (0, 0, 4) := by
  have hl := Nu.enc_length 9 (Nu.fold n)
  have hn := numText_len n
  have he : ((numText n).extract 0 ((numText n).size - 1)).size = (numText n).size - 1 := by rw [ByteArray.size_extract]; omega
  refine num_of_cut h1 h2 (by rw [he]; omega) (fun i hi => ?_)
  rw [ext_list, numText_list, List.drop_zero, List.getElem?_take_of_lt (by omega)]

theorem text_good {s : ByteArray} {p : Int} {n q : Nat} (hn : n ≤ 8000) (h : numR s p = ((n : Int), (q : Int), 0)) (hs : q + n ≤ s.size) : textR s p = (s.extract q (q + n), ((q + n : Nat) : Int), 0) := by
  unfold textR
  rw [h]
  simp only [ne_eq, not_true_eq_false, if_false]
  rw [if_neg (by omega), if_neg (by omega)]
  simp
  congr 1
theorem text_short {s : ByteArray} {p : Int} {n q : Nat} (hn : n ≤ 8000) (h : numR s p = ((n : Int), (q : Int), 0)) (hs : s.size < q + n) : textR s p = (⟨#[]⟩, 0, 4) := by
  unfold textR
  rw [h]
  simp only [ne_eq, not_true_eq_false, if_false]
  rw [if_neg (by omega), if_pos (by omega)]
theorem text_code {s : ByteArray} {p c : Int} (hc : c ≠ 0) (h : numR s p = (0, 0, c)) : textR s p = (⟨#[]⟩, 0, c) := by
  unfold textR
  rw [h, if_pos hc]

theorem t3 (u : ByteArray) (hp : (putText u).size + 1 ≤ 8000) : textR ((⟨#[120]⟩ : ByteArray) ++ putText u) 1 = (u, ((putText u).size : Int) + 1, 0) := by
  have hsz : (putText u).size = (numText u.size).size + u.size := by unfold putText; rw [app_size]
  have hh := num_of_has (p := 1) (s := ((⟨#[120]⟩ : ByteArray) ++ numText u.size) ++ u) (by rw [app_size, app_size]; show 1 + (numText u.size).size + u.size ≤ 8000; omega) (by omega) (by omega) (has_mid (⟨#[120]⟩ : ByteArray) (numText u.size) u u.size rfl)
  have ha : (⟨#[120]⟩ : ByteArray) ++ putText u = ((⟨#[120]⟩ : ByteArray) ++ numText u.size) ++ u := by unfold putText; rw [ByteArray.append_assoc]
  rw [ha]
  have h1 : (((⟨#[120]⟩ : ByteArray) ++ numText u.size) ++ u).size = 1 + (numText u.size).size + u.size := by rw [app_size, app_size]; rfl
  rw [show ((1 : Nat) : Int) = 1 from rfl] at hh
  rw [text_good (by omega) hh (by omega)]
  have e : (((⟨#[120]⟩ : ByteArray) ++ numText u.size) ++ u).extract (1 + (numText u.size).size) (1 + (numText u.size).size + u.size) = u := by
    apply ByteArray.ext
    apply Array.toList_inj.1
    rw [ext_list, app_list, List.drop_append_of_le_length (by rw [list_len, app_size]; show _ ≤ 1 + _; omega), List.drop_eq_nil_of_le (by rw [list_len, app_size]; show 1 + _ ≤ _; omega), List.nil_append, List.take_of_length_le (by rw [list_len]; omega)]
  rw [e, hsz]
  congr 2
  omega
theorem t4 (u : ByteArray) (hp : (putText u).size + 1 ≤ 8000) : (textR ((putText u).extract 0 ((putText u).size - 1)) 0).2.2 = 4 := by
  have hsz : (putText u).size = (numText u.size).size + u.size := by unfold putText; rw [app_size]
  have hl := Nu.enc_length 9 (Nu.fold u.size)
  have hn := numText_len (u.size : Int)
  have he : ((putText u).extract 0 ((putText u).size - 1)).size = (putText u).size - 1 := by rw [ByteArray.size_extract]; omega
  have hlist : ((putText u).extract 0 ((putText u).size - 1)).data.toList = (Nu.enc 9 (Nu.fold u.size) ++ u.data.toList).take ((putText u).size - 1) := by
    rw [ext_list, List.drop_zero]
    unfold putText
    rw [app_list, numText_list, Nat.sub_zero]
  by_cases hu : u.size = 0
  · have hc : numR ((putText u).extract 0 ((putText u).size - 1)) 0 = (0, 0, 4) := by
      refine num_of_cut (n := u.size) (by omega) (by omega) (by rw [he]; omega) (fun i hi => ?_)
      rw [hlist, List.getElem?_take_of_lt (by omega), List.getElem?_append_left (by omega)]
    rw [text_code (by omega) hc]
  · have hh : Has ((putText u).extract 0 ((putText u).size - 1)) 0 u.size := fun i hi => by
      rw [Nat.zero_add, hlist, List.getElem?_take_of_lt (by omega), List.getElem?_append_left hi]
    have := num_of_has (by rw [he]; omega) (by omega) (by omega) hh
    rw [show ((0 : Nat) : Int) = 0 from rfl] at this
    rw [text_short (by omega) this (by rw [he]; omega)]
end Go.Proofs.YtghcolobjfgfgaaDoor
