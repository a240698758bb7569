/- FnNums: the law's walk. -/
import Derived.Test.YtghcolobjfgfgaaDoorRound2
import Derived.Test.YtghcolobjfgfgaaDoorDraw4
namespace Go.Proofs.YtghcolobjfgfgaaDoor
open Go Go.RowKit

theorem IsRow.below {k : IntKind} {w w' : World} {a : Option Addr} {len cap : Nat} {zs : List Int} (h : IsRow k w a len cap zs) (hb : Below w.heap.size w w') : IsRow k w' a len cap zs := by
  rcases h with h | ⟨x, rfl, hl, hm, hz, hc, hw⟩
  · exact Or.inl h
  · refine Or.inr ⟨x, rfl, hl, hm, hz, fun i hi => ?_, hw⟩
    have := hc i hi
    rw [hb.cell (World.block_lt_of_cell? w (x.add i) this)]
    exact this

theorem row_max {k : IntKind} {w : World} {a : Option Addr} {len cap : Nat} {zs : List Int} (h : IsRow k w a len cap zs) : len ≤ maxLen := by
  rcases h with ⟨_, rfl, _, _⟩ | ⟨_, _, h, h', _⟩
  · unfold maxLen; omega
  · omega
theorem fld26 (x y z : Value) (w : World) : (Instr.field 26 (.agg #[x, y, z]) 2).run Tryd.prog w = .ok z w := by kernel_rfl
theorem fld31 (x y z : Value) (w : World) : (Instr.field 31 (.agg #[x, y, z]) 2).run Tryd.prog w = .ok z w := by kernel_rfl
theorem not_empty {s : ByteArray} (h : 1 ≤ s.size) : s.toList.isEmpty = false := by
  rw [Lib.toList_data]
  have := list_len s
  cases hl : s.data.toList with
  | nil => rw [hl] at this; simp at this; omega
  | cons => rfl
theorem small_text {s : ByteArray} (h : s.size ≤ 100000) : s.size ≤ maxLen := by unfold maxLen; omega
set_option maxRecDepth 100000 in
set_option maxHeartbeats 4000000 in
theorem lawNums (a0 : Option Addr) (len0 cap0 : Nat) (z0 : List Int) (a1 : Option Addr) (len1 cap1 : Nat) (z1 : List Int) (w : World) (hg : Glob w) (h0 : IsRow .u8 w a0 len0 cap0 z0) (h1 : IsRow .u8 w a1 len1 cap1 z1)
    (hl0 : len0 ≤ maxLen) (hl1 : len1 ≤ maxLen) :
    Calls Tryd.prog 3 #[.slice a0 len0 cap0, .slice a1 len1 cap1] w fun e w' => e = .returned (.bool true) ∧ Below w.heap.size w w' := by
  unfold maxLen at hl0 hl1
  have HR0 := Lib.hid h0
  have HR1 := Lib.hid h1
  have HG := Lib.hid hg
  clear h0 h1 hg
  by_cases hb0 : 1048576 < len0
  · have d0 : decide (1048576 < (len0 : Int)) = true := decide_eq_true (by omega)
    go_enter Tryd.func3, Tryd.ntmps3
    go_wp2_with fail
    go_ret
    exact ⟨rfl, Below.refl _ _⟩
  have d0 : decide (1048576 < (len0 : Int)) = false := decide_eq_false (by omega)
  by_cases hb1 : 1048576 < len1
  · have d1 : decide (1048576 < (len1 : Int)) = true := decide_eq_true (by omega)
    go_enter Tryd.func3, Tryd.ntmps3
    go_wp2_with fail
    go_ret
    exact ⟨rfl, Below.refl _ _⟩
  have d1 : decide (1048576 < (len1 : Int)) = false := decide_eq_false (by omega)
  go_enter Tryd.func3, Tryd.ntmps3
  go_wp2_with fail
  refine (draw_num w a0 len0 cap0 z0 (by omega) HR0.out).mono ?_
  rintro e w1 ⟨_, ⟨n, n0, n1, rfl⟩, rfl, hw1⟩
  have N0 := Lib.hid n0
  have N1 := Lib.hid n1
  have HB1 := Lib.hid hw1
  have ts := numText_size n
  have tl : 1 ≤ (numText n).size := by rw [numText_len]; exact (Nu.enc_length _ _).1
  have T1 := Lib.hid (t1 n n0 n1)
  have T2 := Lib.hid (t2 n n0 n1)
  clear n0 n1 hw1
  go_wp2_with fail
  refine (num_impl' n _ N0.out N1.out).mono ?_
  rintro e w2 ⟨rfl, hw2⟩
  have HB2 := Lib.hid (below_two HB1.out hw2)
  clear hw2
  go_wp2_with fail
  refine (num_spec' n _ N0.out N1.out).mono ?_
  rintro e w3 ⟨rfl, hw3⟩
  have HB3 := Lib.hid (below_two HB2.out hw3)
  clear hw3
  go_wp2_with fail
  have HG3 := Lib.hid (HG.out.grow HB3.out)
  refine (get_impl _ 2 _ HG3.out (small_text (by rw [app_size, app_size]; show 2 + (numText n).size + 1 ≤ 100000; omega)) (by omega)).mono ?_
  rintro e w4 ⟨rfl, hw4⟩
  rw [T1.out]
  have HN : Hid (numOut (n, ((numText n).size : Int) + 2, 0) = .agg #[.int .i64 n, .int .i64 (((numText n).size : Int) + 2), .int .i64 0]) := Lib.hid rfl
  rw [HN.out]
  have HB4 := Lib.hid (below_two HB3.out hw4)
  have HB4' := Lib.hid (HB4.out.alloc HB4.out.size (.cells #[.int .i64 n, .int .i64 (((numText n).size : Int) + 2), .int .i64 0] 26))
  have HG4 := Lib.hid (HG.out.grow HB4'.out)
  clear hw4
  have q1 : (n == n) = true := beq_self_eq_true n
  have q2 : (((numText n).size : Int) + 2 == ((numText n).size : Int) + 2) = true := beq_self_eq_true _
  go_wp2_with fail
  refine (get_impl _ 0 _ HG4.out (small_text (by rw [ByteArray.size_extract]; omega)) (by omega)).mono ?_
  rintro e w5 ⟨rfl, hw5⟩
  rw [T2.out]
  have HN2 : Hid (numOut (0, 0, 4) = .agg #[.int .i64 0, .int .i64 0, .int .i64 4]) := Lib.hid rfl
  rw [HN2.out]
  have HB5 := Lib.hid (below_two HB4'.out hw5)
  have HG5 := Lib.hid (HG.out.grow HB5.out)
  clear hw5 q1 q2
  have f26 := fld26
  have f31 := fld31
  go_wp2_with fail
  refine (draw_text _ a1 len1 cap1 z1 (by omega) (HR1.out.below HB5.out)).mono ?_
  rintro e w6 ⟨_, ⟨u, hu, rfl⟩, rfl, hw6⟩
  have HB6 := Lib.hid (below_two HB5.out hw6)
  have HG6 := Lib.hid (HG.out.grow HB6.out)
  clear hw6
  by_cases h8 : 8000 < u.size
  · go_wp2_with (first | (go_at_call 13; refine (text_impl_no u _ (small_text (by omega)) h8).mono ?_; rintro e w' ⟨rfl, rfl⟩) | (go_at_call 14; refine (text_spec_no u _ (small_text (by omega)) h8).mono ?_; rintro e w' ⟨rfl, rfl⟩))
    go_ret
    exact ⟨rfl, HB6.out⟩
  · have h8' : u.size ≤ 8000 := by omega
    have hsz : (putText u).size = (numText u.size).size + u.size := by unfold putText; rw [app_size]
    have hp1 : 1 ≤ (putText u).size := by rw [hsz, numText_len]; have := (Nu.enc_length 9 (Nu.fold u.size)).1; omega
    have hp2 : (putText u).size ≤ 8010 := by rw [hsz]; have := numText_size u.size; omega
    have hem := not_empty hp1
    clear hsz h8
    go_wp2_with fail
    refine (text_impl u _ h8').mono ?_
    rintro e w7 ⟨rfl, hw7⟩
    have HB7 := Lib.hid (below_two HB6.out hw7)
    clear hw7
    go_wp2_with fail
    refine (text_spec u _ h8').mono ?_
    rintro e w8 ⟨rfl, hw8⟩
    have HB8 := Lib.hid (below_two HB7.out hw8)
    have HG8 := Lib.hid (HG.out.grow HB8.out)
    clear hw8
    by_cases hq : 8000 < (putText u).size + 1
    · have dq : decide (8000 < ((putText u).size : Int) + 1) = true := decide_eq_true (by omega)
      go_wp2_with fail
      go_ret
      exact ⟨rfl, HB8.out⟩
    · have dq : decide (8000 < ((putText u).size : Int) + 1) = false := decide_eq_false (by omega)
      have T3 := Lib.hid (t3 u (by omega))
      have T4 := Lib.hid (t4 u (by omega))
      clear hq
      go_wp2_with fail
      refine (gtext_impl _ 1 _ HG8.out (small_text (by rw [app_size]; show 1 + (putText u).size ≤ 100000; omega)) (by omega)).mono ?_
      rintro e w9 ⟨rfl, hw9⟩
      rw [T3.out]
      have HN3 : Hid (textOut (u, ((putText u).size : Int) + 1, 0) = .agg #[.string u, .int .i64 (((putText u).size : Int) + 1), .int .i64 0]) := Lib.hid rfl
      rw [HN3.out]
      have HB9 := Lib.hid (below_two HB8.out hw9)
      have HG9 := Lib.hid (HG.out.grow HB9.out)
      clear hw9
      have q2 : (((putText u).size : Int) + 1 == ((putText u).size : Int) + 1) = true := beq_self_eq_true _
      go_wp2_with fail
      refine (gtext_impl _ 0 _ HG9.out (small_text (by rw [ByteArray.size_extract]; omega)) (by omega)).mono ?_
      rintro e w10 ⟨rfl, hw10⟩
      have HB10 := Lib.hid (below_two HB9.out hw10)
      generalize hr : textR ((putText u).extract 0 ((putText u).size - 1)) 0 = R at T4
      obtain ⟨x, y, z⟩ := R
      have hz : z = 4 := T4.out
      subst hz
      have HN4 : Hid (textOut (x, y, 4) = .agg #[.string x, .int .i64 y, .int .i64 4]) := Lib.hid rfl
      rw [HN4.out]
      clear hr hw10 T4
      go_wp2_with fail
      go_ret
      exact ⟨rfl, HB10.out⟩
end Go.Proofs.YtghcolobjfgfgaaDoor
