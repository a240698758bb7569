/- FnSeal: the law's walk. -/
import Derived.Test.YtghcolobjfgfgaaDoorConv
import Derived.Test.YtghcolobjfgfgaaDoorNums
import Derived.Deep.CutRange
import Derived.Deep.DeepCutAuto
namespace Go.Proofs.YtghcolobjfgfgaaDoor
open Go Go.RowKit

theorem seal_full (t : ByteArray) : ((sealText t).toList == (⟨#[]⟩ : ByteArray).toList) = false := by
  have h := not_empty (s := sealText t) (by rw [seal_size]; omega)
  rw [show (⟨#[]⟩ : ByteArray).toList = [] from by rw [Lib.toList_data]]
  cases hl : (sealText t).toList with
  | nil => rw [hl] at h; cases h
  | cons => rfl
theorem changed_drew {s : ByteArray} {g i : Nat} {w0 w : World} (h : Changed s g i w0 w) : Changed s g i w0 w.drew := by
  obtain ⟨y, h1, h2, h3⟩ := h
  exact ⟨y, h1, fun j hj => h2 j hj, h3.drew⟩
theorem bytes_below {w w' : World} {g o : Nat} {s : ByteArray} (h : Lib.Bytes w g o s) (hb : Below w.heap.size w w') : Lib.Bytes w' g o s := fun j hj => by
  have hc := h j hj
  rw [hb.cell (World.block_lt_of_cell? w ⟨g, o + j, none⟩ hc)]
  exact hc
theorem lt_of_cast {r : Nat} (h : (r : Int) < 255) : r < 255 := by omega
theorem one_more (r : Nat) (h : r < 255) : IntKind.i64.wrap (1 + (r : Int)) = (r : Int) + 1 := by rw [IntKind.wrap_i64]; omega
theorem one_byte (r : Nat) (h : r < 255) : IntKind.u8.wrap ((r : Int) + 1) = (r : Int) + 1 := by rw [IntKind.wrap_u8']; omega
set_option maxRecDepth 100000 in
set_option maxHeartbeats 4000000 in
theorem lawSeal (a0 : Option Addr) (len0 cap0 : Nat) (z0 : List Int) (a1 : Option Addr) (len1 cap1 : Nat) (z1 : List Int) (w : World) (hg : Glob w) (h0 : IsRow .u8 w a0 len0 cap0 z0) (h1 : IsRow .u8 w a1 len1 cap1 z1)
    (hl0 : len0 ≤ maxLen) (hl1 : len1 ≤ maxLen) :
    Calls Tryd.prog 4 #[.slice a0 len0 cap0, .slice a1 len1 cap1] w fun e w' => e = .returned (.bool true) ∧ Below w.heap.size w w' := by
  unfold maxLen at hl0 hl1
  have HR0 := Lib.hid h0
  have HR1 := Lib.hid h1
  have HG := Lib.hid hg
  clear h0 h1 hg
  by_cases hb0 : 1048576 < len0
  · have d0 : decide (1048576 < (len0 : Int)) = true := decide_eq_true (by omega)
    go_enter Tryd.func4, Tryd.ntmps4
    go_wp2_with fail
    go_ret
    exact ⟨rfl, Below.refl _ _⟩
  have d0 : decide (1048576 < (len0 : Int)) = false := decide_eq_false (by omega)
  by_cases hb1 : 1048576 < len1
  · have d1 : decide (1048576 < (len1 : Int)) = true := decide_eq_true (by omega)
    go_enter Tryd.func4, Tryd.ntmps4
    go_wp2_with fail
    go_ret
    exact ⟨rfl, Below.refl _ _⟩
  have d1 : decide (1048576 < (len1 : Int)) = false := decide_eq_false (by omega)
  go_enter Tryd.func4, Tryd.ntmps4
  go_wp2_with fail
  refine (draw_seal w a0 len0 cap0 z0 (by omega) HR0.out).mono ?_
  rintro e w1 ⟨_, ⟨t, ht, rfl⟩, rfl, hw1⟩
  have HB1 := Lib.hid hw1
  clear hw1
  by_cases h7 : 7996 < t.size
  · go_wp2_with (first | (go_at_call 17; refine (seal_impl_no t _ (small_text (by omega)) h7).mono ?_; rintro e w' ⟨rfl, rfl⟩) | (go_at_call 18; refine (seal_spec_no t _ (small_text (by omega)) h7).mono ?_; rintro e w' ⟨rfl, rfl⟩))
    have HBX := Lib.hid HB1.out
    refine (draw_more _ a1 len1 cap1 z1 (by omega) (HR1.out.below HBX.out)).mono ?_
    rintro e wD ⟨_, ⟨c, u, c0, c1, hu, rfl⟩, rfl, hwD⟩
    have HBD := Lib.hid (below_two HBX.out hwD)
    clear hwD
    by_cases h8 : 8000 < t.size + u.size
    · have dq : decide (8000 < (t.size : Int) + (u.size : Int)) = true := decide_eq_true (by omega)
      go_wp2_with fail
      go_ret
      exact ⟨rfl, HBD.out⟩
    · have dq : decide (8000 < (t.size : Int) + (u.size : Int)) = false := decide_eq_false (by omega)
      have ht8 : t.size ≤ 8000 := by omega
      have hu8 : u.size ≤ 8000 := by omega
      have hm0 := more_lt 0 t
      have HS8 : Hid ((t ++ u).size ≤ 8000) := Lib.hid (by rw [app_size]; omega)
      have HMA := Lib.hid (more_app t u)
      have hq : ((more (more 0 t) u : Nat) == (more 0 (t ++ u) : Nat)) = true := by rw [more_app]; exact beq_self_eq_true _
      have hq' : (((more (more 0 t) u : Nat) : Int) == ((more 0 (t ++ u) : Nat) : Int)) = true := by rw [more_app]; exact beq_self_eq_true _
      clear h8
      have HQ := Lib.hid hq
      have HQ' := Lib.hid hq'
      clear hq hq'
      by_cases hc : c < 0 ∨ 4294967295 < c
      · go_wp2_with fail
        refine (more_impl_no c u _ (small_text (by omega)) (Or.inr hc)).mono ?_
        rintro e w' ⟨rfl, rfl⟩
        go_wp2_with fail
        refine (more_spec_no c u _ (small_text (by omega)) (Or.inr hc)).mono ?_
        rintro e w' ⟨rfl, rfl⟩
        go_wp2_with fail
        refine (crc_impl t _ ht8).mono ?_
        rintro e w' ⟨rfl, rfl⟩
        go_wp2_with fail
        refine (more_impl (more 0 t) u _ hu8 hm0).mono ?_
        rintro e w' ⟨rfl, rfl⟩
        go_wp2_with fail
        refine (crc_impl (t ++ u) _ HS8.out).mono ?_
        rintro e w' ⟨rfl, rfl⟩
        rw [← HMA.out]
        go_wp2_with fail
        go_ret
        exact ⟨rfl, HBD.out⟩
      · obtain ⟨k, rfl⟩ : ∃ k : Nat, c = (k : Int) := ⟨c.toNat, by omega⟩
        have hk : k < 4294967296 := by omega
        clear hc
        go_wp2_with fail
        refine (more_impl k u _ hu8 hk).mono ?_
        rintro e w' ⟨rfl, rfl⟩
        go_wp2_with fail
        refine (more_spec k u _ hu8 hk).mono ?_
        rintro e w' ⟨rfl, rfl⟩
        have hqk : ((more k u : Nat) : Int) == ((more k u : Nat) : Int) := beq_self_eq_true _
        go_wp2_with fail
        refine (crc_impl t _ ht8).mono ?_
        rintro e w' ⟨rfl, rfl⟩
        go_wp2_with fail
        refine (more_impl (more 0 t) u _ hu8 hm0).mono ?_
        rintro e w' ⟨rfl, rfl⟩
        go_wp2_with fail
        refine (crc_impl (t ++ u) _ HS8.out).mono ?_
        rintro e w' ⟨rfl, rfl⟩
        rw [← HMA.out]
        go_wp2_with fail
        go_ret
        exact ⟨rfl, HBD.out⟩
  · have h7' : t.size ≤ 7996 := by omega
    have hz := seal_size t
    have hem := not_empty (s := sealText t) (by omega)
    have HZ := Lib.hid hz
    have hsz2 : 1 < ((sealText t).size : Int) := by omega
    have hsz3 : ((sealText t).size : Int) ≤ 9223372036854775807 := by omega
    clear h7 hz
    go_wp2_with fail
    refine (seal_impl t _ h7').mono ?_
    rintro e w2 ⟨rfl, hw2⟩
    have HB2 := Lib.hid (below_two HB1.out hw2)
    clear hw2
    go_wp2_with fail
    refine (seal_spec t _ h7').mono ?_
    rintro e w3 ⟨rfl, hw3⟩
    have HB3 := Lib.hid (below_two HB2.out hw3)
    clear hw3
    go_wp2_with (refine wpList_str_bytes rfl (.tmp 29) 9 22 5 rfl Tryd.underlying9 Tryd.underlying22 Tryd.underlying5 (sealText t) rfl w.heap.size w HB3.out HB3.out.size ?_)
    intro g cap w4 hgB hstr hw4
    have HB4 := Lib.hid hw4
    have HS4 := Lib.hid hstr
    have HGB := Lib.hid hgB
    clear hw4 hstr hgB
    go_wp2_with fail
    refine (at_any _ a1 len1 cap1 z1 0 ((sealText t).size : Int) (by omega) hsz3 (by omega) (HR1.out.below HB4.out)).mono ?_
    rintro e w5 ⟨i, hi, _, _, rfl, rfl⟩
    have hi := hi hsz2
    have hi2 : i < (sealText t).size := by omega
    obtain ⟨z, hz, hz8, hzc⟩ : ∃ z : Nat, z = ((sealText t).data.toList[i]'(by rw [list_len]; exact hi2)).toNat ∧ z < 256 ∧ w4.cell? ⟨g, i, none⟩ = some (.int .u8 (z : Int)) := by
      refine ⟨_, rfl, UInt8.toNat_lt _, ?_⟩
      have h := HS4.out.1 i hi2
      rw [Nat.zero_add] at h
      rw [h]
      congr 2
    have hzf := HS4.out.2.1 i hi2
    have HZE := Lib.hid hz
    clear hz
    have HRW := Lib.hid (HR1.out.below HB4.out.drew)
    have H48 : len1 ≤ 281474976710656 := by omega
    go_upto_region 10 with fail
    go_cut [] (fun wx => Changed (sealText t) g i w wx)
    case first =>
      go_region_with (go_at_call 19; refine (at_any w4.drew a1 len1 cap1 z1 1 255 (by decide) (by decide) H48 HRW.out).mono ?_; rintro e w6 ⟨r, hr, _, _, rfl, rfl⟩; have hr := hr (by decide); have hr5 : r < 255 := lt_of_cast hr)
      all_goals
        go_wp2_with fail
        go_meet
        exact changed_drew (changed_of HS4.out hi2 hr5 (by rw [one_more _ hr5, one_byte _ hr5, HZE.out]) rfl HB4.out HGB.out)
    case rest =>
      obtain ⟨y, hy, hby, hbc⟩ := hcut
      have HB5 := Lib.hid hbc
      have HY5 := Lib.hid hby
      have HUS := Lib.hid (un_seal t h7')
      have HUP := Lib.hid (un_put t i y h7' (by rw [list_len]; exact hi2) (hy _))
      have HPZ : Hid ((putAt (sealText t) i y).size = t.size + 4) := Lib.hid (by rw [putAt_size, HZ.out])
      have HG5 := Lib.hid (HG.out.grow HB5.out)
      clear hbc hby hy
      go_wp2_with fail
      refine (uns_impl (sealText t) _ HG5.out (small_text (by rw [HZ.out]; omega))).mono ?_
      rintro e w6 ⟨rfl, hw6⟩
      rw [HUS.out]
      have HN : Hid (textOut (t, 0, 0) = .agg #[.string t, .int .i64 0, .int .i64 0]) := Lib.hid rfl
      rw [HN.out]
      have HB6 := Lib.hid (below_two HB5.out hw6)
      have HG6 := Lib.hid (HG.out.grow HB6.out)
      have hrun : (convert 22 9 (.slice (some ⟨g, 0, none⟩) (sealText t).size cap)).run Tryd.prog w6 = .ok (.string (putAt (sealText t) i y)) w6 := by
        have h := Lib.run_convert_whole (P := Tryd.prog) w6 22 5 9 Tryd.underlying22 Tryd.underlying5 Tryd.underlying9 g 0 (putAt (sealText t) i y) (bytes_below HY5.out hw6) cap
        rw [putAt_size] at h
        exact h
      clear hw6
      go_wp2_with fail
      clear hrun
      refine (uns_impl (putAt (sealText t) i y) _ HG6.out (small_text (by rw [HPZ.out]; omega))).mono ?_
      rintro e w7 ⟨rfl, hw7⟩
      rw [HUP.out]
      have HN2 : Hid (textOut (⟨#[]⟩, 0, 5) = .agg #[.string ⟨#[]⟩, .int .i64 0, .int .i64 5]) := Lib.hid rfl
      rw [HN2.out]
      have HB7 := Lib.hid (below_two HB6.out hw7)
      clear hw7
      have f31 := fld31
      go_wp2_with fail
      clear f31
      have HBX := Lib.hid HB7.out
      refine (draw_more _ a1 len1 cap1 z1 (by omega) (HR1.out.below HBX.out)).mono ?_
      rintro e wD ⟨_, ⟨c, u, c0, c1, hu, rfl⟩, rfl, hwD⟩
      have HBD := Lib.hid (below_two HBX.out hwD)
      clear hwD
      by_cases h8 : 8000 < t.size + u.size
      · have dq : decide (8000 < (t.size : Int) + (u.size : Int)) = true := decide_eq_true (by omega)
        go_wp2_with fail
        go_ret
        exact ⟨rfl, HBD.out⟩
      · have dq : decide (8000 < (t.size : Int) + (u.size : Int)) = false := decide_eq_false (by omega)
        have ht8 : t.size ≤ 8000 := by omega
        have hu8 : u.size ≤ 8000 := by omega
        have hm0 := more_lt 0 t
        have HS8 : Hid ((t ++ u).size ≤ 8000) := Lib.hid (by rw [app_size]; omega)
        have HMA := Lib.hid (more_app t u)
        have hq : ((more (more 0 t) u : Nat) == (more 0 (t ++ u) : Nat)) = true := by rw [more_app]; exact beq_self_eq_true _
        have hq' : (((more (more 0 t) u : Nat) : Int) == ((more 0 (t ++ u) : Nat) : Int)) = true := by rw [more_app]; exact beq_self_eq_true _
        clear h8
        have HQ := Lib.hid hq
        have HQ' := Lib.hid hq'
        clear hq hq'
        by_cases hc : c < 0 ∨ 4294967295 < c
        · go_wp2_with fail
          refine (more_impl_no c u _ (small_text (by omega)) (Or.inr hc)).mono ?_
          rintro e w' ⟨rfl, rfl⟩
          go_wp2_with fail
          refine (more_spec_no c u _ (small_text (by omega)) (Or.inr hc)).mono ?_
          rintro e w' ⟨rfl, rfl⟩
          go_wp2_with fail
          refine (crc_impl t _ ht8).mono ?_
          rintro e w' ⟨rfl, rfl⟩
          go_wp2_with fail
          refine (more_impl (more 0 t) u _ hu8 hm0).mono ?_
          rintro e w' ⟨rfl, rfl⟩
          go_wp2_with fail
          refine (crc_impl (t ++ u) _ HS8.out).mono ?_
          rintro e w' ⟨rfl, rfl⟩
          rw [← HMA.out]
          go_wp2_with fail
          go_ret
          exact ⟨rfl, HBD.out⟩
        · obtain ⟨k, rfl⟩ : ∃ k : Nat, c = (k : Int) := ⟨c.toNat, by omega⟩
          have hk : k < 4294967296 := by omega
          clear hc
          go_wp2_with fail
          refine (more_impl k u _ hu8 hk).mono ?_
          rintro e w' ⟨rfl, rfl⟩
          go_wp2_with fail
          refine (more_spec k u _ hu8 hk).mono ?_
          rintro e w' ⟨rfl, rfl⟩
          have hqk : ((more k u : Nat) : Int) == ((more k u : Nat) : Int) := beq_self_eq_true _
          go_wp2_with fail
          refine (crc_impl t _ ht8).mono ?_
          rintro e w' ⟨rfl, rfl⟩
          go_wp2_with fail
          refine (more_impl (more 0 t) u _ hu8 hm0).mono ?_
          rintro e w' ⟨rfl, rfl⟩
          go_wp2_with fail
          refine (crc_impl (t ++ u) _ HS8.out).mono ?_
          rintro e w' ⟨rfl, rfl⟩
          rw [← HMA.out]
          go_wp2_with fail
          go_ret
          exact ⟨rfl, HBD.out⟩
end Go.Proofs.YtghcolobjfgfgaaDoor
