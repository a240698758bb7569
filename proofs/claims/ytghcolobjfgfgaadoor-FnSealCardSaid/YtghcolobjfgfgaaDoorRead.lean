/- readNum: the program's function, a loop of goto. -/
import Derived.Test.YtghcolobjfgfgaaDoorGet
import Derived.Test.YtghcolobjfgfgaaDoorJumps
namespace Go.Proofs.YtghcolobjfgfgaaDoor
open Go Go.RowKit
attribute [local go_sem] Jumps_ret Jumps_normal Jumps_goto

def errV (c : Int) : Value := .iface 69 (.agg #[.int .i64 c])
theorem place_ok (s : ByteArray) (p : Nat) (w : World) (hs : s.size ≤ 8000) :
    Calls Tryd.prog 48 #[.string s, .int .i64 p] w fun e w' => e = .returned .nilIface ∧ w = w' := by
  go_enter Tryd.func48, Tryd.ntmps48
  go_wp2
  go_ret
  exact ⟨rfl, rfl⟩
theorem place_big (s : ByteArray) (p : Int) (w : World) (hs : s.size ≤ maxLen) (h : 8000 < s.size) :
    Calls Tryd.prog 48 #[.string s, .int .i64 p] w fun e w' => e = .returned (.iface 69 (.agg #[.int .i64 2])) ∧ w = w' := by
  unfold maxLen at hs
  go_enter Tryd.func48, Tryd.ntmps48
  go_wp2
  go_ret
  exact ⟨rfl, rfl⟩
theorem place_neg (s : ByteArray) (p : Int) (w : World) (hs : s.size ≤ 8000) (h : p < 0) :
    Calls Tryd.prog 48 #[.string s, .int .i64 p] w fun e w' => e = .returned (.iface 69 (.agg #[.int .i64 1])) ∧ w = w' := by
  go_enter Tryd.func48, Tryd.ntmps48
  go_wp2
  go_ret
  exact ⟨rfl, rfl⟩

/-- What is told of what was read. -/
def rdOut (R : Int × Int × Int) : Value := .tuple #[.int .i64 R.1, .int .i64 R.2.1, if R.2.2 = 0 then .nilIface else errV R.2.2]
theorem ret_i64 {a b : Int} (h : a = b) : Ending.returned (.int .i64 a) = .returned (.int .i64 b) := by rw [h]
theorem unfold_any (y : Nat) (w : World) (hy : y < 18446744073709551616) :
    Calls Tryd.prog 49 #[.int .u64 y] w fun e w' => e = .returned (.int .i64 (Rd.unf y)) ∧ w = w' := by
  have HU := Lib.hid (Rd.unf_bits y hy)
  go_enter Tryd.func49, Tryd.ntmps49
  go_wp2_with fail
  go_ret
  exact ⟨ret_i64 HU.out, rfl⟩
def More (s : ByteArray) (p : Nat) (R : Int × Int × Int) (a : Act) : Prop := ∃ k x : Nat, k ≤ 9 ∧ x < 2 ^ (7 * k) ∧ Rd.rd s p (10 - k) k x = R ∧
  ∃ u2 u3 u4 u5 u6 u7 u9 u12 u13 u14 u15 u16 u17 u18 u19 u20 u21 u22 u23 u24 u25 u26 u27 u28 u29 u30 u31 u32 u33 u34 u35 u36 u37 u38 u39 u40 u41 u42 u43 u44 u45 u46 u47 u48 u49 u50 u51 u52 u53 u54 u55 u56 u57 u58 u59 u60 u61 u62 : Value,  a = { tmps := #[.string s, .int .i64 p, u2, u3, u4, u5, u6, u7, .int .u64 x, u9, .int .i64 k, .int .i64 ((s.size : Int) - p), u12, u13, u14, u15, u16, u17, u18, u19, u20, u21, u22, u23, u24, u25, u26, u27, u28, u29, u30, u31, u32, u33, u34, u35, u36, u37, u38, u39, u40, u41, u42, u43, u44, u45, u46, u47, u48, u49, u50, u51, u52, u53, u54, u55, u56, u57, u58, u59, u60, u61, u62], defers := [] }
def Last (s : ByteArray) (p : Nat) (R : Int × Int × Int) (a : Act) : Prop := ∃ k y c : Nat, k ≤ 9 ∧ y < 18446744073709551616 ∧ c < 128 ∧ p + k < s.size ∧ R = (if c = 0 ∧ 0 < k then (0, 0, 3) else (Rd.unf y, ((p + k + 1 : Nat) : Int), 0)) ∧
  ∃ u2 u3 u4 u5 u6 u7 u11 u12 u13 u14 u15 u16 u17 u18 u19 u20 u21 u22 u23 u24 u25 u26 u27 u28 u29 u30 u31 u32 u33 u34 u35 u36 u37 u38 u39 u40 u41 u42 u43 u44 u45 u46 u47 u48 u49 u50 u51 u52 u53 u54 u55 u56 u57 u58 u59 u60 u61 u62 : Value,  a = { tmps := #[.string s, .int .i64 p, u2, u3, u4, u5, u6, u7, .int .u64 y, .int .u8 c, .int .i64 ((k : Int) + 1), u11, u12, u13, u14, u15, u16, u17, u18, u19, u20, u21, u22, u23, u24, u25, u26, u27, u28, u29, u30, u31, u32, u33, u34, u35, u36, u37, u38, u39, u40, u41, u42, u43, u44, u45, u46, u47, u48, u49, u50, u51, u52, u53, u54, u55, u56, u57, u58, u59, u60, u61, u62], defers := [] }
def Wrong (s : ByteArray) (p : Nat) (R : Int × Int × Int) (a : Act) : Prop := R = (0, 0, 3) ∧
  ∃ u2 u3 u4 u5 u6 u7 u8 u9 u10 u11 u12 u13 u14 u15 u16 u17 u18 u19 u20 u21 u22 u23 u24 u25 u26 u27 u28 u29 u30 u31 u32 u33 u34 u35 u36 u37 u38 u39 u40 u41 u42 u43 u44 u45 u46 u47 u48 u49 u50 u51 u52 u53 u54 u55 u56 u57 u58 u59 u60 u61 u62 : Value,  a = { tmps := #[.string s, .int .i64 p, u2, u3, u4, u5, u6, u7, u8, u9, u10, u11, u12, u13, u14, u15, u16, u17, u18, u19, u20, u21, u22, u23, u24, u25, u26, u27, u28, u29, u30, u31, u32, u33, u34, u35, u36, u37, u38, u39, u40, u41, u42, u43, u44, u45, u46, u47, u48, u49, u50, u51, u52, u53, u54, u55, u56, u57, u58, u59, u60, u61, u62], defers := [] }
def AtLabel (s : ByteArray) (p : Nat) (R : Int × Int × Int) (w : World) (l : Nat) (a : Act) (w' : World) : Prop :=
  w' = w ∧ ((l = 0 ∧ More s p R a) ∨ (l = 2 ∧ Last s p R a) ∨ (l = 1 ∧ Wrong s p R a))
def left (l : Nat) (a : Act) (_ : World) : Nat := if l = 0 then 30 - (RowKit.intOf (a.tmps.getD 10 undef)).toNat else l

set_option maxRecDepth 100000 in
set_option maxHeartbeats 2000000 in
theorem read_in (s : ByteArray) (p : Nat) (w : World) (hs : s.size ≤ 8000) (hp : p ≤ 9223372036854775807) :
    Calls Tryd.prog 34 #[.string s, .int .i64 p] w fun e w' => e = .returned (rdOut (Rd.rd s p 10 0 0)) ∧ w = w' := by
  go_enter Tryd.func34, Tryd.ntmps34
  go_wp2_with fail
  refine wp_scope_labels (AtLabel s p (Rd.rd s p 10 0 0) w) left ?_ ?_
  · go_wp2_with (go_at_call 48; refine (place_ok s p _ hs).mono ?_; rintro e w' ⟨rfl, rfl⟩)
    go_step3
    by_cases hlt : p < s.size
    · have hcb : s[p].toNat < 256 := UInt8.toNat_lt _
      have hput := Rd.put_or0 (h := hlt)
      have hy := Rd.put_lt64 (s := s) (p := p) (k := 0) (u := 0) (h := hlt) (by omega) (by decide) (by omega)
      have HY := Lib.hid (Rd.put_lt (s := s) (p := p) (k := 0) (u := 0) (h := hlt) (by decide))
      by_cases hc : s[p].toNat < 128
      · have dc : decide ((s[p].toNat : Int) < 128) = true := decide_eq_true (by omega)
        have HE := Lib.hid (Rd.rd_last (s := s) (p := p) (k := 0) (u := 0) (by omega) hlt (by omega) hc)
        generalize Rd.put s p 0 0 hlt = y at *
        go_wp2_with fail
        go_step3
        refine ⟨rfl, Or.inr (Or.inl ⟨rfl, 0, y, s[p].toNat, by omega, hy, hc, hlt, HE.out, ?_⟩)⟩
        repeat' (first | rfl | apply Exists.intro)
      · have HE := Lib.hid (Rd.rd_more (s := s) (p := p) (k := 0) (u := 0) (by omega) hlt (show 128 ≤ s[p].toNat by omega))
        have dc : decide ((s[p].toNat : Int) < 128) = false := decide_eq_false (by omega)
        generalize Rd.put s p 0 0 hlt = y at *
        go_wp2_with fail
        go_step3
        refine ⟨rfl, Or.inl ⟨rfl, 1, y, by omega, HY.out, HE.out.symm, ?_⟩⟩
        repeat' (first | rfl | apply Exists.intro)
    · have HE := Lib.hid (Rd.rd_short (s := s) (p := p) (k := 0) (u := 0) (by omega) (show s.size ≤ p by omega))
      go_wp2_with fail
      simp only [Jumps_ret]
      go_ret3
      exact ⟨by rw [HE.out]; rfl, rfl⟩
  · rintro l a w' ⟨rfl, ⟨rfl, hm⟩ | ⟨rfl, hm⟩ | ⟨rfl, hm⟩⟩
    · obtain ⟨k, x, hk, hx, hr, u2, u3, u4, u5, u6, u7, u9, u12, u13, u14, u15, u16, u17, u18, u19, u20, u21, u22, u23, u24, u25, u26, u27, u28, u29, u30, u31, u32, u33, u34, u35, u36, u37, u38, u39, u40, u41, u42, u43, u44, u45, u46, u47, u48, u49, u50, u51, u52, u53, u54, u55, u56, u57, u58, u59, u60, u61, u62, rfl⟩ := hm
      refine ⟨_, rfl, ?_⟩
      have HR := Lib.hid hr
      have HX := Lib.hid hx
      clear hr hx
      by_cases hlt : p + k < s.size
      · have hcb : s[p + k].toNat < 256 := UInt8.toNat_lt _
        by_cases hbig : k = 9 ∧ 1 < s[p + k].toNat
        · have HE := Lib.hid (Rd.rd_big (u := x) hbig.1 hlt hbig.2)
          have hk9 : 9 ≤ k := by omega
          have e9 : ((k : Int) == 9) = true := by rw [beq_iff_eq]; omega
          have d1 : decide (1 < (s[p + k].toNat : Int)) = true := decide_eq_true (by omega)
          clear hbig
          go_wp2_with fail
          go_step3
          refine ⟨⟨rfl, Or.inr (Or.inr ⟨rfl, by rw [← HR.out, HE.out], ?_⟩)⟩, ?_⟩
          · repeat' (first | rfl | apply Exists.intro)
          · simp [left, RowKit.intOf]; omega
        have h9 : ((k : Int) == 9) = false ∨ (((k : Int) == 9) = true ∧ decide (1 < (s[p + k].toNat : Int)) = false) := by
          by_cases e : k = 9
          · exact Or.inr ⟨by rw [beq_iff_eq]; omega, decide_eq_false (by omega)⟩
          · exact Or.inl (by rw [beq_eq_false_iff_ne]; omega)
        have hput := Rd.put_or (h := hlt) hk HX.out hbig
        have hy := Rd.put_lt64 (h := hlt) hk HX.out hbig
        have HY := Lib.hid (Rd.put_lt (h := hlt) HX.out)
        by_cases hc : s[p + k].toNat < 128
        · have dc : decide ((s[p + k].toNat : Int) < 128) = true := decide_eq_true (by omega)
          have HE := Lib.hid (HR.out.symm.trans (Rd.rd_last hk hlt hbig hc))
          generalize Rd.put s p k x hlt = y at *
          clear hbig
          rcases h9 with e9 | ⟨e9, d9⟩
          all_goals
            go_wp2_with fail
            go_step3
            refine ⟨⟨rfl, Or.inr (Or.inl ⟨rfl, k, y, s[p + k].toNat, hk, hy, hc, hlt, HE.out, ?_⟩)⟩, ?_⟩
            · repeat' (first | rfl | apply Exists.intro)
            · simp [left, RowKit.intOf]; omega
        · have hk9 : k < 9 := by omega
          have HE := Lib.hid (Rd.rd_more (u := x) hk9 hlt (by omega))
          have e9 : ((k : Int) == 9) = false := by rw [beq_eq_false_iff_ne]; omega
          have dc : decide ((s[p + k].toNat : Int) < 128) = false := decide_eq_false (by omega)
          generalize Rd.put s p k x hlt = y at *
          clear hbig h9
          go_wp2_with fail
          go_step3
          refine ⟨⟨rfl, Or.inl ⟨rfl, k + 1, y, by omega, HY.out, by rw [← HE.out, HR.out], ?_⟩⟩, ?_⟩
          · repeat' (first | rfl | apply Exists.intro)
          · simp [left, RowKit.intOf]; omega
      · have HE := Lib.hid (Rd.rd_short (u := x) hk (show s.size ≤ p + k by omega))
        go_wp2_with fail
        go_ret3
        exact ⟨by rw [← HR.out, HE.out]; rfl, rfl⟩
    · obtain ⟨k, y, c, hk, hy, hc, hlt, hr, u2, u3, u4, u5, u6, u7, u11, u12, u13, u14, u15, u16, u17, u18, u19, u20, u21, u22, u23, u24, u25, u26, u27, u28, u29, u30, u31, u32, u33, u34, u35, u36, u37, u38, u39, u40, u41, u42, u43, u44, u45, u46, u47, u48, u49, u50, u51, u52, u53, u54, u55, u56, u57, u58, u59, u60, u61, u62, rfl⟩ := hm
      refine ⟨_, rfl, ?_⟩
      by_cases hz : c = 0 ∧ 0 < k
      · rw [if_pos hz] at hr
        have HR := Lib.hid hr
        have z1 : ((c : Int) == 0) = true := by rw [beq_iff_eq]; omega
        have z2 : 0 < k := hz.2
        have z3 : decide (1 < (k : Int) + 1) = true := decide_eq_true (by omega)
        clear hr hz
        go_wp2_with fail
        go_step3
        refine ⟨⟨rfl, Or.inr (Or.inr ⟨rfl, HR.out, ?_⟩)⟩, ?_⟩
        · repeat' (first | rfl | apply Exists.intro)
        · simp [left]
      · rw [if_neg hz] at hr
        have HR := Lib.hid hr
        have hz' : ((c : Int) == 0) = false ∨ (((c : Int) == 0) = true ∧ ¬ 0 < k ∧ decide (1 < (k : Int) + 1) = false) := by
          by_cases e : c = 0
          · exact Or.inr ⟨by rw [beq_iff_eq]; omega, by omega, decide_eq_false (by omega)⟩
          · exact Or.inl (by rw [beq_eq_false_iff_ne]; omega)
        clear hr hz
        rcases hz' with z1 | ⟨z1, z2, z3⟩
        all_goals
          go_wp2_with (go_at_call 49; refine (unfold_any y _ hy).mono ?_; rintro e w' ⟨rfl, rfl⟩)
          go_ret3
          exact ⟨by rw [HR.out]; simp [rdOut]; omega, rfl⟩
    · obtain ⟨hr, u2, u3, u4, u5, u6, u7, u8, u9, u10, u11, u12, u13, u14, u15, u16, u17, u18, u19, u20, u21, u22, u23, u24, u25, u26, u27, u28, u29, u30, u31, u32, u33, u34, u35, u36, u37, u38, u39, u40, u41, u42, u43, u44, u45, u46, u47, u48, u49, u50, u51, u52, u53, u54, u55, u56, u57, u58, u59, u60, u61, u62, rfl⟩ := hm
      refine ⟨_, rfl, ?_⟩
      have HR := Lib.hid hr
      clear hr
      go_wp2_with fail
      go_ret3
      exact ⟨by rw [HR.out]; rfl, rfl⟩
end Go.Proofs.YtghcolobjfgfgaaDoor
