/- impl.escaped and impl.unescape: the walks. -/
import Derived.Test.YtjoobpieomhklaaDoorDec
import Derived.Test.YtjoobpieomhklaaDoorShelf
namespace Go.Proofs.YtjoobpieomhklaaDoor
open Go Go.RowKit Go.Lib
set_option linter.unusedVariables false

theorem index_hex (c : UInt8) : Lib.indexByte hexL c = digV c := by
  have h : ∀ n : Fin 256, Lib.indexByte hexL (UInt8.ofNat n.val) = digV (UInt8.ofNat n.val) := by decide +kernel
  have h1 := h ⟨c.toNat, UInt8.toNat_lt c⟩
  simpa using h1
theorem u8_back (c : UInt8) : ((c.toNat : Int)).toNat.toUInt8 = c := by
  rw [Int.toNat_natCast]
  simp
theorem idx_any (c : UInt8) (w : World) : Calls Tryd.prog 42 #[.string { data := #[48, 49, 50, 51, 52, 53, 54, 55, 56, 57, 65, 66, 67, 68, 69, 70] }, .int .u8 (c.toNat : Int)] w fun e w' => e = .returned (.int .i64 (digV c)) ∧ w = w' :=
  (Tryd.strings_IndexByte _ _ w).mono fun e w' ⟨h1, h2⟩ => ⟨by rw [h1, u8_back, ← index_hex]; rfl, h2.symm⟩

def EscTuple (l : List UInt8) (v : Value) : Prop := (¬ HitP l ∧ v = .tuple #[.int .u8 0, .bool false]) ∨ ∃ (a b : UInt8) (r : List UInt8), l = 37 :: a :: b :: r ∧ HitP l ∧ v = .tuple #[.int .u8 ((hexB a b).toNat : Int), .bool true]
def EscRes (l : List UInt8) (w : World) (e : Ending) (w' : World) : Prop := ∃ v, EscTuple l v ∧ e = .returned v ∧ w = w'
theorem three_bytes (s : ByteArray) (h : 3 ≤ s.size) : s.data.toList = s[0] :: s[1] :: s[2] :: s.data.toList.drop 3 := by
  have h0 := drop_cons s 0 (by omega)
  have h1 := drop_cons s 1 (by omega)
  have h2 := drop_cons s 2 (by omega)
  rw [List.drop_zero] at h0
  rw [h1, h2] at h0
  exact h0
theorem hex_or (x y : Int) (hx : 0 ≤ x) (hx' : x < 16) (hy : 0 ≤ y) (hy' : y < 16) : bits .or .i64 (x * 16) y = 16 * x + y := by
  obtain ⟨n, rfl⟩ := Int.eq_ofNat_of_zero_le hx
  obtain ⟨m, rfl⟩ := Int.eq_ofNat_of_zero_le hy
  have h : ∀ n m : Fin 16, bits .or .i64 (((n.val : Nat) : Int) * 16) ((m.val : Nat) : Int) = 16 * ((n.val : Nat) : Int) + ((m.val : Nat) : Int) := by decide +kernel
  exact h ⟨n, by omega⟩ ⟨m, by omega⟩

set_option maxRecDepth 100000 in
theorem escaped_any (s : ByteArray) (w : World) (hs : s.size ≤ 1048576) : Calls Tryd.prog 34 #[.string s] w (EscRes s.data.toList w) := by
  by_cases h3 : s.size < 3
  · have HN : Hid (¬ HitP s.data.toList) := Lib.hid (fun h => by
      have hl : s.data.toList.length ≤ 2 := by rw [← size_eq]; omega
      match hx : s.data.toList, hl with
      | [], _ => rw [hx] at h; exact h
      | [_], _ => rw [hx] at h; exact h
      | [_, _], _ => rw [hx] at h; exact h)
    go_enter Tryd.func34, Tryd.ntmps34
    go_wp2_with fail
    go_ret2
    exact ⟨_, .inl ⟨HN.out, rfl⟩, rfl, rfl⟩
  · have k0 : 0 < s.size := by omega
    have k1 : 1 < s.size := by omega
    have k2 : 2 < s.size := by omega
    have d3 : decide ((s.size : Int) < 3) = false := decide_eq_false (by omega)
    have HL := Lib.hid (three_bytes s (by omega))
    by_cases g0 : s[0].toNat = 37
    · have hc : ((s[0].toNat : Int) != 37) = false := by rw [bne_eq_false_iff_eq, g0]; rfl
      have G0 : Hid (s[0] = 37) := Lib.hid (UInt8.toNat_inj.1 g0)
      clear g0
      by_cases g1 : HexP s[1].toNat
      · by_cases g2 : HexP s[2].toNat
        · have v0 : 0 ≤ digV s[1] := by rw [digV_yes g1]; omega
          have v1 := digV_lt s[1]
          have v2 : 0 ≤ digV s[2] := by rw [digV_yes g2]; omega
          have v3 := digV_lt s[2]
          have HX : Hid ((16 : Int) * digV s[1] + digV s[2] = ((hexB s[1] s[2]).toNat : Int)) := Lib.hid (by rw [digV_yes g1, digV_yes g2, hexB_toNat g1 g2]; omega)
          have HB : Hid (((hexB s[1] s[2]).toNat : Int) = bits .or .i64 (digV s[1] * 16) (digV s[2]) % 256) := Lib.hid (by rw [hex_or (digV s[1]) (digV s[2]) v0 v1 v2 v3, HX.out]; have := UInt8.toNat_lt (hexB s[1] s[2]); omega)
          have HO := Lib.hid (hex_or (digV s[1]) (digV s[2]) v0 v1 v2 v3)
          have HH : Hid (HitP s.data.toList) := Lib.hid (by rw [HL.out]; exact ⟨G0.out, g1, g2⟩)
          clear g1 g2
          go_enter Tryd.func34, Tryd.ntmps34
          go_wp2_with (go_at_call 42; refine (idx_any _ _).mono ?_; rintro e w' ⟨rfl, rfl⟩)
          go_ret2
          exact ⟨_, .inr ⟨s[1], s[2], s.data.toList.drop 3, by rw [← G0.out]; exact HL.out, HH.out, rfl⟩, by rw [HB.out]; rfl, rfl⟩
        · have v0 : 0 ≤ digV s[1] := by rw [digV_yes g1]; omega
          have v2 : digV s[2] < 0 := by rw [digV_no g2]; omega
          have v4 : decide (digV s[1] < 0) = false := decide_eq_false (by omega)
          have HN : Hid (¬ HitP s.data.toList) := Lib.hid (by rw [HL.out]; exact fun h => g2 h.2.2)
          clear g1 g2
          go_enter Tryd.func34, Tryd.ntmps34
          go_wp2_with (go_at_call 42; refine (idx_any _ _).mono ?_; rintro e w' ⟨rfl, rfl⟩)
          go_ret2
          exact ⟨_, .inl ⟨HN.out, rfl⟩, rfl, rfl⟩
      · have v2 : digV s[1] < 0 := by rw [digV_no g1]; omega
        have HN : Hid (¬ HitP s.data.toList) := Lib.hid (by rw [HL.out]; exact fun h => g1 h.2.1)
        clear g1
        go_enter Tryd.func34, Tryd.ntmps34
        go_wp2_with (go_at_call 42; refine (idx_any _ _).mono ?_; rintro e w' ⟨rfl, rfl⟩)
        go_ret2
        exact ⟨_, .inl ⟨HN.out, rfl⟩, rfl, rfl⟩
    · have hc : ((s[0].toNat : Int) != 37) = true := by rw [bne_iff_ne]; omega
      have HN : Hid (¬ HitP s.data.toList) := Lib.hid (by rw [HL.out]; exact fun h => g0 (by rw [h.1]; rfl))
      clear g0
      go_enter Tryd.func34, Tryd.ntmps34
      go_wp2_with fail
      go_ret2
      exact ⟨_, .inl ⟨HN.out, rfl⟩, rfl, rfl⟩

def UnRel (s : ByteArray) (w : World) (b i : Value) (wr : World) : Prop := DecRel s w b i wr
theorem extract_drop (s : ByteArray) (k : Nat) : (s.extract k s.size).data.toList = s.data.toList.drop k := by
  have hl : s.data.toList.length = s.size := (size_eq s).symm
  rw [extract_data, List.take_of_length_le (by rw [List.length_drop]; omega)]
set_option maxRecDepth 100000 in
theorem unescape_any (s : ByteArray) (w : World) (hs : s.size ≤ 1048576) :
    Calls Tryd.prog 24 #[.string s] w fun e w' => e = .returned (.string ⟨(decL s.data.toList).toArray⟩) ∧ Below w.heap.size w w' := by
  obtain ⟨i5, hi, hz0, hz1, hz2⟩ := info_parts info5
  go_enter Tryd.func24, Tryd.ntmps24
  go_wp2_with (at_make; refine wpList_make_own _ rfl (.const (.int .i64 0)) (.tmp 8) 45 rfl w.heap.size 5 i5 _ 1 Tryd.underlying45 hi hz0 hz1 .i64 .i64 _ s.size rfl rfl rfl (by rw [hz2]; omega) (by unfold maxLen; omega) (Nat.le_refl _) ?_)
  intro w1 hown hgr
  have HB0 : Hid (Buf 5 w w1 (.slice (some ⟨w.heap.size, 0, none⟩) 0 s.size) []) := Lib.hid ⟨World.ownsRowF_of hown, (Below.refl w.heap.size w).grown hgr (Nat.le_refl _) (fun k hk => by cases hk), hgr.size⟩
  clear hown hgr
  go_wp2_with fail
  go_loopw [3, 4] (DecRel s w) (fun _ i _ => s.size - (RowKit.intOf i).toNat)
  case atStart => exact ⟨0, [], by omega, rfl, by simp, by simp, HB0.out⟩
  case round =>
    obtain ⟨k, pre, hk, rfl, hpl, he, hb⟩ := hrel
    have HB := Lib.hid hb
    have HE := Lib.hid he
    clear hb he
    by_cases hlt : k < s.size
    · have HD := Lib.hid (drop_cons s k hlt)
      have HX := Lib.hid (extract_drop s k)
      have hpl1 : pre.length + 1 ≤ 140737488355328 := by omega
      have hes : (s.extract k s.size).size ≤ 1048576 := by rw [size_eq, extract_drop, List.length_drop, ← size_eq]; omega
      go_wp2_with fail
      refine (escaped_any (s.extract k s.size) _ hes).mono ?_
      rintro e w2 ⟨v, hv, rfl, rfl⟩
      rw [HX.out] at hv
      rcases hv with ⟨hn, rfl⟩ | ⟨x, y, r, hl, hh, rfl⟩
      · have HS := Lib.hid (show decL (s.data.toList.drop k) = s[k] :: decL (s.data.toList.drop (k + 1)) by rw [HD.out] at hn ⊢; exact decL_miss hn)
        clear hn
        go_wp2_with (at_builtin; refine wpList_push rfl (.tmp 25) (.tmp 29) 45 5 rfl i5 Tryd.underlying45 hi hz0 hz1 hz2 w _ _ _ _ rfl HB.out rfl hpl1 ?_)
        intro v' w1 hb1
        have HB1 := Lib.hid hb1
        clear hb1
        go_wp2_with fail
        go_roundw
        case rel => exact ⟨k + 1, pre ++ [s[k]], by omega, by go_num, by rw [List.length_append, List.length_singleton]; omega, by rw [← HE.out, HS.out, List.append_assoc]; rfl, HB1.out⟩
        case measure => simp [RowKit.intOf]; omega
      · have hk2 : k + 2 < s.size := by
          have h1 : (s.data.toList.drop k).length = r.length + 3 := by rw [hl]; simp
          rw [List.length_drop, ← size_eq] at h1
          omega
        have HS : Hid (decL (s.data.toList.drop k) = hexB x y :: decL (s.data.toList.drop (k + 2 + 1))) := Lib.hid (by
          have h3 : s.data.toList.drop (k + 2 + 1) = r := by
            rw [show k + 2 + 1 = k + 3 by omega, ← List.drop_drop, hl]
            rfl
          rw [h3]
          rw [hl] at hh ⊢
          exact decL_hit hh)
        clear hl hh
        go_wp2_with (at_builtin; refine wpList_push rfl (.tmp 31) (.tmp 33) 45 5 rfl i5 Tryd.underlying45 hi hz0 hz1 hz2 w _ _ _ _ rfl HB.out rfl hpl1 ?_)
        intro v' w1 hb1
        have HB1 := Lib.hid hb1
        clear hb1
        go_wp2_with fail
        go_roundw
        case rel => exact ⟨k + 2 + 1, pre ++ [hexB x y], by omega, by go_num, by rw [List.length_append, List.length_singleton]; omega, by rw [← HE.out, HS.out, List.append_assoc]; rfl, HB1.out⟩
        case measure => simp [RowKit.intOf]; omega
    · obtain rfl : k = s.size := by omega
      have HE2 : Hid ((⟨pre.toArray⟩ : ByteArray) = ⟨(decL s.data.toList).toArray⟩) := Lib.hid (by
        have h := HE.out
        rw [List.drop_eq_nil_of_le (by rw [← size_eq]; exact Nat.le_refl _), decL_nil, List.append_nil] at h
        rw [h])
      go_wp2_with (refine wpList_buf_str rfl (.tmp 37) 45 9 5 rfl Tryd.underlying45 Tryd.underlying5 Tryd.underlying9 w _ _ rfl HB.out ?_)
      go_wp2_with fail
      go_ret
      exact ⟨ret_str HE2.out, HB.out.below⟩
end Go.Proofs.YtjoobpieomhklaaDoor
