/- spec.l02Decode: the walk. -/
import Derived.Test.YtjoobpieomhklaaDoorDecMath
import Derived.Test.YtjoobpieomhklaaDoorCode1
import Derived.Test.YtjoobpieomhklaaDoorSplit
import Derived.IntWalk
namespace Go.Proofs.YtjoobpieomhklaaDoor
open Go Go.RowKit Go.Lib
set_option linter.unusedVariables false

theorem ret_i64 {a b : Int} (h : a = b) : Ending.returned (.int .i64 a) = .returned (.int .i64 b) := by rw [h]
theorem digit_spec_yes (c : UInt8) (w : World) (h : HexP c.toNat) : Calls Tryd.prog 30 #[.int .u8 (c.toNat : Int)] w fun e w' => e = .returned (.int .i64 (hexV c.toNat : Nat)) ∧ w = w' := by
  obtain ⟨n, hn⟩ : ∃ n, n = c.toNat := ⟨_, rfl⟩
  rw [← hn] at h ⊢
  clear hn
  by_cases h1 : 48 ≤ n ∧ n ≤ 57
  · have HV : Hid (hexV n = n - 48) := Lib.hid (by unfold hexV; rw [if_pos h1.2])
    obtain ⟨a, b⟩ := h1
    clear h
    go_enter Tryd.func30, Tryd.ntmps30
    go_wp2_with fail
    go_ret
    exact ⟨ret_i64 (by rw [HV.out]; omega), rfl⟩
  · have h2 : 65 ≤ n ∧ n ≤ 70 := by unfold HexP at h; omega
    have HV : Hid (hexV n = n - 55) := Lib.hid (by unfold hexV; rw [if_neg (by omega)])
    obtain ⟨a, b⟩ := h2
    have d1 : decide ((n : Int) ≤ 57) = false := decide_eq_false (by omega)
    clear h h1
    go_enter Tryd.func30, Tryd.ntmps30
    go_wp2_with fail
    go_ret
    exact ⟨ret_i64 (by rw [HV.out]; omega), rfl⟩
theorem digit_spec_no (c : UInt8) (w : World) (h : ¬ HexP c.toNat) : Calls Tryd.prog 30 #[.int .u8 (c.toNat : Int)] w fun e w' => e = .returned (.int .i64 (-1)) ∧ w = w' := by
  obtain ⟨n, hn⟩ : ∃ n, n = c.toNat := ⟨_, rfl⟩
  rw [← hn] at h ⊢
  clear hn
  have h1 : n < 48 ∨ 57 < n := by unfold HexP at h; omega
  have h2 : n < 65 ∨ 70 < n := by unfold HexP at h; omega
  clear h
  by_cases a1 : 48 ≤ n
  · have d1 : decide ((n : Int) ≤ 57) = false := decide_eq_false (by omega)
    by_cases a2 : 65 ≤ n
    · have d2 : decide ((n : Int) ≤ 70) = false := decide_eq_false (by omega)
      clear h1 h2
      go_enter Tryd.func30, Tryd.ntmps30
      go_wp2_with fail
      go_ret
      exact ⟨rfl, rfl⟩
    · have d2 : decide (65 ≤ (n : Int)) = false := decide_eq_false (by omega)
      clear h1 h2
      go_enter Tryd.func30, Tryd.ntmps30
      go_wp2_with fail
      go_ret
      exact ⟨rfl, rfl⟩
  · have d1 : decide (48 ≤ (n : Int)) = false := decide_eq_false (by omega)
    have d2 : decide (65 ≤ (n : Int)) = false := decide_eq_false (by omega)
    clear h1 h2
    go_enter Tryd.func30, Tryd.ntmps30
    go_wp2_with fail
    go_ret
    exact ⟨rfl, rfl⟩

/-- What a digit counts; -1: it is none. -/
def digV (c : UInt8) : Int := if HexP c.toNat then (hexV c.toNat : Nat) else -1
theorem digV_yes {c : UInt8} (h : HexP c.toNat) : digV c = (hexV c.toNat : Nat) := by unfold digV; rw [if_pos h]
theorem digV_no {c : UInt8} (h : ¬ HexP c.toNat) : digV c = -1 := by unfold digV; rw [if_neg h]
theorem digV_ge (c : UInt8) : -1 ≤ digV c := by unfold digV; split <;> omega
theorem digV_lt (c : UInt8) : digV c < 16 := by
  by_cases h : HexP c.toNat
  · have := hexV_lt h; rw [digV_yes h]; omega
  · rw [digV_no h]; omega
theorem hexdigit_any (c : UInt8) (w : World) : Calls Tryd.prog 30 #[.int .u8 (c.toNat : Int)] w fun e w' => e = .returned (.int .i64 (digV c)) ∧ w = w' := by
  by_cases h : HexP c.toNat
  · rw [digV_yes h]; exact digit_spec_yes c w h
  · rw [digV_no h]; exact digit_spec_no c w h
def DecRel (s : ByteArray) (w : World) (b i : Value) (wr : World) : Prop := ∃ (k : Nat) (pre : List UInt8), k ≤ s.size ∧ i = .int .i64 k ∧ pre.length ≤ k ∧ pre ++ decL (s.data.toList.drop k) = decL s.data.toList ∧ Buf 5 w wr b pre
theorem drop_cons (s : ByteArray) (k : Nat) (h : k < s.size) : s.data.toList.drop k = s[k] :: s.data.toList.drop (k + 1) := by
  rw [List.drop_eq_getElem_cons (by rw [← size_eq]; exact h)]
  rfl
theorem one_new (w : World) (E : TypeId) (x : UInt8) (X : Int) (hX : X = (x.toNat : Int)) : ∀ (j : Nat) (u : Value), (byteCells [x])[j]? = some u → (w.drew.alloc (.cells #[.int .u8 X] E)).cell? ((⟨w.heap.size, 0, none⟩ : Addr).add j) = some u := fun j u h => by
  subst hX
  have hR : Row (w.drew.alloc (.cells #[.int .u8 (x.toNat : Int)] E)) w.heap.size E [.int .u8 (x.toNat : Int)] := heap_alloc_new w.drew _
  rw [Addr.add_mid, Nat.zero_add, hR.cell j]
  exact h

set_option maxRecDepth 100000 in
set_option maxHeartbeats 1000000 in
theorem dec_spec (s : ByteArray) (w : World) (hs : s.size ≤ 1048576) :
    Calls Tryd.prog 18 #[.string s] w fun e w' => e = .returned (.string ⟨(decL s.data.toList).toArray⟩) ∧ Below w.heap.size w w' := by
  obtain ⟨i5, hi, hz0, hz1, hz2⟩ := info_parts info5
  go_enter Tryd.func18, Tryd.ntmps18
  go_wp2_with fail
  go_loopw [3, 4] (DecRel s w) (fun _ i _ => s.size - (RowKit.intOf i).toNat)
  case atStart => exact ⟨0, [], by omega, rfl, by simp, by simp, Buf.lit _ (Below.refl _ _)⟩
  case round =>
    obtain ⟨k, pre, hk, rfl, hpl, he, hb⟩ := hrel
    have HB := Lib.hid hb
    have HE := Lib.hid he
    clear hb he
    by_cases hlt : k < s.size
    · have HD := Lib.hid (drop_cons s k hlt)
      by_cases hit : HitP (s.data.toList.drop k)
      · have hk2 : k + 2 < s.size := by
          by_cases h : k + 2 < s.size
          · exact h
          · exfalso
            have hl : (s.data.toList.drop k).length ≤ 2 := by rw [List.length_drop, ← size_eq]; omega
            match hx : s.data.toList.drop k, hl with
            | [], _ => rw [hx] at hit; exact hit
            | [_], _ => rw [hx] at hit; exact hit
            | [_, _], _ => rw [hx] at hit; exact hit
        have hk1 : k + 1 < s.size := by omega
        have hd : s.data.toList.drop k = s[k] :: s[k + 1] :: s[k + 2] :: s.data.toList.drop (k + 2 + 1) := by rw [drop_cons s k hlt, drop_cons s (k + 1) hk1, drop_cons s (k + 2) hk2]
        rw [hd] at hit
        have HS := Lib.hid (show decL (s.data.toList.drop k) = hexB s[k + 1] s[k + 2] :: decL (s.data.toList.drop (k + 2 + 1)) by rw [hd, decL_hit hit])
        obtain ⟨g0, g1, g2⟩ := hit
        have hc : ((s[k].toNat : Int) == 37) = true := by rw [g0]; rfl
        have v0 : 0 ≤ digV s[k + 1] := by rw [digV_yes g1]; omega
        have v1 := digV_lt s[k + 1]
        have v2 : 0 ≤ digV s[k + 2] := by rw [digV_yes g2]; omega
        have v3 := digV_lt s[k + 2]
        have HX : Hid (IntKind.u8.wrap (IntKind.i64.wrap (IntKind.i64.wrap (16 * digV s[k + 1]) + digV s[k + 2])) = ((hexB s[k + 1] s[k + 2]).toNat : Int)) := Lib.hid (by rw [IntWalk.i64_in (16 * digV s[k + 1]) (by omega), IntWalk.i64_in _ (by omega), IntWalk.u8_in _ (by omega), digV_yes g1, digV_yes g2, hexB_toNat g1 g2]; omega)
        have hpl1 : pre.length + 1 ≤ 140737488355328 := by omega
        clear hd g0 g1 g2
        go_wp2_with (go_at_call 30; refine (hexdigit_any _ _).mono ?_; rintro e w' ⟨rfl, rfl⟩)
        have i0 : (0 : Int) ≤ (k : Int) + 1 := by omega
        have i1 : (k : Int) + 1 < (s.size : Int) := by omega
        have i2 : (0 : Int) ≤ (k : Int) + 2 := by omega
        have i3 : (k : Int) + 2 < (s.size : Int) := by omega
        have i4 : ((k : Int) + 1).toNat = k + 1 := by omega
        have i5' : ((k : Int) + 2).toNat = k + 2 := by omega
        have i6 : IntKind.i64.wrap ((k : Int) + 1) = (k : Int) + 1 := IntWalk.i64_in _ (by omega)
        have i7 : IntKind.i64.wrap ((k : Int) + 2) = (k : Int) + 2 := IntWalk.i64_in _ (by omega)
        go_region_held3 (fun _ => True)
          (exact trivial)
          (first
            | (go_at_call 30; refine (hexdigit_any _ _).mono ?_; rintro e w' ⟨rfl, rfl⟩)
            | ((refine step_push rfl (.tmp 39) (.tmp 53) 45 5 rfl i5 Tryd.underlying45 hi hz0 hz1 hz2 w _ _ [hexB s[k + 1] s[k + 2]] ⟨wr.heap.size, 0, none⟩ 1 1 rfl (by first | exact HB.out.drew.alloc _ | exact (HB.out.alloc _).drew) rfl rfl (one_new _ _ _ _ HX.out) hpl1 ?_; intro v' w1 hb1)))
        all_goals
          have HB1 := Lib.hid hb1
          clear hb1 i0 i1 i2 i3 i6 i7
          go_wp2_with fail
          go_roundw
          case rel => exact ⟨k + 2 + 1, pre ++ [hexB s[k + 1] s[k + 2]], by omega, by go_num, by rw [List.length_append, List.length_singleton]; omega, by rw [← HE.out, HS.out, List.append_assoc]; rfl, HB1.out⟩
          case measure => simp [RowKit.intOf]; omega
      · have HS := Lib.hid (show decL (s.data.toList.drop k) = s[k] :: decL (s.data.toList.drop (k + 1)) by rw [drop_cons s k hlt] at hit ⊢; exact decL_miss hit)
        have hpl1 : pre.length + 1 ≤ 140737488355328 := by omega
        by_cases g0 : s[k].toNat = 37
        · have hc : ((s[k].toNat : Int) == 37) = true := by rw [g0]; rfl
          by_cases g1 : k + 2 < s.size
          · have hk1 : k + 1 < s.size := by omega
            have hd : s.data.toList.drop k = s[k] :: s[k + 1] :: s[k + 2] :: s.data.toList.drop (k + 2 + 1) := by rw [drop_cons s k hlt, drop_cons s (k + 1) hk1, drop_cons s (k + 2) g1]
            rw [hd] at hit
            by_cases g2 : HexP s[k + 1].toNat
            · have g3 : ¬ HexP s[k + 2].toNat := fun h => hit ⟨UInt8.toNat_inj.1 g0, g2, h⟩
              have v0 : 0 ≤ digV s[k + 1] := by rw [digV_yes g2]; omega
              have v2 : digV s[k + 2] < 0 := by rw [digV_no g3]; omega
              have v3 : decide (0 ≤ digV s[k + 2]) = false := decide_eq_false (by omega)
              clear hd hit g0 g2 g3
              go_wp2_with (first | (go_at_call 30; refine (hexdigit_any _ _).mono ?_; rintro e w' ⟨rfl, rfl⟩) | (at_builtin; refine wpList_push rfl (.tmp 57) (.tmp 61) 45 5 rfl i5 Tryd.underlying45 hi hz0 hz1 hz2 w _ _ _ _ rfl HB.out rfl hpl1 ?_))
              intro v' w1 hb1
              have HB1 := Lib.hid hb1
              clear hb1
              go_wp2_with fail
              go_roundw
              case rel => exact ⟨k + 1, pre ++ [s[k]], by omega, by go_num, by rw [List.length_append, List.length_singleton]; omega, by rw [← HE.out, HS.out, List.append_assoc]; rfl, HB1.out⟩
              case measure => simp [RowKit.intOf]; omega
            · have v0 : digV s[k + 1] < 0 := by rw [digV_no g2]; omega
              have v3 : decide (0 ≤ digV s[k + 1]) = false := decide_eq_false (by omega)
              clear hd hit g0 g2
              go_wp2_with (first | (go_at_call 30; refine (hexdigit_any _ _).mono ?_; rintro e w' ⟨rfl, rfl⟩) | (at_builtin; refine wpList_push rfl (.tmp 57) (.tmp 61) 45 5 rfl i5 Tryd.underlying45 hi hz0 hz1 hz2 w _ _ _ _ rfl HB.out rfl hpl1 ?_))
              intro v' w1 hb1
              have HB1 := Lib.hid hb1
              clear hb1
              go_wp2_with fail
              go_roundw
              case rel => exact ⟨k + 1, pre ++ [s[k]], by omega, by go_num, by rw [List.length_append, List.length_singleton]; omega, by rw [← HE.out, HS.out, List.append_assoc]; rfl, HB1.out⟩
              case measure => simp [RowKit.intOf]; omega
          · have v3 : decide ((k : Int) + 2 < (s.size : Int)) = false := decide_eq_false (by omega)
            clear hit g0
            go_wp2_with (first | (go_at_call 30; refine (hexdigit_any _ _).mono ?_; rintro e w' ⟨rfl, rfl⟩) | (at_builtin; refine wpList_push rfl (.tmp 57) (.tmp 61) 45 5 rfl i5 Tryd.underlying45 hi hz0 hz1 hz2 w _ _ _ _ rfl HB.out rfl hpl1 ?_))
            intro v' w1 hb1
            have HB1 := Lib.hid hb1
            clear hb1
            go_wp2_with fail
            go_roundw
            case rel => exact ⟨k + 1, pre ++ [s[k]], by omega, by go_num, by rw [List.length_append, List.length_singleton]; omega, by rw [← HE.out, HS.out, List.append_assoc]; rfl, HB1.out⟩
            case measure => simp [RowKit.intOf]; omega
        · have hc : ((s[k].toNat : Int) == 37) = false := by rw [beq_eq_false_iff_ne]; omega
          clear hit g0
          go_wp2_with (first | (go_at_call 30; refine (hexdigit_any _ _).mono ?_; rintro e w' ⟨rfl, rfl⟩) | (at_builtin; refine wpList_push rfl (.tmp 57) (.tmp 61) 45 5 rfl i5 Tryd.underlying45 hi hz0 hz1 hz2 w _ _ _ _ rfl HB.out rfl hpl1 ?_))
          intro v' w1 hb1
          have HB1 := Lib.hid hb1
          clear hb1
          go_wp2_with fail
          go_roundw
          case rel => exact ⟨k + 1, pre ++ [s[k]], by omega, by go_num, by rw [List.length_append, List.length_singleton]; omega, by rw [← HE.out, HS.out, List.append_assoc]; rfl, HB1.out⟩
          case measure => simp [RowKit.intOf]; omega
    · obtain rfl : k = s.size := by omega
      have HE2 : Hid ((⟨pre.toArray⟩ : ByteArray) = ⟨(decL s.data.toList).toArray⟩) := Lib.hid (by
        have h := HE.out
        rw [List.drop_eq_nil_of_le (by rw [← size_eq]; exact Nat.le_refl _), decL_nil, List.append_nil] at h
        rw [h])
      go_wp2_with (refine wpList_buf_str rfl (.tmp 63) 45 9 5 rfl Tryd.underlying45 Tryd.underlying5 Tryd.underlying9 w _ _ rfl HB.out ?_)
      go_wp2_with fail
      go_ret
      exact ⟨ret_str HE2.out, HB.out.below⟩
end Go.Proofs.YtjoobpieomhklaaDoor
