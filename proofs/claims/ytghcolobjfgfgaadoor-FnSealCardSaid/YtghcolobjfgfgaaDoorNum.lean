/- PutNum: the walks. -/
import Derived.Test.YtghcolobjfgfgaaDoorRows
import Derived.Test.YtghcolobjfgfgaaDoorAid
import Derived.Test.YtghcolobjfgfgaaDoorNumMath
import Derived.Test.YtghcolobjfgfgaaDoorJoin
import Derived.Outline
namespace Go.Proofs.YtghcolobjfgfgaaDoor
open Go Go.RowKit Go.Lib

theorem ret_u64 {a b : Int} (h : a = b) : Ending.returned (.int .u64 a) = .returned (.int .u64 b) := by rw [h]
theorem fold_spec (n : Int) (w : World) (h1 : -9223372036854775808 ≤ n) (h2 : n ≤ 9223372036854775807) :
    Calls Tryd.prog 33 #[.int .i64 n] w fun e w' => e = .returned (.int .u64 (Nu.fold n : Nat)) ∧ w = w' := by
  by_cases h : n < 0
  · have H := Lib.hid (Nu.fold_neg n h)
    go_enter Tryd.func33, Tryd.ntmps33
    go_wp2_with fail
    go_ret
    exact ⟨ret_u64 H.out, rfl⟩
  · have H := Lib.hid (Nu.fold_pos n (by omega))
    go_enter Tryd.func33, Tryd.ntmps33
    go_wp2_with fail
    go_ret
    exact ⟨ret_u64 H.out, rfl⟩
theorem fold_impl (n : Int) (w : World) (h1 : -9223372036854775808 ≤ n) (h2 : n ≤ 9223372036854775807) :
    Calls Tryd.prog 32 #[.int .i64 n] w fun e w' => e = .returned (.int .u64 (Nu.fold n : Nat)) ∧ w = w' := by
  by_cases h : n < 0
  · have H := Lib.hid (Nu.fold_bits_neg n h1 h)
    go_enter Tryd.func32, Tryd.ntmps32
    go_wp2_with fail
    go_ret
    exact ⟨ret_u64 H.out, rfl⟩
  · have H := Lib.hid (Nu.fold_bits_pos n h2 (by omega))
    go_enter Tryd.func32, Tryd.ntmps32
    go_wp2_with fail
    go_ret
    exact ⟨ret_u64 H.out, rfl⟩

theorem one_u8 (v : Int) : ∀ u ∈ [Value.int .u8 v], u.oneCell' = true := by
  intro u hu
  simp at hu
  subst hu
  rfl
theorem byte_snoc (pre : List UInt8) (v : Nat) (h : v < 256) : byteCells (pre ++ [UInt8.ofNat v]) = byteCells pre ++ [.int .u8 v] := by
  simp [byteCells]
  omega
theorem byte_snoc' (pre : List UInt8) (x : Nat) : byteCells (pre ++ [UInt8.ofNat (x % 128 + 128)]) = byteCells pre ++ [.int .u8 ((x : Int) % 128 + 128)] := by
  rw [byte_snoc pre _ (by omega)]
  simp
def Big (j x : Nat) : Prop := x * 128 ^ j < 18446744073709551616
theorem big_lt {j x : Nat} (h : Big j x) : x < 18446744073709551616 := by
  unfold Big at h
  have := Nat.le_mul_of_pos_right x (show 0 < 128 ^ j from Nat.pow_pos (by decide))
  omega
def SpecRel (f : Nat) (w : World) (u b : Value) (wr : World) : Prop := ∃ (j x : Nat) (pre : List UInt8), j ≤ 9 ∧ Big j x ∧ pre.length = j ∧ pre ++ Nu.enc (9 - j) x = Nu.enc 9 f ∧ u = .int .u64 x ∧
      wr.ownsRow w.heap.size 5 1 b j (byteCells pre) ∧ Below w.heap.size w wr

set_option maxRecDepth 100000 in
theorem num_spec (n : Int) (w : World) (h1 : -9223372036854775808 ≤ n) (h2 : n ≤ 9223372036854775807) :
    Calls Tryd.prog 10 #[.int .i64 n] w fun e w' => e = .returned (.string ⟨(Nu.enc 9 (Nu.fold n)).toArray⟩) ∧ Below w.heap.size w w' := by
  obtain ⟨i5, hi, hz0, hz1, hz2⟩ := info_parts info5
  have hf : Big 0 (Nu.fold n) := by have := Nu.fold_lt h1 h2; unfold Big; omega
  go_enter Tryd.func10, Tryd.ntmps10
  go_wp2_with (go_at_call 33; refine (fold_spec n _ h1 h2).mono ?_; rintro e w' ⟨rfl, rfl⟩)
  generalize hfe : Nu.fold n = f at *
  have HFE := Lib.hid hfe
  clear h1 h2 hfe
  go_loopw [3, 4] (SpecRel f w) (fun u _ _ => (RowKit.intOf u).toNat)
  case atStart => exact ⟨0, f, [], by omega, hf, rfl, rfl, rfl, World.ownsRow_lit w #[] 0 (Nat.le_refl _) (by decide) rfl, (Below.refl _ _).alloc (Nat.le_refl _) _⟩
  case round =>
    obtain ⟨j, x, pre, hj, hx, hp, he, rfl, hown, hbel⟩ := hrel
    have HP := Lib.hid hp
    have HE := Lib.hid he
    have HO := Lib.hid hown
    clear hp he hown
    have hx64 : x < 18446744073709551616 := big_lt hx
    by_cases hlt : 128 ≤ x
    · go_wp2_with (at_builtin; refine wpList_append_own _ rfl (.tmp 10) (.tmp 15) 22 rfl w.heap.size 5 i5 (.int .u8 0) 1 1 Tryd.underlying22 hi hz0 hz1 hz2 rfl (by decide) _ _ _ rfl (HO.out.alloc _) ⟨wr.heap.size, 0, none⟩ 1 1 [.int .u8 ((x : Int) % 128 + 128)] rfl rfl ?c1 ?c2 ?c3 ?c4 ?c5 ?_)
      case c1 => exact cell_one_new _ _ _
      case c2 => exact one_u8 _
      case c3 => unfold maxLen; omega
      case c4 => omega
      case c5 => have := hbel.size; simp; omega
      intro v' w1 hown1 hgrow1 _
      rw [← byte_snoc' pre x] at hown1
      have hb1 := (hbel.alloc hbel.size (.cells #[Value.int IntKind.u8 ((x : Int) % 128 + 128)] 5)).grown hgrow1 (by have := hbel.size; simp; omega) (fun k hk => (HO.out.lt k hk).1)
      have HO1 := Lib.hid hown1
      have hj9 := Nu.lt9 hj hlt hx
      clear hown1 hgrow1
      go_wp2_with fail
      go_roundw
      case rel => exact ⟨j + 1, x / 128, _, by omega, Nu.next hx, by simp [HP.out], Nu.enc_step hj9 hlt HE.out, by go_num, HO1.out, hb1⟩
      case measure => simp [RowKit.intOf]; omega
    · go_wp2_with (at_builtin; refine wpList_append_own _ rfl (.tmp 19) (.tmp 22) 22 rfl w.heap.size 5 i5 (.int .u8 0) 1 1 Tryd.underlying22 hi hz0 hz1 hz2 rfl (by decide) _ _ _ rfl (HO.out.alloc _) ⟨wr.heap.size, 0, none⟩ 1 1 [.int .u8 x] rfl rfl ?d1 ?d2 ?d3 ?d4 ?d5 ?_)
      case d1 => exact cell_one_new _ _ _
      case d2 => exact one_u8 _
      case d3 => unfold maxLen; omega
      case d4 => omega
      case d5 => have := hbel.size; simp; omega
      intro v' w1 hown1 hgrow1 _
      rw [← byte_snoc pre x (by omega), show pre ++ [UInt8.ofNat x] = Nu.enc 9 f from by rw [← HE.out, Nu.enc_last _ _ (by omega)]] at hown1
      have hb1 := (hbel.alloc hbel.size (.cells #[Value.int IntKind.u8 (x : Int)] 5)).grown hgrow1 (by have := hbel.size; simp; omega) (fun k hk => (HO.out.lt k hk).1)
      have HO1 := Lib.hid hown1
      clear hown1 hgrow1
      go_wp2_with (refine wpList_own_str rfl (.tmp 23) 22 9 5 rfl Tryd.underlying22 Tryd.underlying5 Tryd.underlying9 _ _ rfl HO1.out ?_)
      go_wp2_with fail
      go_ret
      exact ⟨by rw [HFE.out]; rfl, hb1⟩
end Go.Proofs.YtghcolobjfgfgaaDoor

