/- PutNum: the walk of the program's function. -/
import Derived.Test.YtghcolobjfgfgaaDoorNum
namespace Go.Proofs.YtghcolobjfgfgaaDoor
open Go Go.RowKit Go.Lib

theorem or128 (x : Nat) : bits BinOp.or IntKind.u8 ((x : Int) % 256) 128 = ((x % 128 + 128 : Nat) : Int) := by
  rw [show ((x : Int) % 256) = ((x % 256 : Nat) : Int) from by omega, show (128 : Int) = ((128 : Nat) : Int) from rfl, u8_or_nat _ _ (by omega) (by omega)]
  congr 1
  have h1 : x % 256 ||| 128 = (x % 128) ||| 128 := by
    apply Nat.eq_of_testBit_eq
    intro i
    rw [Nat.testBit_or, Nat.testBit_or, show (256 : Nat) = 2 ^ 8 from rfl, show (128 : Nat) = 2 ^ 7 from rfl, Nat.testBit_mod_two_pow, Nat.testBit_mod_two_pow, Nat.testBit_two_pow]
    by_cases e : i = 7
    · subst e; simp
    · by_cases e2 : i < 7
      · have : i < 8 := by omega
        simp [e2, this]
      · have : ¬ i < 8 := by omega
        simp [e2, this]
  rw [h1, Nat.or_comm, show 128 = 2 ^ 7 * 1 from rfl, ← Nat.two_pow_add_eq_or_of_lt (by omega : x % (2 ^ 7 * 1) < 2 ^ 7)]
  omega
theorem set_at {l r : List Value} {j : Nat} {a v : Value} (h : l.length = j) : (l ++ a :: r).set j v = (l ++ [v]) ++ r := by
  subst h
  simp
theorem set_pre (pre : List UInt8) (j v : Nat) (h : pre.length = j) (hj : j ≤ 9) (z : Int) (hz : z = ((v % 128 + 128 : Nat) : Int)) :
    (byteCells pre ++ List.replicate (10 - j) (Value.int .u8 0)).set j (.int .u8 z) = byteCells (pre ++ [UInt8.ofNat (v % 128 + 128)]) ++ List.replicate (10 - (j + 1)) (.int .u8 0) := by
  rw [hz, show 10 - j = (10 - (j + 1)) + 1 from by omega, List.replicate_succ, set_at (by rw [byteCells_length]; exact h), byte_snoc pre _ (by omega)]
theorem set_pre2 (pre : List UInt8) (j v : Nat) (h : pre.length = j) (hj : j ≤ 9) (hv : v < 256) :
    (byteCells pre ++ List.replicate (10 - j) (Value.int .u8 0)).set j (.int .u8 (v : Int)) = byteCells (pre ++ [UInt8.ofNat v]) ++ List.replicate (10 - (j + 1)) (.int .u8 0) := by
  rw [show 10 - j = (10 - (j + 1)) + 1 from by omega, List.replicate_succ, set_at (by rw [byteCells_length]; exact h), byte_snoc pre _ hv]
def ImplRel (f : Nat) (w : World) (u l : Value) (wr : World) : Prop := ∃ (j x : Nat) (pre : List UInt8), j ≤ 9 ∧ Big j x ∧ pre.length = j ∧ pre ++ Nu.enc (9 - j) x = Nu.enc 9 f ∧ u = .int .u64 x ∧ l = .int .i64 j ∧
      Row wr w.heap.size 47 (byteCells pre ++ List.replicate (10 - j) (.int .u8 0)) ∧ Below w.heap.size w wr

set_option maxRecDepth 100000 in
theorem num_impl (n : Int) (w : World) (h1 : -9223372036854775808 ≤ n) (h2 : n ≤ 9223372036854775807) :
    Calls Tryd.prog 9 #[.int .i64 n] w fun e w' => e = .returned (.string ⟨(Nu.enc 9 (Nu.fold n)).toArray⟩) ∧ Below w.heap.size w w' := by
  have hf : Big 0 (Nu.fold n) := by have := Nu.fold_lt h1 h2; unfold Big; omega
  go_enter Tryd.func9, Tryd.ntmps9
  go_wp2_with (go_at_call 32; refine (fold_impl n _ h1 h2).mono ?_; rintro e w' ⟨rfl, rfl⟩)
  generalize hfe : Nu.fold n = f at *
  have HFE := Lib.hid hfe
  clear h1 h2 hfe
  go_loopw [4, 5] (ImplRel f w) (fun u _ _ => (RowKit.intOf u).toNat)
  case atStart => exact ⟨0, f, [], by omega, hf, rfl, rfl, rfl, rfl, heap_alloc_new _ _, (Below.refl _ _).alloc (Nat.le_refl _) _⟩
  case round =>
    obtain ⟨j, x, pre, hj, hx, hp, he, rfl, rfl, hrow, hbel⟩ := hrel
    have HP := Lib.hid hp
    have HE := Lib.hid he
    have HR := Lib.hid hrow
    have hx64 : x < 18446744073709551616 := big_lt hx
    have hc : wr.cell? ⟨w.heap.size, j, none⟩ = some (.int .u8 0) := by rw [hrow.cell j]; rw [List.getElem?_append_right (by rw [byteCells_length]; omega)]; rw [byteCells_length, hp]; rw [List.getElem?_replicate]; simp; omega
    have hfz : wr.frozen? ⟨w.heap.size, j, none⟩ = false := hrow.free j
    clear hp he hrow
    by_cases hlt : 128 ≤ x
    · have hj9 := Nu.lt9 hj hlt hx
      have hrow1 := HR.out.set j (.int .u8 (bits BinOp.or IntKind.u8 ((x : Int) % 256) 128))
      rw [set_pre pre j x HP.out hj _ (or128 x)] at hrow1
      have HR1 := Lib.hid hrow1
      have hb1 := hbel.setCell (p := ⟨w.heap.size, j, none⟩) (Nat.le_refl _) (.int .u8 (bits BinOp.or IntKind.u8 ((x : Int) % 256) 128))
      have HB1 := Lib.hid hb1
      clear hrow1 hb1
      go_wp2_with fail
      go_roundw
      case rel => exact ⟨j + 1, x / 128, _, by omega, Nu.next hx, by simp [HP.out], Nu.enc_step hj9 hlt HE.out, by go_num, by go_num, HR1.out, HB1.out⟩
      case measure => simp [RowKit.intOf]; omega
    · have HZ := Lib.hid (show ∀ w, (Go.sizeOf 5).run Tryd.prog w = .ok 1 w from fun w => by kernel_rfl)
      have hrow1 := HR.out.set j (.int .u8 x)
      rw [set_pre2 pre j x HP.out hj (by omega), show pre ++ [UInt8.ofNat x] = Nu.enc 9 f from by rw [← HE.out, Nu.enc_last _ _ (by omega)]] at hrow1
      have HR1 := Lib.hid hrow1
      have hb1 := hbel.setCell (p := ⟨w.heap.size, j, none⟩) (Nat.le_refl _) (.int .u8 x)
      have HB1 := Lib.hid hb1
      have HL : Hid (j + 1 = (⟨(Nu.enc 9 f).toArray⟩ : ByteArray).size) := Lib.hid (by
        show j + 1 = (Nu.enc 9 f).toArray.size
        rw [List.size_toArray, ← HE.out, Nu.enc_last _ _ (by omega)]
        simp [HP.out])
      clear hrow1 hb1
      go_wp2_with (first | (refine wpList_arr_head rfl (.tmp 3) (.tmp 24) 47 5 rfl 10 Tryd.underlying47 HZ.out w.heap.size (j + 1) _ rfl rfl ?h1 ?h2 ?_) | (refine wpList_bytes_str rfl (.tmp 25) 22 9 5 rfl Tryd.underlying22 Tryd.underlying5 Tryd.underlying9 w.heap.size (j + 1) 10 (ByteArray.mk (Nu.enc 9 f).toArray) rfl (List.replicate (10 - (j + 1)) (.int .u8 0)) HR1.out HL.out ?_))
      case h1 => go_num
      case h2 => omega
      go_ret
      exact ⟨by rw [HFE.out]; rfl, HB1.out⟩
end Go.Proofs.YtghcolobjfgfgaaDoor
