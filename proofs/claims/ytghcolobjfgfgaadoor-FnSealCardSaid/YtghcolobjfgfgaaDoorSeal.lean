/- Seal: the walks. -/
import Derived.Test.YtghcolobjfgfgaaDoorText
import Derived.Test.YtghcolobjfgfgaaDoorCrc2
namespace Go.Proofs.YtghcolobjfgfgaaDoor
open Go Go.RowKit Go.Lib

def fourL (c : Nat) : List UInt8 := [UInt8.ofNat (c % 256), UInt8.ofNat (c / 256 % 256), UInt8.ofNat (c / 65536 % 256), UInt8.ofNat (c / 16777216 % 256)]
def four (c : Nat) : ByteArray := ⟨(fourL c).toArray⟩
theorem four_size (c : Nat) : (four c).size = 4 := rfl

theorem four_cells (c : Nat) (h : c < 4294967296) : byteCells (fourL c) =
    [.int .u8 ((c : Int) % 256), .int .u8 ((c : Int) / 256 % 256), .int .u8 ((c : Int) / 65536 % 256), .int .u8 ((c : Int) / 16777216)] := by
  simp [byteCells, fourL]
  omega

theorem four_spec (c : Nat) (w : World) (h : c < 4294967296) :
    Calls Tryd.prog 42 #[.int .i64 c] w fun e w' => e = .returned (.string (four c)) ∧ Below w.heap.size w w' := by
  have HR : Hid (Row (w.alloc (.cells #[.int .u8 ((c : Int) % 256), .int .u8 ((c : Int) / 256 % 256), .int .u8 ((c : Int) / 65536 % 256), .int .u8 ((c : Int) / 16777216)] 5)) w.heap.size 5 (byteCells (four c).data.toList ++ [])) := Lib.hid (by
    rw [show (four c).data.toList = fourL c from rfl, four_cells c h]
    exact heap_alloc_new _ _)
  go_enter Tryd.func42, Tryd.ntmps42
  go_wp2_with (refine wpList_bytes_str rfl (.tmp 14) 22 9 5 rfl Tryd.underlying22 Tryd.underlying5 Tryd.underlying9 w.heap.size 4 4 (four c) rfl [] HR.out rfl ?_)
  go_ret
  exact ⟨rfl, (Below.refl _ _).alloc (Nat.le_refl _) _⟩

def sumCells (c k : Nat) : List Value := (byteCells (fourL c)).take k ++ List.replicate (4 - k) (.int .u8 0)
def SumRel (c : Nat) (w : World) (i : Value) (wr : World) : Prop := ∃ k : Nat, k ≤ 4 ∧ i = .int .i64 k ∧ Row wr w.heap.size 73 (sumCells c k) ∧ Below w.heap.size w wr

set_option maxRecDepth 100000 in
theorem sum_impl (s : ByteArray) (w : World) (hs : s.size ≤ 8000) :
    Calls Tryd.prog 41 #[.string s] w fun e w' => e = .returned (.string (four (more 0 s))) ∧ Below w.heap.size w w' := by
  have hc : more 0 s < 4294967296 := by unfold more; omega
  go_enter Tryd.func41, Tryd.ntmps41
  go_wp2_with (go_at_call 24; refine (crc_impl s _ hs).mono ?_; rintro e w' ⟨rfl, rfl⟩)
  generalize hce : more 0 s = c at *
  have HC := Lib.hid hce
  clear hce
  go_loopw [8] (SumRel c w) (fun i _ => 4 - (RowKit.intOf i).toNat)
  case atStart => exact ⟨0, by omega, rfl, heap_alloc_new _ _, (Below.refl _ _).alloc (Nat.le_refl _) _⟩
  case round =>
    obtain ⟨k, hk, rfl, hrow, hbel⟩ := hrel
    have HK := Lib.hid (four_cells c hc)
    by_cases hlt : k < 4
    · have h4 : k = 0 ∨ k = 1 ∨ k = 2 ∨ k = 3 := by omega
      rcases h4 with rfl | rfl | rfl | rfl
      · have hcell : wr.cell? ⟨w.heap.size, 0, none⟩ = some (.int .u8 0) := by rw [hrow.cell 0, sumCells, HK.out]; rfl
        have hfz : wr.frozen? ⟨w.heap.size, 0, none⟩ = false := hrow.free 0
        have HR := Lib.hid (hrow.set 0 (.int .u8 ((c : Int) % 256)))
        have HB := Lib.hid (hbel.setCell (p := ⟨w.heap.size, 0, none⟩) (Nat.le_refl _) (.int .u8 ((c : Int) % 256)))
        have HS : Hid ((sumCells c 0).set 0 (.int .u8 ((c : Int) % 256)) = sumCells c 1) := Lib.hid (by rw [sumCells, sumCells, HK.out]; rfl)
        clear hrow
        go_wp2_with fail
        go_roundw
        case rel => exact ⟨1, by omega, rfl, HS.out ▸ HR.out, HB.out⟩
        case measure => simp [RowKit.intOf]
      · have hcell : wr.cell? ⟨w.heap.size, 1, none⟩ = some (.int .u8 0) := by rw [hrow.cell 1, sumCells, HK.out]; rfl
        have hfz : wr.frozen? ⟨w.heap.size, 1, none⟩ = false := hrow.free 1
        have HR := Lib.hid (hrow.set 1 (.int .u8 ((c : Int) / 256 % 256)))
        have HB := Lib.hid (hbel.setCell (p := ⟨w.heap.size, 1, none⟩) (Nat.le_refl _) (.int .u8 ((c : Int) / 256 % 256)))
        have HS : Hid ((sumCells c 1).set 1 (.int .u8 ((c : Int) / 256 % 256)) = sumCells c 2) := Lib.hid (by rw [sumCells, sumCells, HK.out]; rfl)
        clear hrow
        go_wp2_with fail
        go_roundw
        case rel => exact ⟨2, by omega, rfl, HS.out ▸ HR.out, HB.out⟩
        case measure => simp [RowKit.intOf]
      · have hcell : wr.cell? ⟨w.heap.size, 2, none⟩ = some (.int .u8 0) := by rw [hrow.cell 2, sumCells, HK.out]; rfl
        have hfz : wr.frozen? ⟨w.heap.size, 2, none⟩ = false := hrow.free 2
        have HR := Lib.hid (hrow.set 2 (.int .u8 ((c : Int) / 65536 % 256)))
        have HB := Lib.hid (hbel.setCell (p := ⟨w.heap.size, 2, none⟩) (Nat.le_refl _) (.int .u8 ((c : Int) / 65536 % 256)))
        have HS : Hid ((sumCells c 2).set 2 (.int .u8 ((c : Int) / 65536 % 256)) = sumCells c 3) := Lib.hid (by rw [sumCells, sumCells, HK.out]; rfl)
        clear hrow
        go_wp2_with fail
        go_roundw
        case rel => exact ⟨3, by omega, rfl, HS.out ▸ HR.out, HB.out⟩
        case measure => simp [RowKit.intOf]
      · have hcell : wr.cell? ⟨w.heap.size, 3, none⟩ = some (.int .u8 0) := by rw [hrow.cell 3, sumCells, HK.out]; rfl
        have hfz : wr.frozen? ⟨w.heap.size, 3, none⟩ = false := hrow.free 3
        have HR := Lib.hid (hrow.set 3 (.int .u8 ((c : Int) / 16777216)))
        have HB := Lib.hid (hbel.setCell (p := ⟨w.heap.size, 3, none⟩) (Nat.le_refl _) (.int .u8 ((c : Int) / 16777216)))
        have HS : Hid ((sumCells c 3).set 3 (.int .u8 ((c : Int) / 16777216)) = sumCells c 4) := Lib.hid (by rw [sumCells, sumCells, HK.out]; rfl)
        clear hrow
        go_wp2_with fail
        go_roundw
        case rel => exact ⟨4, by omega, rfl, HS.out ▸ HR.out, HB.out⟩
        case measure => simp [RowKit.intOf]
    · have h4 : k = 4 := by omega
      subst h4
      have HZ := Lib.hid (show ∀ w, (Go.sizeOf 5).run Tryd.prog w = .ok 1 w from fun w => by kernel_rfl)
      have HR : Hid (Row wr w.heap.size 73 (byteCells (four c).data.toList ++ [])) := Lib.hid (by
        rw [show (four c).data.toList = fourL c from rfl]
        rw [sumCells, HK.out] at hrow
        rw [HK.out]
        exact hrow)
      clear hrow
      go_wp2_with (first | (refine wpList_arr_all rfl (.tmp 4) 73 5 rfl 4 Tryd.underlying73 HZ.out w.heap.size rfl ?_) | (refine wpList_bytes_str rfl (.tmp 19) 22 9 5 rfl Tryd.underlying22 Tryd.underlying5 Tryd.underlying9 w.heap.size 4 4 (four c) rfl [] HR.out rfl ?_))
      go_ret
      exact ⟨by rw [HC.out]; rfl, hbel⟩

def sealText (t : ByteArray) : ByteArray := t ++ four (more 0 t)
theorem seal_spec (t : ByteArray) (w : World) (ht : t.size ≤ 7996) :
    Calls Tryd.prog 18 #[.string t] w fun e w' => e = .returned (.string (sealText t)) ∧ Below w.heap.size w w' := by
  have hm : t.size ≤ maxLen := by unfold maxLen; omega
  have hc : more 0 t < 4294967296 := by unfold more; omega
  have h4 := four_size (more 0 t)
  have h4' : (four (more 0 t)).size ≤ 4 := by omega
  clear h4
  have HE : Hid (sealText t = t ++ four (more 0 t)) := Lib.hid rfl
  go_enter Tryd.func18, Tryd.ntmps18
  go_wp2_with (go_at_call 43; refine (crc_spec_in 0 t _ hm (by omega)).mono ?_; rintro e w' ⟨rfl, rfl⟩)
  refine (four_spec _ _ hc).mono ?_
  rintro e w1 ⟨rfl, hb1⟩
  have HB1 := Lib.hid hb1
  clear hb1
  go_wp2_with fail
  go_ret
  exact ⟨by rw [HE.out]; rfl, HB1.out⟩
theorem seal_spec_no (t : ByteArray) (w : World) (hs : t.size ≤ maxLen) (ht : 7996 < t.size) :
    Calls Tryd.prog 18 #[.string t] w fun e w' => e = .returned (.string ⟨#[]⟩) ∧ w = w' := by
  unfold maxLen at hs
  go_enter Tryd.func18, Tryd.ntmps18
  go_wp2_with fail
  go_ret
  exact ⟨rfl, rfl⟩
theorem seal_impl (t : ByteArray) (w : World) (ht : t.size ≤ 7996) :
    Calls Tryd.prog 17 #[.string t] w fun e w' => e = .returned (.string (sealText t)) ∧ Below w.heap.size w w' := by
  have h4 := four_size (more 0 t)
  have h4' : t.size + (four (more 0 t)).size ≤ 140737488355328 := by omega
  clear h4
  have HE : Hid (sealText t = t ++ four (more 0 t)) := Lib.hid rfl
  go_enter Tryd.func17, Tryd.ntmps17
  go_wp2_with fail
  refine (sum_impl t _ (by omega)).mono ?_
  rintro e w1 ⟨rfl, hb1⟩
  have HB1 := Lib.hid hb1
  clear hb1
  go_wp2_with fail
  refine (join_any _ _ _ h4').mono ?_
  rintro e w2 ⟨rfl, hb2⟩
  have HB2 := Lib.hid (below_two HB1.out hb2)
  clear hb2
  go_wp2_with fail
  go_ret
  exact ⟨by rw [HE.out]; rfl, HB2.out⟩
theorem seal_impl_no (t : ByteArray) (w : World) (hs : t.size ≤ maxLen) (ht : 7996 < t.size) :
    Calls Tryd.prog 17 #[.string t] w fun e w' => e = .returned (.string ⟨#[]⟩) ∧ w = w' := by
  unfold maxLen at hs
  go_enter Tryd.func17, Tryd.ntmps17
  go_wp2_with fail
  go_ret
  exact ⟨rfl, rfl⟩

end Go.Proofs.YtghcolobjfgfgaaDoor
