/- The draws of numbers and texts. -/
import Derived.Test.YtghcolobjfgfgaaDoorDraw3
import Derived.Test.YtghcolobjfgfgaaDoorCrc2
namespace Go.Proofs.YtghcolobjfgfgaaDoor
open Go Go.RowKit

/-- A draw: a value, and nothing old turned. -/
def Drawn (w : World) (Φ : Value → Prop) (e : Ending) (w' : World) : Prop := ∃ v : Value, Φ v ∧ e = .returned v ∧ Below w.heap.size w w'
theorem below_src {B g : Nat} {w w1 w2 : World} (h : Below B w w1) (hg : w1.grownBy w2 (some g)) (hB : B ≤ w1.heap.size) (hBg : B ≤ g) : Below B w w2 :=
  h.grown hg hB (fun k hk => by have := Option.some.inj hk; omega)

theorem draw_num (w : World) (a : Option Addr) (len cap : Nat) (zs : List Int) (hl : len ≤ 281474976710656) (h : IsRow .u8 w a len cap zs) :
    Calls Tryd.prog 8 #[.slice a len cap] w (Drawn w I64) := by
  have HR := Lib.hid h
  clear h
  go_enter Tryd.func8, Tryd.ntmps8
  go_wp2_with fail
  refine (source_any w a len cap zs hl HR.out).mono ?_
  rintro e w1 ⟨g, hg, rfl, hs, hb⟩
  have HS := Lib.hid hs
  have HB := Lib.hid hb
  clear hs hb
  go_wp2_with fail
  refine (any_any g _ HS.out).mono ?_
  rintro e w2 ⟨v, hv, rfl, hs2, hg2⟩
  have HV := Lib.hid hv
  have HB2 := Lib.hid (below_src HB.out hg2 HB.out.size hg)
  clear hv hs2 hg2
  go_wp2_with fail
  go_ret
  exact ⟨_, HV.out, rfl, HB2.out⟩

def zeros (n : Nat) : ByteArray := ⟨(List.replicate n 0).toArray⟩
theorem zeros_size (n : Nat) : (zeros n).size = n := by
  show (List.replicate n (0 : UInt8)).toArray.size = n
  simp
theorem zeros_cells (n : Nat) : Lib.byteCells (zeros n).data.toList ++ [] = List.replicate n (Value.int .u8 0) := by
  show Lib.byteCells (List.replicate n (0 : UInt8)) ++ [] = _
  simp [Lib.byteCells]
def AnyText (v : Value) : Prop := ∃ t : ByteArray, t.size ≤ 30000 ∧ v = .string t

set_option maxRecDepth 100000 in
theorem draw_text (w : World) (a : Option Addr) (len cap : Nat) (zs : List Int) (hl : len ≤ 281474976710656) (h : IsRow .u8 w a len cap zs) :
    Calls Tryd.prog 12 #[.slice a len cap] w (Drawn w AnyText) := by
  obtain ⟨i5, hi, hz0, hz1, hz2⟩ := info_parts info5
  have HR := Lib.hid h
  clear h
  go_enter Tryd.func12, Tryd.ntmps12
  go_wp2_with fail
  refine (source_any w a len cap zs hl HR.out).mono ?_
  rintro e w1 ⟨g, hg, rfl, hs, hb⟩
  have HS := Lib.hid hs
  have HB := Lib.hid hb
  clear hs hb
  go_wp2_with fail
  refine (one_any g _ 8 (by omega) HS.out).mono ?_
  rintro e w2 ⟨_, ⟨b, rfl⟩, rfl, hs2, hg2⟩
  have HS2 := Lib.hid hs2
  have HB2 := Lib.hid (below_src HB.out hg2 HB.out.size hg)
  clear hs2 hg2
  cases b
  · go_wp2_with fail
    refine (n_any g _ 20 (by omega) HS2.out).mono ?_
    rintro e w3 ⟨r, h0, h1, _, rfl, hs3, hg3⟩
    have h20 := h1 (by omega)
    obtain ⟨n, rfl⟩ := Int.eq_ofNat_of_zero_le h0
    have HS3 := Lib.hid hs3
    have HB3 := Lib.hid (below_src HB2.out hg3 HB2.out.size hg)
    clear hs3 hg3 h1
    go_wp2_with fail
    refine (bytes_any g _ n (by omega) HS3.out).mono ?_
    rintro e w4 ⟨_, ⟨t, ht, rfl⟩, rfl, hs4, hg4⟩
    have HB4 := Lib.hid (below_src HB3.out hg4 HB3.out.size hg)
    have HT : Hid (t.size ≤ 30000) := Lib.hid (by omega)
    clear ht hs4 hg4
    go_wp2_with fail
    go_ret
    exact ⟨_, ⟨t, HT.out, rfl⟩, rfl, HB4.out⟩
  · go_wp2_with fail
    refine (n_any g _ 3 (by omega) HS2.out).mono ?_
    rintro e w3 ⟨r, h0, h1, _, rfl, hs3, hg3⟩
    have h20 := h1 (by omega)
    obtain ⟨n, rfl⟩ := Int.eq_ofNat_of_zero_le h0
    have HB3 := Lib.hid (below_src HB2.out hg3 HB2.out.size hg)
    clear hs3 hg3 h1
    go_wp2_with (refine wpList_make_bytes rfl (.tmp 10) (.tmp 10) 22 rfl 5 i5 (.int .u8 0) Tryd.underlying22 hi hz0 hz1 hz2 rfl .i64 .i64 _ _ (19999 + n) rfl rfl ?h1 ?h2 (by omega) w.heap.size w HB3.out HB3.out.size ?_)
    case h1 => go_num
    case h2 => go_num
    intro w4 g4 hg4 hr4 hb4 _
    rw [← zeros_cells] at hr4
    have HR4 := Lib.hid hr4
    have HB4 := Lib.hid hb4
    clear hr4 hb4
    go_wp2_with (refine wpList_bytes_str rfl (.tmp 11) 22 9 5 rfl Tryd.underlying22 Tryd.underlying5 Tryd.underlying9 g4 _ _ (zeros (19999 + n)) rfl [] HR4.out (zeros_size _).symm ?_)
    go_ret
    exact ⟨_, ⟨zeros (19999 + n), by rw [zeros_size]; omega, rfl⟩, rfl, HB4.out⟩
set_option maxRecDepth 100000 in
theorem draw_seal (w : World) (a : Option Addr) (len cap : Nat) (zs : List Int) (hl : len ≤ 281474976710656) (h : IsRow .u8 w a len cap zs) :
    Calls Tryd.prog 16 #[.slice a len cap] w (Drawn w AnyText) := by
  obtain ⟨i5, hi, hz0, hz1, hz2⟩ := info_parts info5
  have HR := Lib.hid h
  clear h
  go_enter Tryd.func16, Tryd.ntmps16
  go_wp2_with fail
  refine (source_any w a len cap zs hl HR.out).mono ?_
  rintro e w1 ⟨g, hg, rfl, hs, hb⟩
  have HS := Lib.hid hs
  have HB := Lib.hid hb
  clear hs hb
  go_wp2_with fail
  refine (one_any g _ 30 (by omega) HS.out).mono ?_
  rintro e w2 ⟨_, ⟨b, rfl⟩, rfl, hs2, hg2⟩
  have HS2 := Lib.hid hs2
  have HB2 := Lib.hid (below_src HB.out hg2 HB.out.size hg)
  clear hs2 hg2
  cases b
  · go_wp2_with fail
    refine (n_any g _ 20 (by omega) HS2.out).mono ?_
    rintro e w3 ⟨r, h0, h1, _, rfl, hs3, hg3⟩
    have h20 := h1 (by omega)
    obtain ⟨n, rfl⟩ := Int.eq_ofNat_of_zero_le h0
    have HS3 := Lib.hid hs3
    have HB3 := Lib.hid (below_src HB2.out hg3 HB2.out.size hg)
    clear hs3 hg3 h1
    go_wp2_with fail
    refine (bytes_any g _ n (by omega) HS3.out).mono ?_
    rintro e w4 ⟨_, ⟨t, ht, rfl⟩, rfl, hs4, hg4⟩
    have HB4 := Lib.hid (below_src HB3.out hg4 HB3.out.size hg)
    have HT : Hid (t.size ≤ 30000) := Lib.hid (by omega)
    clear ht hs4 hg4
    go_wp2_with fail
    go_ret
    exact ⟨_, ⟨t, HT.out, rfl⟩, rfl, HB4.out⟩
  · go_wp2_with fail
    refine (n_any g _ 3 (by omega) HS2.out).mono ?_
    rintro e w3 ⟨r, h0, h1, _, rfl, hs3, hg3⟩
    have h20 := h1 (by omega)
    obtain ⟨n, rfl⟩ := Int.eq_ofNat_of_zero_le h0
    have HB3 := Lib.hid (below_src HB2.out hg3 HB2.out.size hg)
    clear hs3 hg3 h1
    go_wp2_with (refine wpList_make_bytes rfl (.tmp 10) (.tmp 10) 22 rfl 5 i5 (.int .u8 0) Tryd.underlying22 hi hz0 hz1 hz2 rfl .i64 .i64 _ _ (19995 + n) rfl rfl ?h1 ?h2 (by omega) w.heap.size w HB3.out HB3.out.size ?_)
    case h1 => go_num
    case h2 => go_num
    intro w4 g4 hg4 hr4 hb4 _
    rw [← zeros_cells] at hr4
    have HR4 := Lib.hid hr4
    have HB4 := Lib.hid hb4
    clear hr4 hb4
    go_wp2_with (refine wpList_bytes_str rfl (.tmp 11) 22 9 5 rfl Tryd.underlying22 Tryd.underlying5 Tryd.underlying9 g4 _ _ (zeros (19995 + n)) rfl [] HR4.out (zeros_size _).symm ?_)
    go_ret
    exact ⟨_, ⟨zeros (19995 + n), by rw [zeros_size]; omega, rfl⟩, rfl, HB4.out⟩

def CrcText (v : Value) : Prop := ∃ (c : Int) (t : ByteArray), -9223372036854775808 ≤ c ∧ c ≤ 9223372036854775807 ∧ t.size ≤ 30000 ∧ v = .tuple #[.int .i64 c, .string t]

set_option maxRecDepth 100000 in
theorem draw_more (w : World) (a : Option Addr) (len cap : Nat) (zs : List Int) (hl : len ≤ 281474976710656) (h : IsRow .u8 w a len cap zs) :
    Calls Tryd.prog 21 #[.slice a len cap] w (Drawn w CrcText) := by
  have HR := Lib.hid h
  clear h
  go_enter Tryd.func21, Tryd.ntmps21
  go_wp2_with fail
  refine (source_any w a len cap zs hl HR.out).mono ?_
  rintro e w1 ⟨g, hg, rfl, hs, hb⟩
  have HS := Lib.hid hs
  have HB := Lib.hid hb
  clear hs hb
  go_wp2_with fail
  refine (n_any g _ 9 (by omega) HS.out).mono ?_
  rintro e w3 ⟨r, h0, h1, _, rfl, hs3, hg3⟩
  have h20 := h1 (by omega)
  obtain ⟨n, rfl⟩ := Int.eq_ofNat_of_zero_le h0
  have HS3 := Lib.hid hs3
  have HB3 := Lib.hid (below_src HB.out hg3 HB.out.size hg)
  clear hs3 hg3 h1
  go_wp2_with fail
  refine (bytes_any g _ n (by omega) HS3.out).mono ?_
  rintro e w4 ⟨_, ⟨t, ht, rfl⟩, rfl, hs4, hg4⟩
  have HB4 := Lib.hid (below_src HB3.out hg4 HB3.out.size hg)
  have HS4 := Lib.hid hs4
  have HT : Hid (t.size ≤ 30000) := Lib.hid (by omega)
  clear ht hs4 hg4
  go_wp2_with fail
  refine (one_any g _ 5 (by omega) HS4.out).mono ?_
  rintro e w5 ⟨_, ⟨b, rfl⟩, rfl, hs5, hg5⟩
  have HS5 := Lib.hid hs5
  have HB5 := Lib.hid (below_src HB4.out hg5 HB4.out.size hg)
  clear hs5 hg5
  cases b
  · go_wp2_with fail
    refine (n_any g _ 9 (by omega) HS5.out).mono ?_
    rintro e w6 ⟨r, h0, h1, _, rfl, hs6, hg6⟩
    have h9 := h1 (by omega)
    obtain ⟨m, rfl⟩ := Int.eq_ofNat_of_zero_le h0
    have HS6 := Lib.hid hs6
    have HB6 := Lib.hid (below_src HB5.out hg6 HB5.out.size hg)
    clear hs6 hg6 h1
    go_wp2_with fail
    refine (bytes_any g _ m (by omega) HS6.out).mono ?_
    rintro e w7 ⟨_, ⟨u, hu, rfl⟩, rfl, hs7, hg7⟩
    have HB7 := Lib.hid (below_src HB6.out hg7 HB6.out.size hg)
    have HM : Hid (more 0 u < 4294967296) := Lib.hid (by unfold more; omega)
    have hu8 : u.size ≤ 8000 := by omega
    clear hu hs7 hg7
    go_wp2_with fail
    refine (crc_spec u _ hu8).mono ?_
    rintro e w8 ⟨rfl, rfl⟩
    go_wp2_with fail
    go_ret2
    exact ⟨_, ⟨(more 0 u : Nat), t, by omega, by have := HM.out; omega, HT.out, rfl⟩, rfl, HB7.out⟩
  · go_wp2_with fail
    refine (edge_any g _ HS5.out).mono ?_
    rintro e w6 ⟨_, ⟨c, hc0, hc1, rfl⟩, rfl, hs6, hg6⟩
    have HB6 := Lib.hid (below_src HB5.out hg6 HB5.out.size hg)
    have HC0 := Lib.hid hc0
    have HC1 := Lib.hid hc1
    clear hs6 hg6 hc0 hc1
    go_wp2_with fail
    go_ret2
    exact ⟨_, ⟨c, t, HC0.out, HC1.out, HT.out, rfl⟩, rfl, HB6.out⟩
end Go.Proofs.YtghcolobjfgfgaaDoor
