/- The source of the draws: one, edge, any, bytes, and how it begins. -/
import Derived.Test.YtghcolobjfgfgaaDoorDraw
import Derived.Test.YtghcolobjfgfgaaDoorNum2
import Derived.Handy
namespace Go.Proofs.YtghcolobjfgfgaaDoor
open Go Go.RowKit

/-- A slice of integers that came in: nil, or a row of cap cells, each fitting its kind. -/
def IsRow (k : IntKind) (w : World) (a : Option Addr) (len cap : Nat) (zs : List Int) : Prop :=
  (a = none ∧ len = 0 ∧ cap = 0 ∧ zs = []) ∨
  ∃ x, a = some x ∧ len ≤ cap ∧ cap ≤ maxLen ∧ zs.length = cap ∧ (∀ i, i < zs.length → w.cell? (x.add i) = some (.int k (zs.getD i 0))) ∧ ∀ n ∈ zs, (Lit.int k n).wf = true

theorem CodeAt.keep {g : Nat} {w w' : World} {a : Option Addr} {len : Nat} (h : CodeAt g w a len) (hk : ∀ k, k < w.heap.size → w'.heap[k]? = w.heap[k]?) : CodeAt g w' a len := fun i hi => by
  obtain ⟨b, off, z, ha, hb, hc, h0, h1⟩ := h i hi
  exact ⟨b, off, z, ha, hb, by rw [World.cell?_of_block (hk b (World.block_lt_of_cell? w ⟨b, off + i, none⟩ hc))]; exact hc, h0, h1⟩
theorem SrcAt.keep {g : Nat} {w w' : World} (h : SrcAt g w) (hk : ∀ k, k < w.heap.size → w'.heap[k]? = w.heap[k]?) : SrcAt g w' := by
  obtain ⟨a, len, cap, at_, mix, size, hg, ha0, ha1, hl, hm0, hm1, hs0, hs1, hc⟩ := h
  exact ⟨a, len, cap, at_, mix, size, by rw [hk g (Array.getElem?_eq_some_iff.1 hg).1]; exact hg, ha0, ha1, hl, hm0, hm1, hs0, hs1, hc.keep hk⟩
theorem SrcAt.lt {g : Nat} {w : World} (h : SrcAt g w) : g < w.heap.size := by
  obtain ⟨a, len, cap, at_, mix, size, hg, _⟩ := h
  exact (Array.getElem?_eq_some_iff.1 hg).1
theorem SrcAt.below {g : Nat} {w w' : World} (h : SrcAt g w) (hb : Below w.heap.size w w') : SrcAt g w' := h.keep (fun k hk => hb.block k hk)
theorem SrcAt.alloc {g : Nat} {w : World} (h : SrcAt g w) (o : Obj) : SrcAt g (w.alloc o) := h.below ((Below.refl _ _).alloc (Nat.le_refl _) _)
theorem grown_below {w w' : World} (h : Below w.heap.size w w') (r : Option Nat) : w.grownBy w' r := ⟨h.os, h.tape, h.output, h.size, fun k hk _ => h.block k hk⟩

theorem SrcAt.grown {g : Nat} {w w' : World} {row : Option Nat} (h : SrcAt g w) (hg : w.grownBy w' row) (hr : ∀ q, row = some q → g < q) : SrcAt g w' := by
  have hlt := h.lt
  obtain ⟨a, len, cap, at_, mix, size, hgg, ha0, ha1, hl, hm0, hm1, hs0, hs1, hc⟩ := h
  refine ⟨a, len, cap, at_, mix, size, by rw [hg.block g hlt (fun e => by have := hr g e.symm; omega)]; exact hgg, ha0, ha1, hl, hm0, hm1, hs0, hs1, fun i hi => ?_⟩
  obtain ⟨b, off, z, ha, hb, hcc, h0, h1⟩ := hc i hi
  exact ⟨b, off, z, ha, hb, hg.cell hcc (fun e => by have := hr b e.symm; omega), h0, h1⟩
/-- What is written behind the old blocks is no part of the frame. -/
theorem grown_join {w w1 w2 : World} {row r : Option Nat} (h1 : w.grownBy w1 r) (h : w1.grownBy w2 row) (hr : ∀ q, row = some q → w.heap.size ≤ q) : w.grownBy w2 r :=
  ⟨h.os.trans h1.os, h.tape.trans h1.tape, h.output.trans h1.output, Nat.le_trans h1.size h.size,
    fun k hk hne => (h.block k (Nat.lt_of_lt_of_le hk h1.size) (fun e => by have := hr k e.symm; omega)).trans (h1.block k hk hne)⟩
/-- A source's answer: the value, the source, the frame. -/
def SrcPost (g : Nat) (w : World) (Φ : Value → Prop) (e : Ending) (w' : World) : Prop := ∃ v : Value, Φ v ∧ e = .returned v ∧ SrcAt g w' ∧ w.grownBy w' (some g)

theorem one_any (g : Nat) (w : World) (most : Int) (hm : most ≤ 9223372036854775807) (hS : SrcAt g w) :
    Calls Tryd.prog 36 #[.pointer (some ⟨g, 0, none⟩), .int .i64 most] w (SrcPost g w (fun v => ∃ b : Bool, v = .bool b)) := by
  have HS := Lib.hid hS
  clear hS
  go_enter Tryd.func36, Tryd.ntmps36
  go_wp2_with fail
  refine (n_any g _ most hm HS.out).mono ?_
  rintro e w1 ⟨r, h0, _, _, rfl, hs1, hg1⟩
  have HS1 := Lib.hid hs1
  have HG1 := Lib.hid hg1
  clear hs1 hg1
  go_wp2_with fail
  go_ret
  exact ⟨_, ⟨_, rfl⟩, rfl, HS1.out, HG1.out⟩

def edgeL : List Int := [0, 1, -1, 2, 1000, 1001, 2147483648, 2147483647, -2147483648, 4611686018427387904, 9223372036854775807, -9223372036854775808, 1000000, 1000001]
theorem edge_at (j : Nat) (h : j < 14) : ∃ v : Int, -9223372036854775808 ≤ v ∧ v ≤ 9223372036854775807 ∧ (edgeL.map (Value.int .i64))[j]? = some (.int .i64 v) := by
  have hl : edgeL.length = 14 := rfl
  refine ⟨edgeL[j], ?_, ?_, by rw [List.getElem?_map, List.getElem?_eq_getElem (show j < edgeL.length by omega)]; rfl⟩
  · have : ∀ x ∈ edgeL, -9223372036854775808 ≤ x := by decide
    exact this _ (List.getElem_mem _)
  · have : ∀ x ∈ edgeL, x ≤ 9223372036854775807 := by decide
    exact this _ (List.getElem_mem _)
def I64 (v : Value) : Prop := ∃ n : Int, -9223372036854775808 ≤ n ∧ n ≤ 9223372036854775807 ∧ v = .int .i64 n

set_option maxRecDepth 100000 in
theorem edge_any (g : Nat) (w : World) (hS : SrcAt g w) :
    Calls Tryd.prog 45 #[.pointer (some ⟨g, 0, none⟩)] w (SrcPost g w I64) := by
  have HS := Lib.hid (fun o => hS.alloc o)
  have hlt := hS.lt
  clear hS
  go_enter Tryd.func45, Tryd.ntmps45
  go_wp2_with fail
  refine (n_any g _ 14 (by omega) (HS.out _)).mono ?_
  rintro e w1 ⟨r, h0, h1, _, rfl, hs1, hg1⟩
  have h14 := h1 (by omega)
  obtain ⟨j, rfl⟩ := Int.eq_ofNat_of_zero_le h0
  obtain ⟨v, v0, v1, hv⟩ := edge_at j (by omega)
  have hcell : w1.cell? ⟨w.heap.size, j, none⟩ = some (.int .i64 v) := by
    refine hg1.cell (a := ⟨w.heap.size, j, none⟩) ?_ (fun e => by have := Option.some.inj e; simp at this; omega)
    have hR : Row (w.alloc (.cells (edgeL.map (Value.int .i64)).toArray 2)) w.heap.size 2 (edgeL.map (Value.int .i64)) := heap_alloc_new _ _
    exact (hR.cell j).trans hv
  have HS1 := Lib.hid hs1
  have HG1 := Lib.hid (grown_trans (grown_below ((Below.refl w.heap.size w).alloc (Nat.le_refl _) _) (some g)) hg1)
  have V0 := Lib.hid v0
  have V1 := Lib.hid v1
  clear hs1 hg1 hv v0 v1
  have hj : j < 14 := by omega
  go_wp2_with fail
  go_ret
  exact ⟨_, ⟨v, V0.out, V1.out, rfl⟩, rfl, HS1.out, HG1.out⟩

theorem any_any (g : Nat) (w : World) (hS : SrcAt g w) :
    Calls Tryd.prog 31 #[.pointer (some ⟨g, 0, none⟩)] w (SrcPost g w I64) := by
  have HS := Lib.hid hS
  clear hS
  go_enter Tryd.func31, Tryd.ntmps31
  go_wp2_with fail
  refine (one_any g _ 4 (by omega) HS.out).mono ?_
  rintro e w1 ⟨_, ⟨b, rfl⟩, rfl, hs1, hg1⟩
  have HS1 := Lib.hid hs1
  have HG1 := Lib.hid hg1
  clear hs1 hg1
  cases b
  · go_wp2_with fail
    refine (n_any g _ 1099511627776 (by omega) HS1.out).mono ?_
    rintro e w2 ⟨r, h0, h1, _, rfl, hs2, hg2⟩
    have h14 := h1 (by omega)
    have HS2 := Lib.hid hs2
    have HG2 := Lib.hid (grown_trans HG1.out hg2)
    clear hs2 hg2 h1
    go_wp2_with fail
    go_ret
    exact ⟨_, ⟨r - 1048576, by omega, by omega, rfl⟩, rfl, HS2.out, HG2.out⟩
  · go_wp2_with fail
    refine (edge_any g _ HS1.out).mono ?_
    rintro e w2 ⟨v, hv, rfl, hs2, hg2⟩
    have HS2 := Lib.hid hs2
    have HG2 := Lib.hid (grown_trans HG1.out hg2)
    have HV := Lib.hid hv
    clear hs2 hg2 hv
    go_wp2_with fail
    go_ret
    exact ⟨_, HV.out, rfl, HS2.out, HG2.out⟩

/-- The text of n drawn bytes. -/
def BytesRel (g : Nat) (w : World) (n : Nat) (b i : Value) (wr : World) : Prop := ∃ (k : Nat) (l : List UInt8), k ≤ n ∧ i = .int .i64 k ∧ l.length = k ∧ wr.ownsRow w.heap.size 5 1 b k (Lib.byteCells l) ∧ SrcAt g wr ∧ w.grownBy wr (some g)
def IsText (n : Nat) (v : Value) : Prop := ∃ t : ByteArray, t.size = n ∧ v = .string t

set_option maxRecDepth 100000 in
theorem bytes_any (g : Nat) (w : World) (n : Nat) (hn : n ≤ 100000) (hS : SrcAt g w) :
    Calls Tryd.prog 38 #[.pointer (some ⟨g, 0, none⟩), .int .i64 n] w (SrcPost g w (IsText n)) := by
  obtain ⟨i5, hi, hz0, hz1, hz2⟩ := info_parts info5
  have HS := Lib.hid (fun o => hS.alloc o)
  have hlt := hS.lt
  clear hS
  go_enter Tryd.func38, Tryd.ntmps38
  go_wp2_with fail
  go_loopw [5, 6] (BytesRel g w n) (fun _ i _ => n - (RowKit.intOf i).toNat)
  case atStart => exact ⟨0, [], by omega, rfl, rfl, World.ownsRow_lit w #[] 0 (Nat.le_refl _) (by decide) rfl, HS.out _, grown_below ((Below.refl w.heap.size w).alloc (Nat.le_refl _) _) (some g)⟩
  case round =>
    obtain ⟨k, l, hk, rfl, hl, hown, hs, hgr⟩ := hrel
    have HL := Lib.hid hl
    have HO := Lib.hid hown
    have HS1 := Lib.hid hs
    have HG := Lib.hid hgr
    have hgs := hgr.size
    clear hl hown hs hgr
    by_cases hkn : k < n
    · go_wp2_with fail
      refine (n_any g _ 256 (by omega) HS1.out).mono ?_
      rintro e w1 ⟨r, h0, h1, _, rfl, hs1, hg1⟩
      have h256 := h1 (by omega)
      obtain ⟨z, rfl⟩ := Int.eq_ofNat_of_zero_le h0
      have HO1 := Lib.hid (HO.out.kept hg1 (by
        rcases hb : u5.ownBlock with _ | q
        · exact Or.inl rfl
        · exact Or.inr (fun e => by have := (HO.out.lt q hb).1; have := Option.some.inj e; omega)))
      have HS2 := Lib.hid hs1
      have HG1 := Lib.hid (grown_trans HG.out hg1)
      have hg1s := hg1.size
      clear hs1 hg1 h1
      go_wp2_with (at_builtin; refine wpList_append_own _ rfl (.tmp 13) (.tmp 17) 22 rfl w.heap.size 5 i5 (.int .u8 0) 1 1 Tryd.underlying22 hi hz0 hz1 hz2 rfl (by decide) _ _ _ rfl (HO1.out.alloc _) ⟨w1.heap.size, 0, none⟩ 1 1 [.int .u8 z] rfl rfl ?c1 ?c2 ?c3 ?c4 ?c5 ?_)
      case c1 => exact cell_one_new _ _ _
      case c2 => exact one_u8 _
      case c3 => unfold maxLen; omega
      case c4 => omega
      case c5 => simp; omega
      intro v' w2 hown2 hgrow2 _
      rw [← byte_snoc l z (by omega)] at hown2
      have hrow : ∀ q, u5.ownBlock = some q → w.heap.size ≤ q := fun q hq => (HO.out.lt q hq).1
      have HS3 := Lib.hid ((HS2.out.alloc (.cells #[.int .u8 (z : Int)] 5)).grown hgrow2 (fun q hq => by have := hrow q hq; omega))
      have HG2 := Lib.hid (grown_join HG1.out (grown_trans (grown_below ((Below.refl w1.heap.size w1).alloc (Nat.le_refl _) (.cells #[.int .u8 (z : Int)] 5)) u5.ownBlock) hgrow2) hrow)
      have HO2 := Lib.hid hown2
      clear hown2 hgrow2 hrow
      go_wp2_with fail
      go_roundw
      case rel => exact ⟨k + 1, l ++ [UInt8.ofNat z], by omega, by go_num, by simp [HL.out], HO2.out, HS3.out, HG2.out⟩
      case measure => simp [RowKit.intOf]; omega
    · have hkk : k = n := by omega
      have HK := Lib.hid hkk
      clear hkk
      go_wp2_with (refine wpList_own_str rfl (.tmp 19) 22 9 5 rfl Tryd.underlying22 Tryd.underlying5 Tryd.underlying9 _ _ rfl HO.out ?_)
      go_ret
      exact ⟨_, ⟨⟨l.toArray⟩, by show l.toArray.size = n; rw [List.size_toArray, HL.out, HK.out], rfl⟩, rfl, HS1.out, HG.out⟩
end Go.Proofs.YtghcolobjfgfgaaDoor
