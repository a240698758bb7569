/- Draws: one of some texts; a text changed a little. Draws: a box of what is asked, told by a property. -/
import Derived.Test.YtchfgdiipjbgoaaGreatFSrcN
import Derived.Deep.DeepCutAuto
import Derived.Test.YtchfgdiipjbgoaaGreatFGdC
import Derived.Test.YtchfgdiipjbgoaaGreatFResR
namespace Go.Proofs.YtchfgdiipjbgoaaGreat
open Go Go.RowKit
set_option linter.unusedVariables false

theorem pick_any (g : Nat) (w : World) (b n cap : Nat) (Φ : ByteArray → Prop) (hn : 1 ≤ n) (hn2 : n ≤ 100) (hc : ∀ j, j < n → ∃ t, Φ t ∧ w.cell? ⟨b, j, none⟩ = some (.string t)) (hb : b ≠ g) (hS : SrcAt g w) :
  Calls Tryz.prog 145 #[.pointer (some ⟨g, 0, none⟩), .slice (some ⟨b, 0, none⟩) n cap] w (SrcPost g w (fun v => ∃ t, Φ t ∧ v = .string t)) := by
 have HS := Lib.hid hS
 have HC := Lib.hid hc
 clear hS hc
 go_enter Tryz.func145, Tryz.ntmps145
 go_wp2_with fail
 refine (n_any g _ n (by omega) HS.out).mono ?_
 rintro e w1 ⟨r, h0, h1, h2, rfl, hs1, hg1⟩
 obtain ⟨j, rfl⟩ := Int.eq_ofNat_of_zero_le h0
 have hj : j < n := by
  by_cases h : 1 < n
  ·have := h1 (by omega)
   omega
  ·have := h2 (by omega)
   omega
 obtain ⟨t, ht, hcell⟩ := HC.out j hj
 have hcell1 : w1.cell? ⟨b, j, none⟩ = some (.string t) := hg1.cell (a := ⟨b, j, none⟩) hcell (fun e => by have := Option.some.inj e; exact hb this)
 have HT := Lib.hid ht
 have HS1 := Lib.hid hs1
 have HG1 := Lib.hid hg1
 clear ht hs1 hg1 hcell h0 h1 h2
 go_wp2_with fail
 go_ret
 exact ⟨_, ⟨t, HT.out, rfl⟩, rfl, HS1.out, HG1.out⟩
end Go.Proofs.YtchfgdiipjbgoaaGreat
/- Draws: a box of what is asked, told by a property. -/
namespace Go.Proofs.YtchfgdiipjbgoaaGreat
open Go Go.RowKit Go.Lib
set_option linter.unusedVariables false

/-- A box of what is asked, a source beside it. -/
def BoxQ (Φ : RQ → Prop) (g q5 : Nat) (w wx : World) : Prop := ∃ r : RQ, RQ64 r ∧ Row wx q5 29 (rqL r) ∧ Row wx w.heap.size 29 (rqL ⟨0, 0, 0, 0, 0, ⟨#[]⟩, 0⟩) ∧ SrcAt g wx ∧ w.grownBy wx (some g) ∧ Φ r
theorem row_fld {w : World} {g : Nat} {E : TypeId} {r r' : RQ} (h : Row w g E (rqL r)) (j : Nat) (v : Value) (e : (rqL r).set j v = rqL r') : Row (w.setCell ⟨g, j, none⟩ v) g E (rqL r') := e ▸ h.set j v
theorem Row.grw {w w' : World} {q : Nat} {E : TypeId} {l : List Value} {r : Option Nat} (h : Row w q E l) (hg : w.grownBy w' r) (hne : r ≠ some q) : Row w' q E l := by
 unfold Row at *
 rw [hg.block q (Array.getElem?_eq_some_iff.1 h).1 (fun e => hne e.symm)]
 exact h
/-- One field of the box set. -/
theorem BoxQ.set {g q5 : Nat} {w wx : World} {r r' : RQ} {Φ : RQ → Prop} (hq : w.heap.size < q5) (hg : g < w.heap.size) (h64 : RQ64 r') (h1 : Row wx q5 29 (rqL r)) (h2 : Row wx w.heap.size 29 (rqL ⟨0, 0, 0, 0, 0, ⟨#[]⟩, 0⟩)) (h3 : SrcAt g wx) (h4 : w.grownBy wx (some g))
  (j : Nat) (v : Value) (e : (rqL r).set j v = rqL r') (hp : Φ r') : BoxQ Φ g q5 w (wx.setCell ⟨q5, j, none⟩ v) := by
 have hs := grown_set (w := wx) q5 j v
 exact ⟨r', h64, row_fld h1 j v e, h2.grw hs (fun e => by have := Option.some.inj e; omega), h3.grown hs (fun q e => by have := Option.some.inj e; omega), grown_join h4 hs (fun q e => by have := Option.some.inj e; omega), hp⟩
theorem BoxQ.kept {g q5 : Nat} {w w1 w2 : World} {Φ : RQ → Prop} (h : BoxQ Φ g q5 w w1) (hg : w1.grownBy w2 (some g)) (hs : SrcAt g w2) (hq : w.heap.size < q5) (hlt : g < w.heap.size) : BoxQ Φ g q5 w w2 := by
 obtain ⟨r, h1, h2, h3, h4, h5, h6⟩ := h
 exact ⟨r, h1, h2.grw hg (fun e => by have := Option.some.inj e; omega), h3.grw hg (fun e => by have := Option.some.inj e; omega), hs, grown_trans h5 hg, h6⟩
theorem BoxQ.mono {g q5 : Nat} {w wx : World} {Φ Ψ : RQ → Prop} (hi : ∀ r, Φ r → Ψ r) (h : BoxQ Φ g q5 w wx) : BoxQ Ψ g q5 w wx := by
 obtain ⟨r, h1, h2, h3, h4, h5, h6⟩ := h
 exact ⟨r, h1, h2, h3, h4, h5, hi r h6⟩
def small (n : Int) : Prop := -9223372036854775808 ≤ n ∧ n ≤ 9223372036854775807
/-- A row of numbers, looked up. -/
theorem ints_at (L : List Int) (hL : ∀ x ∈ L, -9223372036854775808 ≤ x ∧ x ≤ 9223372036854775807) (j : Nat) (h : j < L.length) : ∃ v : Int, small v ∧ (L.map (Value.int .i64))[j]? = some (.int .i64 v) :=
 ⟨L[j], hL _ (List.getElem_mem _), by rw [List.getElem?_map, List.getElem?_eq_getElem h]; rfl⟩
theorem small2 {x y : UInt8} : (⟨#[x, y]⟩ : ByteArray).size ≤ maxLen := by show 2 ≤ maxLen; unfold maxLen; omega
theorem z64 : (-9223372036854775808 : Int) ≤ 0 ∧ (0 : Int) ≤ 9223372036854775807 := by decide
theorem ints_in (L : List Int) (lo hi : Int) (hL : ∀ x ∈ L, lo ≤ x ∧ x ≤ hi) (j : Nat) (h : j < L.length) : ∃ v : Int, (lo ≤ v ∧ v ≤ hi) ∧ (L.map (Value.int .i64))[j]? = some (.int .i64 v) :=
 ⟨L[j], hL _ (List.getElem_mem _), by rw [List.getElem?_map, List.getElem?_eq_getElem h]; rfl⟩
end Go.Proofs.YtchfgdiipjbgoaaGreat
