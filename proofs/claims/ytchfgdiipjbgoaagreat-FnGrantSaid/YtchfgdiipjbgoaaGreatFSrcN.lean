/- The source of the draws: what it holds, its numbers, bytes, and how it begins. -/
import Derived.Test.YtchfgdiipjbgoaaGreatRows
import Derived.Test.YtchfgdiipjbgoaaGreatFGdA
import Derived.RegionTactic
import Derived.BigRegion
import Derived.Deep.QuietTactic
import Derived.BigQuiet
import Derived.Outline
import Derived.Handy
import Derived.IntWalk
import Derived.Laws.BitsAllLaws
import Derived.Laws.BitsLemmas
namespace Go.Proofs.YtchfgdiipjbgoaaGreat
open Go Go.RowKit

theorem info5 : (Tryz.prog.info? 5).map (fun i => (i.zero, i.size, i.bytes)) = some (some (.int .u8 0), 1, 1) := by kernel_rfl
theorem one_u8 (v : Int) : ∀ u ∈ [Value.int .u8 v], u.oneCell' = true := by
 intro u hu
 simp at hu
 subst hu
 rfl
theorem byte_snoc (pre : List UInt8) (v : Nat) (h : v < 256) : Lib.byteCells (pre ++ [UInt8.ofNat v]) = Lib.byteCells pre ++ [.int .u8 v] := by
 simp [Lib.byteCells]
 omega

/-- The bytes that a source reads: they lie ahead of block g. -/
def CodeAt (g : Nat) (w : World) (a : Option Addr) (len : Nat) : Prop :=
 ∀ i, i < len → ∃ b off z, a = some ⟨b, off, none⟩ ∧ b < g ∧ w.cell? ⟨b, off + i, none⟩ = some (.int .u8 z) ∧ 0 ≤ z ∧ z < 256
/-- Block g is a source. -/
def SrcAt (g : Nat) (w : World) : Prop := ∃ (a : Option Addr) (len cap : Nat) (at_ mix size : Int),
 w.heap[g]? = some (.cells #[.slice a len cap, .int .i64 at_, .int .u64 mix, .int .i64 size] 211 (0, 0)) ∧ 0 ≤ at_ ∧ at_ ≤ 281474976710656 ∧ len ≤ 281474976710656 ∧ 0 ≤ mix ∧ mix < 18446744073709551616 ∧
  0 ≤ size ∧ size ≤ 12 ∧ CodeAt g w a len
def DrawPost (g : Nat) (w : World) (most : Int) (e : Ending) (w' : World) : Prop :=
 ∃ r : Int, 0 ≤ r ∧ (1 < most → r < most) ∧ (most ≤ 1 → r = 0) ∧ e = .returned (.int .i64 r) ∧ SrcAt g w' ∧ w.grownBy w' (some g)

theorem grown_refl (w : World) (r : Option Nat) : w.grownBy w r := ⟨rfl, rfl, rfl, Nat.le_refl _, fun _ _ _ => rfl⟩
theorem grown_trans {a b c : World} {r : Option Nat} (h : a.grownBy b r) (k : b.grownBy c r) : a.grownBy c r :=
 ⟨k.os.trans h.os, k.tape.trans h.tape, k.output.trans h.output, Nat.le_trans h.size k.size, fun i hi hr => (k.block i (Nat.lt_of_lt_of_le hi h.size) hr).trans (h.block i hi hr)⟩
theorem grown_drewN (w : World) (n : Nat) (r : Option Nat) : w.grownBy (w.drewN n) r := by
 induction n with
 | zero => exact grown_refl _ _
 | succ n ih => exact grown_trans ih ⟨rfl, rfl, rfl, Nat.le_refl _, fun _ _ _ => rfl⟩
theorem grown_set (w : World) (g j : Nat) (v : Value) : w.grownBy (w.setCell ⟨g, j, none⟩ v) (some g) :=
 ⟨rfl, rfl, rfl, by simp [World.setCell], fun k _ hk => Below.heap_setCell _ _ _ _ (fun e => hk (by simp [e]))⟩

/-- Block g holds a source's four cells, and all else is as in w0. -/
def SrcAs (g : Nat) (a : Option Addr) (len cap : Nat) (at_ mix size : Int) (w0 W : World) : Prop :=
 W.heap[g]? = some (.cells #[.slice a len cap, .int .i64 at_, .int .u64 mix, .int .i64 size] 211 (0, 0)) ∧ w0.grownBy W (some g)
section
variable {g : Nat} {a : Option Addr} {len cap : Nat} {at_ mix size : Int} {w0 W : World}
theorem SrcAs.drewN (h : SrcAs g a len cap at_ mix size w0 W) (n : Nat) : SrcAs g a len cap at_ mix size w0 (W.drewN n) := by
 refine ⟨?_, grown_trans h.2 (grown_drewN _ _ _)⟩
 have e : (W.drewN n).heap = W.heap := by simp
 rw [e]
 exact h.1
theorem SrcAs.drew (h : SrcAs g a len cap at_ mix size w0 W) : SrcAs g a len cap at_ mix size w0 W.drew := h.drewN 1
theorem SrcAs.setMix (h : SrcAs g a len cap at_ mix size w0 W) (m : Int) : SrcAs g a len cap at_ m size w0 (W.setCell ⟨g, 2, none⟩ (.int .u64 m)) := by
 refine ⟨?_, grown_trans h.2 (grown_set _ _ _ _)⟩
 rw [Lib.heap_setCell_same (i := 2) h.1]
 rfl
theorem SrcAs.setAt (h : SrcAs g a len cap at_ mix size w0 W) (m : Int) : SrcAs g a len cap m mix size w0 (W.setCell ⟨g, 1, none⟩ (.int .i64 m)) := by
 refine ⟨?_, grown_trans h.2 (grown_set _ _ _ _)⟩
 rw [Lib.heap_setCell_same (i := 1) h.1]
 rfl
theorem SrcAs.setSize (h : SrcAs g a len cap at_ mix size w0 W) (m : Int) : SrcAs g a len cap at_ mix m w0 (W.setCell ⟨g, 3, none⟩ (.int .i64 m)) := by
 refine ⟨?_, grown_trans h.2 (grown_set _ _ _ _)⟩
 rw [Lib.heap_setCell_same (i := 3) h.1]
 rfl
theorem SrcAs.facts (h : SrcAs g a len cap at_ mix size w0 W) : W.cell? ⟨g, 0, none⟩ = some (.slice a len cap) ∧ W.cell? ⟨g, 1, none⟩ = some (.int .i64 at_) ∧ W.cell? ⟨g, 2, none⟩ = some (.int .u64 mix) ∧
  W.cell? ⟨g, 3, none⟩ = some (.int .i64 size) ∧ W.frozen? ⟨g, 1, none⟩ = false ∧ W.frozen? ⟨g, 2, none⟩ = false ∧ W.frozen? ⟨g, 3, none⟩ = false := by
 have hg := h.1
 refine ⟨?_, ?_, ?_, ?_, ?_, ?_, ?_⟩
 all_goals first | simp [World.cell?, hg] | simp [World.frozen?, hg]
theorem CodeAt.grown (h : CodeAt g w0 a len) (hg : w0.grownBy W (some g)) : CodeAt g W a len := fun i hi => by
 obtain ⟨b, off, z, ha, hb, hc, h0, h1⟩ := h i hi
 exact ⟨b, off, z, ha, hb, hg.cell hc (fun e => by have := Option.some.inj e; simp at this; omega), h0, h1⟩
end
/-- What is to be known of a world behind a piece of code, its spelling forgotten. -/
theorem forget {P : Program} {c : Code} {Q : Exit → Act → World → Prop} {a : Act} {W : World} (Φ : World → Prop) (h : Φ W) (k : ∀ W', Φ W' → c.wp P Q a W') : c.wp P Q a W := k W h
theorem bits_lo (op : BinOp) (x y : Int) : 0 ≤ bits op .u64 x y := by
 unfold bits
 rw [IntKind.wrap_u64]
 exact Int.emod_nonneg _ (by decide)
theorem bits_hi (op : BinOp) (x y : Int) : bits op .u64 x y < 18446744073709551616 := by
 unfold bits
 rw [IntKind.wrap_u64]
 exact Int.emod_lt_of_pos _ (by decide)

theorem wrap_lo (x : Int) : 0 ≤ IntKind.u64.wrap x := by rw [IntKind.wrap_u64]; exact Int.emod_nonneg _ (by decide)
theorem draw_post {g : Nat} {a : Option Addr} {len cap : Nat} {at_ mix size most X : Int} {w W : World} {e : Ending} (h1 : 1 < most) (hm : most ≤ 9223372036854775807)
  (he : e = .returned (.int .i64 (wrap64 (X.tmod most)))) (hA : SrcAs g a len cap at_ mix size w W) (a0 : 0 ≤ at_) (a1 : at_ ≤ 281474976710656) (hl : len ≤ 281474976710656) (m0 : 0 ≤ mix) (m1 : mix < 18446744073709551616)
  (s0 : 0 ≤ size) (s1 : size ≤ 12) (hc : CodeAt g w a len) (hX : 0 ≤ X) : DrawPost g w most e W := by
 have b0 := Int.emod_nonneg X (show most ≠ 0 by omega)
 have b1 := Int.emod_lt_of_pos X (show 0 < most by omega)
 refine ⟨X % most, b0, fun _ => b1, fun h => by omega, ?_, ⟨a, len, cap, at_, mix, size, hA.1, a0, a1, hl, m0, m1, s0, s1, hc.grown hA.2⟩, hA.2⟩
 rw [he, Int.tmod_eq_emod_of_nonneg hX]
 congr 2
 unfold wrap64
 omega

set_option maxRecDepth 100000 in
set_option maxHeartbeats 4000000 in
theorem n_any (g : Nat) (w : World) (most : Int) (hm : most ≤ 9223372036854775807) (hS : SrcAt g w) :
  Calls Tryz.prog 84 #[.pointer (some ⟨g, 0, none⟩), .int .i64 most] w (DrawPost g w most) := by
 by_cases h1 : most ≤ 1
 ·have HS := Lib.hid hS
  have HM := Lib.hid h1
  clear hS
  go_enter Tryz.func84, Tryz.ntmps84
  go_wp2_with fail
  go_ret
  exact ⟨0, by omega, by have := HM.out; omega, fun _ => rfl, rfl, HS.out, grown_refl _ _⟩
 ·obtain ⟨a, len, cap, at_, mix, size, hg, ha0, ha1, hl, hm0, hm1, hs0, hs1, hc⟩ := hS
  have HC := Lib.hid hc
  have HMB := Lib.hid hm1
  have HA : Hid (SrcAs g a len cap at_ mix size w w) := Lib.hid ⟨hg, grown_refl _ _⟩
  obtain ⟨c0, c1, c2, c3, f1, f2, f3⟩ := HA.out.facts
  clear hg hm1
  by_cases hlt : at_ < len
  ·obtain ⟨b, off, z, rfl, hb, hz, z0, z1⟩ := hc at_.toNat (by omega)
   clear hc
   have d0 : decide (at_ < (len : Int)) = true := decide_eq_true hlt
   go_enter Tryz.func84, Tryz.ntmps84
   go_wp2_with fail
   go_quiet (fail)
   go_wp2_with fail
   go_region
   go_wp2_with fail
   refine forget (SrcAs g _ len cap (at_ + 1) mix size w) (by first | exact (HA.out.drewN _).setAt _ | exact ((HA.out.setAt _).drewN _) | exact ((HA.out.drewN _).setAt _).drew) ?_
   intro W0 hA0
   have HA0 := Lib.hid hA0
   clear hA0
   clear c0 c1 c2 c3 f1 f2 f3
   obtain ⟨c0, c1, c2, c3, f1, f2, f3⟩ := HA0.out.facts
   go_region
   go_wp2_with fail
   obtain ⟨lo1, hi1⟩ : 0 ≤ bits BinOp.xor IntKind.u64 mix (IntKind.u64.wrap (mix * 8192)) ∧ bits BinOp.xor IntKind.u64 mix (IntKind.u64.wrap (mix * 8192)) < 18446744073709551616 := ⟨bits_lo _ _ _, bits_hi _ _ _⟩
   generalize bits BinOp.xor IntKind.u64 mix (IntKind.u64.wrap (mix * 8192)) = m1 at *
   have HI1 := Lib.hid hi1
   clear hi1
   refine forget (SrcAs g _ len cap (at_ + 1) m1 size w) (by first | exact (HA0.out.drewN _).setMix _ | exact (HA0.out.drew).setMix _ | exact (HA0.out.setMix _).drew) ?_
   intro W1 hA1
   have HA1 := Lib.hid hA1
   clear hA1
   clear c0 c1 c2 c3 f1 f2 f3
   obtain ⟨c0, c1, c2, c3, f1, f2, f3⟩ := HA1.out.facts
   go_region
   go_wp2_with fail
   obtain ⟨lo2, hi2⟩ : 0 ≤ bits BinOp.xor IntKind.u64 m1 (m1 / 128) ∧ bits BinOp.xor IntKind.u64 m1 (m1 / 128) < 18446744073709551616 := ⟨bits_lo _ _ _, bits_hi _ _ _⟩
   generalize bits BinOp.xor IntKind.u64 m1 (m1 / 128) = m2 at *
   have HI2 := Lib.hid hi2
   clear hi2
   refine forget (SrcAs g _ len cap (at_ + 1) m2 size w) (by first | exact (HA1.out.drewN _).setMix _ | exact (HA1.out.drew).setMix _ | exact (HA1.out.setMix _).drew) ?_
   intro W2 hA2
   have HA2 := Lib.hid hA2
   clear hA2
   clear c0 c1 c2 c3 f1 f2 f3
   obtain ⟨c0, c1, c2, c3, f1, f2, f3⟩ := HA2.out.facts
   go_region
   go_wp2_with fail
   obtain ⟨lo3, hi3⟩ : 0 ≤ bits BinOp.xor IntKind.u64 m2 (IntKind.u64.wrap (m2 * 131072)) ∧ bits BinOp.xor IntKind.u64 m2 (IntKind.u64.wrap (m2 * 131072)) < 18446744073709551616 := ⟨bits_lo _ _ _, bits_hi _ _ _⟩
   generalize bits BinOp.xor IntKind.u64 m2 (IntKind.u64.wrap (m2 * 131072)) = m3 at *
   have HI3 := Lib.hid hi3
   clear hi3
   go_ret
   have hA3 : SrcAs g _ len cap (at_ + 1) m3 size w _ := (by first | exact (HA2.out.drewN _).setMix _ | exact (HA2.out.drew).setMix _ | exact (HA2.out.setMix _).drew)
   exact draw_post (by omega) hm rfl hA3 (by omega) (by omega) hl lo3 HI3.out hs0 hs1 HC.out (wrap_lo _)
  ·have d0 : decide (at_ < (len : Int)) = false := decide_eq_false hlt
   clear hc
   go_enter Tryz.func84, Tryz.ntmps84
   go_wp2_with fail
   go_quiet (fail)
   go_wp2_with fail
   go_region
   go_wp2_with fail
   obtain ⟨lo1, hi1⟩ : 0 ≤ bits BinOp.xor IntKind.u64 mix (IntKind.u64.wrap (mix * 8192)) ∧ bits BinOp.xor IntKind.u64 mix (IntKind.u64.wrap (mix * 8192)) < 18446744073709551616 := ⟨bits_lo _ _ _, bits_hi _ _ _⟩
   generalize bits BinOp.xor IntKind.u64 mix (IntKind.u64.wrap (mix * 8192)) = m1 at *
   have HI1 := Lib.hid hi1
   clear hi1
   refine forget (SrcAs g _ len cap at_ m1 size w) (by first | exact (HA.out.drewN _).setMix _ | exact (HA.out.drew).setMix _ | exact (HA.out.setMix _).drew) ?_
   intro W1 hA1
   have HA1 := Lib.hid hA1
   clear hA1
   clear c0 c1 c2 c3 f1 f2 f3
   obtain ⟨c0, c1, c2, c3, f1, f2, f3⟩ := HA1.out.facts
   go_region
   go_wp2_with fail
   obtain ⟨lo2, hi2⟩ : 0 ≤ bits BinOp.xor IntKind.u64 m1 (m1 / 128) ∧ bits BinOp.xor IntKind.u64 m1 (m1 / 128) < 18446744073709551616 := ⟨bits_lo _ _ _, bits_hi _ _ _⟩
   generalize bits BinOp.xor IntKind.u64 m1 (m1 / 128) = m2 at *
   have HI2 := Lib.hid hi2
   clear hi2
   refine forget (SrcAs g _ len cap at_ m2 size w) (by first | exact (HA1.out.drewN _).setMix _ | exact (HA1.out.drew).setMix _ | exact (HA1.out.setMix _).drew) ?_
   intro W2 hA2
   have HA2 := Lib.hid hA2
   clear hA2
   clear c0 c1 c2 c3 f1 f2 f3
   obtain ⟨c0, c1, c2, c3, f1, f2, f3⟩ := HA2.out.facts
   go_region
   go_wp2_with fail
   obtain ⟨lo3, hi3⟩ : 0 ≤ bits BinOp.xor IntKind.u64 m2 (IntKind.u64.wrap (m2 * 131072)) ∧ bits BinOp.xor IntKind.u64 m2 (IntKind.u64.wrap (m2 * 131072)) < 18446744073709551616 := ⟨bits_lo _ _ _, bits_hi _ _ _⟩
   generalize bits BinOp.xor IntKind.u64 m2 (IntKind.u64.wrap (m2 * 131072)) = m3 at *
   have HI3 := Lib.hid hi3
   clear hi3
   go_ret
   have hA3 : SrcAs g _ len cap at_ m3 size w _ := (by first | exact (HA2.out.drewN _).setMix _ | exact (HA2.out.drew).setMix _ | exact (HA2.out.setMix _).drew)
   exact draw_post (by omega) hm rfl hA3 (by omega) (by omega) hl lo3 HI3.out hs0 hs1 HC.out (wrap_lo _)

/-- A slice of integers that came in: nil, or a row of cap cells, each fitting its kind. -/
def IsRow (k : IntKind) (w : World) (a : Option Addr) (len cap : Nat) (zs : List Int) : Prop :=
 (a = none ∧ len = 0 ∧ cap = 0 ∧ zs = []) ∨
 ∃ x, a = some x ∧ len ≤ cap ∧ cap ≤ maxLen ∧ zs.length = cap ∧ (∀ i, i < zs.length → w.cell? (x.add i) = some (.int k (zs.getD i 0))) ∧ ∀ n ∈ zs, (Lit.int k n).wf = true

theorem CodeAt.keep {g : Nat} {w w' : World} {a : Option Addr} {len : Nat} (h : CodeAt g w a len) (hk : ∀ k, k < w.heap.size → w'.heap[k]? = w.heap[k]?) : CodeAt g w' a len := fun i hi => by
 obtain ⟨b, off, z, ha, hb, hc, h0, h1⟩ := h i hi
 exact ⟨b, off, z, ha, hb, by rw [World.cell?_of_block (hk b (World.block_lt_of_cell? w ⟨b, off + i, none⟩ hc))]; exact hc, h0, h1⟩
theorem SrcAt.keep {g : Nat} {w w' : World} (h : SrcAt g w) (hk : ∀ k, k < w.heap.size → w'.heap[k]? = w.heap[k]?) : SrcAt g w' := by
 obtain ⟨a, len, cap, at_, mix, size, hg, ha0, ha1, hl, hm0, hm1, hs0, hs1, hc⟩ := h
 exact ⟨a, len, cap, at_, mix, size, by rw [hk g (Array.getElem?_eq_some_iff.1 hg).1]; exact hg, ha0, ha1, hl, hm0, hm1, hs0, hs1, hc.keep hk⟩
theorem SrcAt.lt {g : Nat} {w : World} (h : SrcAt g w) : g < w.heap.size := by
 obtain ⟨a, len, cap, at_, mix, size, hg, _⟩ := h
 exact (Array.getElem?_eq_some_iff.1 hg).1
theorem SrcAt.below {g : Nat} {w w' : World} (h : SrcAt g w) (hb : Below w.heap.size w w') : SrcAt g w' := h.keep (fun k hk => hb.block k hk)
theorem SrcAt.alloc {g : Nat} {w : World} (h : SrcAt g w) (o : Obj) : SrcAt g (w.alloc o) := h.below ((Below.refl _ _).alloc (Nat.le_refl _) _)
theorem grown_below {w w' : World} (h : Below w.heap.size w w') (r : Option Nat) : w.grownBy w' r := ⟨h.os, h.tape, h.output, h.size, fun k hk _ => h.block k hk⟩

theorem SrcAt.grown {g : Nat} {w w' : World} {row : Option Nat} (h : SrcAt g w) (hg : w.grownBy w' row) (hr : ∀ q, row = some q → g < q) : SrcAt g w' := by
 have hlt := h.lt
 obtain ⟨a, len, cap, at_, mix, size, hgg, ha0, ha1, hl, hm0, hm1, hs0, hs1, hc⟩ := h
 refine ⟨a, len, cap, at_, mix, size, by rw [hg.block g hlt (fun e => by have := hr g e.symm; omega)]; exact hgg, ha0, ha1, hl, hm0, hm1, hs0, hs1, fun i hi => ?_⟩
 obtain ⟨b, off, z, ha, hb, hcc, h0, h1⟩ := hc i hi
 exact ⟨b, off, z, ha, hb, hg.cell hcc (fun e => by have := hr b e.symm; omega), h0, h1⟩
/-- What is written behind the old blocks is no part of the frame. -/
theorem grown_join {w w1 w2 : World} {row r : Option Nat} (h1 : w.grownBy w1 r) (h : w1.grownBy w2 row) (hr : ∀ q, row = some q → w.heap.size ≤ q) : w.grownBy w2 r :=
 ⟨h.os.trans h1.os, h.tape.trans h1.tape, h.output.trans h1.output, Nat.le_trans h1.size h.size,
  fun k hk hne => (h.block k (Nat.lt_of_lt_of_le hk h1.size) (fun e => by have := hr k e.symm; omega)).trans (h1.block k hk hne)⟩
/-- A source's answer: the value, the source, the frame. -/
def SrcPost (g : Nat) (w : World) (Φ : Value → Prop) (e : Ending) (w' : World) : Prop := ∃ v : Value, Φ v ∧ e = .returned v ∧ SrcAt g w' ∧ w.grownBy w' (some g)

theorem one_any (g : Nat) (w : World) (most : Int) (hm : most ≤ 9223372036854775807) (hS : SrcAt g w) :
  Calls Tryz.prog 86 #[.pointer (some ⟨g, 0, none⟩), .int .i64 most] w (SrcPost g w (fun v => ∃ b : Bool, v = .bool b)) := by
 have HS := Lib.hid hS
 clear hS
 go_enter Tryz.func86, Tryz.ntmps86
 go_wp2_with fail
 refine (n_any g _ most hm HS.out).mono ?_
 rintro e w1 ⟨r, h0, _, _, rfl, hs1, hg1⟩
 have HS1 := Lib.hid hs1
 have HG1 := Lib.hid hg1
 clear hs1 hg1
 go_wp2_with fail
 go_ret
 exact ⟨_, ⟨_, rfl⟩, rfl, HS1.out, HG1.out⟩

end Go.Proofs.YtchfgdiipjbgoaaGreat
