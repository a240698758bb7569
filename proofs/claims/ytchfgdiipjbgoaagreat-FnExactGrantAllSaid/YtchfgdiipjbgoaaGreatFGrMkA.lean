/- Marks in a whole grant; two answers compared. -/
import Derived.Test.YtchfgdiipjbgoaaGreatFGdV
import Derived.Test.YtchfgdiipjbgoaaGreatFGoD
import Derived.Test.YtchfgdiipjbgoaaGreatFGdU
namespace Go.Proofs.YtchfgdiipjbgoaaGreat
open Go Go.RowKit Go.Lib
set_option linter.unusedVariables false
set_option maxRecDepth 100000

/-- A list that may be written into. -/
def Lst (w : World) (q : Option Addr) (n K : Nat) : Prop := n = 0 ∨ ∃ b, q = some ⟨b, 0, none⟩ ∧ w.there b 0 (n * K) ∧ b < w.heap.size
/-- A list of marks. -/
def MkAt (w : World) (q : Option Addr) (n K : Nat) (c : Nat → List Value) (k0 : Nat) : Prop := n = 0 ∨ ∃ b, q = some ⟨b, 0, none⟩ ∧ w.rangeAt b 0 (mkL c K k0 n) ∧ b < w.heap.size
def blkN (q : Option Addr) (n : Nat) : Option Nat := if n = 0 then none else q.map (·.block)
theorem Lst.blk {w : World} {q : Option Addr} {n K b : Nat} (h : Lst w q n K) (hb : blkN q n = some b) : q = some ⟨b, 0, none⟩ ∧ b < w.heap.size := by
 unfold blkN at hb
 rcases h with h | ⟨g, rfl, h1, h2⟩
 ·rw [if_pos h] at hb; cases hb
 ·split at hb
  ·cases hb
  ·obtain rfl : g = b := by simpa using hb
   exact ⟨rfl, h2⟩
theorem Lst.grown {w w' : World} {q : Option Addr} {n K : Nat} {r : Option Nat} (h : Lst w q n K) (hg : w.grownBy w' r) (hne : ∀ b, q = some ⟨b, 0, none⟩ → r ≠ some b) : Lst w' q n K := by
 rcases h with h | ⟨b, rfl, h1, h2⟩
 ·exact .inl h
 ·have hb : w'.heap[b]? = w.heap[b]? := hg.block b h2 (fun e => hne b rfl e.symm)
  refine .inr ⟨b, rfl, fun j hj => ?_, Nat.lt_of_lt_of_le h2 hg.size⟩
  have := h1 j hj
  exact ⟨by rw [World.cell?_of_block (w := w) hb]; exact this.1, by rw [World.frozen?_of_block (w := w) hb]; exact this.2⟩
theorem MkAt.same {w w' : World} {q : Option Addr} {n K k0 : Nat} {c : Nat → List Value} (h : MkAt w q n K c k0) (hs : w.heap.size ≤ w'.heap.size) (hb : ∀ b, q = some ⟨b, 0, none⟩ → w'.heap[b]? = w.heap[b]?) : MkAt w' q n K c k0 := by
 rcases h with h | ⟨b, rfl, h1, h2⟩
 ·exact .inl h
 ·exact .inr ⟨b, rfl, fun j v hv => (World.cell?_of_block (w := w) (hb b rfl)).trans (h1 j v hv), Nat.lt_of_lt_of_le h2 hs⟩
theorem MkAt.grown {w w' : World} {q : Option Addr} {n K k0 : Nat} {c : Nat → List Value} {r : Option Nat} (h : MkAt w q n K c k0) (hg : w.grownBy w' r) (hne : ∀ b, q = some ⟨b, 0, none⟩ → r ≠ some b) : MkAt w' q n K c k0 := by
 rcases h with h | ⟨b, rfl, h1, h2⟩
 ·exact .inl h
 ·exact MkAt.same (.inr ⟨b, rfl, h1, h2⟩) hg.size (fun b' e => by
   obtain rfl : b = b' := by simpa using e
   exact hg.block b h2 (fun e => hne b rfl e.symm))
theorem rowG {w w' : World} {b E : Nat} {l : List Value} {r : Option Nat} (h : Row w b E l) (hg : w.grownBy w' r) (hne : r ≠ some b) : Row w' b E l := (hg.block b h.lt (fun e => hne e.symm)).trans h
theorem own_lst {w : World} {N E K n m c : Nat} {q : Option Addr} {x : List Value} (h : w.ownsRow N E K (.slice q m c) n x) : Lst w q n K := by
 rcases own_ways h with ⟨rfl, _, _, rfl⟩ | ⟨gN, rfl, h1, h2, hm, _⟩
 ·exact .inl rfl
 ·subst hm
  refine .inr ⟨gN, rfl, fun j hj => ⟨?_, by rw [Nat.zero_add]; exact h.frozenAt j⟩, h2⟩
  rw [Nat.zero_add, h.cellAt j hj]
  have := h.1
  simp; omega
theorem row_lst {w : World} {b E K n : Nat} {x : List Value} (h : Row w b E x) (hx : x.length = n * K) : Lst w (some ⟨b, 0, none⟩) n K := .inr ⟨b, rfl, h.there 0 (n * K) (by omega), h.lt⟩
theorem markWord_any (q : Option Addr) (n cap k0 : Nat) (w : World) (hk0 : 1 ≤ k0) (hk : k0 + 5 * n < 100000000) (h : Lst w q n 5) : Calls Tryz.prog 132 #[.slice q n cap, .int .i64 (k0 : Int)] w fun e w' => e = .returned (.int .i64 ((k0 + 5 * n : Nat) : Int)) ∧ MkAt w' q n 5 wmC k0 ∧ w.grownBy w' (blkN q n) := by
 rcases h with rfl | ⟨b, rfl, h1, h2⟩
 ·exact (markWord_nil q cap k0 w (by omega)).mono fun e w' hh => by
   obtain ⟨rfl, rfl⟩ := hh
   exact ⟨rfl, .inl rfl, World.grownBy.refl _ _⟩
 ·by_cases hn : n = 0
  ·subst hn
   exact (markWord_nil _ cap k0 w (by omega)).mono fun e w' hh => by
    obtain ⟨rfl, rfl⟩ := hh
    exact ⟨rfl, .inl rfl, World.grownBy.refl _ _⟩
  ·exact (markWord_some b n cap k0 w hk0 hk h1 h2).mono fun e w' hh => by
    obtain ⟨rfl, h3, h4⟩ := hh
    exact ⟨rfl, .inr ⟨b, rfl, h3, Nat.lt_of_lt_of_le h2 h4.size⟩, by unfold blkN; rw [if_neg hn]; exact h4⟩
theorem heldWord_any (q : Option Addr) (n cap k0 : Nat) (w : World) (hk0 : 1 ≤ k0) (hk : k0 + 5 * n < 100000000) (h : MkAt w q n 5 wmC k0) : Calls Tryz.prog 205 #[.slice q n cap, .int .i64 (k0 : Int)] w (Ret (.int .i64 ((k0 + 5 * n : Nat) : Int)) w) := by
 rcases h with rfl | ⟨b, rfl, h1, h2⟩
 ·exact (heldWord_nil q cap k0 w (by omega)).mono fun e w' hh => by
   obtain ⟨rfl, rfl⟩ := hh
   exact ⟨rfl, Below.refl _ _⟩
 ·exact heldWord_some b n cap k0 w hk0 hk h1 h2
theorem markKey_any (q : Option Addr) (n cap k0 : Nat) (w : World) (hk0 : 1 ≤ k0) (hk : k0 + 6 * n < 100000000) (h : Lst w q n 6) : Calls Tryz.prog 133 #[.slice q n cap, .int .i64 (k0 : Int)] w fun e w' => e = .returned (.int .i64 ((k0 + 6 * n : Nat) : Int)) ∧ MkAt w' q n 6 kmC k0 ∧ w.grownBy w' (blkN q n) := by
 rcases h with rfl | ⟨b, rfl, h1, h2⟩
 ·exact (markKey_nil q cap k0 w (by omega)).mono fun e w' hh => by
   obtain ⟨rfl, rfl⟩ := hh
   exact ⟨rfl, .inl rfl, World.grownBy.refl _ _⟩
 ·by_cases hn : n = 0
  ·subst hn
   exact (markKey_nil _ cap k0 w (by omega)).mono fun e w' hh => by
    obtain ⟨rfl, rfl⟩ := hh
    exact ⟨rfl, .inl rfl, World.grownBy.refl _ _⟩
  ·exact (markKey_some b n cap k0 w hk0 hk h1 h2).mono fun e w' hh => by
    obtain ⟨rfl, h3, h4⟩ := hh
    exact ⟨rfl, .inr ⟨b, rfl, h3, Nat.lt_of_lt_of_le h2 h4.size⟩, by unfold blkN; rw [if_neg hn]; exact h4⟩
theorem heldKey_any (q : Option Addr) (n cap k0 : Nat) (w : World) (hk0 : 1 ≤ k0) (hk : k0 + 6 * n < 100000000) (h : MkAt w q n 6 kmC k0) : Calls Tryz.prog 206 #[.slice q n cap, .int .i64 (k0 : Int)] w (Ret (.int .i64 ((k0 + 6 * n : Nat) : Int)) w) := by
 rcases h with rfl | ⟨b, rfl, h1, h2⟩
 ·exact (heldKey_nil q cap k0 w (by omega)).mono fun e w' hh => by
   obtain ⟨rfl, rfl⟩ := hh
   exact ⟨rfl, Below.refl _ _⟩
 ·exact heldKey_some b n cap k0 w hk0 hk h1 h2
theorem markInt64_any (q : Option Addr) (n cap k0 : Nat) (w : World) (hk0 : 1 ≤ k0) (hk : k0 + 1 * n < 100000000) (h : Lst w q n 1) : Calls Tryz.prog 134 #[.slice q n cap, .int .i64 (k0 : Int)] w fun e w' => e = .returned (.int .i64 ((k0 + 1 * n : Nat) : Int)) ∧ MkAt w' q n 1 imC k0 ∧ w.grownBy w' (blkN q n) := by
 rcases h with rfl | ⟨b, rfl, h1, h2⟩
 ·exact (markInt64_nil q cap k0 w (by omega)).mono fun e w' hh => by
   obtain ⟨rfl, rfl⟩ := hh
   exact ⟨rfl, .inl rfl, World.grownBy.refl _ _⟩
 ·by_cases hn : n = 0
  ·subst hn
   exact (markInt64_nil _ cap k0 w (by omega)).mono fun e w' hh => by
    obtain ⟨rfl, rfl⟩ := hh
    exact ⟨rfl, .inl rfl, World.grownBy.refl _ _⟩
  ·exact (markInt64_some b n cap k0 w hk0 hk h1 h2).mono fun e w' hh => by
    obtain ⟨rfl, h3, h4⟩ := hh
    exact ⟨rfl, .inr ⟨b, rfl, h3, Nat.lt_of_lt_of_le h2 h4.size⟩, by unfold blkN; rw [if_neg hn]; exact h4⟩
theorem heldInt64_any (q : Option Addr) (n cap k0 : Nat) (w : World) (hk0 : 1 ≤ k0) (hk : k0 + 1 * n < 100000000) (h : MkAt w q n 1 imC k0) : Calls Tryz.prog 207 #[.slice q n cap, .int .i64 (k0 : Int)] w (Ret (.int .i64 ((k0 + 1 * n : Nat) : Int)) w) := by
 rcases h with rfl | ⟨b, rfl, h1, h2⟩
 ·exact (heldInt64_nil q cap k0 w (by omega)).mono fun e w' hh => by
   obtain ⟨rfl, rfl⟩ := hh
   exact ⟨rfl, Below.refl _ _⟩
 ·exact heldInt64_some b n cap k0 w hk0 hk h1 h2
/-- The lists of a grant lie in unlike blocks. -/
def Apart3 (h : GH) : Prop := (∀ b b', h.kp = some ⟨b, 0, none⟩ → h.wp = some b' → b ≠ b'.block) ∧ (∀ b b', h.dp = some ⟨b, 0, none⟩ → h.wp = some b' → b ≠ b'.block) ∧ (∀ b b', h.dp = some ⟨b, 0, none⟩ → h.kp = some b' → b ≠ b'.block) ∧ (∀ b b', h.wp = some ⟨b, 0, none⟩ → h.kp = some b' → b ≠ b'.block) ∧ (∀ b b', h.wp = some ⟨b, 0, none⟩ → h.dp = some b' → b ≠ b'.block) ∧ (∀ b b', h.kp = some ⟨b, 0, none⟩ → h.dp = some b' → b ≠ b'.block)
def Lst3 (w : World) (h : GH) : Prop := Lst w h.wp h.wn 5 ∧ Lst w h.kp h.kn 6 ∧ Lst w h.dp h.dn 1
def Mk3 (w : World) (h : GH) (k0 : Nat) : Prop := MkAt w h.wp h.wn 5 wmC k0 ∧ MkAt w h.kp h.kn 6 kmC (k0 + 5 * h.wn) ∧ MkAt w h.dp h.dn 1 imC (k0 + 5 * h.wn + 6 * h.kn)
def end3 (h : GH) (k0 : Nat) : Nat := k0 + 5 * h.wn + 6 * h.kn + 1 * h.dn
theorem Lst.below {w w' : World} {q : Option Addr} {n K : Nat} (h : Lst w q n K) (hb : Below w.heap.size w w') : Lst w' q n K := by
 rcases h with h | ⟨b, rfl, h1, h2⟩
 ·exact .inl h
 ·exact .inr ⟨b, rfl, there_belowM h1 hb h2, Nat.lt_of_lt_of_le h2 hb.size⟩
theorem Mk3.below {w w' : World} {h : GH} {k0 : Nat} (hm : Mk3 w h k0) (hb : Below w.heap.size w w') : Mk3 w' h k0 := by
 have aux : ∀ {q : Option Addr} {n K k0 : Nat} {c : Nat → List Value}, MkAt w q n K c k0 → MkAt w' q n K c k0 := fun hh => by
  rcases hh with hh | ⟨b, rfl, h1, h2⟩
  ·exact .inl hh
  ·exact .inr ⟨b, rfl, range_belowM h1 hb h2, Nat.lt_of_lt_of_le h2 hb.size⟩
 exact ⟨aux hm.1, aux hm.2.1, aux hm.2.2⟩
/-- What marking leaves alone. -/
def Outside (h : GH) (w w' : World) : Prop := w'.os = w.os ∧ w'.tape = w.tape ∧ w'.output = w.output ∧ w.heap.size ≤ w'.heap.size ∧ ∀ k, k < w.heap.size → h.wp.map (·.block) ≠ some k → h.kp.map (·.block) ≠ some k → h.dp.map (·.block) ≠ some k → w'.heap[k]? = w.heap[k]?
def MarkG (h : GH) (k0 : Nat) (w : World) (e : Ending) (w' : World) : Prop := e = .returned (.int .i64 ((end3 h k0 : Nat) : Int)) ∧ Mk3 w' h k0 ∧ Outside h w w'
set_option maxHeartbeats 2000000 in
theorem markGrant_any (h : GH) (n : Int) (k0 : Nat) (w : World) (hk0 : 1 ≤ k0) (hk : end3 h k0 < 100000000) (hl : Lst3 w h) (ha : Apart3 h) : Calls Tryz.prog 59 #[grV n h, .int .i64 (k0 : Int)] w (MarkG h k0 w) := by
 unfold end3 at hk
 have hb0 := (Below.refl w.heap.size w).alloc (Nat.le_refl _) (.cells #[.int .i64 n, .slice h.wp h.wn h.wc, .slice h.kp h.kn h.kc, .slice h.dp h.dn h.dc] 27)
 have hr : Row (w.alloc (.cells #[.int .i64 n, .slice h.wp h.wn h.wc, .slice h.kp h.kn h.kc, .slice h.dp h.dn h.dc] 27)) w.heap.size 27 (grL n h) := heap_alloc_new w _
 obtain ⟨W, hW⟩ : ∃ W, W = w.alloc (.cells #[.int .i64 n, .slice h.wp h.wn h.wc, .slice h.kp h.kn h.kc, .slice h.dp h.dn h.dc] 27) := ⟨_, rfl⟩
 rw [← hW] at hb0 hr
 have HW := Lib.hid hW
 have HR := Lib.hid hr
 have HB := Lib.hid hb0
 have hz := hb0.size
 have hgl := hr.lt
 have HL1 := Lib.hid (hl.1.below hb0)
 have HL2 := Lib.hid (hl.2.1.below hb0)
 have HL3 := Lib.hid (hl.2.2.below hb0)
 have HA := Lib.hid ha
 have hB : ∀ {q : Option Addr} {k K b : Nat}, Lst w q k K → blkN q k = some b → q = some ⟨b, 0, none⟩ ∧ b < w.heap.size := fun hh hb => hh.blk hb
 have HQ1 : Hid (∀ b, blkN h.wp h.wn = some b → h.wp = some ⟨b, 0, none⟩ ∧ b < w.heap.size) := Lib.hid (fun b hb => hl.1.blk hb)
 have HQ2 : Hid (∀ b, blkN h.kp h.kn = some b → h.kp = some ⟨b, 0, none⟩ ∧ b < w.heap.size) := Lib.hid (fun b hb => hl.2.1.blk hb)
 have HQ3 : Hid (∀ b, blkN h.dp h.dn = some b → h.dp = some ⟨b, 0, none⟩ ∧ b < w.heap.size) := Lib.hid (fun b hb => hl.2.2.blk hb)
 have HE := Lib.hid (show grV n h = .agg #[.int .i64 n, .slice h.wp h.wn h.wc, .slice h.kp h.kn h.kc, .slice h.dp h.dn h.dc] from rfl)
 clear hb0 hr hW hl ha hB
 rw [HE.out]
 go_enter Tryz.func59, Tryz.ntmps59
 go_wp2_with fail
 rw [← HW.out]
 refine (markWord_any h.wp h.wn h.wc k0 _ hk0 (by omega) HL1.out).mono ?_
 rintro e w1 ⟨rfl, hm1, hg1⟩
 have HM1 := Lib.hid hm1
 have HG1 := Lib.hid hg1
 have HR1 := Lib.hid (rowG HR.out hg1 (fun e => by have := (HQ1.out _ e).2; omega))
 have HL2' := Lib.hid (HL2.out.grown hg1 (fun b e e' => HA.out.1 b _ e (HQ1.out _ e').1 rfl))
 have HL3' := Lib.hid (HL3.out.grown hg1 (fun b e e' => HA.out.2.1 b _ e (HQ1.out _ e').1 rfl))
 have hz1 := hg1.size
 have b2 : w1.cell? ⟨w.heap.size, 2, none⟩ = some (.slice h.kp h.kn h.kc) := HR1.out.cell 2
 clear hm1 hg1
 go_wp2_with fail
 refine (markKey_any h.kp h.kn h.kc (k0 + 5 * h.wn) _ (by omega) (by omega) HL2'.out).mono ?_
 rintro e w2 ⟨rfl, hm2, hg2⟩
 have HM2 := Lib.hid hm2
 have HG2 := Lib.hid hg2
 have HR2 := Lib.hid (rowG HR1.out hg2 (fun e => by have := (HQ2.out _ e).2; omega))
 have HM1' := Lib.hid (HM1.out.grown hg2 (fun b e e' => HA.out.2.2.2.1 b _ e (HQ2.out _ e').1 rfl))
 have HL3'' := Lib.hid (HL3'.out.grown hg2 (fun b e e' => HA.out.2.2.1 b _ e (HQ2.out _ e').1 rfl))
 have hz2 := hg2.size
 have b3 : w2.cell? ⟨w.heap.size, 3, none⟩ = some (.slice h.dp h.dn h.dc) := HR2.out.cell 3
 clear hm2 hg2 b2
 go_wp2_with fail
 refine (markInt64_any h.dp h.dn h.dc (k0 + 5 * h.wn + 6 * h.kn) _ (by omega) (by omega) HL3''.out).mono ?_
 rintro e w3 ⟨rfl, hm3, hg3⟩
 have HM3 := Lib.hid hm3
 have HM1'' := Lib.hid (HM1'.out.grown hg3 (fun b e e' => HA.out.2.2.2.2.1 b _ e (HQ3.out _ e').1 rfl))
 have HM2' := Lib.hid (HM2.out.grown hg3 (fun b e e' => HA.out.2.2.2.2.2 b _ e (HQ3.out _ e').1 rfl))
 have HOut : Hid (Outside h w w3) := Lib.hid (by
  have h0 := HB.out
  have h1 := HG1.out
  have h2 := HG2.out
  refine ⟨hg3.os.trans (h2.os.trans (h1.os.trans h0.os)), hg3.tape.trans (h2.tape.trans (h1.tape.trans h0.tape)), hg3.output.trans (h2.output.trans (h1.output.trans h0.output)), by have := hg3.size; omega, fun k hk k1 k2 k3 => ?_⟩
  have e1 := h0.block k hk
  have e2 := h1.block k (by omega) (fun e => k1 (by rw [(HQ1.out _ e.symm).1]; rfl))
  have e3 := h2.block k (by omega) (fun e => k2 (by rw [(HQ2.out _ e.symm).1]; rfl))
  have e4 := hg3.block k (by omega) (fun e => k3 (by rw [(HQ3.out _ e.symm).1]; rfl))
  exact e4.trans (e3.trans (e2.trans e1)))
 clear hm3 hg3 b3
 go_wp2_with fail
 go_ret
 exact ⟨by rw [show ((end3 h k0 : Nat) : Int) = (k0 : Int) + 5 * h.wn + 6 * h.kn + h.dn by unfold end3; omega]; rfl, ⟨HM1''.out, HM2'.out, HM3.out⟩, HOut.out⟩
set_option maxHeartbeats 2000000 in
theorem heldGrant_any (h : GH) (n : Int) (k0 : Nat) (w : World) (hk0 : 1 ≤ k0) (hk : end3 h k0 < 100000000) (hm : Mk3 w h k0) : Calls Tryz.prog 135 #[grV n h, .int .i64 (k0 : Int)] w (Ret (.int .i64 ((end3 h k0 : Nat) : Int)) w) := by
 unfold end3 at hk ⊢
 have hb0 := (Below.refl w.heap.size w).alloc (Nat.le_refl _) (.cells #[.int .i64 n, .slice h.wp h.wn h.wc, .slice h.kp h.kn h.kc, .slice h.dp h.dn h.dc] 27)
 have hr : Row (w.alloc (.cells #[.int .i64 n, .slice h.wp h.wn h.wc, .slice h.kp h.kn h.kc, .slice h.dp h.dn h.dc] 27)) w.heap.size 27 (grL n h) := heap_alloc_new w _
 obtain ⟨W, hW⟩ : ∃ W, W = w.alloc (.cells #[.int .i64 n, .slice h.wp h.wn h.wc, .slice h.kp h.kn h.kc, .slice h.dp h.dn h.dc] 27) := ⟨_, rfl⟩
 rw [← hW] at hb0 hr
 have HW := Lib.hid hW
 have HR := Lib.hid hr
 have HB := Lib.hid hb0
 have hz := hb0.size
 have hgl := hr.lt
 have HM := Lib.hid (hm.below hb0)
 have HE := Lib.hid (show grV n h = .agg #[.int .i64 n, .slice h.wp h.wn h.wc, .slice h.kp h.kn h.kc, .slice h.dp h.dn h.dc] from rfl)
 clear hb0 hr hW hm
 rw [HE.out]
 go_enter Tryz.func135, Tryz.ntmps135
 go_wp2_with fail
 rw [← HW.out]
 refine (heldWord_any h.wp h.wn h.wc k0 _ hk0 (by omega) HM.out.1).mono ?_
 rintro e w1 ⟨rfl, hb1⟩
 have HR1 := Lib.hid (HR.out.below hb1 hgl)
 have HM1 := Lib.hid (HM.out.below hb1)
 have HB1 := Lib.hid (HB.out.trans (hb1.mono hz))
 have hz1 := HB1.out.size
 have b2 : w1.cell? ⟨w.heap.size, 2, none⟩ = some (.slice h.kp h.kn h.kc) := HR1.out.cell 2
 have n1 : ¬ (((k0 + 5 * h.wn : Nat) : Int) < 0) := by omega
 clear hb1
 go_wp2_with fail
 refine (heldKey_any h.kp h.kn h.kc (k0 + 5 * h.wn) _ (by omega) (by omega) HM1.out.2.1).mono ?_
 rintro e w2 ⟨rfl, hb2⟩
 have HR2 := Lib.hid (HR1.out.below hb2 HR1.out.lt)
 have HM2 := Lib.hid (HM1.out.below hb2)
 have HB2 := Lib.hid (HB1.out.trans (hb2.mono hz1))
 have hz2 := HB2.out.size
 have b3 : w2.cell? ⟨w.heap.size, 3, none⟩ = some (.slice h.dp h.dn h.dc) := HR2.out.cell 3
 have n2 : ¬ (((k0 + 5 * h.wn + 6 * h.kn : Nat) : Int) < 0) := by omega
 clear hb2 b2 n1
 go_wp2_with fail
 refine (heldInt64_any h.dp h.dn h.dc (k0 + 5 * h.wn + 6 * h.kn) _ (by omega) (by omega) HM2.out.2.2).mono ?_
 rintro e w3 ⟨rfl, hb3⟩
 have HB3 := Lib.hid (HB2.out.trans (hb3.mono hz2))
 have n3 : ¬ (((k0 + 5 * h.wn + 6 * h.kn + 1 * h.dn : Nat) : Int) < 0) := by omega
 clear hb3 b3 n2
 go_wp2_with fail
 go_ret
 exact ⟨by rw [show ((k0 + 5 * h.wn + 6 * h.kn + 1 * h.dn : Nat) : Int) = (k0 : Int) + 5 * h.wn + 6 * h.kn + h.dn by omega]; rfl, HB3.out⟩
set_option maxHeartbeats 2000000 in
theorem markGO_any (h : GH) (n : Int) (s : RS) (c : Int) (k0 : Nat) (w : World) (hk0 : 1 ≤ k0) (hk : end3 h k0 < 100000000) (hl : Lst3 w h) (ha : Apart3 h) : Calls Tryz.prog 60 #[goV n h s c, .int .i64 (k0 : Int)] w (MarkG h k0 w) := by
 have hb0 := (Below.refl w.heap.size w).alloc (Nat.le_refl _) (.cells #[.int .i64 n, .slice h.wp h.wn h.wc, .slice h.kp h.kn h.kc, .slice h.dp h.dn h.dc, .int .i64 s.code, .int .i64 s.token, .int .i64 s.next, .bool s.yes, .int .i64 c] 35)
 have HB := Lib.hid hb0
 have HL := Lib.hid (show Lst3 (w.alloc (.cells #[.int .i64 n, .slice h.wp h.wn h.wc, .slice h.kp h.kn h.kc, .slice h.dp h.dn h.dc, .int .i64 s.code, .int .i64 s.token, .int .i64 s.next, .bool s.yes, .int .i64 c] 35)) h from ⟨hl.1.below hb0, hl.2.1.below hb0, hl.2.2.below hb0⟩)
 have HE := Lib.hid (show goV n h s c = .agg #[.int .i64 n, .slice h.wp h.wn h.wc, .slice h.kp h.kn h.kc, .slice h.dp h.dn h.dc, .int .i64 s.code, .int .i64 s.token, .int .i64 s.next, .bool s.yes, .int .i64 c] from rfl)
 have HG := Lib.hid (show grV n h = .agg #[.int .i64 n, .slice h.wp h.wn h.wc, .slice h.kp h.kn h.kc, .slice h.dp h.dn h.dc] from rfl)
 have hlt : ∀ {q : Option Addr} {k K b : Nat}, Lst w q k K → blkN q k = some b → True := fun _ _ => trivial
 clear hb0 hlt
 rw [HE.out]
 go_enter Tryz.func60, Tryz.ntmps60
 go_wp2_with fail
 rw [← HG.out]
 refine (markGrant_any h n k0 _ hk0 hk HL.out ha).mono ?_
 rintro e w1 ⟨rfl, hm1, ho1⟩
 have HM := Lib.hid hm1
 have HO : Hid (Outside h w w1) := Lib.hid (by
  obtain ⟨h1, h2, h3, h4, h5⟩ := ho1
  have h0 := HB.out
  refine ⟨h1.trans h0.os, h2.trans h0.tape, h3.trans h0.output, Nat.le_trans h0.size h4, fun k hk k1 k2 k3 => ?_⟩
  exact (h5 k (Nat.lt_of_lt_of_le hk h0.size) k1 k2 k3).trans (h0.block k hk))
 clear hm1 ho1 hl
 go_wp2_with fail
 go_ret
 exact ⟨rfl, HM.out, HO.out⟩
set_option maxHeartbeats 2000000 in
theorem heldGO_any (h : GH) (n : Int) (s : RS) (c : Int) (k0 : Nat) (w : World) (hk0 : 1 ≤ k0) (hk : end3 h k0 < 100000000) (hm : Mk3 w h k0) : Calls Tryz.prog 61 #[goV n h s c, .int .i64 (k0 : Int)] w (Ret (.int .i64 ((end3 h k0 : Nat) : Int)) w) := by
 have hb0 := (Below.refl w.heap.size w).alloc (Nat.le_refl _) (.cells #[.int .i64 n, .slice h.wp h.wn h.wc, .slice h.kp h.kn h.kc, .slice h.dp h.dn h.dc, .int .i64 s.code, .int .i64 s.token, .int .i64 s.next, .bool s.yes, .int .i64 c] 35)
 have HB := Lib.hid hb0
 have HM := Lib.hid (hm.below hb0)
 have hz := hb0.size
 have HE := Lib.hid (show goV n h s c = .agg #[.int .i64 n, .slice h.wp h.wn h.wc, .slice h.kp h.kn h.kc, .slice h.dp h.dn h.dc, .int .i64 s.code, .int .i64 s.token, .int .i64 s.next, .bool s.yes, .int .i64 c] from rfl)
 have HG := Lib.hid (show grV n h = .agg #[.int .i64 n, .slice h.wp h.wn h.wc, .slice h.kp h.kn h.kc, .slice h.dp h.dn h.dc] from rfl)
 clear hb0 hm
 rw [HE.out]
 go_enter Tryz.func61, Tryz.ntmps61
 go_wp2_with fail
 rw [← HG.out]
 refine (heldGrant_any h n k0 _ hk0 hk HM.out).mono ?_
 rintro e w1 ⟨rfl, hb1⟩
 have HB1 := Lib.hid (HB.out.trans (hb1.mono hz))
 have n1 : ¬ (((end3 h k0 : Nat) : Int) < 0) := by omega
 clear hb1
 go_wp2_with fail
 go_ret
 exact ⟨rfl, HB1.out⟩
theorem eqResp_sameG (r : RS) (w : World) : Calls Tryz.prog 128 #[rsV r, rsV r] w (Ret (.bool true) w) := by
 unfold rsV
 go_enter Tryz.func128, Tryz.ntmps128
 go_wp2_with fail
 go_ret
 exact ⟨rfl, by go_grown⟩
set_option maxHeartbeats 2000000 in
theorem eqGO_same (h k : GH) (g : Gr) (s : RS) (c : Int) (w : World) (hi : GrIn w h g) (hi' : GrIn w k g) (hs : GrSmall g) : Calls Tryz.prog 57 #[goV g.now h s c, goV g.now k s c] w (Ret (.bool true) w) := by
 obtain ⟨W, hW⟩ : ∃ W, W = (w.alloc (.cells #[.int .i64 g.now, .slice h.wp h.wn h.wc, .slice h.kp h.kn h.kc, .slice h.dp h.dn h.dc, .int .i64 s.code, .int .i64 s.token, .int .i64 s.next, .bool s.yes, .int .i64 c] 35)).alloc (.cells #[.int .i64 g.now, .slice k.wp k.wn k.wc, .slice k.kp k.kn k.kc, .slice k.dp k.dn k.dc, .int .i64 s.code, .int .i64 s.token, .int .i64 s.next, .bool s.yes, .int .i64 c] 35) := ⟨_, rfl⟩
 have hb0 : Below w.heap.size w W := by rw [hW]; go_grown
 have r0 : Row W w.heap.size 35 (goL g.now h s c) := by
  rw [hW]
  exact Row.below (heap_alloc_new w _) ((Below.refl _ _).alloc (Nat.le_refl _) _) (by simp)
 have r1 : Row W (w.heap.size + 1) 35 (goL g.now k s c) := by
  rw [hW]
  have h := heap_alloc_new (w.alloc (.cells #[.int .i64 g.now, .slice h.wp h.wn h.wc, .slice h.kp h.kn h.kc, .slice h.dp h.dn h.dc, .int .i64 s.code, .int .i64 s.token, .int .i64 s.next, .bool s.yes, .int .i64 c] 35)) (.cells #[.int .i64 g.now, .slice k.wp k.wn k.wc, .slice k.kp k.kn k.kc, .slice k.dp k.dn k.dc, .int .i64 s.code, .int .i64 s.token, .int .i64 s.next, .bool s.yes, .int .i64 c] 35)
  rw [World.size_alloc] at h
  exact h
 have HW := Lib.hid hW
 have HB := Lib.hid hb0
 have R0 := Lib.hid r0
 have R1 := Lib.hid r1
 have hz := hb0.size
 have HI := Lib.hid (hi.later hb0)
 have HI' := Lib.hid (hi'.later hb0)
 have HE := Lib.hid (show goV g.now h s c = .agg #[.int .i64 g.now, .slice h.wp h.wn h.wc, .slice h.kp h.kn h.kc, .slice h.dp h.dn h.dc, .int .i64 s.code, .int .i64 s.token, .int .i64 s.next, .bool s.yes, .int .i64 c] from rfl)
 have HE' := Lib.hid (show goV g.now k s c = .agg #[.int .i64 g.now, .slice k.wp k.wn k.wc, .slice k.kp k.kn k.kc, .slice k.dp k.dn k.dc, .int .i64 s.code, .int .i64 s.token, .int .i64 s.next, .bool s.yes, .int .i64 c] from rfl)
 have HG := Lib.hid (show grV g.now h = .agg #[.int .i64 g.now, .slice h.wp h.wn h.wc, .slice h.kp h.kn h.kc, .slice h.dp h.dn h.dc] from rfl)
 have HG' := Lib.hid (show grV g.now k = .agg #[.int .i64 g.now, .slice k.wp k.wn k.wc, .slice k.kp k.kn k.kc, .slice k.dp k.dn k.dc] from rfl)
 have HS := Lib.hid (show rsV s = .agg #[.int .i64 s.code, .int .i64 s.token, .int .i64 s.next, .bool s.yes] from rfl)
 have HSm := Lib.hid hs
 clear hW hb0 r0 r1 hi hi' hs
 rw [HE.out, HE'.out]
 go_enter Tryz.func57, Tryz.ntmps57
 go_wp2_with fail
 rw [← HG.out, ← HG'.out, ← HW.out]
 refine (eqGrant_same h k g _ HI.out HI'.out HSm.out).mono ?_
 rintro e w1 ⟨rfl, hb1⟩
 have S0 := Lib.hid (R0.out.below hb1 R0.out.lt)
 have S1 := Lib.hid (R1.out.below hb1 R1.out.lt)
 have HB1 := Lib.hid (HB.out.trans (hb1.mono hz))
 clear hb1
 have a4 : w1.cell? ⟨w.heap.size, 4, none⟩ = some (.int .i64 s.code) := S0.out.cell 4
 have a5 : w1.cell? ⟨w.heap.size, 5, none⟩ = some (.int .i64 s.token) := S0.out.cell 5
 have a6 : w1.cell? ⟨w.heap.size, 6, none⟩ = some (.int .i64 s.next) := S0.out.cell 6
 have a7 : w1.cell? ⟨w.heap.size, 7, none⟩ = some (.bool s.yes) := S0.out.cell 7
 have b4 : w1.cell? ⟨w.heap.size + 1, 4, none⟩ = some (.int .i64 s.code) := S1.out.cell 4
 have b5 : w1.cell? ⟨w.heap.size + 1, 5, none⟩ = some (.int .i64 s.token) := S1.out.cell 5
 have b6 : w1.cell? ⟨w.heap.size + 1, 6, none⟩ = some (.int .i64 s.next) := S1.out.cell 6
 have b7 : w1.cell? ⟨w.heap.size + 1, 7, none⟩ = some (.bool s.yes) := S1.out.cell 7
 go_wp2_with fail
 rw [← HS.out]
 refine (eqResp_sameG s _).mono ?_
 rintro e w2 ⟨rfl, hb2⟩
 have HB2 := Lib.hid (HB1.out.trans (hb2.mono HB1.out.size))
 have d8 : w2.cell? ⟨w.heap.size, 8, none⟩ = some (.int .i64 c) := (S0.out.below hb2 S0.out.lt).cell 8
 have e8 : w2.cell? ⟨w.heap.size + 1, 8, none⟩ = some (.int .i64 c) := (S1.out.below hb2 S1.out.lt).cell 8
 clear hb2 a4 a5 a6 a7 b4 b5 b6 b7
 go_wp2_with fail
 go_ret
 exact ⟨rfl, HB2.out⟩
theorem own_isIn {N : Nat} {w : World} {h : GH} {g : Gr} (k : GrOwn N g h w) : GrIn w h g := by
 refine ⟨⟨own_len k.1, own_len k.2.1, own_len k.2.2⟩, ?_, ?_, ?_⟩
 ·rcases Nat.eq_zero_or_pos g.words.length with h0 | h0
  ·exact .inl (List.eq_nil_of_length_eq_zero h0)
  ·obtain ⟨gN, h1, _, _, _, h2⟩ := own_some k.1 h0
   exact .inr ⟨gN, 0, h1, fun j u hj => by rw [Nat.zero_add]; exact h2 j u hj⟩
 ·rcases Nat.eq_zero_or_pos g.keys.length with h0 | h0
  ·exact .inl (List.eq_nil_of_length_eq_zero h0)
  ·obtain ⟨gN, h1, _, _, _, h2⟩ := own_some k.2.1 h0
   exact .inr ⟨gN, 0, h1, fun j u hj => by rw [Nat.zero_add]; exact h2 j u hj⟩
 ·rcases Nat.eq_zero_or_pos g.dead.length with h0 | h0
  ·exact .inl (List.eq_nil_of_length_eq_zero h0)
  ·obtain ⟨gN, h1, _, _, _, h2⟩ := own_some k.2.2 h0
   exact .inr ⟨gN, 0, h1, fun j u hj => by rw [Nat.zero_add]; exact h2 j u hj⟩
end Go.Proofs.YtchfgdiipjbgoaaGreat
