/- Marks in a whole grant. A store whose lists are the call's own; what lies in which block; marks in a whole store. A store in a variable of a law's. -/
import Derived.Test.YtjccnjfdeedneaaGreatSGdM
import Derived.Test.YtjccnjfdeedneaaGreatSGrant2
import Derived.Test.YtjccnjfdeedneaaGreatSGdG
import Derived.Test.YtjccnjfdeedneaaGreatSStS2
namespace Go.Proofs.YtjccnjfdeedneaaGreat
open Go Go.RowKit Go.Lib
set_option linter.unusedVariables false
set_option maxRecDepth 100000

/-- A list that may be written into. -/
def Lst (w : World) (q : Option Addr) (n K : Nat) : Prop := n = 0 ∨ ∃ b, q = some ⟨b, 0, none⟩ ∧ w.there b 0 (n * K) ∧ b < w.heap.size
/-- A list of marks. -/
def MkAt (w : World) (q : Option Addr) (n K : Nat) (c : Nat → List Value) (k0 : Nat) : Prop := n = 0 ∨ ∃ b, q = some ⟨b, 0, none⟩ ∧ w.rangeAt b 0 (mkL c K k0 n) ∧ b < w.heap.size
def blkN (q : Option Addr) (n : Nat) : Option Nat := if n = 0 then none else q.map (·.block)
theorem Lst.blk {w : World} {q : Option Addr} {n K b : Nat} (h : Lst w q n K) (hb : blkN q n = some b) : q = some ⟨b, 0, none⟩ ∧ b < w.heap.size := by
 unfold blkN at hb
 rcases h with h | ⟨g, rfl, h1, h2⟩
 ·rw [if_pos h] at hb; cases hb
 ·split at hb
  ·cases hb
  ·obtain rfl : g = b := by simpa using hb
   exact ⟨rfl, h2⟩
theorem Lst.grown {w w' : World} {q : Option Addr} {n K : Nat} {r : Option Nat} (h : Lst w q n K) (hg : w.grownBy w' r) (hne : ∀ b, q = some ⟨b, 0, none⟩ → r ≠ some b) : Lst w' q n K := by
 rcases h with h | ⟨b, rfl, h1, h2⟩
 ·exact .inl h
 ·have hb : w'.heap[b]? = w.heap[b]? := hg.block b h2 (fun e => hne b rfl e.symm)
  refine .inr ⟨b, rfl, fun j hj => ?_, Nat.lt_of_lt_of_le h2 hg.size⟩
  have := h1 j hj
  exact ⟨by rw [World.cell?_of_block (w := w) hb]; exact this.1, by rw [World.frozen?_of_block (w := w) hb]; exact this.2⟩
theorem MkAt.same {w w' : World} {q : Option Addr} {n K k0 : Nat} {c : Nat → List Value} (h : MkAt w q n K c k0) (hs : w.heap.size ≤ w'.heap.size) (hb : ∀ b, q = some ⟨b, 0, none⟩ → w'.heap[b]? = w.heap[b]?) : MkAt w' q n K c k0 := by
 rcases h with h | ⟨b, rfl, h1, h2⟩
 ·exact .inl h
 ·exact .inr ⟨b, rfl, fun j v hv => (World.cell?_of_block (w := w) (hb b rfl)).trans (h1 j v hv), Nat.lt_of_lt_of_le h2 hs⟩
theorem MkAt.grown {w w' : World} {q : Option Addr} {n K k0 : Nat} {c : Nat → List Value} {r : Option Nat} (h : MkAt w q n K c k0) (hg : w.grownBy w' r) (hne : ∀ b, q = some ⟨b, 0, none⟩ → r ≠ some b) : MkAt w' q n K c k0 := by
 rcases h with h | ⟨b, rfl, h1, h2⟩
 ·exact .inl h
 ·exact MkAt.same (.inr ⟨b, rfl, h1, h2⟩) hg.size (fun b' e => by
   obtain rfl : b = b' := by simpa using e
   exact hg.block b h2 (fun e => hne b rfl e.symm))
theorem rowG {w w' : World} {b E : Nat} {l : List Value} {r : Option Nat} (h : Row w b E l) (hg : w.grownBy w' r) (hne : r ≠ some b) : Row w' b E l := (hg.block b h.lt (fun e => hne e.symm)).trans h
theorem own_lst {w : World} {N E K n m c : Nat} {q : Option Addr} {x : List Value} (h : w.ownsRow N E K (.slice q m c) n x) : Lst w q n K := by
 rcases own_ways h with ⟨rfl, _, _, rfl⟩ | ⟨gN, rfl, h1, h2, hm, _⟩
 ·exact .inl rfl
 ·subst hm
  refine .inr ⟨gN, rfl, fun j hj => ⟨?_, by rw [Nat.zero_add]; exact h.frozenAt j⟩, h2⟩
  rw [Nat.zero_add, h.cellAt j hj]
  have := h.1
  simp; omega
theorem row_lst {w : World} {b E K n : Nat} {x : List Value} (h : Row w b E x) (hx : x.length = n * K) : Lst w (some ⟨b, 0, none⟩) n K := .inr ⟨b, rfl, h.there 0 (n * K) (by omega), h.lt⟩
theorem markWord_any (q : Option Addr) (n cap k0 : Nat) (w : World) (hk0 : 1 ≤ k0) (hk : k0 + 5 * n < 100000000) (h : Lst w q n 5) : Calls Tryz.prog 56 #[.slice q n cap, .int .i64 (k0 : Int)] w fun e w' => e = .returned (.int .i64 ((k0 + 5 * n : Nat) : Int)) ∧ MkAt w' q n 5 wmC k0 ∧ w.grownBy w' (blkN q n) := by
 rcases h with rfl | ⟨b, rfl, h1, h2⟩
 ·exact (markWord_nil q cap k0 w (by omega)).mono fun e w' hh => by
   obtain ⟨rfl, rfl⟩ := hh
   exact ⟨rfl, .inl rfl, World.grownBy.refl _ _⟩
 ·by_cases hn : n = 0
  ·subst hn
   exact (markWord_nil _ cap k0 w (by omega)).mono fun e w' hh => by
    obtain ⟨rfl, rfl⟩ := hh
    exact ⟨rfl, .inl rfl, World.grownBy.refl _ _⟩
  ·exact (markWord_some b n cap k0 w hk0 hk h1 h2).mono fun e w' hh => by
    obtain ⟨rfl, h3, h4⟩ := hh
    exact ⟨rfl, .inr ⟨b, rfl, h3, Nat.lt_of_lt_of_le h2 h4.size⟩, by unfold blkN; rw [if_neg hn]; exact h4⟩
theorem heldWord_any (q : Option Addr) (n cap k0 : Nat) (w : World) (hk0 : 1 ≤ k0) (hk : k0 + 5 * n < 100000000) (h : MkAt w q n 5 wmC k0) : Calls Tryz.prog 122 #[.slice q n cap, .int .i64 (k0 : Int)] w (Ret (.int .i64 ((k0 + 5 * n : Nat) : Int)) w) := by
 rcases h with rfl | ⟨b, rfl, h1, h2⟩
 ·exact (heldWord_nil q cap k0 w (by omega)).mono fun e w' hh => by
   obtain ⟨rfl, rfl⟩ := hh
   exact ⟨rfl, Below.refl _ _⟩
 ·exact heldWord_some b n cap k0 w hk0 hk h1 h2
theorem markKey_any (q : Option Addr) (n cap k0 : Nat) (w : World) (hk0 : 1 ≤ k0) (hk : k0 + 6 * n < 100000000) (h : Lst w q n 6) : Calls Tryz.prog 57 #[.slice q n cap, .int .i64 (k0 : Int)] w fun e w' => e = .returned (.int .i64 ((k0 + 6 * n : Nat) : Int)) ∧ MkAt w' q n 6 kmC k0 ∧ w.grownBy w' (blkN q n) := by
 rcases h with rfl | ⟨b, rfl, h1, h2⟩
 ·exact (markKey_nil q cap k0 w (by omega)).mono fun e w' hh => by
   obtain ⟨rfl, rfl⟩ := hh
   exact ⟨rfl, .inl rfl, World.grownBy.refl _ _⟩
 ·by_cases hn : n = 0
  ·subst hn
   exact (markKey_nil _ cap k0 w (by omega)).mono fun e w' hh => by
    obtain ⟨rfl, rfl⟩ := hh
    exact ⟨rfl, .inl rfl, World.grownBy.refl _ _⟩
  ·exact (markKey_some b n cap k0 w hk0 hk h1 h2).mono fun e w' hh => by
    obtain ⟨rfl, h3, h4⟩ := hh
    exact ⟨rfl, .inr ⟨b, rfl, h3, Nat.lt_of_lt_of_le h2 h4.size⟩, by unfold blkN; rw [if_neg hn]; exact h4⟩
theorem heldKey_any (q : Option Addr) (n cap k0 : Nat) (w : World) (hk0 : 1 ≤ k0) (hk : k0 + 6 * n < 100000000) (h : MkAt w q n 6 kmC k0) : Calls Tryz.prog 123 #[.slice q n cap, .int .i64 (k0 : Int)] w (Ret (.int .i64 ((k0 + 6 * n : Nat) : Int)) w) := by
 rcases h with rfl | ⟨b, rfl, h1, h2⟩
 ·exact (heldKey_nil q cap k0 w (by omega)).mono fun e w' hh => by
   obtain ⟨rfl, rfl⟩ := hh
   exact ⟨rfl, Below.refl _ _⟩
 ·exact heldKey_some b n cap k0 w hk0 hk h1 h2
theorem markInt64_any (q : Option Addr) (n cap k0 : Nat) (w : World) (hk0 : 1 ≤ k0) (hk : k0 + 1 * n < 100000000) (h : Lst w q n 1) : Calls Tryz.prog 58 #[.slice q n cap, .int .i64 (k0 : Int)] w fun e w' => e = .returned (.int .i64 ((k0 + 1 * n : Nat) : Int)) ∧ MkAt w' q n 1 imC k0 ∧ w.grownBy w' (blkN q n) := by
 rcases h with rfl | ⟨b, rfl, h1, h2⟩
 ·exact (markInt64_nil q cap k0 w (by omega)).mono fun e w' hh => by
   obtain ⟨rfl, rfl⟩ := hh
   exact ⟨rfl, .inl rfl, World.grownBy.refl _ _⟩
 ·by_cases hn : n = 0
  ·subst hn
   exact (markInt64_nil _ cap k0 w (by omega)).mono fun e w' hh => by
    obtain ⟨rfl, rfl⟩ := hh
    exact ⟨rfl, .inl rfl, World.grownBy.refl _ _⟩
  ·exact (markInt64_some b n cap k0 w hk0 hk h1 h2).mono fun e w' hh => by
    obtain ⟨rfl, h3, h4⟩ := hh
    exact ⟨rfl, .inr ⟨b, rfl, h3, Nat.lt_of_lt_of_le h2 h4.size⟩, by unfold blkN; rw [if_neg hn]; exact h4⟩
theorem heldInt64_any (q : Option Addr) (n cap k0 : Nat) (w : World) (hk0 : 1 ≤ k0) (hk : k0 + 1 * n < 100000000) (h : MkAt w q n 1 imC k0) : Calls Tryz.prog 124 #[.slice q n cap, .int .i64 (k0 : Int)] w (Ret (.int .i64 ((k0 + 1 * n : Nat) : Int)) w) := by
 rcases h with rfl | ⟨b, rfl, h1, h2⟩
 ·exact (heldInt64_nil q cap k0 w (by omega)).mono fun e w' hh => by
   obtain ⟨rfl, rfl⟩ := hh
   exact ⟨rfl, Below.refl _ _⟩
 ·exact heldInt64_some b n cap k0 w hk0 hk h1 h2
/-- The lists of a grant lie in unlike blocks. -/
def Apart3 (h : GH) : Prop := (∀ b b', h.kp = some ⟨b, 0, none⟩ → h.wp = some b' → b ≠ b'.block) ∧ (∀ b b', h.dp = some ⟨b, 0, none⟩ → h.wp = some b' → b ≠ b'.block) ∧ (∀ b b', h.dp = some ⟨b, 0, none⟩ → h.kp = some b' → b ≠ b'.block) ∧ (∀ b b', h.wp = some ⟨b, 0, none⟩ → h.kp = some b' → b ≠ b'.block) ∧ (∀ b b', h.wp = some ⟨b, 0, none⟩ → h.dp = some b' → b ≠ b'.block) ∧ (∀ b b', h.kp = some ⟨b, 0, none⟩ → h.dp = some b' → b ≠ b'.block)
def Lst3 (w : World) (h : GH) : Prop := Lst w h.wp h.wn 5 ∧ Lst w h.kp h.kn 6 ∧ Lst w h.dp h.dn 1
def Mk3 (w : World) (h : GH) (k0 : Nat) : Prop := MkAt w h.wp h.wn 5 wmC k0 ∧ MkAt w h.kp h.kn 6 kmC (k0 + 5 * h.wn) ∧ MkAt w h.dp h.dn 1 imC (k0 + 5 * h.wn + 6 * h.kn)
def end3 (h : GH) (k0 : Nat) : Nat := k0 + 5 * h.wn + 6 * h.kn + 1 * h.dn
theorem Lst.below {w w' : World} {q : Option Addr} {n K : Nat} (h : Lst w q n K) (hb : Below w.heap.size w w') : Lst w' q n K := by
 rcases h with h | ⟨b, rfl, h1, h2⟩
 ·exact .inl h
 ·exact .inr ⟨b, rfl, there_belowM h1 hb h2, Nat.lt_of_lt_of_le h2 hb.size⟩
theorem Mk3.below {w w' : World} {h : GH} {k0 : Nat} (hm : Mk3 w h k0) (hb : Below w.heap.size w w') : Mk3 w' h k0 := by
 have aux : ∀ {q : Option Addr} {n K k0 : Nat} {c : Nat → List Value}, MkAt w q n K c k0 → MkAt w' q n K c k0 := fun hh => by
  rcases hh with hh | ⟨b, rfl, h1, h2⟩
  ·exact .inl hh
  ·exact .inr ⟨b, rfl, range_belowM h1 hb h2, Nat.lt_of_lt_of_le h2 hb.size⟩
 exact ⟨aux hm.1, aux hm.2.1, aux hm.2.2⟩
/-- What marking leaves alone. -/
def Outside (h : GH) (w w' : World) : Prop := w'.os = w.os ∧ w'.tape = w.tape ∧ w'.output = w.output ∧ w.heap.size ≤ w'.heap.size ∧ ∀ k, k < w.heap.size → h.wp.map (·.block) ≠ some k → h.kp.map (·.block) ≠ some k → h.dp.map (·.block) ≠ some k → w'.heap[k]? = w.heap[k]?
def MarkG (h : GH) (k0 : Nat) (w : World) (e : Ending) (w' : World) : Prop := e = .returned (.int .i64 ((end3 h k0 : Nat) : Int)) ∧ Mk3 w' h k0 ∧ Outside h w w'
set_option maxHeartbeats 2000000 in
theorem markGrant_any (h : GH) (n : Int) (k0 : Nat) (w : World) (hk0 : 1 ≤ k0) (hk : end3 h k0 < 100000000) (hl : Lst3 w h) (ha : Apart3 h) : Calls Tryz.prog 15 #[grV n h, .int .i64 (k0 : Int)] w (MarkG h k0 w) := by
 unfold end3 at hk
 have hb0 := (Below.refl w.heap.size w).alloc (Nat.le_refl _) (.cells #[.int .i64 n, .slice h.wp h.wn h.wc, .slice h.kp h.kn h.kc, .slice h.dp h.dn h.dc] 31)
 have hr : Row (w.alloc (.cells #[.int .i64 n, .slice h.wp h.wn h.wc, .slice h.kp h.kn h.kc, .slice h.dp h.dn h.dc] 31)) w.heap.size 31 (grL n h) := heap_alloc_new w _
 obtain ⟨W, hW⟩ : ∃ W, W = w.alloc (.cells #[.int .i64 n, .slice h.wp h.wn h.wc, .slice h.kp h.kn h.kc, .slice h.dp h.dn h.dc] 31) := ⟨_, rfl⟩
 rw [← hW] at hb0 hr
 have HW := Lib.hid hW
 have HR := Lib.hid hr
 have HB := Lib.hid hb0
 have hz := hb0.size
 have hgl := hr.lt
 have HL1 := Lib.hid (hl.1.below hb0)
 have HL2 := Lib.hid (hl.2.1.below hb0)
 have HL3 := Lib.hid (hl.2.2.below hb0)
 have HA := Lib.hid ha
 have hB : ∀ {q : Option Addr} {k K b : Nat}, Lst w q k K → blkN q k = some b → q = some ⟨b, 0, none⟩ ∧ b < w.heap.size := fun hh hb => hh.blk hb
 have HQ1 : Hid (∀ b, blkN h.wp h.wn = some b → h.wp = some ⟨b, 0, none⟩ ∧ b < w.heap.size) := Lib.hid (fun b hb => hl.1.blk hb)
 have HQ2 : Hid (∀ b, blkN h.kp h.kn = some b → h.kp = some ⟨b, 0, none⟩ ∧ b < w.heap.size) := Lib.hid (fun b hb => hl.2.1.blk hb)
 have HQ3 : Hid (∀ b, blkN h.dp h.dn = some b → h.dp = some ⟨b, 0, none⟩ ∧ b < w.heap.size) := Lib.hid (fun b hb => hl.2.2.blk hb)
 have HE := Lib.hid (show grV n h = .agg #[.int .i64 n, .slice h.wp h.wn h.wc, .slice h.kp h.kn h.kc, .slice h.dp h.dn h.dc] from rfl)
 clear hb0 hr hW hl ha hB
 rw [HE.out]
 go_enter Tryz.func15, Tryz.ntmps15
 go_wp2_with fail
 rw [← HW.out]
 refine (markWord_any h.wp h.wn h.wc k0 _ hk0 (by omega) HL1.out).mono ?_
 rintro e w1 ⟨rfl, hm1, hg1⟩
 have HM1 := Lib.hid hm1
 have HG1 := Lib.hid hg1
 have HR1 := Lib.hid (rowG HR.out hg1 (fun e => by have := (HQ1.out _ e).2; omega))
 have HL2' := Lib.hid (HL2.out.grown hg1 (fun b e e' => HA.out.1 b _ e (HQ1.out _ e').1 rfl))
 have HL3' := Lib.hid (HL3.out.grown hg1 (fun b e e' => HA.out.2.1 b _ e (HQ1.out _ e').1 rfl))
 have hz1 := hg1.size
 have b2 : w1.cell? ⟨w.heap.size, 2, none⟩ = some (.slice h.kp h.kn h.kc) := HR1.out.cell 2
 clear hm1 hg1
 go_wp2_with fail
 refine (markKey_any h.kp h.kn h.kc (k0 + 5 * h.wn) _ (by omega) (by omega) HL2'.out).mono ?_
 rintro e w2 ⟨rfl, hm2, hg2⟩
 have HM2 := Lib.hid hm2
 have HG2 := Lib.hid hg2
 have HR2 := Lib.hid (rowG HR1.out hg2 (fun e => by have := (HQ2.out _ e).2; omega))
 have HM1' := Lib.hid (HM1.out.grown hg2 (fun b e e' => HA.out.2.2.2.1 b _ e (HQ2.out _ e').1 rfl))
 have HL3'' := Lib.hid (HL3'.out.grown hg2 (fun b e e' => HA.out.2.2.1 b _ e (HQ2.out _ e').1 rfl))
 have hz2 := hg2.size
 have b3 : w2.cell? ⟨w.heap.size, 3, none⟩ = some (.slice h.dp h.dn h.dc) := HR2.out.cell 3
 clear hm2 hg2 b2
 go_wp2_with fail
 refine (markInt64_any h.dp h.dn h.dc (k0 + 5 * h.wn + 6 * h.kn) _ (by omega) (by omega) HL3''.out).mono ?_
 rintro e w3 ⟨rfl, hm3, hg3⟩
 have HM3 := Lib.hid hm3
 have HM1'' := Lib.hid (HM1'.out.grown hg3 (fun b e e' => HA.out.2.2.2.2.1 b _ e (HQ3.out _ e').1 rfl))
 have HM2' := Lib.hid (HM2.out.grown hg3 (fun b e e' => HA.out.2.2.2.2.2 b _ e (HQ3.out _ e').1 rfl))
 have HOut : Hid (Outside h w w3) := Lib.hid (by
  have h0 := HB.out
  have h1 := HG1.out
  have h2 := HG2.out
  refine ⟨hg3.os.trans (h2.os.trans (h1.os.trans h0.os)), hg3.tape.trans (h2.tape.trans (h1.tape.trans h0.tape)), hg3.output.trans (h2.output.trans (h1.output.trans h0.output)), by have := hg3.size; omega, fun k hk k1 k2 k3 => ?_⟩
  have e1 := h0.block k hk
  have e2 := h1.block k (by omega) (fun e => k1 (by rw [(HQ1.out _ e.symm).1]; rfl))
  have e3 := h2.block k (by omega) (fun e => k2 (by rw [(HQ2.out _ e.symm).1]; rfl))
  have e4 := hg3.block k (by omega) (fun e => k3 (by rw [(HQ3.out _ e.symm).1]; rfl))
  exact e4.trans (e3.trans (e2.trans e1)))
 clear hm3 hg3 b3
 go_wp2_with fail
 go_ret
 exact ⟨by rw [show ((end3 h k0 : Nat) : Int) = (k0 : Int) + 5 * h.wn + 6 * h.kn + h.dn by unfold end3; omega]; rfl, ⟨HM1''.out, HM2'.out, HM3.out⟩, HOut.out⟩
set_option maxHeartbeats 2000000 in
theorem heldGrant_any (h : GH) (n : Int) (k0 : Nat) (w : World) (hk0 : 1 ≤ k0) (hk : end3 h k0 < 100000000) (hm : Mk3 w h k0) : Calls Tryz.prog 60 #[grV n h, .int .i64 (k0 : Int)] w (Ret (.int .i64 ((end3 h k0 : Nat) : Int)) w) := by
 unfold end3 at hk ⊢
 have hb0 := (Below.refl w.heap.size w).alloc (Nat.le_refl _) (.cells #[.int .i64 n, .slice h.wp h.wn h.wc, .slice h.kp h.kn h.kc, .slice h.dp h.dn h.dc] 31)
 have hr : Row (w.alloc (.cells #[.int .i64 n, .slice h.wp h.wn h.wc, .slice h.kp h.kn h.kc, .slice h.dp h.dn h.dc] 31)) w.heap.size 31 (grL n h) := heap_alloc_new w _
 obtain ⟨W, hW⟩ : ∃ W, W = w.alloc (.cells #[.int .i64 n, .slice h.wp h.wn h.wc, .slice h.kp h.kn h.kc, .slice h.dp h.dn h.dc] 31) := ⟨_, rfl⟩
 rw [← hW] at hb0 hr
 have HW := Lib.hid hW
 have HR := Lib.hid hr
 have HB := Lib.hid hb0
 have hz := hb0.size
 have hgl := hr.lt
 have HM := Lib.hid (hm.below hb0)
 have HE := Lib.hid (show grV n h = .agg #[.int .i64 n, .slice h.wp h.wn h.wc, .slice h.kp h.kn h.kc, .slice h.dp h.dn h.dc] from rfl)
 clear hb0 hr hW hm
 rw [HE.out]
 go_enter Tryz.func60, Tryz.ntmps60
 go_wp2_with fail
 rw [← HW.out]
 refine (heldWord_any h.wp h.wn h.wc k0 _ hk0 (by omega) HM.out.1).mono ?_
 rintro e w1 ⟨rfl, hb1⟩
 have HR1 := Lib.hid (HR.out.below hb1 hgl)
 have HM1 := Lib.hid (HM.out.below hb1)
 have HB1 := Lib.hid (HB.out.trans (hb1.mono hz))
 have hz1 := HB1.out.size
 have b2 : w1.cell? ⟨w.heap.size, 2, none⟩ = some (.slice h.kp h.kn h.kc) := HR1.out.cell 2
 have n1 : ¬ (((k0 + 5 * h.wn : Nat) : Int) < 0) := by omega
 clear hb1
 go_wp2_with fail
 refine (heldKey_any h.kp h.kn h.kc (k0 + 5 * h.wn) _ (by omega) (by omega) HM1.out.2.1).mono ?_
 rintro e w2 ⟨rfl, hb2⟩
 have HR2 := Lib.hid (HR1.out.below hb2 HR1.out.lt)
 have HM2 := Lib.hid (HM1.out.below hb2)
 have HB2 := Lib.hid (HB1.out.trans (hb2.mono hz1))
 have hz2 := HB2.out.size
 have b3 : w2.cell? ⟨w.heap.size, 3, none⟩ = some (.slice h.dp h.dn h.dc) := HR2.out.cell 3
 have n2 : ¬ (((k0 + 5 * h.wn + 6 * h.kn : Nat) : Int) < 0) := by omega
 clear hb2 b2 n1
 go_wp2_with fail
 refine (heldInt64_any h.dp h.dn h.dc (k0 + 5 * h.wn + 6 * h.kn) _ (by omega) (by omega) HM2.out.2.2).mono ?_
 rintro e w3 ⟨rfl, hb3⟩
 have HB3 := Lib.hid (HB2.out.trans (hb3.mono hz2))
 have n3 : ¬ (((k0 + 5 * h.wn + 6 * h.kn + 1 * h.dn : Nat) : Int) < 0) := by omega
 clear hb3 b3 n2
 go_wp2_with fail
 go_ret
 exact ⟨by rw [show ((k0 + 5 * h.wn + 6 * h.kn + 1 * h.dn : Nat) : Int) = (k0 : Int) + 5 * h.wn + 6 * h.kn + h.dn by omega]; rfl, HB3.out⟩
theorem own_isIn {N : Nat} {w : World} {h : GH} {g : Gr} (k : GrOwn N g h w) : GrIn w h g := by
 refine ⟨⟨own_len k.1, own_len k.2.1, own_len k.2.2⟩, ?_, ?_, ?_⟩
 ·rcases Nat.eq_zero_or_pos g.words.length with h0 | h0
  ·exact .inl (List.eq_nil_of_length_eq_zero h0)
  ·obtain ⟨gN, h1, _, _, _, h2⟩ := own_some k.1 h0
   exact .inr ⟨gN, 0, h1, fun j u hj => by rw [Nat.zero_add]; exact h2 j u hj⟩
 ·rcases Nat.eq_zero_or_pos g.keys.length with h0 | h0
  ·exact .inl (List.eq_nil_of_length_eq_zero h0)
  ·obtain ⟨gN, h1, _, _, _, h2⟩ := own_some k.2.1 h0
   exact .inr ⟨gN, 0, h1, fun j u hj => by rw [Nat.zero_add]; exact h2 j u hj⟩
 ·rcases Nat.eq_zero_or_pos g.dead.length with h0 | h0
  ·exact .inl (List.eq_nil_of_length_eq_zero h0)
  ·obtain ⟨gN, h1, _, _, _, h2⟩ := own_some k.2.2 h0
   exact .inr ⟨gN, 0, h1, fun j u hj => by rw [Nat.zero_add]; exact h2 j u hj⟩
/-- A block of one of the grant's lists. -/
def InB (h : GH) (j : Nat) : Prop := h.wp.map (·.block) = some j ∨ h.kp.map (·.block) = some j ∨ h.dp.map (·.block) = some j
def BlkIn (h : GH) (lo hi : Nat) : Prop := ∀ j, InB h j → lo ≤ j ∧ j < hi
theorem own_in1 {w : World} {N E K n m c j : Nat} {q : Option Addr} {x : List Value} (h : w.ownsRow N E K (.slice q m c) n x) (hj : q.map (·.block) = some j) : N ≤ j ∧ j < w.heap.size := by
 rcases own_ways h with ⟨rfl, _⟩ | ⟨gN, rfl, h1, h2, _⟩
 ·cases hj
 ·obtain rfl : gN = j := by simpa using hj
  exact ⟨h1, h2⟩
theorem own_blk {N : Nat} {g : Gr} {k : GH} {w : World} (h : GrOwn N g k w) : BlkIn k N w.heap.size := fun j hj => by
 rcases hj with hj | hj | hj
 ·exact own_in1 h.1 hj
 ·exact own_in1 h.2.1 hj
 ·exact own_in1 h.2.2 hj
theorem new_blk {w0 w : World} {h : GH} {g : Gr} (hn : GrNew w0 w h g) : BlkIn h w0.heap.size w.heap.size := fun j hj => by
 obtain ⟨g1, g2, g3, rfl, a, b, c, r1, r2, r3⟩ := hn
 have := r3.lt
 rcases hj with hj | hj | hj
 ·obtain rfl : g1 = j := by simpa using hj
  omega
 ·obtain rfl : g2 = j := by simpa using hj
  omega
 ·obtain rfl : g3 = j := by simpa using hj
  omega
theorem Outside.at {h : GH} {w w' : World} (ho : Outside h w w') {b : Nat} (hb : b < w.heap.size) (hf : ¬ InB h b) : w'.heap[b]? = w.heap[b]? :=
 ho.2.2.2.2 b hb (fun e => hf (.inl e)) (fun e => hf (.inr (.inl e))) (fun e => hf (.inr (.inr e)))
theorem Outside.row {h : GH} {w w' : World} {b E : Nat} {l : List Value} (ho : Outside h w w') (hr : Row w b E l) (hf : ¬ InB h b) : Row w' b E l := (ho.at hr.lt hf).trans hr
theorem Outside.below {h : GH} {w w' : World} {B : Nat} (ho : Outside h w w') (hB : B ≤ w.heap.size) (hf : ∀ j, InB h j → B ≤ j) : Below B w w' :=
 ⟨ho.1, ho.2.1, ho.2.2.1, ho.2.2.2.1, fun k hk => ho.at (by omega) (fun e => by have := hf k e; omega)⟩
theorem Outside.own1 {h : GH} {w w' : World} {N E K n m c : Nat} {q : Option Addr} {x : List Value} (ho : Outside h w w') (hr : w.ownsRow N E K (.slice q m c) n x) (hf : ∀ j, q.map (·.block) = some j → ¬ InB h j) : w'.ownsRow N E K (.slice q m c) n x := by
 refine ⟨hr.1, ?_⟩
 rcases hr.2 with h2 | ⟨g, cap, cur, hv, hg, hc, hrr⟩
 ·exact .inl h2
 ·refine .inr ⟨g, cap, cur, hv, hg, ?_, hrr⟩
  have hq : q = some ⟨g, 0, none⟩ := by simp only [Value.slice.injEq] at hv; exact hv.1
  rw [ho.at (Array.getElem?_eq_some_iff.1 hc).1 (hf g (by rw [hq]; rfl))]
  exact hc
theorem Outside.own {h k : GH} {w w' : World} {N : Nat} {g : Gr} (ho : Outside h w w') (hr : GrOwn N g k w) (hf : ∀ j, InB k j → ¬ InB h j) : GrOwn N g k w' :=
 ⟨ho.own1 hr.1 (fun j e => hf j (.inl e)), ho.own1 hr.2.1 (fun j e => hf j (.inr (.inl e))), ho.own1 hr.2.2 (fun j e => hf j (.inr (.inr e)))⟩
theorem new_lst {w0 w : World} {h : GH} {g : Gr} (hn : GrNew w0 w h g) : Lst3 w h := by
 obtain ⟨g1, g2, g3, rfl, a, b, c, r1, r2, r3⟩ := hn
 exact ⟨row_lst r1 (flat_len wdCf_len _), row_lst r2 (flat_len kyCf_len _), row_lst r3 (flat_len inCf_len _)⟩
theorem new_apart {w0 w : World} {h : GH} {g : Gr} (hn : GrNew w0 w h g) : Apart3 h := by
 obtain ⟨g1, g2, g3, rfl, a, b, c, _⟩ := hn
 refine ⟨?_, ?_, ?_, ?_, ?_, ?_⟩ <;> (intro x y e1 e2; simp at e1 e2; subst e1 e2; simp; omega)
theorem own_lst3 {N : Nat} {g : Gr} {k : GH} {w : World} (h : GrOwn N g k w) : Lst3 w k := by
 have e1 := own_len h.1
 have e2 := own_len h.2.1
 have e3 := own_len h.2.2
 exact ⟨by rw [e1]; exact own_lst h.1, by rw [e2]; exact own_lst h.2.1, by rw [e3]; exact own_lst h.2.2⟩
theorem apart1 {w : World} {N E1 E2 K1 K2 n1 n2 m1 m2 c1 c2 : Nat} {q1 q2 : Option Addr} {x1 x2 : List Value} (h1 : w.ownsRow N E1 K1 (.slice q1 m1 c1) n1 x1) (h2 : w.ownsRow N E2 K2 (.slice q2 m2 c2) n2 x2) (hne : E1 ≠ E2) : ∀ b b', q1 = some ⟨b, 0, none⟩ → q2 = some b' → b ≠ b'.block := by
 rintro b b' rfl rfl e
 rcases own_apart h1 h2 hne with h | h
 ·simp [Value.ownBlock] at h
 ·exact h (by simp [Value.ownBlock, e])
theorem own_apart3 {N : Nat} {g : Gr} {k : GH} {w : World} (h : GrOwn N g k w) : Apart3 k :=
 ⟨apart1 h.2.1 h.1 (by decide), apart1 h.2.2 h.1 (by decide), apart1 h.2.2 h.2.1 (by decide), apart1 h.1 h.2.1 (by decide), apart1 h.1 h.2.2 (by decide), apart1 h.2.1 h.2.2 (by decide)⟩
theorem own3_down {N M : Nat} {g : Gr} {k : GH} {w : World} (h : GrOwn N g k w) (hM : M ≤ N) : GrOwn M g k w := ⟨own_down h.1 hM, own_down h.2.1 hM, own_down h.2.2 hM⟩
theorem GrOwn.lat {N : Nat} {w w' : World} {g : Gr} {k : GH} (h : GrOwn N g k w) (hb : Below w.heap.size w w') : GrOwn N g k w' := ⟨own_late h.1 hb, own_late h.2.1 hb, own_late h.2.2 hb⟩
end Go.Proofs.YtjccnjfdeedneaaGreat
/- A store whose lists are the call's own; what lies in which block; marks in a whole store. -/
namespace Go.Proofs.YtjccnjfdeedneaaGreat
open Go Go.RowKit Go.Lib
set_option linter.unusedVariables false
set_option maxRecDepth 100000

def StOwn (N : Nat) (s : St) (h : SH) (w : World) : Prop := GrOwn N s.gr h.gh w ∧ h.cn = s.cache.length ∧ w.ownsRow N 50 4 (.slice h.cp s.cache.length h.cc) s.cache.length (s.cache.flatMap enCf)
theorem StOwn.lat {N : Nat} {w w' : World} {s : St} {k : SH} (h : StOwn N s k w) (hb : Below w.heap.size w w') : StOwn N s k w' := ⟨h.1.lat hb, h.2.1, own_late h.2.2 hb⟩
theorem own4_down {N M : Nat} {s : St} {k : SH} {w : World} (h : StOwn N s k w) (hM : M ≤ N) : StOwn M s k w := ⟨own3_down h.1 hM, h.2.1, own_down h.2.2 hM⟩
theorem own4_isIn {N : Nat} {w : World} {k : SH} {s : St} (h : StOwn N s k w) : StIn w k s := by
 refine ⟨own_isIn h.1, h.2.1, ?_⟩
 rcases Nat.eq_zero_or_pos s.cache.length with h0 | h0
 ·exact .inl (List.eq_nil_of_length_eq_zero h0)
 ·obtain ⟨gN, h1, _, _, _, h2⟩ := own_some h.2.2 h0
  exact .inr ⟨gN, 0, h1, fun j u hj => by rw [Nat.zero_add]; exact h2 j u hj⟩
/-- A block of one of the store's lists. -/
def InS (h : SH) (j : Nat) : Prop := InB h.gh j ∨ h.cp.map (·.block) = some j
def BlkS (h : SH) (lo hi : Nat) : Prop := ∀ j, InS h j → lo ≤ j ∧ j < hi
theorem own4_blk {N : Nat} {s : St} {k : SH} {w : World} (h : StOwn N s k w) : BlkS k N w.heap.size := fun j hj => by
 rcases hj with hj | hj
 ·exact own_blk h.1 j hj
 ·exact own_in1 h.2.2 hj
/-- What marking a store leaves alone. -/
def OutS (h : SH) (w w' : World) : Prop := w'.os = w.os ∧ w'.tape = w.tape ∧ w'.output = w.output ∧ w.heap.size ≤ w'.heap.size ∧ ∀ k, k < w.heap.size → ¬ InS h k → w'.heap[k]? = w.heap[k]?
theorem OutS.row {h : SH} {w w' : World} {b E : Nat} {l : List Value} (ho : OutS h w w') (hr : Row w b E l) (hf : ¬ InS h b) : Row w' b E l := (ho.2.2.2.2 b hr.lt hf).trans hr
theorem OutS.below {h : SH} {w w' : World} {B : Nat} (ho : OutS h w w') (hB : B ≤ w.heap.size) (hf : ∀ j, InS h j → B ≤ j) : Below B w w' :=
 ⟨ho.1, ho.2.1, ho.2.2.1, ho.2.2.2.1, fun k hk => ho.2.2.2.2 k (by omega) (fun e => by have := hf k e; omega)⟩
theorem OutS.own1 {h : SH} {w w' : World} {N E K n m c : Nat} {q : Option Addr} {x : List Value} (ho : OutS h w w') (hr : w.ownsRow N E K (.slice q m c) n x) (hf : ∀ j, q.map (·.block) = some j → ¬ InS h j) : w'.ownsRow N E K (.slice q m c) n x := by
 refine ⟨hr.1, ?_⟩
 rcases hr.2 with h2 | ⟨g, cap, cur, hv, hg, hc, hrr⟩
 ·exact .inl h2
 ·refine .inr ⟨g, cap, cur, hv, hg, ?_, hrr⟩
  have hq : q = some ⟨g, 0, none⟩ := by simp only [Value.slice.injEq] at hv; exact hv.1
  rw [ho.2.2.2.2 g (Array.getElem?_eq_some_iff.1 hc).1 (hf g (by rw [hq]; rfl))]
  exact hc
theorem OutS.own {h k : SH} {w w' : World} {N : Nat} {s : St} (ho : OutS h w w') (hr : StOwn N s k w) (hf : ∀ j, InS k j → ¬ InS h j) : StOwn N s k w' :=
 ⟨⟨ho.own1 hr.1.1 (fun j e => hf j (.inl (.inl e))), ho.own1 hr.1.2.1 (fun j e => hf j (.inl (.inr (.inl e)))), ho.own1 hr.1.2.2 (fun j e => hf j (.inl (.inr (.inr e))))⟩, hr.2.1, ho.own1 hr.2.2 (fun j e => hf j (.inr e))⟩
/-- Lists that may be written into; marks in them. -/
def Lst4 (w : World) (h : SH) : Prop := Lst3 w h.gh ∧ Lst w h.cp h.cn 4
def Mk4 (w : World) (h : SH) (k0 : Nat) : Prop := Mk3 w h.gh k0 ∧ MkAt w h.cp h.cn 4 emC (end3 h.gh k0)
def end4 (h : SH) (k0 : Nat) : Nat := end3 h.gh k0 + 4 * h.cn
def Apart4 (h : SH) : Prop := Apart3 h.gh ∧ ∀ j, InB h.gh j → h.cp.map (·.block) ≠ some j
theorem own4_lst {N : Nat} {s : St} {k : SH} {w : World} (h : StOwn N s k w) : Lst4 w k := ⟨own_lst3 h.1, by rw [h.2.1]; exact own_lst h.2.2⟩
theorem own4_apart {N : Nat} {s : St} {k : SH} {w : World} (h : StOwn N s k w) : Apart4 k := by
 have aux : ∀ {E K n m c : Nat} {q : Option Addr} {x : List Value} {j : Nat}, w.ownsRow N E K (.slice q m c) n x → E ≠ 50 → q.map (·.block) = some j → k.cp.map (·.block) ≠ some j := by
  intro E K n m c q x j h1 hne hj e
  rcases own_ways h.2.2 with ⟨hc, _⟩ | ⟨gc, hc, _⟩
  ·rw [hc] at e; cases e
  ·rcases own_ways h1 with ⟨hq, _⟩ | ⟨gq, hq, _⟩
   ·rw [hq] at hj; cases hj
   ·rw [hq] at hj
    rw [hc] at e
    have e1 : gq = j := by simpa using hj
    have e2 : gc = j := by simpa using e
    exact apart1 h1 h.2.2 hne gq ⟨gc, 0, none⟩ hq hc (by rw [e1, e2])
 refine ⟨own_apart3 h.1, fun j hj => ?_⟩
 rcases hj with hj | hj | hj
 ·exact aux h.1.1 (by decide) hj
 ·exact aux h.1.2.1 (by decide) hj
 ·exact aux h.1.2.2 (by decide) hj
theorem new4_lst {w0 w : World} {h : SH} {s : St} (hn : StNew w0 w h s) : Lst4 w h := by
 obtain ⟨h1, g4, h2, h3, h4, h5, h6, h7⟩ := hn
 refine ⟨new_lst h1, ?_⟩
 rw [h2, h3]
 exact row_lst h7 (flat_len enCf_len _)
theorem new4_blk {w0 w : World} {h : SH} {s : St} (hn : StNew w0 w h s) : BlkS h w0.heap.size w.heap.size := fun j hj => by
 obtain ⟨h1, g4, h2, h3, h4, h5, h6, h7⟩ := hn
 rcases hj with hj | hj
 ·exact new_blk h1 j hj
 ·rw [h2] at hj
  obtain rfl : g4 = j := by simpa using hj
  exact ⟨h5, h7.lt⟩
theorem new4_apart {w0 w : World} {h : SH} {s : St} (hn : StNew w0 w h s) : Apart4 h := by
 obtain ⟨h1, g4, h2, h3, h4, h5, h6, h7⟩ := hn
 refine ⟨new_apart h1, fun j hj e => ?_⟩
 obtain ⟨g1, g2, g3, hh, a, b, c, r1, r2, r3⟩ := h1
 rw [h2] at e
 have hj4 : g4 = j := by simpa using e
 have h63 := h6 g3 0 (by rw [hh])
 rcases hj with hj | hj | hj
 ·rw [hh] at hj
  have : g1 = j := by simpa using hj
  omega
 ·rw [hh] at hj
  have : g2 = j := by simpa using hj
  omega
 ·rw [hh] at hj
  have : g3 = j := by simpa using hj
  omega
theorem markEntry_any (q : Option Addr) (n cap k0 : Nat) (w : World) (hk0 : 1 ≤ k0) (hk : k0 + 4 * n < 100000000) (h : Lst w q n 4) : Calls Tryz.prog 59 #[.slice q n cap, .int .i64 (k0 : Int)] w fun e w' => e = .returned (.int .i64 ((k0 + 4 * n : Nat) : Int)) ∧ MkAt w' q n 4 emC k0 ∧ w.grownBy w' (blkN q n) := by
 rcases h with rfl | ⟨b, rfl, h1, h2⟩
 ·exact (markEntry_nil q cap k0 w (by omega)).mono fun e w' hh => by
   obtain ⟨rfl, rfl⟩ := hh
   exact ⟨rfl, .inl rfl, World.grownBy.refl _ _⟩
 ·by_cases hn : n = 0
  ·subst hn
   exact (markEntry_nil _ cap k0 w (by omega)).mono fun e w' hh => by
    obtain ⟨rfl, rfl⟩ := hh
    exact ⟨rfl, .inl rfl, World.grownBy.refl _ _⟩
  ·exact (markEntry_some b n cap k0 w hk0 hk h1 h2).mono fun e w' hh => by
    obtain ⟨rfl, h3, h4⟩ := hh
    exact ⟨rfl, .inr ⟨b, rfl, h3, Nat.lt_of_lt_of_le h2 h4.size⟩, by unfold blkN; rw [if_neg hn]; exact h4⟩
theorem heldEntry_any (q : Option Addr) (n cap k0 : Nat) (w : World) (hk0 : 1 ≤ k0) (hk : k0 + 4 * n < 100000000) (h : MkAt w q n 4 emC k0) : Calls Tryz.prog 61 #[.slice q n cap, .int .i64 (k0 : Int)] w (Ret (.int .i64 ((k0 + 4 * n : Nat) : Int)) w) := by
 rcases h with rfl | ⟨b, rfl, h1, h2⟩
 ·exact (heldEntry_nil q cap k0 w (by omega)).mono fun e w' hh => by
   obtain ⟨rfl, rfl⟩ := hh
   exact ⟨rfl, Below.refl _ _⟩
 ·exact heldEntry_some b n cap k0 w hk0 hk h1 h2
theorem MkAt.below {w w' : World} {q : Option Addr} {n K k0 : Nat} {c : Nat → List Value} (hh : MkAt w q n K c k0) (hb : Below w.heap.size w w') : MkAt w' q n K c k0 := by
 rcases hh with hh | ⟨b, rfl, h1, h2⟩
 ·exact .inl hh
 ·exact .inr ⟨b, rfl, range_belowM h1 hb h2, Nat.lt_of_lt_of_le h2 hb.size⟩
theorem Mk4.below {w w' : World} {h : SH} {k0 : Nat} (hm : Mk4 w h k0) (hb : Below w.heap.size w w') : Mk4 w' h k0 := ⟨hm.1.below hb, hm.2.below hb⟩
def MarkS (h : SH) (k0 : Nat) (w : World) (e : Ending) (w' : World) : Prop := e = .returned (.int .i64 ((end4 h k0 : Nat) : Int)) ∧ Mk4 w' h k0 ∧ OutS h w w'
set_option maxHeartbeats 2000000 in
theorem markStore_any (h : SH) (s : St) (k0 : Nat) (w : World) (hk0 : 1 ≤ k0) (hk : end4 h k0 < 100000000) (hl : Lst4 w h) (ha : Apart4 h) (hbk : ∀ j, InS h j → j < w.heap.size) : Calls Tryz.prog 16 #[stV s h, .int .i64 (k0 : Int)] w (MarkS h k0 w) := by
 unfold end4 at hk
 have hb0 := (Below.refl w.heap.size w).alloc (Nat.le_refl _) (.cells #[.int .i64 s.gr.now, .slice h.gh.wp h.gh.wn h.gh.wc, .slice h.gh.kp h.gh.kn h.gh.kc, .slice h.gh.dp h.gh.dn h.gh.dc, .int .i64 s.ver, .int .i64 s.lock, .slice h.cp h.cn h.cc] 34)
 have hr : Row (w.alloc (.cells #[.int .i64 s.gr.now, .slice h.gh.wp h.gh.wn h.gh.wc, .slice h.gh.kp h.gh.kn h.gh.kc, .slice h.gh.dp h.gh.dn h.gh.dc, .int .i64 s.ver, .int .i64 s.lock, .slice h.cp h.cn h.cc] 34)) w.heap.size 34 (stL s h) := heap_alloc_new w _
 obtain ⟨W, hW⟩ : ∃ W, W = w.alloc (.cells #[.int .i64 s.gr.now, .slice h.gh.wp h.gh.wn h.gh.wc, .slice h.gh.kp h.gh.kn h.gh.kc, .slice h.gh.dp h.gh.dn h.gh.dc, .int .i64 s.ver, .int .i64 s.lock, .slice h.cp h.cn h.cc] 34) := ⟨_, rfl⟩
 rw [← hW] at hb0 hr
 have HW := Lib.hid hW
 have HR := Lib.hid hr
 have HB := Lib.hid hb0
 have hz := hb0.size
 have hgl := hr.lt
 have HL : Hid (Lst3 W h.gh) := Lib.hid ⟨hl.1.1.below hb0, hl.1.2.1.below hb0, hl.1.2.2.below hb0⟩
 have HLc := Lib.hid (hl.2.below hb0)
 have HA := Lib.hid ha
 have HBk := Lib.hid hbk
 have HQ : Hid (∀ b, blkN h.cp h.cn = some b → h.cp = some ⟨b, 0, none⟩ ∧ b < w.heap.size) := Lib.hid (fun b hb => hl.2.blk hb)
 have HE := Lib.hid (szG s h)
 have hk3 : end3 h.gh k0 < 100000000 := by omega
 have hk1 : 1 ≤ end3 h.gh k0 := by unfold end3; omega
 clear hb0 hr hW hl ha hbk
 unfold stV
 go_enter Tryz.func16, Tryz.ntmps16
 go_wp2_with fail
 rw [← HW.out, ← HE.out]
 refine (markGrant_any h.gh s.gr.now k0 _ hk0 hk3 HL.out HA.out.1).mono ?_
 rintro e w1 ⟨rfl, hm1, ho1⟩
 have hz1 := ho1.2.2.2.1
 have hnin : ∀ j, w.heap.size ≤ j → ¬ InB h.gh j := fun j hj e => by have := HBk.out j (.inl e); omega
 have HR1 := Lib.hid (ho1.row HR.out (hnin _ (Nat.le_refl _)))
 have HM1 := Lib.hid hm1
 have HO1 := Lib.hid ho1
 have HLc1 : Hid (Lst w1 h.cp h.cn 4) := Lib.hid (by
  rcases HLc.out with hh | ⟨b, hq, h1, h2⟩
  ·exact .inl hh
  ·have hb : w1.heap[b]? = W.heap[b]? := ho1.at h2 (fun e => HA.out.2 b e (by rw [hq]; rfl))
   refine .inr ⟨b, hq, fun j hj => ?_, Nat.lt_of_lt_of_le h2 hz1⟩
   have := h1 j hj
   exact ⟨by rw [World.cell?_of_block (w := W) hb]; exact this.1, by rw [World.frozen?_of_block (w := W) hb]; exact this.2⟩)
 have b6 : w1.cell? ⟨w.heap.size, 6, none⟩ = some (.slice h.cp h.cn h.cc) := HR1.out.cell 6
 clear ho1 hm1
 go_wp2_with fail
 refine (markEntry_any h.cp h.cn h.cc (end3 h.gh k0) _ hk1 hk HLc1.out).mono ?_
 rintro e w2 ⟨rfl, hm2, hg2⟩
 have HM2 := Lib.hid hm2
 have hcb : ∀ b, blkN h.cp h.cn = some b → ∀ q, (q = h.gh.wp ∨ q = h.gh.kp ∨ q = h.gh.dp) → ∀ b', q = some ⟨b', 0, none⟩ → (blkN h.cp h.cn) ≠ some b' := by
  intro b hb q hq b' e e'
  have h1 := (HQ.out b' e').1
  have hin : InB h.gh b' := by
   rcases hq with rfl | rfl | rfl
   ·exact .inl (by rw [e]; rfl)
   ·exact .inr (.inl (by rw [e]; rfl))
   ·exact .inr (.inr (by rw [e]; rfl))
  exact HA.out.2 b' hin (by rw [h1]; rfl)
 have HM1' : Hid (Mk3 w2 h.gh k0) := Lib.hid (by
  refine ⟨HM1.out.1.grown hg2 (fun b e e' => hcb b e' _ (.inl rfl) b e e'), HM1.out.2.1.grown hg2 (fun b e e' => hcb b e' _ (.inr (.inl rfl)) b e e'), HM1.out.2.2.grown hg2 (fun b e e' => hcb b e' _ (.inr (.inr rfl)) b e e')⟩)
 have HOut : Hid (OutS h w w2) := Lib.hid (by
  have h0 := HB.out
  have h1 := HO1.out
  refine ⟨hg2.os.trans (h1.1.trans h0.os), hg2.tape.trans (h1.2.1.trans h0.tape), hg2.output.trans (h1.2.2.1.trans h0.output), by have := hg2.size; omega, fun k hk kn => ?_⟩
  have e1 := h0.block k hk
  have e2 := h1.at (b := k) (by omega) (fun e => kn (.inl e))
  have e3 := hg2.block k (by omega) (fun e => kn (.inr (by rw [(HQ.out _ e.symm).1]; rfl)))
  exact e3.trans (e2.trans e1))
 clear hm2 hg2 b6 hcb
 go_wp2_with fail
 go_ret
 exact ⟨by rw [show ((end4 h k0 : Nat) : Int) = ((end3 h.gh k0 : Nat) : Int) + 4 * h.cn by unfold end4; omega]; rfl, ⟨HM1'.out, HM2.out⟩, HOut.out⟩
set_option maxHeartbeats 2000000 in
theorem heldStore_any (h : SH) (s : St) (k0 : Nat) (w : World) (hk0 : 1 ≤ k0) (hk : end4 h k0 < 100000000) (hm : Mk4 w h k0) : Calls Tryz.prog 17 #[stV s h, .int .i64 (k0 : Int)] w (Ret (.int .i64 ((end4 h k0 : Nat) : Int)) w) := by
 unfold end4 at hk ⊢
 have hb0 := (Below.refl w.heap.size w).alloc (Nat.le_refl _) (.cells #[.int .i64 s.gr.now, .slice h.gh.wp h.gh.wn h.gh.wc, .slice h.gh.kp h.gh.kn h.gh.kc, .slice h.gh.dp h.gh.dn h.gh.dc, .int .i64 s.ver, .int .i64 s.lock, .slice h.cp h.cn h.cc] 34)
 have hr : Row (w.alloc (.cells #[.int .i64 s.gr.now, .slice h.gh.wp h.gh.wn h.gh.wc, .slice h.gh.kp h.gh.kn h.gh.kc, .slice h.gh.dp h.gh.dn h.gh.dc, .int .i64 s.ver, .int .i64 s.lock, .slice h.cp h.cn h.cc] 34)) w.heap.size 34 (stL s h) := heap_alloc_new w _
 obtain ⟨W, hW⟩ : ∃ W, W = w.alloc (.cells #[.int .i64 s.gr.now, .slice h.gh.wp h.gh.wn h.gh.wc, .slice h.gh.kp h.gh.kn h.gh.kc, .slice h.gh.dp h.gh.dn h.gh.dc, .int .i64 s.ver, .int .i64 s.lock, .slice h.cp h.cn h.cc] 34) := ⟨_, rfl⟩
 rw [← hW] at hb0 hr
 have HW := Lib.hid hW
 have HR := Lib.hid hr
 have HB := Lib.hid hb0
 have hz := hb0.size
 have hgl := hr.lt
 have HM := Lib.hid (hm.below hb0)
 have HE := Lib.hid (szG s h)
 have hk3 : end3 h.gh k0 < 100000000 := by omega
 have hk1 : 1 ≤ end3 h.gh k0 := by unfold end3; omega
 have n1 : ¬ (((end3 h.gh k0 : Nat) : Int) < 0) := by omega
 clear hb0 hr hW hm
 unfold stV
 go_enter Tryz.func17, Tryz.ntmps17
 go_wp2_with fail
 rw [← HW.out, ← HE.out]
 refine (heldGrant_any h.gh s.gr.now k0 _ hk0 hk3 HM.out.1).mono ?_
 rintro e w1 ⟨rfl, hb1⟩
 have HR1 := Lib.hid (HR.out.below hb1 hgl)
 have HM1 := Lib.hid (HM.out.below hb1)
 have HB1 := Lib.hid (HB.out.trans (hb1.mono hz))
 have hz1 := HB1.out.size
 have b6 : w1.cell? ⟨w.heap.size, 6, none⟩ = some (.slice h.cp h.cn h.cc) := HR1.out.cell 6
 clear hb1
 go_wp2_with fail
 refine (heldEntry_any h.cp h.cn h.cc (end3 h.gh k0) _ hk1 hk HM1.out.2).mono ?_
 rintro e w2 ⟨rfl, hb2⟩
 have HB2 := Lib.hid (HB1.out.trans (hb2.mono hz1))
 have n2 : ¬ (((end3 h.gh k0 + 4 * h.cn : Nat) : Int) < 0) := by omega
 clear hb2 b6 n1
 go_wp2_with fail
 go_ret
 exact ⟨by rw [show ((end3 h.gh k0 + 4 * h.cn : Nat) : Int) = ((end3 h.gh k0 : Nat) : Int) + 4 * h.cn by omega]; rfl, HB2.out⟩
end Go.Proofs.YtjccnjfdeedneaaGreat
/- A store in a variable of a law's. -/
namespace Go.Proofs.YtjccnjfdeedneaaGreat
open Go Go.RowKit Go.Lib
set_option linter.unusedVariables false
set_option maxRecDepth 100000

/-- An answer, a store, in a variable of the law's. -/
def AnsS (N : Nat) (s : St) (w : World) (q : Nat) (k : SH) : Prop := Row w q 34 (stL s k) ∧ StOwn N s k w
theorem AnsS.later {N q : Nat} {s : St} {w w' : World} {k : SH} (h : AnsS N s w q k) (hb : Below w.heap.size w w') : AnsS N s w' q k := ⟨h.1.below hb h.1.lt, h.2.lat hb⟩
theorem AnsS.out {N q : Nat} {s : St} {w w' : World} {k h : SH} (ha : AnsS N s w q k) (ho : OutS h w w') (h1 : ¬ InS h q) (h2 : ∀ j, InS k j → ¬ InS h j) : AnsS N s w' q k := ⟨ho.row ha.1 h1, ho.own ha.2 h2⟩
theorem out_S {h : GH} {p : Option Addr} {n c : Nat} {w w' : World} (ho : Outside h w w') : OutS ⟨h, p, n, c⟩ w w' := ⟨ho.1, ho.2.1, ho.2.2.1, ho.2.2.2.1, fun k hk hn => ho.at hk (fun e => hn (.inl e))⟩
theorem AnsS.outG {N q : Nat} {s : St} {w w' : World} {k : SH} {h : GH} (ha : AnsS N s w q k) (ho : Outside h w w') (h1 : ¬ InB h q) (h2 : ∀ j, InS k j → ¬ InB h j) : AnsS N s w' q k :=
 ha.out (h := ⟨h, none, 0, 0⟩) (out_S ho) (fun e => by rcases e with e | e; exact h1 e; cases e) (fun j hj e => by rcases e with e | e; exact h2 j hj e; cases e)
theorem AnsS.free {N q : Nat} {s : St} {w : World} {k : SH} (ha : AnsS N s w q k) : ¬ InS k q := fun hj => by
 have aux : ∀ {E K n m c : Nat} {p : Option Addr} {x : List Value}, w.ownsRow N E K (.slice p m c) n x → 34 ≠ E → p.map (·.block) = some q → False := fun {E K n m c p x} h1 hne hp => by
  refine row_own_ne ha.1 h1 hne ?_
  cases hk : p with
  | none => rw [hk] at hp; cases hp
  | some a => rw [hk] at hp; simpa [Value.ownBlock] using hp.symm
 rcases hj with (hj | hj | hj) | hj
 ·exact aux ha.2.1.1 (by decide) hj
 ·exact aux ha.2.1.2.1 (by decide) hj
 ·exact aux ha.2.1.2.2 (by decide) hj
 ·exact aux ha.2.2.2 (by decide) hj
theorem own4_end {N : Nat} {s : St} {k : SH} {w : World} (h : StOwn N s k w) (hs : StSmall s) : end4 k 1 < 100000000 := by
 have h1 := own4_isIn h
 obtain ⟨⟨⟨e1, e2, e3⟩, _⟩, e4, _⟩ := h1
 have hs1 := hs.1
 have hs2 := hs.2
 unfold GrSmall at hs1
 unfold end4 end3
 omega
theorem isIn_end {w : World} {h : SH} {s : St} (hi : StIn w h s) (hs : StSmall s) : end4 h 1 < 100000000 := by
 obtain ⟨⟨⟨e1, e2, e3⟩, _⟩, e4, _⟩ := hi
 have hs1 := hs.1
 have hs2 := hs.2
 unfold GrSmall at hs1
 unfold end4 end3
 omega
end Go.Proofs.YtjccnjfdeedneaaGreat
