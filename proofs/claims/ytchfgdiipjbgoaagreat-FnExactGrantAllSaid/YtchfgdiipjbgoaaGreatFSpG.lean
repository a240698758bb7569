/- The model: a word or a key changed in its place; a key marked. -/
import Derived.Test.YtchfgdiipjbgoaaGreatFSpF
import Derived.Test.YtchfgdiipjbgoaaGreatFGdE
namespace Go.Proofs.YtchfgdiipjbgoaaGreat
open Go Go.RowKit Go.Lib
set_option linter.unusedVariables false
set_option maxRecDepth 100000

theorem flat_set {α : Type} {cf : α → List Value} {K : Nat} (hK : ∀ x, (cf x).length = K) : ∀ {l : List α} {k j : Nat} {x x' : α} {v : Value}, l[k]? = some x → j < K → cf x' = (cf x).set j v → (l.flatMap cf).set (k * K + j) v = (l.set k x').flatMap cf
 | [], _, _, _, _, _, h, _, _ => by simp at h
 | y :: r, 0, j, x, x', v, h, hj, he => by
  obtain rfl : y = x := by simpa using h
  rw [Nat.zero_mul, Nat.zero_add, List.flatMap_cons, List.set_append_left _ _ (by rw [hK]; exact hj), List.set_cons_zero, List.flatMap_cons, he]
 | y :: r, k + 1, j, x, x', v, h, hj, he => by
  have ih := flat_set hK (l := r) (k := k) (by simpa using h) hj he
  rw [List.flatMap_cons, List.set_append_right _ _ (by rw [hK, Nat.succ_mul]; omega), List.set_cons_succ, List.flatMap_cons, ← ih, hK]
  congr 2
  rw [Nat.succ_mul]; omega
theorem own_elem {α : Type} {cf : α → List Value} {K : Nat} (hK : ∀ x, (cf x).length = K) {w : World} {N E gN m c : Nat} {l : List α} {k j : Nat} {x x' : α} {v : Value} (h : w.ownsRow N E K (.slice (some ⟨gN, 0, none⟩) m c) l.length (l.flatMap cf)) (hx : l[k]? = some x) (hj : j < K) (he : cf x' = (cf x).set j v) :
  (w.setCell ⟨gN, k * K + j, none⟩ v).ownsRow N E K (.slice (some ⟨gN, 0, none⟩) m c) (l.set k x').length ((l.set k x').flatMap cf) := by
 rcases h.2 with ⟨h1, _⟩ | ⟨g, cap, cur, h1, hb, hc, hl, hm, hs, ht⟩
 ·cases h1
 ·cases h1
  have hr : Row w gN E cur.toList := by unfold Row; rw [hc]
  have hr2 := hr.set (k * K + j) v
  refine ⟨by rw [flat_len hK], .inr ⟨gN, c, (cur.toList.set (k * K + j) v).toArray, by simp, hb, hr2, by simpa using hl, hm, by simpa using hs, ?_⟩⟩
  rw [← flat_set hK hx hj he, List.length_set, ← ht]
  simp [List.take_set]
theorem own_elem_free {α : Type} {cf : α → List Value} {K : Nat} (hK : ∀ x, (cf x).length = K) {w : World} {N E gN m c : Nat} {l : List α} {k j : Nat} {x : α} (h : w.ownsRow N E K (.slice (some ⟨gN, 0, none⟩) m c) l.length (l.flatMap cf)) : w.frozen? ⟨gN, k * K + j, none⟩ = false := by
 rcases h.2 with ⟨h1, _⟩ | ⟨g, cap, cur, h1, hb, hc, hl, hm, hs, ht⟩
 ·cases h1
 ·cases h1
  have hr : Row w gN E cur.toList := by unfold Row; rw [hc]
  exact hr.free _
theorem map_set {α : Type} {f : α → α} {q : α → Bool} : ∀ {l : List α} {k : Nat} {x : α}, l[k]? = some x → q x = true → (∀ j y, j ≠ k → l[j]? = some y → q y = false) → l.map (fun y => if q y then f y else y) = l.set k (f x)
 | [], _, _, h, _, _ => by simp at h
 | y :: r, 0, x, h, hq, hn => by
  obtain rfl : y = x := by simpa using h
  rw [List.map_cons, if_pos hq, List.set_cons_zero]
  congr 1
  have : ∀ z ∈ r, (if q z then f z else z) = z := fun z hz => by
   obtain ⟨j, hj⟩ := List.getElem?_of_mem hz
   rw [hn (j + 1) z (by omega) (by simpa using hj)]; rfl
  rw [List.map_congr_left this, List.map_id']
 | y :: r, k + 1, x, h, hq, hn => by
  rw [List.map_cons, hn 0 y (by omega) rfl, List.set_cons_succ]
  simp only [Bool.false_eq_true, if_false]
  rw [map_set (l := r) (k := k) (by simpa using h) hq (fun j z hj hz => hn (j + 1) z (by omega) (by simpa using hz))]
theorem rise_ne {l : List Int} (h : l.Pairwise (fun a b => a < b)) {i j : Nat} {a b : Int} (hi : l[i]? = some a) (hj : l[j]? = some b) (hne : i ≠ j) : a ≠ b := by
 obtain ⟨h1, rfl⟩ := List.getElem?_eq_some_iff.1 hi
 obtain ⟨h2, rfl⟩ := List.getElem?_eq_some_iff.1 hj
 rw [List.pairwise_iff_getElem] at h
 rcases Nat.lt_or_gt_of_ne hne with h3 | h3
 ·have := h i j h1 h2 h3; omega
 ·have := h j i h2 h1 h3; omega
theorem useW_set {l : List Wd} {b : Int} (h : wordsOk b l = true) {k : Nat} {x : Wd} (hx : l[k]? = some x) : useW l x.no = l.set k (usedW x) := by
 unfold useW
 refine map_set hx (by simp) fun j y hj hy => ?_
 have := rise_ne (words_rise h) (i := j) (j := k) (a := y.no) (b := x.no) (by simp [hy]) (by simp [hx]) hj
 simpa using this
theorem markK_set {ws : List Wd} {l : List Ky} {b : Int} (h : keysOk ws b l = true) {k : Nat} {x : Ky} (s : Int) (hx : l[k]? = some x) : markK l x.no s = l.set k (stK s x) := by
 unfold markK
 refine map_set hx (by simp) fun j y hj hy => ?_
 have := rise_ne (keys_rise h) (i := j) (j := k) (a := y.no) (b := x.no) (by simp [hy]) (by simp [hx]) hj
 simpa using this
theorem row_own_ne2 {w : World} {b1 b2 e1 e2 s1 s2 n1 n2 m c gN : Nat} {v2 : Value} {x1 x2 : List Value} (h1 : w.ownsRow b1 e1 s1 (.slice (some ⟨gN, 0, none⟩) m c) n1 x1) (h2 : w.ownsRow b2 e2 s2 v2 n2 x2) (hne : e1 ≠ e2) : some gN ≠ v2.ownBlock := by
 rcases h1.2 with ⟨h, _⟩ | ⟨g, cap, cur, h, _, hc, _⟩
 ·cases h
 ·cases h
  exact row_own_ne (show Row w gN e1 cur.toList by unfold Row; rw [hc]) h2 hne
/-- The block of a list, or p. -/
def blkOf (a : Option Addr) (p : Nat) : Nat := match a with
 | some x => x.block
 | none => p
def markD (g : Gr) (x : Ky) : Gr := if x.refresh then killG g x.fam else ⟨g.now, g.words, markK g.keys x.no 2, g.dead⟩
def MarkS (tl : Tail) (N p : Nat) (h : GH) (g : Gr) (w : World) (e : Ending) (w' : World) : Prop := e = .returned (.tuple #[]) ∧ ∃ h', GrAt tl N w' p h' g ∧ Kept w.heap.size p p (blkOf h.kp p) w w'
set_option maxHeartbeats 2000000 in
theorem mark_spec {tl : Tail} {N p : Nat} {h : GH} {g : Gr} {w : World} {k : Nat} {x : Ky} (hg : GrAt tl N w p h g) (hB : grantB g = true) (hx : g.keys[k]? = some x) (hdl : g.dead.length ≤ 1000) : Calls Tryz.prog 171 #[.pointer (some ⟨p, 0, none⟩), .int .i64 k] w (MarkS tl N p h (markD g x) w) := by
 obtain ⟨wp, wn, wc, kp, kn, kc, dp, dn, dc⟩ := h
 obtain ⟨_, _, _, _, hks, _⟩ := gr_facts hB
 have hkl := (List.getElem?_eq_some_iff.1 hx).1
 have hpz := hg.row.lt
 have hN := hg.place
 have HG := Lib.hid hg
 have HX := Lib.hid hx
 have HKs := Lib.hid hks
 have c2 : w.cell? ⟨p, 2, none⟩ = some (.slice kp kn kc) := hg.row.cell 2
 obtain ⟨gN, hkp, _, hgl, _, _⟩ := own_some hg.keys (by omega)
 simp only at hkp
 subst hkp
 have hkn : kn = g.keys.length := own_len hg.keys
 have hlt : k < kn := by omega
 have HKn := Lib.hid hkn
 obtain ⟨_, _, a2, a3, _, a5⟩ := ky_cells (own_lat hg.keys) hx
 rw [Nat.zero_add] at a2 a3 a5
 have f5 : w.frozen? ⟨gN, k * 6 + 5, none⟩ = false := own_elem_free kyCf_len (x := x) hg.keys
 clear hg hx hks hB hkn hkl
 cases hr : x.refresh with
 | true =>
  rw [hr] at a3
  have HE : Hid (markD g x = killG g x.fam) := Lib.hid (by unfold markD; rw [hr]; rfl)
  clear hr
  go_enter Tryz.func171, Tryz.ntmps171
  go_wp2_with fail
  refine (kill_spec x.fam HG.out hdl).mono ?_
  rintro e w2 ⟨rfl, dp', dn', dc', hg2, hk2⟩
  have HG2 := Lib.hid hg2
  have HK2 : Hid (Kept w.heap.size p p gN w w2) := Lib.hid ⟨hk2.os, hk2.tape, hk2.output, hk2.size, fun i h1 h2 h3 h4 => hk2.block i h1 h2 h3 h3⟩
  clear hg2 hk2
  go_wp2_with fail
  go_returns
  exact ⟨rfl, _, by rw [HE.out]; exact HG2.out, HK2.out⟩
 | false =>
  rw [hr] at a3
  have HE : Hid (markD g x = ⟨g.now, g.words, g.keys.set k (stK 2 x), g.dead⟩) := Lib.hid (by unfold markD; rw [hr, if_neg (by simp), markK_set HKs.out 2 HX.out])
  clear hr
  go_enter Tryz.func171, Tryz.ntmps171
  go_wp2_with fail
  go_returns
  refine ⟨rfl, ⟨wp, wn, wc, some ⟨gN, 0, none⟩, kn, kc, dp, dn, dc⟩, ?_, (Kept.refl _ _ _ _ _).setCell (a := ⟨gN, k * 6 + 5, none⟩) _ (.inr (.inr (.inl rfl)))⟩
  rw [HE.out]
  have hne : some gN ≠ (Value.slice wp wn wc).ownBlock := row_own_ne2 HG.out.keys HG.out.words (by decide)
  have hne2 : some gN ≠ (Value.slice dp dn dc).ownBlock := row_own_ne2 HG.out.keys HG.out.dead (by decide)
  refine ⟨?_, own_set (a := ⟨gN, k * 6 + 5, none⟩) _ HG.out.words hne, own_elem kyCf_len HG.out.keys HX.out (by decide) rfl, own_set (a := ⟨gN, k * 6 + 5, none⟩) _ HG.out.dead hne2, hN⟩
  have hpg : p ≠ gN := fun e => (row_own_ne HG.out.row HG.out.keys (by first | decide | exact tl.hW | exact tl.hK | exact tl.hI)) (by rw [e]; rfl)
  exact HG.out.row.setOther (g := gN) (j := k * 6 + 5) hpg _
end Go.Proofs.YtchfgdiipjbgoaaGreat
