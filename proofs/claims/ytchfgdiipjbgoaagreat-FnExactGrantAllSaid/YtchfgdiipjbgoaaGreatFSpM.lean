/- The model's functions on a grant behind a pointer: what holds while one runs, what is told. -/
import Derived.Test.YtchfgdiipjbgoaaGreatFSpC
import Derived.Test.YtchfgdiipjbgoaaGreatFResR
import Derived.Test.YtchfgdiipjbgoaaGreatFGdE
import Derived.Test.YtchfgdiipjbgoaaGreatFOpSpec
import Derived.Test.YtchfgdiipjbgoaaGreatFGdA
namespace Go.Proofs.YtchfgdiipjbgoaaGreat
open Go Go.RowKit Go.Lib
set_option linter.unusedVariables false
set_option maxRecDepth 100000
/-- A row stays when a cell of another block is set. -/
theorem Row.setOther {w : World} {q : Nat} {E : TypeId} {l : List Value} (h : Row w q E l) {g j : Nat} (hne : q ≠ g) (v : Value) : Row (w.setCell ⟨g, j, none⟩ v) q E l := by
 unfold Row at h ⊢
 rw [Below.heap_setCell w ⟨g, j, none⟩ v q hne]
 exact h

/-- Told, with a grant kept right behind the pointer. -/
structure Told (tl : Tail) (N p X Y : Nat) (h : GH) (g : Gr) (s : RS) (w W : World) (q : Nat) : Prop where
 resp : Row W q 33 (rsL s)
 gr : GrAt tl N W p h g
 kept : Kept w.heap.size p X Y w W
theorem own_setCells {b e s n : Nat} {v : Value} {x : List Value} : ∀ (vs : List Value) (q o : Nat) {w : World}, w.ownsRow b e s v n x → some q ≠ v.ownBlock → (w.setCells q o vs).ownsRow b e s v n x
 | [], _, _, _, h, _ => h
 | u :: r, q, o, _, h, hq => own_setCells r q (o + 1) (own_set (a := ⟨q, o, none⟩) u h hq) hq
theorem row_setCells {q : Nat} {E : TypeId} {l : List Value} : ∀ (vs : List Value) (g o : Nat) {w : World}, Row w q E l → q ≠ g → Row (w.setCells g o vs) q E l
 | [], _, _, _, h, _ => h
 | u :: r, g, o, w, h, hq => row_setCells r g (o + 1) (by unfold Row at h ⊢; rw [Below.heap_setCell w ⟨g, o, none⟩ u q hq]; exact h) hq
/-- The answer's store. -/
theorem told_at {tl : Tail} {N p X Y q : Nat} {h : GH} {g : Gr} {l : List Value} {w W : World} {ops : Array Oper} {rest : List Oper} {o : Oper} {a : Act} {Q : Exit → Act → World → Prop} (hr : Row W q 33 l) (hg : GrAt tl N W p h g) (hk : Kept w.heap.size p X Y w W)
  (s : RS) (hq : w.heap.size ≤ q) (hqp : q ≠ p) (hl : l.length = 4) {x y : Operand} (ho : o.op = .store 33 x y) (hgd : o.guard = none) (hx : a.eval x = .pointer (some ⟨q, 0, none⟩)) (hy : a.eval y = .agg #[.int .i64 s.code, .int .i64 s.token, .int .i64 s.next, .bool s.yes])
  (hh : ∀ Z, Hid (Told tl N p X Y h g s w Z q) → wpList Tryz.prog ops Q rest (a.put o.dst undef) Z) : wpList Tryz.prog ops Q (o :: rest) a W := by
 refine wpList_store_to hgd 33 x y ho q 0 #[.int .i64 s.code, .int .i64 s.token, .int .i64 s.next, .bool s.yes] hx hy (there_resp hr hl) sizeResp (oneResp s) fun Z hZ => hh Z (Lib.hid ?_)
 subst hZ
 exact ⟨put_resp hr hl, ⟨row_setCells _ q 0 hg.row (fun e => hqp e.symm), own_setCells _ q 0 hg.words (row_own_ne hr hg.words (by decide)), own_setCells _ q 0 hg.keys (row_own_ne hr hg.keys (by decide)), own_setCells _ q 0 hg.dead (row_own_ne hr hg.dead (by decide)), hg.place⟩, Kept.setCells (.inr (.inr (.inr hq))) _ 0 hk⟩
/-- The place of a word, or -1. -/
def wdPl (l : List Wd) (n : Int) : Int := match findW l n with
 | none => -1
 | some _ => ((l.findIdx fun x => x.no == n : Nat) : Int)
theorem wdPl_of {l : List Wd} {n r : Int} (h : WordAt l n r) : r = wdPl l n := by
 rcases h with ⟨rfl, h⟩ | ⟨k, x, rfl, hx, hn, hb⟩
 ·have : findW l n = none := by
   unfold findW
   rw [List.find?_eq_none]
   unfold hasNo at h
   rw [List.any_eq_false] at h
   exact h
  simp [wdPl, this]
 ·obtain ⟨hk, he⟩ := List.getElem?_eq_some_iff.1 hx
  have hi : (l.findIdx fun x => x.no == n) = k := (List.findIdx_eq hk).2 ⟨by rw [he]; simpa using hn, fun j hjk => by
   have hjl : j < l.length := by omega
   simpa using hb j l[j] hjk (List.getElem?_eq_getElem hjl)⟩
  simp [wdPl, findW_some hx hn hb, hi]
theorem wdPl_none {l : List Wd} {n : Int} (h : findW l n = none) : wdPl l n = -1 := by simp [wdPl, h]
theorem wdPl_some {l : List Wd} {n : Int} {x : Wd} (h : findW l n = some x) : ∃ k : Nat, wdPl l n = (k : Nat) ∧ l[k]? = some x ∧ x.no = n := by
 have hn : x.no = n := by have := List.find?_some h; simpa using this
 have hlt : (l.findIdx fun x => x.no == n) < l.length := List.findIdx_lt_length_of_exists ⟨x, List.mem_of_find?_eq_some h, by simpa using hn⟩
 refine ⟨l.findIdx fun x => x.no == n, by simp [wdPl, h], ?_, hn⟩
 have h2 : l.find? (fun x => x.no == n) = l[l.findIdx fun x => x.no == n]? := List.find?_eq_getElem?_findIdx ..
 unfold findW at h
 rw [← h2, h]
theorem word_pl {now : Int} {h : GH} {l : List Wd} {n r : Int} {w : World} (hn : h.wn = l.length) (hl : LIn wdCf w h.wp l) (hc : l.length ≤ 1048576) (hr : wdPl l n = r) : Calls Tryz.prog 101 #[grV now h, .int .i64 n] w (Ret (.int .i64 r) w) := by
 refine (word_any now h l n w hn hl hc).mono ?_
 rintro e w' ⟨q, hq, rfl, hb⟩
 rw [wdPl_of hq, hr]
 exact ⟨rfl, hb⟩
theorem key_at {now : Int} {h : GH} {l : List Ky} {n r : Int} {w : World} (hn : h.kn = l.length) (hl : LIn kyCf w h.kp l) (hc : l.length ≤ 1048576) (hr : keyIx l n = r) : Calls Tryz.prog 92 #[grV now h, .int .i64 n] w (Ret (.int .i64 r) w) := by
 subst hr
 exact key_ix now h l n w hn hl hc
/-- What a function of the model on a grant behind a pointer tells, and leaves. -/
def DoS (tl : Tail) (N p : Nat) (h : GH) (g : Gr) (s : RS) (X Y : Nat) (w : World) (e : Ending) (w' : World) : Prop := ∃ h' : GH, e = .returned (rsV s) ∧ GrAt tl N w' p h' g ∧ Kept w.heap.size p X Y w w'
end Go.Proofs.YtchfgdiipjbgoaaGreat
