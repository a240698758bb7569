/- Draws: a grant that is right, as a rule: what is carried along. Draws: a grant that is right, as a rule. -/
import Derived.Test.YtchfgdiipjbgoaaGreatFGdJ
import Derived.Test.YtchfgdiipjbgoaaGreatFGdQ
namespace Go.Proofs.YtchfgdiipjbgoaaGreat
open Go Go.RowKit Go.Lib
set_option linter.unusedVariables false
set_option maxRecDepth 100000

/-- A drawn grant in its variable q: its lists are the call's own; the result's cell is still free. -/
structure DBox (g q : Nat) (w wx : World) (k : GH) (gr : Gr) : Prop where
 atq : GrAt tailG w.heap.size wx q k gr
 wf : GrWf gr
 sm : ∀ x ∈ gr.words, x.shade.size ≤ maxLen
 nw : 1 ≤ gr.words.length ∧ gr.words.length ≤ 50
 nk : gr.keys.length ≤ 50
 nd : gr.dead.length ≤ 50
 src : SrcAt g wx
 grown : w.grownBy wx (some g)
 zero : Row wx w.heap.size 27 (grL 0 zH)
 gt : w.heap.size < q
theorem own_ne_src {N g : Nat} {E K n : Nat} {w : World} {v : Value} {x : List Value} (h : w.ownsRow N E K v n x) (hg : g < N) : ∀ q, v.ownBlock = some q → g < q := fun q hq => by
 have := (h.lt q hq).1
 omega
section
variable {g q : Nat} {w wx wy : World} {k : GH} {gr : Gr}
theorem DBox.kept (h : DBox g q w wx k gr) (hg : wx.grownBy wy (some g)) (hs : SrcAt g wy) (hlt : g < w.heap.size) : DBox g q w wy k gr :=
 ⟨h.atq.grown hg hlt, h.wf, h.sm, h.nw, h.nk, h.nd, hs, grown_trans h.grown hg, h.zero.grw hg (fun e => by have := Option.some.inj e; omega), h.gt⟩
theorem DBox.later (h : DBox g q w wx k gr) (hb : Below wx.heap.size wx wy) : DBox g q w wy k gr :=
 ⟨h.atq.later hb, h.wf, h.sm, h.nw, h.nk, h.nd, h.src.below hb, grown_trans h.grown (grown_below hb (some g)), h.zero.below hb h.zero.lt, h.gt⟩
theorem DBox.drew (h : DBox g q w wx k gr) : DBox g q w wx.drew k gr := h.later ((Below.refl _ _).drew)
/-- One of the lists, grown in its own block. -/
theorem DBox.other {N E K n m c : Nat} {p : Option Addr} {x : List Value} (h : DBox g q w wx k gr) (hl : wx.ownsRow w.heap.size E K (.slice p m c) n x) (hE : E ≠ 27) (hg : wx.grownBy wy (Value.slice p m c).ownBlock) (hlt : g < w.heap.size) :
  SrcAt g wy ∧ w.grownBy wy (some g) ∧ Row wy w.heap.size 27 (grL 0 zH) ∧ Row wy q 27 (grL gr.now k ++ []) ∧
  (∀ {E' K' n' : Nat} {v : Value} {x' : List Value}, wx.ownsRow w.heap.size E' K' v n' x' → E' ≠ E → wy.ownsRow w.heap.size E' K' v n' x') := by
 refine ⟨h.src.grown hg (own_ne_src hl hlt), grown_join h.grown hg (fun j hj => (hl.lt j hj).1), h.zero.grw hg (fun e => row_own_ne h.zero hl hE.symm e.symm), h.atq.row.grw hg (fun e => row_own_ne h.atq.row hl hE.symm e.symm), fun ho hne => ?_⟩
 exact ho.kept hg (own_apart ho hl hne)
/-- The numbers of the dead: one more. -/
theorem DBox.appD (h : DBox g q w wx k gr) {v : Value} {x : Int} (ho : wy.ownsRow w.heap.size 2 1 v (gr.dead.length + 1) (gr.dead.flatMap inCf ++ inCf x)) (hg : wx.grownBy wy (Value.slice k.dp k.dn k.dc).ownBlock) (hlt : g < w.heap.size)
  (hwf : (Lit.int .i64 x).wf = true) (hn : gr.dead.length < 50) : ∃ p c, v = .slice p (gr.dead.length + 1) c ∧ Row wy q 27 (grL gr.now k ++ []) ∧
   DBox g q w (wy.setCell ⟨q, 3, none⟩ (.slice p (gr.dead.length + 1) c)) { k with dp := p, dn := gr.dead.length + 1, dc := c } { gr with dead := gr.dead ++ [x] } := by
 obtain ⟨p, c, rfl⟩ := own_slc ho
 obtain ⟨e1, e2, e3, e4, e5⟩ := h.other (N := 0) h.atq.dead (by decide) hg hlt
 have hs := grown_set (w := wy) q 3 (.slice p (gr.dead.length + 1) c)
 have hgt := h.gt
 refine ⟨p, c, rfl, e4, ⟨e4.set 3 _, own_set _ (e5 h.atq.words (by decide)) (row_own_ne e4 (e5 h.atq.words (by decide)) (by decide)), own_set _ (e5 h.atq.keys (by decide)) (row_own_ne e4 (e5 h.atq.keys (by decide)) (by decide)), ?_, h.atq.place⟩,
  ⟨h.wf.1, fun y hy => ?_⟩, h.sm, h.nw, h.nk, by simp; omega, e1.grown hs (fun j e => by have := Option.some.inj e; omega), grown_join e2 hs (fun j e => by have := Option.some.inj e; omega), e3.grw hs (fun e => by have := Option.some.inj e; omega), hgt⟩
 ·have h6 := own_set (a := ⟨q, 3, none⟩) (.slice p (gr.dead.length + 1) c) ho (row_own_ne e4 ho (by decide))
  simpa [List.flatMap_append] using h6
 ·rcases List.mem_append.1 hy with hy | hy
  ·exact h.wf.2 y hy
  ·obtain rfl : y = x := by simpa using hy
   exact hwf
theorem DBox.appK (h : DBox g q w wx k gr) {v : Value} {x : Ky} (ho : wy.ownsRow w.heap.size 138 6 v (gr.keys.length + 1) (gr.keys.flatMap kyCf ++ kyCf x)) (hg : wx.grownBy wy (Value.slice k.kp k.kn k.kc).ownBlock) (hlt : g < w.heap.size)
  (hwf : (Lit.int .i64 x.fam).wf = true) (hn : gr.keys.length < 50) : ∃ p c, v = .slice p (gr.keys.length + 1) c ∧ Row wy q 27 (grL gr.now k ++ []) ∧
   DBox g q w (wy.setCell ⟨q, 2, none⟩ (.slice p (gr.keys.length + 1) c)) { k with kp := p, kn := gr.keys.length + 1, kc := c } { gr with keys := gr.keys ++ [x] } := by
 obtain ⟨p, c, rfl⟩ := own_slc ho
 obtain ⟨e1, e2, e3, e4, e5⟩ := h.other (N := 0) h.atq.keys (by decide) hg hlt
 have hs := grown_set (w := wy) q 2 (.slice p (gr.keys.length + 1) c)
 have hgt := h.gt
 refine ⟨p, c, rfl, e4, ⟨e4.set 2 _, own_set _ (e5 h.atq.words (by decide)) (row_own_ne e4 (e5 h.atq.words (by decide)) (by decide)), ?_, own_set _ (e5 h.atq.dead (by decide)) (row_own_ne e4 (e5 h.atq.dead (by decide)) (by decide)), h.atq.place⟩,
  ⟨fun y hy => ?_, h.wf.2⟩, h.sm, h.nw, by simp; omega, h.nd, e1.grown hs (fun j e => by have := Option.some.inj e; omega), grown_join e2 hs (fun j e => by have := Option.some.inj e; omega), e3.grw hs (fun e => by have := Option.some.inj e; omega), hgt⟩
 ·have h6 := own_set (a := ⟨q, 2, none⟩) (.slice p (gr.keys.length + 1) c) ho (row_own_ne e4 ho (by decide))
  simpa [List.flatMap_append] using h6
 ·rcases List.mem_append.1 hy with hy | hy
  ·exact h.wf.1 y hy
  ·obtain rfl : y = x := by simpa using hy
   exact hwf
theorem DBox.appW (h : DBox g q w wx k gr) {v : Value} {x : Wd} (ho : wy.ownsRow w.heap.size 143 5 v (gr.words.length + 1) (gr.words.flatMap wdCf ++ wdCf x)) (hg : wx.grownBy wy (Value.slice k.wp k.wn k.wc).ownBlock) (hlt : g < w.heap.size)
  (hwf : x.shade.size ≤ maxLen) (hn : gr.words.length < 50) : ∃ p c, v = .slice p (gr.words.length + 1) c ∧ Row wy q 27 (grL gr.now k ++ []) ∧
   DBox g q w (wy.setCell ⟨q, 1, none⟩ (.slice p (gr.words.length + 1) c)) { k with wp := p, wn := gr.words.length + 1, wc := c } { gr with words := gr.words ++ [x] } := by
 obtain ⟨p, c, rfl⟩ := own_slc ho
 obtain ⟨e1, e2, e3, e4, e5⟩ := h.other (N := 0) h.atq.words (by decide) hg hlt
 have hs := grown_set (w := wy) q 1 (.slice p (gr.words.length + 1) c)
 have hgt := h.gt
 refine ⟨p, c, rfl, e4, ⟨e4.set 1 _, ?_, own_set _ (e5 h.atq.keys (by decide)) (row_own_ne e4 (e5 h.atq.keys (by decide)) (by decide)), own_set _ (e5 h.atq.dead (by decide)) (row_own_ne e4 (e5 h.atq.dead (by decide)) (by decide)), h.atq.place⟩,
  h.wf, fun y hy => ?_, by have := h.nw; simp; omega, h.nk, h.nd, e1.grown hs (fun j e => by have := Option.some.inj e; omega), grown_join e2 hs (fun j e => by have := Option.some.inj e; omega), e3.grw hs (fun e => by have := Option.some.inj e; omega), hgt⟩
 ·have h6 := own_set (a := ⟨q, 1, none⟩) (.slice p (gr.words.length + 1) c) ho (row_own_ne e4 ho (by decide))
  simpa [List.flatMap_append] using h6
 ·rcases List.mem_append.1 hy with hy | hy
  ·exact h.sm y hy
  ·obtain rfl : y = x := by simpa using hy
   exact hwf
theorem DBox.setNow (h : DBox g q w wx k gr) (n : Int) (hlt : g < w.heap.size) : DBox g q w (wx.setCell ⟨q, 0, none⟩ (.int .i64 n)) k { gr with now := n } := by
 have hs := grown_set (w := wx) q 0 (.int .i64 n)
 have hgt := h.gt
 exact ⟨⟨h.atq.row.set 0 _, own_set _ h.atq.words (row_own_ne h.atq.row h.atq.words (by decide)), own_set _ h.atq.keys (row_own_ne h.atq.row h.atq.keys (by decide)), own_set _ h.atq.dead (row_own_ne h.atq.row h.atq.dead (by decide)), h.atq.place⟩,
  h.wf, h.sm, h.nw, h.nk, h.nd, h.src.grown hs (fun j e => by have := Option.some.inj e; omega), grown_join h.grown hs (fun j e => by have := Option.some.inj e; omega), h.zero.grw hs (fun e => by have := Option.some.inj e; omega), hgt⟩
/-- The first word's shade, written anew. -/
theorem DBox.setShade (h : DBox g q w wx k gr) (t : ByteArray) (ht : t.size ≤ maxLen) (hlt : g < w.heap.size) : ∃ b y, k.wp = some ⟨b, 0, none⟩ ∧ wx.cell? ⟨b, 2, none⟩ = some (.string y) ∧ wx.frozen? ⟨b, 2, none⟩ = false ∧ 0 < k.wn ∧
  ∃ gr', DBox g q w (wx.setCell ⟨b, 2, none⟩ (.string t)) k gr' ∧ gr'.now = gr.now := by
 have hw := h.atq.words
 have hn1 := own_len hw
 obtain ⟨gN, hp, hb, hbl, hnc, hcell⟩ := own_some hw (by have := h.nw; omega)
 obtain ⟨y, r, hl⟩ : ∃ y r, gr.words = y :: r := by
  have := h.nw.1
  cases hg : gr.words with
  | nil => rw [hg] at this; simp at this
  | cons y r => exact ⟨y, r, rfl⟩
 have hc2 : wx.cell? ⟨gN, 2, none⟩ = some (.string y.shade) := hcell 2 _ (by rw [hl]; rfl)
 have hrow : ∃ cur : List Value, Row wx gN 143 cur ∧ cur.take (gr.words.length * 5) = gr.words.flatMap wdCf ∧ cur.length = k.wc * 5 ∧ k.wc ≤ maxLen := by
  rcases hw.2 with ⟨e, _⟩ | ⟨g2, cap, cur, e, _, hcur, hle, hm, hs, htk⟩
  ·rw [hp] at e; cases e
  ·rw [hp] at e
   obtain ⟨⟨rfl, _⟩, _, rfl⟩ : (gN = g2 ∧ True) ∧ k.wn = gr.words.length ∧ k.wc = cap := by simpa using e
   exact ⟨cur.toList, by unfold Row; simpa using hcur, htk, by simpa using hs, hm⟩
 obtain ⟨cur, hrw, htk, hcl, hcm⟩ := hrow
 have hne : gN ≠ q := fun e => row_own_ne h.atq.row hw (by decide) (by rw [hp, e]; rfl)
 have hne0 : gN ≠ w.heap.size := fun e => row_own_ne h.zero hw (by decide) (by rw [hp, e]; rfl)
 have hs := grown_set (w := wx) gN 2 (.string t)
 have hset : (cur.set 2 (.string t)).take (gr.words.length * 5) = ({ y with shade := t } :: r).flatMap wdCf := by
  rw [List.take_set, htk, hl]
  rfl
 refine ⟨gN, y.shade, hp, hc2, hrw.free 2, by rw [hn1]; have := h.nw; omega, { gr with words := { y with shade := t } :: r }, ⟨⟨h.atq.row.grw hs (fun e => hne (Option.some.inj e)), ?_, ?_, ?_, h.atq.place⟩, h.wf, ?_, ?_, h.nk, h.nd, h.src.grown hs (fun j e => by have := Option.some.inj e; omega), grown_join h.grown hs (fun j e => by have := Option.some.inj e; omega), h.zero.grw hs (fun e => hne0 (Option.some.inj e)), h.gt⟩, rfl⟩
 ·have hlen : ({ y with shade := t } :: r).length = gr.words.length := by rw [hl]; rfl
  show (wx.setCell ⟨gN, 2, none⟩ (.string t)).ownsRow w.heap.size 143 5 (.slice k.wp k.wn k.wc) ({ y with shade := t } :: r).length (({ y with shade := t } :: r).flatMap wdCf)
  rw [hlen]
  refine ⟨by rw [flat_len wdCf_len, hlen], .inr ⟨gN, k.wc, (cur.set 2 (.string t)).toArray, by rw [hp, hn1], hb, ?_, hnc, hcm, by simpa using hcl, by simpa using hset⟩⟩
  have := hrw.set 2 (.string t)
  unfold Row at this
  exact this
 ·exact own_set _ h.atq.keys (fun e => by
   rcases own_apart h.atq.keys hw (by decide) with h2 | h2
   ·rw [h2] at e; cases e
   ·exact h2 (by rw [← e, hp]; rfl))
 ·exact own_set _ h.atq.dead (fun e => by
   rcases own_apart h.atq.dead hw (by decide) with h2 | h2
   ·rw [h2] at e; cases e
   ·exact h2 (by rw [← e, hp]; rfl))
 ·intro x hx
  rcases List.mem_cons.1 hx with rfl | hx
  ·exact ht
  ·exact h.sm x (by rw [hl]; exact List.mem_cons_of_mem _ hx)
 ·have := h.nw
  rw [hl] at this
  exact this
end
/-- What is drawn: a grant of the call's own lists, short, its numbers of 64 bits. -/
def GrantL (g : Nat) (w : World) (e : Ending) (w' : World) : Prop := ∃ (k : GH) (gr : Gr), e = .returned (grV gr.now k) ∧ GrOwn w.heap.size gr k w' ∧ GrWf gr ∧ GrSmall gr ∧ SrcAt g w' ∧ w.grownBy w' (some g)
end Go.Proofs.YtchfgdiipjbgoaaGreat
/- Draws: a grant that is right, as a rule. -/
namespace Go.Proofs.YtchfgdiipjbgoaaGreat
open Go Go.RowKit Go.Lib
set_option linter.unusedVariables false
set_option maxRecDepth 100000

section
variable {P : Program} {ops : Array Oper} {Q : Exit → Act → World → Prop} {o : Oper} {a : Act}
/-- A call whose answer is told by something that there is, as one step of a region that draws its order. -/
theorem step_callX {α : Type} {w : World} {KK : Act → World → Prop} {F : Prop} (hgd : o.guard = none) (f : FuncId) (args : Array Value) (hrun : (execOp a.eval o).run P w = .ok (.enter f args) w) (V : α → Value) (R : α → World → Prop)
  (hc : Calls P f args w fun e w' => ∃ x, e = .returned (V x) ∧ R x w') (h : ∀ x w', R x w' → KK (a.put o.dst (V x)) w') : if Region.wanted o (yielded ops a.tmps) = true then Oper.wp P o a w KK Q else F := by
 have hw : Region.wanted o (yielded ops a.tmps) = true := by simp [Region.wanted, hgd]
 rw [if_pos hw]
 unfold Oper.wp
 rw [hrun, Oper.upon_enter]
 refine hc.mono fun e w'' hh => ?_
 obtain ⟨x, rfl, hr⟩ := hh
 exact h x _ hr
end
theorem n_is (g : Nat) (w : World) (most : Int) (h1 : 1 < most) (hm : most ≤ 1000) (hS : SrcAt g w) : Calls Tryz.prog 84 #[.pointer (some ⟨g, 0, none⟩), .int .i64 most] w fun e w' => ∃ r : Int, e = .returned (.int .i64 r) ∧ (0 ≤ r ∧ r < most) ∧ SrcAt g w' ∧ w.grownBy w' (some g) :=
 (n_any g w most (by omega) hS).mono (by rintro e w' ⟨r, h0, hh, _, rfl, hs, hg⟩; exact ⟨r, rfl, ⟨h0, hh h1⟩, hs, hg⟩)
theorem pick_is (g : Nat) (w : World) (b n cap : Nat) (Φ : ByteArray → Prop) (hn : 1 ≤ n) (hn2 : n ≤ 100) (hc : ∀ j, j < n → ∃ t, Φ t ∧ w.cell? ⟨b, j, none⟩ = some (.string t)) (hb : b ≠ g) (hS : SrcAt g w) :
  Calls Tryz.prog 145 #[.pointer (some ⟨g, 0, none⟩), .slice (some ⟨b, 0, none⟩) n cap] w fun e w' => ∃ t : ByteArray, e = .returned (.string t) ∧ Φ t ∧ SrcAt g w' ∧ w.grownBy w' (some g) :=
 (pick_any g w b n cap Φ hn hn2 hc hb hS).mono (by rintro e w' ⟨v, ⟨t, ht, rfl⟩, rfl, hs, hg⟩; exact ⟨t, rfl, ht, hs, hg⟩)
theorem right_wf {gr : Gr} (h : grantB gr = true) : GrWf gr := by
 obtain ⟨_, _, _, hw, hk, hd⟩ := gr_facts h
 have hno : ∀ n, hasNo gr.words n = true → (Lit.int .i64 n).wf = true := fun n hn => by
  obtain ⟨x, hx, rfl⟩ := hasNo_find hn
  obtain ⟨k, hk, _⟩ := find_mem hx
  have := (wordsOk_get hw hk).1
  exact wf_small (by omega) (by omega)
 refine ⟨fun x hx => ?_, fun x hx => hno x (deadOk_up hd x hx).2⟩
 obtain ⟨j, hj⟩ := List.getElem?_of_mem hx
 exact hno _ (keysOk_get hk hj).1.2.2.2.1
theorem right_sm {gr : Gr} (h : grantB gr = true) : ∀ x ∈ gr.words, x.shade.size ≤ maxLen := fun x hx => by
 obtain ⟨_, _, _, hw, _, _⟩ := gr_facts h
 obtain ⟨j, hj⟩ := List.getElem?_of_mem hx
 have := (wordsOk_get hw hj).1.2.2.2.1
 have := (of_decide_eq_true this).2.1
 unfold maxLen
 omega
theorem right_dead {gr : Gr} (h : grantB gr = true) : gr.dead.length ≤ 20 := by
 obtain ⟨_, h1, _, h3, _, h5⟩ := gr_facts h
 have := deadOk_le h3 h5 (fun x hx => (deadOk_up h5 x hx).2)
 omega
def nowL : List Int := [-1, 1000000, 1000001]
theorem shades3 (w : World) (b : Nat) (h : Row w b 9 [.string ⟨#[]⟩, .string ⟨#[65]⟩, .string ⟨#[98, 97]⟩]) (j : Nat) (hj : j < 3) : ∃ t : ByteArray, t.size ≤ maxLen ∧ w.cell? ⟨b, j, none⟩ = some (.string t) := by
 have h3 : ∀ t : ByteArray, t.size ≤ 2 → t.size ≤ maxLen := fun t ht => by unfold maxLen; omega
 rcases (show j = 0 ∨ j = 1 ∨ j = 2 by omega) with rfl | rfl | rfl
 ·exact ⟨_, h3 _ (by decide), h.cell 0⟩
 ·exact ⟨_, h3 _ (by decide), h.cell 1⟩
 ·exact ⟨_, h3 _ (by decide), h.cell 2⟩
set_option maxHeartbeats 8000000 in
theorem grantL_any (g : Nat) (w : World) (hS : SrcAt g w) : Calls Tryz.prog 79 #[.pointer (some ⟨g, 0, none⟩)] w (GrantL g w) := by
 have hlt := hS.lt
 obtain ⟨W, hW⟩ : ∃ W, W = w.alloc (.cells #[.int .i64 0, .slice none 0 0, .slice none 0 0, .slice none 0 0] 27) := ⟨_, rfl⟩
 have hb0 : Below w.heap.size w W := by rw [hW]; go_grown
 have hsz : W.heap.size = w.heap.size + 1 := by rw [hW]; simp
 have r0 : Row W w.heap.size 27 (grL 0 zH) := by rw [hW]; exact heap_alloc_new w _
 have HW := Lib.hid hW
 have HS := Lib.hid (hS.below hb0)
 have HG := Lib.hid (grown_below hb0 (some g))
 have HZ := Lib.hid r0
 clear hS hW hb0 r0
 go_enter Tryz.func79, Tryz.ntmps79
 go_wp2_with fail
 rw [← HW.out]
 refine (grantOf_any g _ HS.out).mono ?_
 rintro e w2 ⟨k, gr, rfl, ho, hgb, hw1, hs2, hg2⟩
 have hbq : Below w2.heap.size w2 (w2.alloc (.cells #[.int .i64 gr.now, .slice k.wp k.wn k.wc, .slice k.kp k.kn k.kc, .slice k.dp k.dn k.dc] 27)) := (Below.refl _ _).alloc (Nat.le_refl _) _
 have hz2 : Row w2 w.heap.size 27 (grL 0 zH) := HZ.out.grw hg2 (fun e => by have := Option.some.inj e; omega)
 have hws : gr.words.length ≤ 20 := (gr_facts hgb).2.1
 have hsz2 : w.heap.size + 1 ≤ w2.heap.size := by rw [← hsz]; exact hg2.size
 have HX : Hid (DBox g w2.heap.size w (w2.alloc (.cells #[.int .i64 gr.now, .slice k.wp k.wn k.wc, .slice k.kp k.kn k.kc, .slice k.dp k.dn k.dc] 27)) k gr) := Lib.hid
  ⟨⟨heap_alloc_new w2 _, own_down (own_late ho.1 hbq) (by omega), own_down (own_late ho.2.1 hbq) (by omega), own_down (own_late ho.2.2 hbq) (by omega), by omega⟩, right_wf hgb, right_sm hgb, ⟨hw1, by omega⟩, by have := (gr_facts hgb).2.2.1; omega, by have := right_dead hgb; omega,
   hs2.below hbq, grown_trans (grown_trans HG.out hg2) (grown_below hbq (some g)), hz2.below hbq hz2.lt, by omega⟩
 have hkl : gr.keys.length ≤ 40 := (gr_facts hgb).2.2.1
 have hdl : gr.dead.length ≤ 20 := right_dead hgb
 have HVk := Lib.hid (show grV gr.now k = .agg #[.int .i64 gr.now, .slice k.wp k.wn k.wc, .slice k.kp k.kn k.kc, .slice k.dp k.dn k.dc] from rfl)
 rw [HVk.out]
 clear ho hgb hs2 hg2 hbq hz2 HS HG HZ hw1 HVk
 go_upto_region 2 with fail
 generalize w2.alloc (.cells #[.int .i64 gr.now, .slice k.wp k.wn k.wc, .slice k.kp k.kn k.kc, .slice k.dp k.dn k.dc] 27) = w3 at HX ⊢
 generalize w2.heap.size = q at HX hsz2 ⊢
 go_wp2_with fail
 refine (n_is g _ 15 (by omega) (by omega) HX.out.src).mono ?_
 rintro e w4 ⟨y, rfl, ⟨hy0, hy1⟩, hs4, hg4⟩
 have HX4 := Lib.hid (HX.out.kept hg4 hs4 hlt)
 clear HX hs4 hg4
 dsimp only
 go_step
 go_step
 go_step
 go_step
 go_cut [] (fun wx => ∃ k gr, DBox g q w wx k gr)
 case first =>
  by_cases y0 : y = 0
  ·subst y0
   have hbl : Below w4.heap.size w4 (w4.alloc (.cells (nowL.map (Value.int .i64)).toArray 2)) := (Below.refl _ _).alloc (Nat.le_refl _) _
   have HXa := Lib.hid (HX4.out.later hbl)
   have hRw : Row (w4.alloc (.cells (nowL.map (Value.int .i64)).toArray 2)) w4.heap.size 2 (nowL.map (Value.int .i64)) := heap_alloc_new w4 _
   have hgW : g < w4.heap.size := HX4.out.src.lt
   clear hbl
   go_wp2_with fail
   refine (n_is g _ 3 (by omega) (by omega) HXa.out.src).mono ?_
   rintro e w5 ⟨z, rfl, ⟨z0, z1⟩, hs5, hg5⟩
   obtain ⟨j, rfl⟩ := Int.eq_ofNat_of_zero_le z0
   have hj : j < 3 := by omega
   obtain ⟨kk, hkk, hkc⟩ := ints_at nowL (by decide) j hj
   have c0 : w5.cell? ⟨w4.heap.size, j, none⟩ = some (.int .i64 kk) := ((hRw.grw hg5 (fun e => by have := Option.some.inj e; omega)).cell j).trans hkc
   have HX5 := Lib.hid (HXa.out.kept hg5 hs5 hlt)
   have k0 : w5.cell? ⟨q, 0, none⟩ = some (.int .i64 gr.now) := HX5.out.atq.row.cell 0
   have f0 : w5.frozen? ⟨q, 0, none⟩ = false := HX5.out.atq.row.free 0
   clear hs5 hg5 hRw HXa hkc z0 z1 HX4 hkk
   go_wp2_with fail
   go_meet
   exact ⟨_, _, HX5.out.setNow kk hlt⟩
  by_cases y1 : y = 1
  ·subst y1
   clear y0
   go_upto_region 6 with fail
   obtain ⟨ii, hi, hz0, hz1, hz2⟩ := info_parts infoInt64
   have HC : Hid (∀ wy, DBox g q w wy k gr → wy.cell? ⟨q, 3, none⟩ = some (.slice k.dp k.dn k.dc)) := Lib.hid (fun wy h => h.atq.row.cell 3)
   have HXd := Lib.hid HX4.out.drew
   refine region_L 5 (fun w' => w'.cell? ⟨q, 3, none⟩ = some (.slice k.dp k.dn k.dc)) (fun _ => True) (by kernel_rfl) ⟨fun _ => HC.out _ HXd.out, trivial⟩ (fun hHL => ?_)
   refine wpAnyL_take (i := 0) (v := ?_) (by rfl) rfl (by kernel_rfl) (by kernel_rfl) (by kernel_rfl) (fun _ _ _ h => h) (Or.inl ⟨by rfl, ?_⟩) hHL ?_
   rotate_left
   ·intro w hSw; (try dsimp only at hSw); (first | (go_simp; done) | (go_simp; with_reducible rfl))
   clear hHL
   intro hHL
   (try simp only [Act.put, List.setIfInBounds_toArray, List.set_cons_zero, List.set_cons_succ])
   refine wpAnyL_takeA (i := 1) (v := ?_) (by rfl) rfl (by kernel_rfl) (by kernel_rfl) (by kernel_rfl) (by kernel_rfl) (by kernel_rfl) (fun _ _ _ h => h) (Or.inl ⟨by rfl, ?_⟩) hHL ?_
   rotate_left
   ·intro w hSw; (try dsimp only at hSw); (first | (go_simp; done) | (go_simp; with_reducible rfl))
   clear hHL
   intro hHL
   (try simp only [Act.put, List.setIfInBounds_toArray, List.set_cons_zero, List.set_cons_succ])
   refine wpAnyL_take (i := 2) (v := ?_) (by rfl) rfl (by kernel_rfl) (by kernel_rfl) (by kernel_rfl) (fun _ _ _ h => h) (Or.inl ⟨by rfl, ?_⟩) hHL ?_
   rotate_left
   ·intro w hSw; (try dsimp only at hSw); (first | (go_simp; done) | (go_simp; with_reducible rfl))
   clear hHL
   intro hHL
   (try simp only [Act.put, List.setIfInBounds_toArray, List.set_cons_zero, List.set_cons_succ])
   refine wpAnyL_ready (rs := [3]) (by kernel_rfl) (by simp) ?_
   refine AllReadyL.cons rfl (fun K hK => ?_) AllReadyL.nil
   refine step_callX rfl 84 #[.pointer (some ⟨g, 0, none⟩), .int .i64 5] (by kernel_rfl) (fun r : Int => .int .i64 r) _ (n_is g _ 5 (by omega) (by omega) HXd.out.src) ?_
   rintro z5 w5 ⟨⟨z5a, z5b⟩, hs5, hg5⟩
   have HX5 := Lib.hid (HXd.out.kept hg5 hs5 hlt)
   refine hK.out _ _ ⟨fun _ => HC.out _ HX5.out, trivial⟩ (fun hHL => ?_)
   clear hK K hs5 hg5
   (try simp only [Act.put, List.setIfInBounds_toArray, List.set_cons_zero, List.set_cons_succ])
   refine wpAnyL_ready (rs := [4]) (by kernel_rfl) (by simp) ?_
   refine AllReadyL.cons rfl (fun K hK => ?_) AllReadyL.nil
   go_simp
   have hb6 : Below w5.heap.size w5 (w5.alloc (.cells #[.int .i64 z5] 2)) := (Below.refl _ _).alloc (Nat.le_refl _) _
   have HX6 := Lib.hid (HX5.out.later hb6)
   have hR6 : Row (w5.alloc (.cells #[.int .i64 z5] 2)) w5.heap.size 2 [.int .i64 z5] := heap_alloc_new w5 _
   have hsq : w.heap.size ≤ (w5.alloc (.cells #[.int .i64 z5] 2)).heap.size := HX6.out.grown.size
   refine hK.out _ _ ⟨fun _ => HC.out _ HX6.out, trivial⟩ (fun hHL => ?_)
   clear hK K hb6
   (try simp only [Act.put, List.setIfInBounds_toArray, List.set_cons_zero, List.set_cons_succ])
   refine wpAnyL_ready (rs := [5]) (by kernel_rfl) (by simp) ?_
   refine AllReadyL.cons rfl (fun K hK => ?_) AllReadyL.nil
   refine step_appo rfl (.tmp 20) (.tmp 23) 25 2 rfl ii _ 1 8 Tryz.underlying25 hi hz0 hz1 hz2 rfl (by decide) (by decide) w.heap.size hsq _ gr.dead.length _ (inCf z5) rfl HX6.out.atq.dead ⟨_, 0, none⟩ rfl (fun j u hj => by rw [Addr.add_mid, Nat.zero_add, hR6.cell]; exact hj) rfl (oneIn z5) (by omega) ?_
   intro v7 w7 ho7 hg7
   obtain ⟨p7, c7, rfl, hr7, hx7⟩ := HX6.out.appD ho7 hg7 hlt (wf_small (by omega) (by omega)) (by omega)
   have d7 : w7.cell? ⟨q, 3, none⟩ = some (.slice k.dp k.dn k.dc) := hr7.cell 3
   have f7 : w7.frozen? ⟨q, 3, none⟩ = false := hr7.free 3
   have HX7 := Lib.hid hx7
   refine hK.out _ _ ⟨fun h => Bool.noConfusion ((show Array.getD _ 5 true = true from by kernel_rfl).symm.trans h), trivial⟩ (fun hHL => ?_)
   clear hK K ho7 hg7 hr7 hx7
   (try simp only [Act.put, List.setIfInBounds_toArray, List.set_cons_zero, List.set_cons_succ])
   refine wpAnyL_take (i := 6) (v := ?_) (by rfl) rfl (by kernel_rfl) (by kernel_rfl) (by kernel_rfl) (fun _ _ _ h => h) (Or.inl ⟨by rfl, ?_⟩) hHL ?_
   rotate_left
   ·intro w hSw; (try dsimp only at hSw); (first | (go_simp; done) | (go_simp; with_reducible rfl))
   clear hHL
   intro hHL
   (try simp only [Act.put, List.setIfInBounds_toArray, List.set_cons_zero, List.set_cons_succ])
   refine wpAnyL_ready (rs := [7]) (by kernel_rfl) (by simp) ?_
   refine AllReadyL.cons rfl (fun K hK => ?_) AllReadyL.nil
   go_simp
   refine hK.out _ _ ⟨fun h => Bool.noConfusion ((show Array.getD _ 5 true = true from by kernel_rfl).symm.trans h), trivial⟩ (fun hHL => ?_)
   clear hK K
   (try simp only [Act.put, List.setIfInBounds_toArray, List.set_cons_zero, List.set_cons_succ])
   refine wpAnyL_done (by kernel_rfl) ?_ _
   clear hHL d7 f7 hR6
   go_wp2_with fail
   go_meet
   exact ⟨_, _, HX7.out⟩
  by_cases y2 : y = 2
  ·subst y2
   clear y0 y1
   go_upto_region 8 with fail
   obtain ⟨ii, hi, hz0, hz1, hz2⟩ := info_parts infoKey
   have HC : Hid (∀ wy, DBox g q w wy k gr → wy.cell? ⟨q, 2, none⟩ = some (.slice k.kp k.kn k.kc)) := Lib.hid (fun wy h => h.atq.row.cell 2)
   have HXd := Lib.hid HX4.out.drew
   refine region_L 11 (fun w' => w'.cell? ⟨q, 2, none⟩ = some (.slice k.kp k.kn k.kc)) (fun _ => True) (by kernel_rfl) ⟨fun _ => HC.out _ HXd.out, trivial⟩ (fun hHL => ?_)
   refine wpAnyL_take (i := 0) (v := ?_) (by rfl) rfl (by kernel_rfl) (by kernel_rfl) (by kernel_rfl) (fun _ _ _ h => h) (Or.inl ⟨by rfl, ?_⟩) hHL ?_
   rotate_left
   ·intro w hSw; (try dsimp only at hSw); (first | (go_simp; done) | (go_simp; with_reducible rfl))
   clear hHL
   intro hHL
   (try simp only [Act.put, List.setIfInBounds_toArray, List.set_cons_zero, List.set_cons_succ])
   refine wpAnyL_takeA (i := 1) (v := ?_) (by rfl) rfl (by kernel_rfl) (by kernel_rfl) (by kernel_rfl) (by kernel_rfl) (by kernel_rfl) (fun _ _ _ h => h) (Or.inl ⟨by rfl, ?_⟩) hHL ?_
   rotate_left
   ·intro w hSw; (try dsimp only at hSw); (first | (go_simp; done) | (go_simp; with_reducible rfl))
   clear hHL
   intro hHL
   (try simp only [Act.put, List.setIfInBounds_toArray, List.set_cons_zero, List.set_cons_succ])
   refine wpAnyL_take (i := 2) (v := ?_) (by rfl) rfl (by kernel_rfl) (by kernel_rfl) (by kernel_rfl) (fun _ _ _ h => h) (Or.inl ⟨by rfl, ?_⟩) hHL ?_
   rotate_left
   ·intro w hSw; (try dsimp only at hSw); (first | (go_simp; done) | (go_simp; with_reducible rfl))
   clear hHL
   intro hHL
   (try simp only [Act.put, List.setIfInBounds_toArray, List.set_cons_zero, List.set_cons_succ])
   refine wpAnyL_take (i := 5) (v := ?_) (by rfl) rfl (by kernel_rfl) (by kernel_rfl) (by kernel_rfl) (fun _ _ _ h => h) (Or.inl ⟨by rfl, ?_⟩) hHL ?_
   rotate_left
   ·intro w hSw; (try dsimp only at hSw); (first | (go_simp; done) | (go_simp; with_reducible rfl))
   clear hHL
   intro hHL
   (try simp only [Act.put, List.setIfInBounds_toArray, List.set_cons_zero, List.set_cons_succ])
   refine wpAnyL_take (i := 7) (v := ?_) (by rfl) rfl (by kernel_rfl) (by kernel_rfl) (by kernel_rfl) (fun _ _ _ h => h) (Or.inl ⟨by rfl, ?_⟩) hHL ?_
   rotate_left
   ·intro w hSw; (try dsimp only at hSw); (first | (go_simp; done) | (go_simp; with_reducible rfl))
   clear hHL
   intro hHL
   (try simp only [Act.put, List.setIfInBounds_toArray, List.set_cons_zero, List.set_cons_succ])
   refine wpAnyL_ready (rs := [3]) (by kernel_rfl) (by simp) ?_
   refine AllReadyL.cons rfl (fun K hK => ?_) AllReadyL.nil
   refine step_callX rfl 84 #[.pointer (some ⟨g, 0, none⟩), .int .i64 3] (by kernel_rfl) (fun r : Int => .int .i64 r) _ (n_is g _ 3 (by omega) (by omega) HXd.out.src) ?_
   rintro z5 w5 ⟨⟨z5a, z5b⟩, hs5, hg5⟩
   have HX5 := Lib.hid (HXd.out.kept hg5 hs5 hlt)
   refine hK.out _ _ ⟨fun _ => HC.out _ HX5.out, trivial⟩ (fun hHL => ?_)
   clear hK K hs5 hg5
   (try simp only [Act.put, List.setIfInBounds_toArray, List.set_cons_zero, List.set_cons_succ])
   have ez5 : IntKind.i64.wrap ((90 : Int) + z5) = 90 + z5 := by rw [IntKind.wrap_i64]; omega
   refine wpAnyL_take (i := 4) (v := ?_) (by rfl) rfl (by kernel_rfl) (by kernel_rfl) (by kernel_rfl) (fun _ _ _ h => h) (Or.inl ⟨by rfl, ?_⟩) hHL ?_
   rotate_left
   ·intro w hSw; (try dsimp only at hSw); (first | (go_simp; done) | (go_simp; with_reducible rfl))
   clear hHL
   intro hHL
   (try simp only [Act.put, List.setIfInBounds_toArray, List.set_cons_zero, List.set_cons_succ])
   refine wpAnyL_ready (rs := [6]) (by kernel_rfl) (by simp) ?_
   refine AllReadyL.cons rfl (fun K hK => ?_) AllReadyL.nil
   refine step_callX rfl 84 #[.pointer (some ⟨g, 0, none⟩), .int .i64 5] (by kernel_rfl) (fun r : Int => .int .i64 r) _ (n_is g _ 5 (by omega) (by omega) HX5.out.src) ?_
   rintro z6 w6 ⟨⟨z6a, z6b⟩, hs6, hg6⟩
   have HX6 := Lib.hid (HX5.out.kept hg6 hs6 hlt)
   refine hK.out _ _ ⟨fun _ => HC.out _ HX6.out, trivial⟩ (fun hHL => ?_)
   clear hK K hs6 hg6
   (try simp only [Act.put, List.setIfInBounds_toArray, List.set_cons_zero, List.set_cons_succ])
   refine wpAnyL_ready (rs := [8]) (by kernel_rfl) (by simp) ?_
   refine AllReadyL.cons rfl (fun K hK => ?_) AllReadyL.nil
   refine step_callX rfl 84 #[.pointer (some ⟨g, 0, none⟩), .int .i64 4] (by kernel_rfl) (fun r : Int => .int .i64 r) _ (n_is g _ 4 (by omega) (by omega) HX6.out.src) ?_
   rintro z7 w7 ⟨⟨z7a, z7b⟩, hs7, hg7⟩
   have HX7 := Lib.hid (HX6.out.kept hg7 hs7 hlt)
   refine hK.out _ _ ⟨fun _ => HC.out _ HX7.out, trivial⟩ (fun hHL => ?_)
   clear hK K hs7 hg7
   (try simp only [Act.put, List.setIfInBounds_toArray, List.set_cons_zero, List.set_cons_succ])
   refine wpAnyL_take (i := 9) (v := ?_) (by rfl) rfl (by kernel_rfl) (by kernel_rfl) (by kernel_rfl) (fun _ _ _ h => h) (Or.inl ⟨by rfl, ?_⟩) hHL ?_
   rotate_left
   ·intro w hSw; (try dsimp only at hSw); (first | (go_simp; done) | (go_simp; with_reducible rfl))
   clear hHL
   intro hHL
   (try simp only [Act.put, List.setIfInBounds_toArray, List.set_cons_zero, List.set_cons_succ])
   refine wpAnyL_ready (rs := [10]) (by kernel_rfl) (by simp) ?_
   refine AllReadyL.cons rfl (fun K hK => ?_) AllReadyL.nil
   go_simp
   have hb8 : Below w7.heap.size w7 (w7.alloc (.cells #[.int .i64 (90 + z5), .int .i64 z6, .int .i64 1, .bool false, .int .i64 0, .int .i64 z7] 138)) := (Below.refl _ _).alloc (Nat.le_refl _) _
   have HX8 := Lib.hid (HX7.out.later hb8)
   have hR8 : Row (w7.alloc (.cells #[.int .i64 (90 + z5), .int .i64 z6, .int .i64 1, .bool false, .int .i64 0, .int .i64 z7] 138)) w7.heap.size 138 [.int .i64 (90 + z5), .int .i64 z6, .int .i64 1, .bool false, .int .i64 0, .int .i64 z7] := heap_alloc_new w7 _
   have hsq : w.heap.size ≤ (w7.alloc (.cells #[.int .i64 (90 + z5), .int .i64 z6, .int .i64 1, .bool false, .int .i64 0, .int .i64 z7] 138)).heap.size := HX8.out.grown.size
   refine hK.out _ _ ⟨fun _ => HC.out _ HX8.out, trivial⟩ (fun hHL => ?_)
   clear hK K hb8
   (try simp only [Act.put, List.setIfInBounds_toArray, List.set_cons_zero, List.set_cons_succ])
   refine wpAnyL_ready (rs := [11]) (by kernel_rfl) (by simp) ?_
   refine AllReadyL.cons rfl (fun K hK => ?_) AllReadyL.nil
   refine step_appo rfl (.tmp 29) (.tmp 38) 24 138 rfl ii _ 6 48 Tryz.underlying24 hi hz0 hz1 hz2 rfl (by decide) (by decide) w.heap.size hsq _ gr.keys.length _ (kyCf ⟨90 + z5, z6, 1, false, 0, z7⟩) rfl HX8.out.atq.keys ⟨_, 0, none⟩ rfl (fun j u hj => by rw [Addr.add_mid, Nat.zero_add, hR8.cell]; exact hj) rfl (oneKy _) (by omega) ?_
   intro v9 w9 ho9 hg9
   obtain ⟨p9, c9, rfl, hr9, hx9⟩ := HX8.out.appK (x := ⟨90 + z5, z6, 1, false, 0, z7⟩) ho9 hg9 hlt (wf_small (by show (0 : Int) ≤ 1; omega) (by show (1 : Int) ≤ _; omega)) (by omega)
   have d9 : w9.cell? ⟨q, 2, none⟩ = some (.slice k.kp k.kn k.kc) := hr9.cell 2
   have f9 : w9.frozen? ⟨q, 2, none⟩ = false := hr9.free 2
   have HX9 := Lib.hid hx9
   refine hK.out _ _ ⟨fun h => Bool.noConfusion ((show Array.getD _ 11 true = true from by kernel_rfl).symm.trans h), trivial⟩ (fun hHL => ?_)
   clear hK K ho9 hg9 hr9 hx9
   (try simp only [Act.put, List.setIfInBounds_toArray, List.set_cons_zero, List.set_cons_succ])
   refine wpAnyL_take (i := 12) (v := ?_) (by rfl) rfl (by kernel_rfl) (by kernel_rfl) (by kernel_rfl) (fun _ _ _ h => h) (Or.inl ⟨by rfl, ?_⟩) hHL ?_
   rotate_left
   ·intro w hSw; (try dsimp only at hSw); (first | (go_simp; done) | (go_simp; with_reducible rfl))
   clear hHL
   intro hHL
   (try simp only [Act.put, List.setIfInBounds_toArray, List.set_cons_zero, List.set_cons_succ])
   refine wpAnyL_ready (rs := [13]) (by kernel_rfl) (by simp) ?_
   refine AllReadyL.cons rfl (fun K hK => ?_) AllReadyL.nil
   go_simp
   refine hK.out _ _ ⟨fun h => Bool.noConfusion ((show Array.getD _ 11 true = true from by kernel_rfl).symm.trans h), trivial⟩ (fun hHL => ?_)
   clear hK K
   (try simp only [Act.put, List.setIfInBounds_toArray, List.set_cons_zero, List.set_cons_succ])
   refine wpAnyL_done (by kernel_rfl) ?_ _
   clear hHL d9 f9 hR8
   go_wp2_with fail
   go_meet
   exact ⟨_, _, HX9.out⟩
  by_cases y3 : y = 3
  ·subst y3
   clear y0 y1 y2
   go_wp2_with fail
   go_loopw [4] (fun i wr => ∃ (j : Nat) (k : GH) (gr : Gr), j ≤ 20 ∧ i = .int .i64 ((10 : Int) + j) ∧ DBox g q w wr k gr ∧ gr.words.length ≤ 20 + j) (fun i _ => 100 - (RowKit.intOf i).toNat)
   case atStart => exact ⟨0, k, gr, by omega, rfl, HX4.out, by omega⟩
   case round =>
    obtain ⟨j, k, gr, hj, rfl, hx, hwl⟩ := hrel
    have HXr := Lib.hid hx
    clear hx hws hkl hdl HX4
    go_wp2_with fail
    refine (n_is g _ 4 (by omega) (by omega) HXr.out.src).mono ?_
    rintro e w5 ⟨z, rfl, ⟨z0, z1⟩, hs5, hg5⟩
    have ez : IntKind.i64.wrap ((27 : Int) + z) = 27 + z := by rw [IntKind.wrap_i64]; omega
    have HX5 := Lib.hid (HXr.out.kept hg5 hs5 hlt)
    clear hs5 hg5 HXr
    by_cases hlz : (10 : Int) + j < 27 + z
    ·have k1 : w5.cell? ⟨q, 1, none⟩ = some (.slice k.wp k.wn k.wc) := HX5.out.atq.row.cell 1
     obtain ⟨ii, hi, hz0, hz1, hz2⟩ := info_parts infoWord
     have hsq : w.heap.size ≤ w5.heap.size := by have := HX5.out.grown.size; omega
     have hbl : Below w5.heap.size w5 (w5.alloc (.cells #[.int .i64 (10 + (j : Int)), .int .i64 1, .string ⟨#[97]⟩, .int .i64 0, .bool false] 143)) := (Below.refl _ _).alloc (Nat.le_refl _) _
     have HX6 := Lib.hid (HX5.out.later hbl)
     have HOw := Lib.hid HX5.out.atq.words
     clear hbl
     go_wp2_with (at_builtin; refine wpList_appo rfl (.tmp 51) (.tmp 54) 23 143 rfl ii _ 5 48 Tryz.underlying23 hi hz0 hz1 hz2 rfl (by decide) (by decide) w.heap.size hsq (.slice k.wp k.wn k.wc) gr.words.length _ (wdCf ⟨10 + (j : Int), 1, ⟨#[97]⟩, 0, false⟩) rfl HOw.out _ rfl rfl rfl (oneWd _) (by omega) ?_; intro v7 w7 ho7 hg7; obtain ⟨p7, c7, rfl, hr7, hx7⟩ := HX6.out.appW (x := ⟨10 + (j : Int), 1, ⟨#[97]⟩, 0, false⟩) ho7 hg7 hlt (by show (1 : Nat) ≤ maxLen; unfold maxLen; omega) (by omega); have d7 : w7.cell? ⟨q, 1, none⟩ = some (.slice k.wp k.wn k.wc) := hr7.cell 1; have f7 : w7.frozen? ⟨q, 1, none⟩ = false := hr7.free 1; have HX7 := Lib.hid hx7; clear ho7 hg7 hr7 hx7 k1)
     go_roundw
     case rel => exact ⟨j + 1, _, _, by omega, by go_num, HX7.out, by simp; omega⟩
     case measure => simp [RowKit.intOf]; omega
    ·go_wp2_with fail
     go_meet
     exact ⟨_, _, HX5.out⟩
  by_cases y4 : y = 4
  ·subst y4
   clear y0 y1 y2 y3
   go_upto_region 15 with fail
   have HC : Hid (∀ wy gr', DBox g q w wy k gr' → wy.cell? ⟨q, 1, none⟩ = some (.slice k.wp k.wn k.wc)) := Lib.hid (fun wy gr' h => h.atq.row.cell 1)
   have HXd := Lib.hid HX4.out.drew
   obtain ⟨b, s0, hbw, _, _, hwn, _⟩ := HX4.out.setShade ⟨#[]⟩ (by unfold maxLen; decide) hlt
   rw [hbw] at HC
   refine region_L 7 (fun _ => True) (fun w' => w'.cell? ⟨q, 1, none⟩ = some (.slice (some ⟨b, 0, none⟩) k.wn k.wc)) (by kernel_rfl) ⟨fun _ => trivial, HC.out _ _ HXd.out⟩ (fun hHL => ?_)
   refine wpAnyL_take (i := 0) (v := ?_) (by rfl) rfl (by kernel_rfl) (by kernel_rfl) (by kernel_rfl) (fun _ _ _ h => h) (Or.inl ⟨by rfl, ?_⟩) hHL ?_
   rotate_left
   ·intro w hSw; (try dsimp only at hSw); (first | (go_simp; done) | (go_simp; with_reducible rfl))
   clear hHL
   intro hHL
   (try simp only [Act.put, List.setIfInBounds_toArray, List.set_cons_zero, List.set_cons_succ])
   refine wpAnyL_take (i := 1) (v := ?_) (by rfl) rfl (by kernel_rfl) (by kernel_rfl) (by kernel_rfl) (fun _ _ _ h => h) (Or.inl ⟨by rfl, ?_⟩) hHL ?_
   rotate_left
   ·intro w hSw; (try dsimp only at hSw); (first | (go_simp; done) | (go_simp; with_reducible rfl))
   clear hHL
   intro hHL
   (try simp only [Act.put, List.setIfInBounds_toArray, List.set_cons_zero, List.set_cons_succ])
   refine wpAnyL_take (i := 2) (v := ?_) (by rfl) rfl (by kernel_rfl) (by kernel_rfl) (by kernel_rfl) (fun _ _ _ h => h) (Or.inl ⟨by rfl, ?_⟩) hHL ?_
   rotate_left
   ·intro w hSw; (try dsimp only at hSw); (first | (go_simp; done) | (go_simp; with_reducible rfl))
   clear hHL
   intro hHL
   (try simp only [Act.put, List.setIfInBounds_toArray, List.set_cons_zero, List.set_cons_succ])
   refine wpAnyL_ready (rs := [3]) (by kernel_rfl) (by simp) ?_
   refine AllReadyL.cons rfl (fun K hK => ?_) AllReadyL.nil
   go_simp
   have hb5 : Below w4.drew.heap.size w4.drew (w4.drew.alloc (.cells #[.string ⟨#[]⟩, .string ⟨#[65]⟩, .string ⟨#[98, 97]⟩] 9)) := (Below.refl _ _).alloc (Nat.le_refl _) _
   have HX5 := Lib.hid (HXd.out.later hb5)
   have hR5 : Row (w4.drew.alloc (.cells #[.string ⟨#[]⟩, .string ⟨#[65]⟩, .string ⟨#[98, 97]⟩] 9)) w4.drew.heap.size 9 [.string ⟨#[]⟩, .string ⟨#[65]⟩, .string ⟨#[98, 97]⟩] := heap_alloc_new w4.drew _
   have hgne : w4.drew.heap.size ≠ g := by have := HXd.out.src.lt; omega
   refine hK.out _ _ ⟨fun _ => trivial, HC.out _ _ HX5.out⟩ (fun hHL => ?_)
   clear hK K hb5
   (try simp only [Act.put, List.setIfInBounds_toArray, List.set_cons_zero, List.set_cons_succ])
   refine wpAnyL_ready (rs := [4]) (by kernel_rfl) (by simp) ?_
   refine AllReadyL.cons rfl (fun K hK => ?_) AllReadyL.nil
   refine step_callX rfl 145 #[.pointer (some ⟨g, 0, none⟩), .slice (some ⟨w4.drew.heap.size, 0, none⟩) 3 3] (by kernel_rfl) (fun t : ByteArray => .string t) _ (pick_is g _ w4.drew.heap.size 3 3 (fun t => t.size ≤ maxLen) (by omega) (by omega) (fun j hj => shades3 _ _ hR5 j hj) hgne HX5.out.src) ?_
   rintro t w6 ⟨ht, hs6, hg6⟩
   have HX6 := Lib.hid (HX5.out.kept hg6 hs6 hlt)
   refine hK.out _ _ ⟨fun _ => trivial, HC.out _ _ HX6.out⟩ (fun hHL => ?_)
   clear hK K hs6 hg6
   (try simp only [Act.put, List.setIfInBounds_toArray, List.set_cons_zero, List.set_cons_succ])
   refine wpAnyL_take (i := 5) (v := ?_) (by rfl) rfl (by kernel_rfl) (by kernel_rfl) (by kernel_rfl) (fun _ _ _ h => h) (Or.inl ⟨by rfl, ?_⟩) hHL ?_
   rotate_left
   ·intro w hSw; (try dsimp only at hSw); (first | (go_simp; done) | (go_simp; with_reducible rfl))
   clear hHL
   intro hHL
   (try simp only [Act.put, List.setIfInBounds_toArray, List.set_cons_zero, List.set_cons_succ])
   refine wpAnyL_take (i := 6) (v := ?_) (by rfl) rfl (by kernel_rfl) (by kernel_rfl) (by kernel_rfl) (fun _ _ _ h => h) (Or.inl ⟨by rfl, ?_⟩) hHL ?_
   rotate_left
   ·intro w hSw; (try dsimp only at hSw); (first | (go_simp; done) | (go_simp; with_reducible rfl))
   clear hHL
   intro hHL
   (try simp only [Act.put, List.setIfInBounds_toArray, List.set_cons_zero, List.set_cons_succ])
   refine wpAnyL_ready (rs := [7]) (by kernel_rfl) (by simp) ?_
   refine AllReadyL.cons rfl (fun K hK => ?_) AllReadyL.nil
   obtain ⟨b2, s2, hb2, hc2, hf2, _, gr7, hx7, _⟩ := HX6.out.setShade t ht hlt
   obtain rfl : b2 = b := by rw [hbw] at hb2; simpa using hb2.symm
   have HX7 := Lib.hid hx7
   go_simp
   refine hK.out _ _ ⟨fun _ => trivial, HC.out _ _ HX7.out⟩ (fun hHL => ?_)
   clear hK K
   (try simp only [Act.put, List.setIfInBounds_toArray, List.set_cons_zero, List.set_cons_succ])
   refine wpAnyL_done (by kernel_rfl) ?_ _
   clear hHL
   go_wp2_with fail
   go_meet
   exact ⟨_, _, HX7.out⟩
  have e0 : (y == 0) = false := by simpa using y0
  have e1 : (y == 1) = false := by simpa using y1
  have e2 : (y == 2) = false := by simpa using y2
  have e3 : (y == 3) = false := by simpa using y3
  have e4 : (y == 4) = false := by simpa using y4
  go_wp2_with fail
  go_meet
  exact ⟨_, _, HX4.out⟩
 obtain ⟨k9, gr9, hx⟩ := hcut
 have HX9 := Lib.hid hx
 clear hx HX4 hws hkl hdl hy0 hy1
 generalize gr9 = gr at HX9
 generalize k9 = k at HX9
 have y0 : wc.cell? ⟨q, 0, none⟩ = some (.int .i64 gr.now) := HX9.out.atq.row.cell 0
 have y1 : wc.cell? ⟨q, 1, none⟩ = some (.slice k.wp k.wn k.wc) := HX9.out.atq.row.cell 1
 have y2 : wc.cell? ⟨q, 2, none⟩ = some (.slice k.kp k.kn k.kc) := HX9.out.atq.row.cell 2
 have y3 : wc.cell? ⟨q, 3, none⟩ = some (.slice k.dp k.dn k.dc) := HX9.out.atq.row.cell 3
 go_wp2_with (refine Stop.out (p := wpList _ _ _ [{ dst := none, op := .store 27 (.tmp 2) (.tmp 66), type := _, pos := _, after := _, guard := _ }] _ _) ?_)
 constructor
 refine wpList_store_to rfl 27 (.tmp 2) (.tmp 66) rfl w.heap.size 0 #[.int .i64 gr.now, .slice k.wp k.wn k.wc, .slice k.kp k.kn k.kc, .slice k.dp k.dn k.dc] rfl rfl (HX9.out.zero.there 0 4 (by show 0 + 4 ≤ 4; omega)) sizeGrantZ (oneGrantZ gr.now k) ?_
 intro Z hZ
 have hk7 : Kept wc.heap.size w.heap.size w.heap.size w.heap.size wc Z := by rw [hZ]; exact Kept.setCells (.inl rfl) _ 0 (Kept.refl _ _ _ _ _)
 have Z1 : Row Z w.heap.size 27 (grL gr.now k) := by rw [hZ]; exact HX9.out.zero.setCells _ 0
 have hgs := HX9.out.src.lt
 have hz6 := HX9.out.zero.lt
 have hne : ∀ {E K n : Nat} {v : Value} {x : List Value}, wc.ownsRow w.heap.size E K v n x → E ≠ 27 → (∀ j, v.ownBlock = some j → j < wc.heap.size) ∧ some w.heap.size ≠ v.ownBlock := fun h hE => ⟨fun j hj => (h.lt j hj).2, row_own_ne HX9.out.zero h hE.symm⟩
 have hO : GrOwn w.heap.size gr k Z := ⟨own_kept HX9.out.atq.words hk7 (hne HX9.out.atq.words (by decide)), own_kept HX9.out.atq.keys hk7 (hne HX9.out.atq.keys (by decide)), own_kept HX9.out.atq.dead hk7 (hne HX9.out.atq.dead (by decide))⟩
 have HO := Lib.hid hO
 have HSz := Lib.hid (HX9.out.src.upTo (fun i hi => hk7.block i (by omega) (by omega) (by omega) (by omega)))
 have HGz := Lib.hid (grown_kept HX9.out.grown hk7 (by omega) (by omega) (by omega))
 have HSm : Hid (GrSmall gr) := Lib.hid ⟨by have := HX9.out.nw; omega, by have := HX9.out.nk; omega, by have := HX9.out.nd; omega, HX9.out.sm⟩
 have HWf := Lib.hid HX9.out.wf
 clear hZ hk7 y0 y1 y2 y3 hO hne
 go_wp2_with fail
 refine bodyPost_ret (ret_grant rfl rfl Z1) rfl ?_
 exact ⟨k, gr, rfl, HO.out, HWf.out, HSm.out, HSz.out, HGz.out⟩
end Go.Proofs.YtchfgdiipjbgoaaGreat
