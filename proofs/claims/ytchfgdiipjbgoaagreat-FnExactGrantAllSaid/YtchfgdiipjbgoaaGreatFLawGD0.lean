/- GrantDo, the law: what it carries along. -/
import Derived.Test.YtchfgdiipjbgoaaGreatFGrMkA
import Derived.Test.YtchfgdiipjbgoaaGreatFSpGD
import Derived.Test.YtchfgdiipjbgoaaGreatFImGD
import Derived.Test.YtchfgdiipjbgoaaGreatFGrArg
import Derived.Test.YtchfgdiipjbgoaaGreatFReqArg
import Derived.Test.YtchfgdiipjbgoaaGreatFGdT
namespace Go.Proofs.YtchfgdiipjbgoaaGreat
open Go Go.RowKit Go.Lib
set_option linter.unusedVariables false
set_option maxRecDepth 100000

/-- A block of one of the grant's lists. -/
def InB (h : GH) (j : Nat) : Prop := h.wp.map (·.block) = some j ∨ h.kp.map (·.block) = some j ∨ h.dp.map (·.block) = some j
def BlkIn (h : GH) (lo hi : Nat) : Prop := ∀ j, InB h j → lo ≤ j ∧ j < hi
theorem own_in1 {w : World} {N E K n m c j : Nat} {q : Option Addr} {x : List Value} (h : w.ownsRow N E K (.slice q m c) n x) (hj : q.map (·.block) = some j) : N ≤ j ∧ j < w.heap.size := by
 rcases own_ways h with ⟨rfl, _⟩ | ⟨gN, rfl, h1, h2, _⟩
 ·cases hj
 ·obtain rfl : gN = j := by simpa using hj
  exact ⟨h1, h2⟩
theorem own_blk {N : Nat} {g : Gr} {k : GH} {w : World} (h : GrOwn N g k w) : BlkIn k N w.heap.size := fun j hj => by
 rcases hj with hj | hj | hj
 ·exact own_in1 h.1 hj
 ·exact own_in1 h.2.1 hj
 ·exact own_in1 h.2.2 hj
theorem new_blk {w0 w : World} {h : GH} {g : Gr} (hn : GrNew w0 w h g) : BlkIn h w0.heap.size w.heap.size := fun j hj => by
 obtain ⟨g1, g2, g3, rfl, a, b, c, r1, r2, r3⟩ := hn
 have := r3.lt
 rcases hj with hj | hj | hj
 ·obtain rfl : g1 = j := by simpa using hj
  omega
 ·obtain rfl : g2 = j := by simpa using hj
  omega
 ·obtain rfl : g3 = j := by simpa using hj
  omega
theorem Outside.at {h : GH} {w w' : World} (ho : Outside h w w') {b : Nat} (hb : b < w.heap.size) (hf : ¬ InB h b) : w'.heap[b]? = w.heap[b]? :=
 ho.2.2.2.2 b hb (fun e => hf (.inl e)) (fun e => hf (.inr (.inl e))) (fun e => hf (.inr (.inr e)))
theorem Outside.row {h : GH} {w w' : World} {b E : Nat} {l : List Value} (ho : Outside h w w') (hr : Row w b E l) (hf : ¬ InB h b) : Row w' b E l := (ho.at hr.lt hf).trans hr
theorem Outside.below {h : GH} {w w' : World} {B : Nat} (ho : Outside h w w') (hB : B ≤ w.heap.size) (hf : ∀ j, InB h j → B ≤ j) : Below B w w' :=
 ⟨ho.1, ho.2.1, ho.2.2.1, ho.2.2.2.1, fun k hk => ho.at (by omega) (fun e => by have := hf k e; omega)⟩
theorem Outside.own1 {h : GH} {w w' : World} {N E K n m c : Nat} {q : Option Addr} {x : List Value} (ho : Outside h w w') (hr : w.ownsRow N E K (.slice q m c) n x) (hf : ∀ j, q.map (·.block) = some j → ¬ InB h j) : w'.ownsRow N E K (.slice q m c) n x := by
 refine ⟨hr.1, ?_⟩
 rcases hr.2 with h2 | ⟨g, cap, cur, hv, hg, hc, hrr⟩
 ·exact .inl h2
 ·refine .inr ⟨g, cap, cur, hv, hg, ?_, hrr⟩
  have hq : q = some ⟨g, 0, none⟩ := by simp only [Value.slice.injEq] at hv; exact hv.1
  rw [ho.at (Array.getElem?_eq_some_iff.1 hc).1 (hf g (by rw [hq]; rfl))]
  exact hc
theorem Outside.own {h k : GH} {w w' : World} {N : Nat} {g : Gr} (ho : Outside h w w') (hr : GrOwn N g k w) (hf : ∀ j, InB k j → ¬ InB h j) : GrOwn N g k w' :=
 ⟨ho.own1 hr.1 (fun j e => hf j (.inl e)), ho.own1 hr.2.1 (fun j e => hf j (.inr (.inl e))), ho.own1 hr.2.2 (fun j e => hf j (.inr (.inr e)))⟩
/-- An answer in a variable of the law's. -/
def Ans (S : Nat) (G : Gr) (s : RS) (c : Int) (w : World) (q : Nat) (k : GH) : Prop := Row w q 35 (goL G.now k s c) ∧ GrOwn S G k w ∧ S ≤ q
theorem Ans.later {S q : Nat} {G : Gr} {s : RS} {c : Int} {w w' : World} {k : GH} (h : Ans S G s c w q k) (hb : Below w.heap.size w w') : Ans S G s c w' q k := ⟨h.1.below hb h.1.lt, h.2.1.later hb, h.2.2⟩
theorem Ans.out {S q : Nat} {G : Gr} {s : RS} {c : Int} {w w' : World} {k h : GH} (ha : Ans S G s c w q k) (ho : Outside h w w') (h1 : ¬ InB h q) (h2 : ∀ j, InB k j → ¬ InB h j) : Ans S G s c w' q k := ⟨ho.row ha.1 h1, ho.own ha.2.1 h2, ha.2.2⟩
theorem Ans.free {S q : Nat} {G : Gr} {s : RS} {c : Int} {w : World} {k : GH} (ha : Ans S G s c w q k) : ¬ InB k q := fun hj => by
 rcases hj with hj | hj | hj
 ·refine row_own_ne ha.1 ha.2.1.1 (by decide) ?_
  show some q = Value.ownBlock (.slice k.wp k.wn k.wc)
  cases hk : k.wp with
  | none => rw [hk] at hj; cases hj
  | some a => rw [hk] at hj; simpa [Value.ownBlock] using hj.symm
 ·refine row_own_ne ha.1 ha.2.1.2.1 (by decide) ?_
  show some q = Value.ownBlock (.slice k.kp k.kn k.kc)
  cases hk : k.kp with
  | none => rw [hk] at hj; cases hj
  | some a => rw [hk] at hj; simpa [Value.ownBlock] using hj.symm
 ·refine row_own_ne ha.1 ha.2.1.2.2 (by decide) ?_
  show some q = Value.ownBlock (.slice k.dp k.dn k.dc)
  cases hk : k.dp with
  | none => rw [hk] at hj; cases hj
  | some a => rw [hk] at hj; simpa [Value.ownBlock] using hj.symm
/-- The law's two boxes. -/
def Boxes (w : World) (h : GH) (g : Gr) (r : RQ) (W : World) : Prop := Row W w.heap.size 82 (grL g.now h) ∧ Row W (w.heap.size + 1) 83 (rqL r) ∧ Below w.heap.size w W
theorem Boxes.later {w W W' : World} {h : GH} {g : Gr} {r : RQ} {M : Nat} (k : Boxes w h g r W) (hb : Below M W W') (hM : w.heap.size + 2 ≤ M) : Boxes w h g r W' := ⟨k.1.below hb (by omega), k.2.1.below hb (by omega), k.2.2.trans (hb.mono (by omega))⟩
theorem Boxes.size {w W : World} {h : GH} {g : Gr} {r : RQ} (k : Boxes w h g r W) : w.heap.size + 2 ≤ W.heap.size := k.2.1.lt
theorem new_src {w0 w : World} {h : GH} {g : Gr} (hn : GrNew w0 w h g) : SrcG w h g := by
 have hi := hn.isIn
 obtain ⟨g1, g2, g3, rfl, _⟩ := hn
 exact ⟨Src.of_in hi.1.1 hi.2.1, Src.of_in hi.1.2.1 hi.2.2.1, Src.of_in hi.1.2.2 hi.2.2.2⟩
theorem new_lst {w0 w : World} {h : GH} {g : Gr} (hn : GrNew w0 w h g) : Lst3 w h := by
 obtain ⟨g1, g2, g3, rfl, a, b, c, r1, r2, r3⟩ := hn
 exact ⟨row_lst r1 (flat_len wdCf_len _), row_lst r2 (flat_len kyCf_len _), row_lst r3 (flat_len inCf_len _)⟩
theorem new_apart {w0 w : World} {h : GH} {g : Gr} (hn : GrNew w0 w h g) : Apart3 h := by
 obtain ⟨g1, g2, g3, rfl, a, b, c, _⟩ := hn
 refine ⟨?_, ?_, ?_, ?_, ?_, ?_⟩ <;> (intro x y e1 e2; simp at e1 e2; subst e1 e2; simp; omega)
theorem own_lst3 {N : Nat} {g : Gr} {k : GH} {w : World} (h : GrOwn N g k w) : Lst3 w k := by
 have e1 := own_len h.1
 have e2 := own_len h.2.1
 have e3 := own_len h.2.2
 exact ⟨by rw [e1]; exact own_lst h.1, by rw [e2]; exact own_lst h.2.1, by rw [e3]; exact own_lst h.2.2⟩
theorem apart1 {w : World} {N E1 E2 K1 K2 n1 n2 m1 m2 c1 c2 : Nat} {q1 q2 : Option Addr} {x1 x2 : List Value} (h1 : w.ownsRow N E1 K1 (.slice q1 m1 c1) n1 x1) (h2 : w.ownsRow N E2 K2 (.slice q2 m2 c2) n2 x2) (hne : E1 ≠ E2) : ∀ b b', q1 = some ⟨b, 0, none⟩ → q2 = some b' → b ≠ b'.block := by
 rintro b b' rfl rfl e
 rcases own_apart h1 h2 hne with h | h
 ·simp [Value.ownBlock] at h
 ·exact h (by simp [Value.ownBlock, e])
theorem own_apart3 {N : Nat} {g : Gr} {k : GH} {w : World} (h : GrOwn N g k w) : Apart3 k :=
 ⟨apart1 h.2.1 h.1 (by decide), apart1 h.2.2 h.1 (by decide), apart1 h.2.2 h.2.1 (by decide), apart1 h.1 h.2.1 (by decide), apart1 h.1 h.2.2 (by decide), apart1 h.2.1 h.2.2 (by decide)⟩
theorem gd_small {g G : Gr} {r : RQ} {s : RS} {c : Int} (h : gdD g r = (G, s, c)) : GrSmall G := by
 unfold gdD at h
 split at h
 ·rename_i hb
  simp only [Bool.and_eq_true] at hb
  simp only [Prod.mk.injEq] at h
  rw [← h.1]
  exact right_small (done_right hb.1 hb.2)
 ·simp only [Prod.mk.injEq] at h
  rw [← h.1]
  exact ⟨by simp [zG], by simp [zG], by simp [zG], fun x hx => by simp [zG] at hx⟩
theorem szReqL_any (r : RQ) (n : Int) (w : World) (hp : r.proof.size ≤ maxLen) (h0 : 0 ≤ n) (h1 : n ≤ 1048576) : Calls Tryz.prog 54 #[rqV r, .int .i64 n] w fun e w' => (∃ n : Int, e = .returned (.int .i64 n)) ∧ Below w.heap.size w w' := by
 unfold maxLen at hp
 unfold rqV
 by_cases h : r.proof.size ≤ n
 ·have d : decide ((n : Int) - r.proof.size < 0) = false := decide_eq_false (by omega)
  go_enter Tryz.func54, Tryz.ntmps54
  go_wp2_with fail
  go_ret
  exact ⟨⟨_, rfl⟩, by go_grown⟩
 ·have d : decide ((n : Int) - r.proof.size < 0) = true := decide_eq_true (by omega)
  go_enter Tryz.func54, Tryz.ntmps54
  go_wp2_with fail
  go_ret
  exact ⟨⟨_, rfl⟩, by go_grown⟩
set_option maxHeartbeats 400000 in
theorem toReqG_any (r : RQ) (w : World) : Calls Tryz.prog 56 #[rqV r] w (Ret (rqV r) w) := by
 unfold rqV
 go_enter Tryz.func56, Tryz.ntmps56
 go_wp2_with fail
 go_returns
 exact ⟨rfl, by go_grown⟩
theorem own3_down {N M : Nat} {g : Gr} {k : GH} {w : World} (h : GrOwn N g k w) (hM : M ≤ N) : GrOwn M g k w := ⟨own_down h.1 hM, own_down h.2.1 hM, own_down h.2.2 hM⟩
theorem ans_put {S q : Nat} {G : Gr} {s : RS} {c : Int} {W w : World} {k : GH} (hr : Row w q 35 [.int .i64 0, .slice none 0 0, .slice none 0 0, .slice none 0 0, .int .i64 0, .int .i64 0, .int .i64 0, .bool false, .int .i64 0]) (ho : GrOwn S G k w) (hq : S ≤ q) (hb : Below S W w) : Below S W (w.setCells q 0 (goL G.now k s c)) ∧ Ans S G s c (w.setCells q 0 (goL G.now k s c)) q k := by
 have hk : Kept w.heap.size q q q w (w.setCells q 0 (goL G.now k s c)) := Kept.setCells (.inl rfl) _ 0 (Kept.refl _ _ _ _ _)
 have hql := hr.lt
 refine ⟨hb.trans (hk.below (by omega) hq hq hq), hr.setCells _ 0, ?_, hq⟩
 exact ⟨own_kept ho.1 hk ⟨fun j hj => (ho.1.lt j hj).2, row_own_ne hr ho.1 (by decide)⟩, own_kept ho.2.1 hk ⟨fun j hj => (ho.2.1.lt j hj).2, row_own_ne hr ho.2.1 (by decide)⟩, own_kept ho.2.2 hk ⟨fun j hj => (ho.2.2.lt j hj).2, row_own_ne hr ho.2.2 (by decide)⟩⟩
section
variable {P : Program} {ops : Array Oper} {Q : Exit → Act → World → Prop} {o : Oper} {a : Act}
/-- A call whose answer is told by something that there is, as one step of a region that draws its order. -/
theorem step_callE {α : Type} {w : World} {KK : Act → World → Prop} {F : Prop} (hgd : o.guard = none) (f : FuncId) (args : Array Value) (hrun : (execOp a.eval o).run P w = .ok (.enter f args) w) (V : α → Value) (R : α → World → Prop)
  (hc : Calls P f args w fun e w' => ∃ x, e = .returned (V x) ∧ R x w') (h : ∀ x w', R x w' → KK (a.put o.dst (V x)) w') : if Region.wanted o (yielded ops a.tmps) = true then Oper.wp P o a w KK Q else F := by
 have hw : Region.wanted o (yielded ops a.tmps) = true := by simp [Region.wanted, hgd]
 rw [if_pos hw]
 unfold Oper.wp
 rw [hrun, Oper.upon_enter]
 refine hc.mono fun e w'' hh => ?_
 obtain ⟨x, rfl, hr⟩ := hh
 exact h x _ hr
end
end Go.Proofs.YtchfgdiipjbgoaaGreat
