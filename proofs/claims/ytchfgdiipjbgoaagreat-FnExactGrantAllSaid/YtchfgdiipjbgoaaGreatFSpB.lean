/- The model: a word comes to be one of the dead. -/
import Derived.Test.YtchfgdiipjbgoaaGreatFSpA
namespace Go.Proofs.YtchfgdiipjbgoaaGreat
open Go Go.RowKit Go.Lib
set_option linter.unusedVariables false
set_option maxRecDepth 100000

theorem own_cast {w : World} {b e s n n' : Nat} {v : Value} {x x' : List Value} (h : w.ownsRow b e s v n x) (hn : n = n') (hx : x = x') : w.ownsRow b e s v n' x' := by
 subst hn hx
 exact h
theorem own_lat {α : Type} {cf : α → List Value} {w : World} {b e s n gN m c : Nat} {l : List α} (h : w.ownsRow b e s (.slice (some ⟨gN, 0, none⟩) m c) n (l.flatMap cf)) : LAt cf w gN 0 l := fun j u hj => by
 have := h.cells (g := gN) rfl j u hj
 rwa [Addr.add_mid] at this
theorem Src.mkAt {α : Type} {cf : α → List Value} {w : World} {b o o' n c : Nat} {l : List α} (h : LAt cf w b o' l) (ho : o = o') (hn : n = l.length) : Src cf w (.slice (some ⟨b, o, none⟩) n c) l := by
 subst ho hn
 exact .inr ⟨b, o, c, rfl, h⟩
theorem Src.zero {α : Type} {cf : α → List Value} {w : World} {b o n c : Nat} {l : List α} (hl : l = []) (hn : n = 0) : Src cf w (.slice (some ⟨b, o, none⟩) n c) l := by
 subst hl hn
 exact .inr ⟨b, o, c, rfl, fun j v hj => by simp at hj⟩
theorem Src.nil {α : Type} {cf : α → List Value} {w : World} {l : List α} (hl : l = []) : Src cf w (.slice none 0 0) l := .inl ⟨rfl, hl⟩
/-- Where the place is looked for. -/
def PlRel {α : Type} (lt : α → Bool) (l : List α) (i : Value) : Prop := ∃ k : Nat, k ≤ l.length ∧ i = .int .i64 k ∧ ∀ (j : Nat) (y : α), j < k → l[j]? = some y → lt y = true
def KillS (tl : Tail) (N p : Nat) (h : GH) (g : Gr) (fam : Int) (w : World) (e : Ending) (w' : World) : Prop := e = .returned (.tuple #[]) ∧ ∃ dp dn dc, GrAt tl N w' p ⟨h.wp, h.wn, h.wc, h.kp, h.kn, h.kc, dp, dn, dc⟩ (killG g fam) ∧ Kept w.heap.size p p p w w'
set_option maxHeartbeats 2000000 in
theorem kill_spec {tl : Tail} {N p : Nat} {h : GH} {g : Gr} {w : World} (fam : Int) (hg : GrAt tl N w p h g) (hlen : g.dead.length ≤ 1000) : Calls Tryz.prog 222 #[.pointer (some ⟨p, 0, none⟩), .int .i64 fam] w (KillS tl N p h g fam w) := by
 obtain ⟨wp, wn, wc, kp, kn, kc, dp, dn, dc⟩ := h
 have HG0 := Lib.hid hg
 have hpz := hg.row.lt
 have hN := hg.place
 obtain ⟨n, hn⟩ : ∃ n, n = g.dead.length := ⟨_, rfl⟩
 have hd := hg.dead
 have c3 : w.cell? ⟨p, 3, none⟩ = some (.slice dp dn dc) := hg.row.cell 3
 rw [← hn] at hlen
 have HN := Lib.hid hn
 obtain ⟨ii, hi, hz0', hz1, hz2⟩ := info_parts infoInt64
 rcases own_ways hd with ⟨rfl, rfl, rfl, h0⟩ | ⟨gN, rfl, hgb, hgl, hdn, hcap, hcm⟩
 ·have hl : g.dead = [] := List.eq_nil_of_length_eq_zero h0
  have HL := Lib.hid hl
  have hn0 : n = 0 := by rw [hn, h0]
  have hkn : 0 ≤ n := by omega
  have HI : Hid (insD g.dead fam = g.dead.take 0 ++ fam :: g.dead.drop 0) := Lib.hid (by rw [hl]; rfl)
  clear hd hn h0 hl hg
  go_enter Tryz.func222, Tryz.ntmps222
  go_wp2_with fail
  go_loop [4] (fun i => i = .int .i64 0) (fun _ => 0)
  case atStart => rfl
  case round =>
   obtain rfl := hrel
   have hbE := (Below.refl w.heap.size w).alloc (Nat.le_refl _) (.cells #[] 2)
   have hSs := HG0.out.later hbE
   have HS1 : Hid (Src inCf (w.alloc (.cells #[] 2)) (.slice none 0 0) (g.dead.take 0)) := Lib.hid (Src.nil (by rw [HL.out]; rfl))
   have HOE := Lib.hid (World.ownsRow_made (base := w.heap.size) (size := 1) (e := 2) w #[] 0 (Nat.le_refl _) (Nat.zero_le _) rfl)
   have c0 : (w.alloc (.cells #[] 2)).cell? ⟨p, 3, none⟩ = some (.slice none 0 0) := hSs.row.cell 3
   have HbE := Lib.hid hbE
   have HLE : Hid (0 + (g.dead.take 0).length ≤ 1048576) := Lib.hid (by rw [List.length_take]; omega)
   have HZE : Hid (w.heap.size ≤ (w.alloc (.cells #[] 2)).heap.size) := Lib.hid (by simp)
   clear hbE hSs
   go_wp2_with (first
    | (at_builtin; refine wpList_apps (cf := inCf) (l := g.dead.take 0) rfl (.tmp 44) (.tmp 50) 25 2 rfl ii _ 1 8 Tryz.underlying25 hi hz0' hz1 hz2 rfl (by decide) (by decide) inCf_len oneIn w.heap.size _ 0 [] rfl HOE.out _ rfl HS1.out HLE.out HZE.out ?_; intro v1 w1 o1 g1; have hb1 := below_grown HbE.out HZE.out HOE.out g1; have HB1 := Lib.hid hb1; have HO1 := Lib.hid (own_cast o1 (n' := 0) (by rw [List.length_take, ← HN.out]; omega) rfl); have HZ1 := Lib.hid hb1.size; clear o1 g1 hb1 c0)
    | (at_builtin; refine wpList_app1 rfl (.tmp 52) (.tmp 54) 25 2 rfl ii _ 1 8 Tryz.underlying25 hi hz0' hz1 hz2 rfl (by decide) (by decide) w.heap.size HZ1.out v1 0 _ [.int .i64 fam] rfl HO1.out _ rfl rfl rfl (oneIn fam) (by omega) ?_; intro v2 w2 o2 g2; have hb2 := below_grown (HB1.out.alloc HZ1.out _) (by have := HZ1.out; simp; omega) (HO1.out.alloc _) g2; have HB2 := Lib.hid hb2; have HO2 := Lib.hid o2; have HZ2 := Lib.hid hb2.size; have c2 : w2.cell? ⟨p, 3, none⟩ = some (.slice none 0 0) := (HG0.out.later hb2).row.cell 3; clear o2 g2 hb2)
    | (at_builtin; refine wpList_apps (cf := inCf) (l := g.dead.drop 0) rfl (.tmp 57) (.tmp 63) 25 2 rfl ii _ 1 8 Tryz.underlying25 hi hz0' hz1 hz2 rfl (by decide) (by decide) inCf_len oneIn w.heap.size v2 (0 + 1) _ rfl HO2.out _ rfl (Src.nil (by rw [HL.out]; rfl)) (by rw [List.length_drop, ← HN.out]; omega) HZ2.out ?_; intro v3 w3 o3 g3; obtain ⟨dp', dc', rfl⟩ := own_slc o3; obtain ⟨m3, hm3⟩ : ∃ m3, m3 = 0 + 1 + (g.dead.drop 0).length := ⟨_, rfl⟩; rw [← hm3] at o3 ⊢; have HM3 := Lib.hid hm3; have hb3 := below_grown HB2.out HZ2.out HO2.out g3; have HB3 := Lib.hid hb3; have HO3 := Lib.hid o3; have c3' : w3.cell? ⟨p, 3, none⟩ = some (.slice none 0 0) := (HG0.out.later hb3).row.cell 3; have f3' : w3.frozen? ⟨p, 3, none⟩ = false := (HG0.out.later hb3).row.free 3; clear o3 g3 hb3 c2 hm3))
   go_returns
   have HG3 := HG0.out.later HB3.out
   refine ⟨rfl, dp', m3, dc', ⟨HG3.row.set 3 _, own_set _ HG3.words (row_own_ne HG3.row HG3.words (by first | decide | exact tl.hW | exact tl.hK | exact tl.hI)), own_set _ HG3.keys (row_own_ne HG3.row HG3.keys (by first | decide | exact tl.hW | exact tl.hK | exact tl.hI)), own_set _ (own_down (own_cast HO3.out ?_ ?_) (by omega)) (row_own_ne HG3.row HO3.out (by first | decide | exact tl.hW | exact tl.hK | exact tl.hI)), hN⟩, (Kept.of_below HB3.out).setCell (a := ⟨p, 3, none⟩) _ (.inl rfl)⟩
   ·show _ = (insD g.dead fam).length
    rw [HM3.out, HI.out, List.length_append, List.length_cons, List.length_take, ← HN.out]
    omega
   ·show _ = (insD g.dead fam).flatMap inCf
    rw [HI.out]
    simp [inCf]
 ·rw [← hn] at hdn hcap
  have hdn' := hdn.symm
  subst hdn'
  by_cases hn0 : n = 0
  ·have hl : g.dead = [] := List.eq_nil_of_length_eq_zero (by omega)
   have HL := Lib.hid hl
   subst hn0
   have hkn : 0 ≤ 0 := by omega
   have HI : Hid (insD g.dead fam = g.dead.take 0 ++ fam :: g.dead.drop 0) := Lib.hid (by rw [hl]; rfl)
   clear hd hn hl hg
   go_enter Tryz.func222, Tryz.ntmps222
   go_wp2_with fail
   go_loop [4] (fun i => i = .int .i64 0) (fun _ => 0)
   case atStart => rfl
   case round =>
    obtain rfl := hrel
    have hbE := (Below.refl w.heap.size w).alloc (Nat.le_refl _) (.cells #[] 2)
    have hSs := HG0.out.later hbE
    have HS1 : Hid (Src inCf (w.alloc (.cells #[] 2)) (.slice (some ⟨gN, 0, none⟩) 0 dc) (g.dead.take 0)) := Lib.hid (Src.zero (by rw [HL.out]; rfl) rfl)
    have HOE := Lib.hid (World.ownsRow_made (base := w.heap.size) (size := 1) (e := 2) w #[] 0 (Nat.le_refl _) (Nat.zero_le _) rfl)
    have c0 : (w.alloc (.cells #[] 2)).cell? ⟨p, 3, none⟩ = some (.slice (some ⟨gN, 0, none⟩) 0 dc) := hSs.row.cell 3
    have HbE := Lib.hid hbE
    have HLE : Hid (0 + (g.dead.take 0).length ≤ 1048576) := Lib.hid (by rw [List.length_take]; omega)
    have HZE : Hid (w.heap.size ≤ (w.alloc (.cells #[] 2)).heap.size) := Lib.hid (by simp)
    clear hbE hSs
    go_wp2_with (first
     | (at_builtin; refine wpList_apps (cf := inCf) (l := g.dead.take 0) rfl (.tmp 44) (.tmp 50) 25 2 rfl ii _ 1 8 Tryz.underlying25 hi hz0' hz1 hz2 rfl (by decide) (by decide) inCf_len oneIn w.heap.size _ 0 [] rfl HOE.out _ rfl HS1.out HLE.out HZE.out ?_; intro v1 w1 o1 g1; have hb1 := below_grown HbE.out HZE.out HOE.out g1; have HB1 := Lib.hid hb1; have HO1 := Lib.hid (own_cast o1 (n' := 0) (by rw [List.length_take, ← HN.out]; omega) rfl); have HZ1 := Lib.hid hb1.size; clear o1 g1 hb1 c0)
     | (at_builtin; refine wpList_app1 rfl (.tmp 52) (.tmp 54) 25 2 rfl ii _ 1 8 Tryz.underlying25 hi hz0' hz1 hz2 rfl (by decide) (by decide) w.heap.size HZ1.out v1 0 _ [.int .i64 fam] rfl HO1.out _ rfl rfl rfl (oneIn fam) (by omega) ?_; intro v2 w2 o2 g2; have hb2 := below_grown (HB1.out.alloc HZ1.out _) (by have := HZ1.out; simp; omega) (HO1.out.alloc _) g2; have HB2 := Lib.hid hb2; have HO2 := Lib.hid o2; have HZ2 := Lib.hid hb2.size; have c2 : w2.cell? ⟨p, 3, none⟩ = some (.slice (some ⟨gN, 0, none⟩) 0 dc) := (HG0.out.later hb2).row.cell 3; clear o2 g2 hb2)
     | (at_builtin; refine wpList_apps (cf := inCf) (l := g.dead.drop 0) rfl (.tmp 57) (.tmp 63) 25 2 rfl ii _ 1 8 Tryz.underlying25 hi hz0' hz1 hz2 rfl (by decide) (by decide) inCf_len oneIn w.heap.size v2 (0 + 1) _ rfl HO2.out _ rfl (Src.zero (by rw [HL.out]; rfl) rfl) (by rw [List.length_drop, ← HN.out]; omega) HZ2.out ?_; intro v3 w3 o3 g3; obtain ⟨dp', dc', rfl⟩ := own_slc o3; obtain ⟨m3, hm3⟩ : ∃ m3, m3 = 0 + 1 + (g.dead.drop 0).length := ⟨_, rfl⟩; rw [← hm3] at o3 ⊢; have HM3 := Lib.hid hm3; have hb3 := below_grown HB2.out HZ2.out HO2.out g3; have HB3 := Lib.hid hb3; have HO3 := Lib.hid o3; have c3' : w3.cell? ⟨p, 3, none⟩ = some (.slice (some ⟨gN, 0, none⟩) 0 dc) := (HG0.out.later hb3).row.cell 3; have f3' : w3.frozen? ⟨p, 3, none⟩ = false := (HG0.out.later hb3).row.free 3; clear o3 g3 hb3 c2 hm3))
    go_returns
    have HG3 := HG0.out.later HB3.out
    refine ⟨rfl, dp', m3, dc', ⟨HG3.row.set 3 _, own_set _ HG3.words (row_own_ne HG3.row HG3.words (by first | decide | exact tl.hW | exact tl.hK | exact tl.hI)), own_set _ HG3.keys (row_own_ne HG3.row HG3.keys (by first | decide | exact tl.hW | exact tl.hK | exact tl.hI)), own_set _ (own_down (own_cast HO3.out ?_ ?_) (by omega)) (row_own_ne HG3.row HO3.out (by first | decide | exact tl.hW | exact tl.hK | exact tl.hI)), hN⟩, (Kept.of_below HB3.out).setCell (a := ⟨p, 3, none⟩) _ (.inl rfl)⟩
    ·show _ = (insD g.dead fam).length
     rw [HM3.out, HI.out, List.length_append, List.length_cons, List.length_take, ← HN.out]
     omega
    ·show _ = (insD g.dead fam).flatMap inCf
     rw [HI.out]
     simp [inCf]
  have hnp : 0 < n := by omega
  clear hn0
  have HS := Lib.hid (own_lat hd)
  clear hd hn hg
  go_enter Tryz.func222, Tryz.ntmps222
  go_wp2_with fail
  go_loop [4] (PlRel (fun y => decide (y < fam)) g.dead) (fun i => n - (RowKit.intOf i).toNat)
  case atStart => exact ⟨0, by omega, rfl, fun j y h => by omega⟩
  case round =>
   obtain ⟨k, hk, rfl, hr⟩ := hrel
   rw [← HN.out] at hk
   have hkn := hk
   have HR := Lib.hid hr
   clear hr
   by_cases hlt : k < n
   ·obtain ⟨x, hx⟩ : ∃ x, g.dead[k]? = some x := ⟨_, List.getElem?_eq_getElem (by rw [← HN.out]; exact hlt)⟩
    have cx := in_cells HS.out hx
    rw [Nat.zero_add] at cx
    have HX := Lib.hid hx
    clear hx
    by_cases h1 : x < fam
    ·have e1 : decide (x < fam) = true := decide_eq_true h1
     have H1 := Lib.hid h1
     clear h1
     go_wp2_with fail
     go_round
     case rel =>
      refine ⟨k + 1, by rw [← HN.out]; omega, by go_num, fun j y hj hy => ?_⟩
      by_cases e : j = k
      ·subst e
       rw [HX.out] at hy
       obtain rfl := Option.some.inj hy
       exact decide_eq_true H1.out
      ·exact HR.out j y (by omega) hy
     case measure => simp [RowKit.intOf]; omega
    ·have e1 : decide (x < fam) = false := decide_eq_false h1
     by_cases h2 : x = fam
     ·have e2 : (x == fam) = true := by simpa using h2
      have HI : Hid (killG g fam = g) := Lib.hid (by unfold killG; rw [insD_there (k := k) (fun j y hj hy => of_decide_eq_true (HR.out j y hj hy)) (by rw [HX.out, h2])])
      clear h1 h2
      go_wp2_with fail
      go_returns
      exact ⟨rfl, _, _, _, by rw [HI.out]; exact HG0.out, Kept.refl _ _ _ _ _⟩
     ·have e2 : (x == fam) = false := by simpa using h2
      have HI : Hid (insD g.dead fam = g.dead.take k ++ fam :: g.dead.drop k) := Lib.hid (insD_at (fun j y hj hy => of_decide_eq_true (HR.out j y hj hy)) (fun y hy => by rw [HX.out] at hy; obtain rfl := Option.some.inj hy; omega) (by rw [← HN.out]; exact hk))
      clear h1 h2
      have hbE := (Below.refl w.heap.size w).alloc (Nat.le_refl _) (.cells #[] 2)
      have hSs := HG0.out.later hbE
      have HS1 : Hid (Src inCf (w.alloc (.cells #[] 2)) (.slice (some ⟨gN, 0, none⟩) k dc) (g.dead.take k)) := Lib.hid (Src.mkAt ((own_lat hSs.dead).takeK k) rfl (by rw [List.length_take, ← HN.out]; omega))
      have HOE := Lib.hid (World.ownsRow_made (base := w.heap.size) (size := 1) (e := 2) w #[] 0 (Nat.le_refl _) (Nat.zero_le _) rfl)
      have c0 : (w.alloc (.cells #[] 2)).cell? ⟨p, 3, none⟩ = some (.slice (some ⟨gN, 0, none⟩) n dc) := hSs.row.cell 3
      have HbE := Lib.hid hbE
      have HLE : Hid (0 + (g.dead.take k).length ≤ 1048576) := Lib.hid (by rw [List.length_take]; omega)
      have HZE : Hid (w.heap.size ≤ (w.alloc (.cells #[] 2)).heap.size) := Lib.hid (by simp)
      clear hbE hSs
      go_wp2_with (first
       | (at_builtin; refine wpList_apps (cf := inCf) (l := g.dead.take k) rfl (.tmp 44) (.tmp 50) 25 2 rfl ii _ 1 8 Tryz.underlying25 hi hz0' hz1 hz2 rfl (by decide) (by decide) inCf_len oneIn w.heap.size _ 0 [] rfl HOE.out _ rfl HS1.out HLE.out HZE.out ?_; intro v1 w1 o1 g1; have hb1 := below_grown HbE.out HZE.out HOE.out g1; have HB1 := Lib.hid hb1; have HO1 := Lib.hid (own_cast o1 (n' := k) (by rw [List.length_take, ← HN.out]; omega) rfl); have HZ1 := Lib.hid hb1.size; clear o1 g1 hb1 c0)
       | (at_builtin; refine wpList_app1 rfl (.tmp 52) (.tmp 54) 25 2 rfl ii _ 1 8 Tryz.underlying25 hi hz0' hz1 hz2 rfl (by decide) (by decide) w.heap.size HZ1.out v1 k _ [.int .i64 fam] rfl HO1.out _ rfl rfl rfl (oneIn fam) (by omega) ?_; intro v2 w2 o2 g2; have hb2 := below_grown (HB1.out.alloc HZ1.out _) (by have := HZ1.out; simp; omega) (HO1.out.alloc _) g2; have HB2 := Lib.hid hb2; have HO2 := Lib.hid o2; have HZ2 := Lib.hid hb2.size; have c2 : w2.cell? ⟨p, 3, none⟩ = some (.slice (some ⟨gN, 0, none⟩) n dc) := (HG0.out.later hb2).row.cell 3; clear o2 g2 hb2)
       | (at_builtin; refine wpList_apps (cf := inCf) (l := g.dead.drop k) rfl (.tmp 57) (.tmp 63) 25 2 rfl ii _ 1 8 Tryz.underlying25 hi hz0' hz1 hz2 rfl (by decide) (by decide) inCf_len oneIn w.heap.size v2 (k + 1) _ rfl HO2.out _ rfl (Src.mkAt (LAt.dropK inCf_len (own_lat (HG0.out.later HB2.out).dead) (k := k) (by rw [← HN.out]; exact hkn)) (by simp) (by rw [List.length_drop, ← HN.out])) (by rw [List.length_drop, ← HN.out]; omega) HZ2.out ?_; intro v3 w3 o3 g3; obtain ⟨dp', dc', rfl⟩ := own_slc o3; obtain ⟨m3, hm3⟩ : ∃ m3, m3 = k + 1 + (g.dead.drop k).length := ⟨_, rfl⟩; rw [← hm3] at o3 ⊢; have HM3 := Lib.hid hm3; have hb3 := below_grown HB2.out HZ2.out HO2.out g3; have HB3 := Lib.hid hb3; have HO3 := Lib.hid o3; have c3' : w3.cell? ⟨p, 3, none⟩ = some (.slice (some ⟨gN, 0, none⟩) n dc) := (HG0.out.later hb3).row.cell 3; have f3' : w3.frozen? ⟨p, 3, none⟩ = false := (HG0.out.later hb3).row.free 3; clear o3 g3 hb3 c2 hm3))
      go_returns
      have HG3 := HG0.out.later HB3.out
      refine ⟨rfl, dp', m3, dc', ⟨HG3.row.set 3 _, own_set _ HG3.words (row_own_ne HG3.row HG3.words (by first | decide | exact tl.hW | exact tl.hK | exact tl.hI)), own_set _ HG3.keys (row_own_ne HG3.row HG3.keys (by first | decide | exact tl.hW | exact tl.hK | exact tl.hI)), own_set _ (own_down (own_cast HO3.out ?_ ?_) (by omega)) (row_own_ne HG3.row HO3.out (by first | decide | exact tl.hW | exact tl.hK | exact tl.hI)), hN⟩, (Kept.of_below HB3.out).setCell (a := ⟨p, 3, none⟩) _ (.inl rfl)⟩
      ·show _ = (insD g.dead fam).length
       rw [HM3.out, HI.out, List.length_append, List.length_cons, List.length_take, ← HN.out]
       omega
      ·show _ = (insD g.dead fam).flatMap inCf
       rw [HI.out]
       simp [inCf]
   ·have HI : Hid (insD g.dead fam = g.dead.take k ++ fam :: g.dead.drop k) := Lib.hid (insD_at (fun j y hj hy => of_decide_eq_true (HR.out j y hj hy)) (fun y hy => by have := (List.getElem?_eq_some_iff.1 hy).1; rw [← HN.out] at this; omega) (by rw [← HN.out]; exact hk))
    have hle : n ≤ k := by omega
    by_cases hcc : k < dc
    ·have hbE := (Below.refl w.heap.size w).alloc (Nat.le_refl _) (.cells #[] 2)
     have hSs := HG0.out.later hbE
     have HS1 : Hid (Src inCf (w.alloc (.cells #[] 2)) (.slice (some ⟨gN, 0, none⟩) k dc) (g.dead.take k)) := Lib.hid (Src.mkAt ((own_lat hSs.dead).takeK k) rfl (by rw [List.length_take, ← HN.out]; omega))
     have HOE := Lib.hid (World.ownsRow_made (base := w.heap.size) (size := 1) (e := 2) w #[] 0 (Nat.le_refl _) (Nat.zero_le _) rfl)
     have c0 : (w.alloc (.cells #[] 2)).cell? ⟨p, 3, none⟩ = some (.slice (some ⟨gN, 0, none⟩) n dc) := hSs.row.cell 3
     have HbE := Lib.hid hbE
     have HLE : Hid (0 + (g.dead.take k).length ≤ 1048576) := Lib.hid (by rw [List.length_take]; omega)
     have HZE : Hid (w.heap.size ≤ (w.alloc (.cells #[] 2)).heap.size) := Lib.hid (by simp)
     clear hbE hSs
     go_wp2_with (first
      | (at_builtin; refine wpList_apps (cf := inCf) (l := g.dead.take k) rfl (.tmp 44) (.tmp 50) 25 2 rfl ii _ 1 8 Tryz.underlying25 hi hz0' hz1 hz2 rfl (by decide) (by decide) inCf_len oneIn w.heap.size _ 0 [] rfl HOE.out _ rfl HS1.out HLE.out HZE.out ?_; intro v1 w1 o1 g1; have hb1 := below_grown HbE.out HZE.out HOE.out g1; have HB1 := Lib.hid hb1; have HO1 := Lib.hid (own_cast o1 (n' := k) (by rw [List.length_take, ← HN.out]; omega) rfl); have HZ1 := Lib.hid hb1.size; clear o1 g1 hb1 c0)
      | (at_builtin; refine wpList_app1 rfl (.tmp 52) (.tmp 54) 25 2 rfl ii _ 1 8 Tryz.underlying25 hi hz0' hz1 hz2 rfl (by decide) (by decide) w.heap.size HZ1.out v1 k _ [.int .i64 fam] rfl HO1.out _ rfl rfl rfl (oneIn fam) (by omega) ?_; intro v2 w2 o2 g2; have hb2 := below_grown (HB1.out.alloc HZ1.out _) (by have := HZ1.out; simp; omega) (HO1.out.alloc _) g2; have HB2 := Lib.hid hb2; have HO2 := Lib.hid o2; have HZ2 := Lib.hid hb2.size; have c2 : w2.cell? ⟨p, 3, none⟩ = some (.slice (some ⟨gN, 0, none⟩) n dc) := (HG0.out.later hb2).row.cell 3; clear o2 g2 hb2)
      | (at_builtin; refine wpList_apps (cf := inCf) (l := g.dead.drop k) rfl (.tmp 57) (.tmp 63) 25 2 rfl ii _ 1 8 Tryz.underlying25 hi hz0' hz1 hz2 rfl (by decide) (by decide) inCf_len oneIn w.heap.size v2 (k + 1) _ rfl HO2.out _ rfl (Src.zero (List.drop_of_length_le (by rw [← HN.out]; exact hle)) (by first | rfl | omega | simp)) (by rw [List.length_drop, ← HN.out]; omega) HZ2.out ?_; intro v3 w3 o3 g3; obtain ⟨dp', dc', rfl⟩ := own_slc o3; obtain ⟨m3, hm3⟩ : ∃ m3, m3 = k + 1 + (g.dead.drop k).length := ⟨_, rfl⟩; rw [← hm3] at o3 ⊢; have HM3 := Lib.hid hm3; have hb3 := below_grown HB2.out HZ2.out HO2.out g3; have HB3 := Lib.hid hb3; have HO3 := Lib.hid o3; have c3' : w3.cell? ⟨p, 3, none⟩ = some (.slice (some ⟨gN, 0, none⟩) n dc) := (HG0.out.later hb3).row.cell 3; have f3' : w3.frozen? ⟨p, 3, none⟩ = false := (HG0.out.later hb3).row.free 3; clear o3 g3 hb3 c2 hm3))
     go_returns
     have HG3 := HG0.out.later HB3.out
     refine ⟨rfl, dp', m3, dc', ⟨HG3.row.set 3 _, own_set _ HG3.words (row_own_ne HG3.row HG3.words (by first | decide | exact tl.hW | exact tl.hK | exact tl.hI)), own_set _ HG3.keys (row_own_ne HG3.row HG3.keys (by first | decide | exact tl.hW | exact tl.hK | exact tl.hI)), own_set _ (own_down (own_cast HO3.out ?_ ?_) (by omega)) (row_own_ne HG3.row HO3.out (by first | decide | exact tl.hW | exact tl.hK | exact tl.hI)), hN⟩, (Kept.of_below HB3.out).setCell (a := ⟨p, 3, none⟩) _ (.inl rfl)⟩
     ·show _ = (insD g.dead fam).length
      rw [HM3.out, HI.out, List.length_append, List.length_cons, List.length_take, ← HN.out]
      omega
     ·show _ = (insD g.dead fam).flatMap inCf
      rw [HI.out]
      simp [inCf]
    ·have hbE := (Below.refl w.heap.size w).alloc (Nat.le_refl _) (.cells #[] 2)
     have hSs := HG0.out.later hbE
     have HS1 : Hid (Src inCf (w.alloc (.cells #[] 2)) (.slice (some ⟨gN, 0, none⟩) k dc) (g.dead.take k)) := Lib.hid (Src.mkAt ((own_lat hSs.dead).takeK k) rfl (by rw [List.length_take, ← HN.out]; omega))
     have HOE := Lib.hid (World.ownsRow_made (base := w.heap.size) (size := 1) (e := 2) w #[] 0 (Nat.le_refl _) (Nat.zero_le _) rfl)
     have c0 : (w.alloc (.cells #[] 2)).cell? ⟨p, 3, none⟩ = some (.slice (some ⟨gN, 0, none⟩) n dc) := hSs.row.cell 3
     have HbE := Lib.hid hbE
     have HLE : Hid (0 + (g.dead.take k).length ≤ 1048576) := Lib.hid (by rw [List.length_take]; omega)
     have HZE : Hid (w.heap.size ≤ (w.alloc (.cells #[] 2)).heap.size) := Lib.hid (by simp)
     clear hbE hSs
     go_wp2_with (first
      | (at_builtin; refine wpList_apps (cf := inCf) (l := g.dead.take k) rfl (.tmp 44) (.tmp 50) 25 2 rfl ii _ 1 8 Tryz.underlying25 hi hz0' hz1 hz2 rfl (by decide) (by decide) inCf_len oneIn w.heap.size _ 0 [] rfl HOE.out _ rfl HS1.out HLE.out HZE.out ?_; intro v1 w1 o1 g1; have hb1 := below_grown HbE.out HZE.out HOE.out g1; have HB1 := Lib.hid hb1; have HO1 := Lib.hid (own_cast o1 (n' := k) (by rw [List.length_take, ← HN.out]; omega) rfl); have HZ1 := Lib.hid hb1.size; clear o1 g1 hb1 c0)
      | (at_builtin; refine wpList_app1 rfl (.tmp 52) (.tmp 54) 25 2 rfl ii _ 1 8 Tryz.underlying25 hi hz0' hz1 hz2 rfl (by decide) (by decide) w.heap.size HZ1.out v1 k _ [.int .i64 fam] rfl HO1.out _ rfl rfl rfl (oneIn fam) (by omega) ?_; intro v2 w2 o2 g2; have hb2 := below_grown (HB1.out.alloc HZ1.out _) (by have := HZ1.out; simp; omega) (HO1.out.alloc _) g2; have HB2 := Lib.hid hb2; have HO2 := Lib.hid o2; have HZ2 := Lib.hid hb2.size; have c2 : w2.cell? ⟨p, 3, none⟩ = some (.slice (some ⟨gN, 0, none⟩) n dc) := (HG0.out.later hb2).row.cell 3; clear o2 g2 hb2)
      | (at_builtin; refine wpList_apps (cf := inCf) (l := g.dead.drop k) rfl (.tmp 57) (.tmp 63) 25 2 rfl ii _ 1 8 Tryz.underlying25 hi hz0' hz1 hz2 rfl (by decide) (by decide) inCf_len oneIn w.heap.size v2 (k + 1) _ rfl HO2.out _ rfl (Src.zero (List.drop_of_length_le (by rw [← HN.out]; exact hle)) (by first | rfl | omega | simp)) (by rw [List.length_drop, ← HN.out]; omega) HZ2.out ?_; intro v3 w3 o3 g3; obtain ⟨dp', dc', rfl⟩ := own_slc o3; obtain ⟨m3, hm3⟩ : ∃ m3, m3 = k + 1 + (g.dead.drop k).length := ⟨_, rfl⟩; rw [← hm3] at o3 ⊢; have HM3 := Lib.hid hm3; have hb3 := below_grown HB2.out HZ2.out HO2.out g3; have HB3 := Lib.hid hb3; have HO3 := Lib.hid o3; have c3' : w3.cell? ⟨p, 3, none⟩ = some (.slice (some ⟨gN, 0, none⟩) n dc) := (HG0.out.later hb3).row.cell 3; have f3' : w3.frozen? ⟨p, 3, none⟩ = false := (HG0.out.later hb3).row.free 3; clear o3 g3 hb3 c2 hm3))
     go_returns
     have HG3 := HG0.out.later HB3.out
     refine ⟨rfl, dp', m3, dc', ⟨HG3.row.set 3 _, own_set _ HG3.words (row_own_ne HG3.row HG3.words (by first | decide | exact tl.hW | exact tl.hK | exact tl.hI)), own_set _ HG3.keys (row_own_ne HG3.row HG3.keys (by first | decide | exact tl.hW | exact tl.hK | exact tl.hI)), own_set _ (own_down (own_cast HO3.out ?_ ?_) (by omega)) (row_own_ne HG3.row HO3.out (by first | decide | exact tl.hW | exact tl.hK | exact tl.hI)), hN⟩, (Kept.of_below HB3.out).setCell (a := ⟨p, 3, none⟩) _ (.inl rfl)⟩
     ·show _ = (insD g.dead fam).length
      rw [HM3.out, HI.out, List.length_append, List.length_cons, List.length_take, ← HN.out]
      omega
     ·show _ = (insD g.dead fam).flatMap inCf
      rw [HI.out]
      simp [inCf]
end Go.Proofs.YtchfgdiipjbgoaaGreat
