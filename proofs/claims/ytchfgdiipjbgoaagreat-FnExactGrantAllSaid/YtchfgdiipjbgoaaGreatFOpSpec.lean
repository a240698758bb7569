/- Opens: the model's side. -/
import Derived.Test.YtchfgdiipjbgoaaGreatFGdA
import Derived.Test.YtchfgdiipjbgoaaGreatFGrSpec2
namespace Go.Proofs.YtchfgdiipjbgoaaGreat
open Go Go.RowKit Go.Lib
set_option linter.unusedVariables false

def KeyRel (l : List Ky) (n : Int) (i : Value) : Prop := ∃ k : Nat, k ≤ l.length ∧ i = .int .i64 k ∧ ∀ (j : Nat) (y : Ky), j < k → l[j]? = some y → y.no ≠ n
set_option maxHeartbeats 400000 in
theorem key_ix (now : Int) (h : GH) (l : List Ky) (n : Int) (w : World) (hn : h.kn = l.length) (hl : LIn kyCf w h.kp l) (hc : l.length ≤ 1048576) :
  Calls Tryz.prog 92 #[grV now h, .int .i64 n] w (Ret (.int .i64 (keyIx l n)) w) := by
 obtain ⟨wp, wn, wc, kp, kn, kc, dp, dn, dc⟩ := h
 unfold grV
 simp only at hn hl ⊢
 have HN := Lib.hid hn
 have hc' : kn ≤ 1048576 := by omega
 have hb0 := (Below.refl w.heap.size w).alloc (Nat.le_refl _) (.cells #[.int .i64 now, .slice wp wn wc, .slice kp kn kc, .slice dp dn dc] 27)
 have HL := Lib.hid (hl.later hb0)
 have HB := Lib.hid hb0
 clear hn hl hc hb0
 go_enter Tryz.func92, Tryz.ntmps92
 go_wp2_with fail
 go_loop [5] (KeyRel l n) (fun i => kn - (RowKit.intOf i).toNat)
 case atStart => exact ⟨0, by omega, rfl, fun j y h => by omega⟩
 case round =>
  obtain ⟨k, hk, rfl, hr⟩ := hrel
  rw [← HN.out] at hk
  have HR := Lib.hid hr
  clear hr
  by_cases hlt : k < kn
  ·obtain ⟨x, hx⟩ : ∃ x, l[k]? = some x := ⟨_, List.getElem?_eq_getElem (by rw [← HN.out]; exact hlt)⟩
   obtain ⟨b, o, rfl, hat⟩ := HL.out.some hx
   obtain ⟨c0, c1, c2, c3, c4, c5⟩ := ky_cells hat hx
   have HX := Lib.hid hx
   clear hx hat c1 c2 c3 c4 c5
   by_cases he : x.no = n
   ·have e1 : (x.no == n) = true := by simpa using he
    have HE := Lib.hid (keyIx_at HX.out he HR.out)
    clear he
    go_wp2_with fail
    go_ret
    exact ⟨by rw [HE.out]; rfl, HB.out⟩
   ·have e1 : (x.no == n) = false := by simpa using he
    have HE := Lib.hid he
    clear he
    go_wp2_with fail
    go_round
    case rel =>
     refine ⟨k + 1, by rw [← HN.out]; omega, by go_num, fun j y hj hy => ?_⟩
     by_cases e : j = k
     ·subst e
      rw [HX.out] at hy
      obtain rfl := Option.some.inj hy
      exact HE.out
     ·exact HR.out j y (by omega) hy
    case measure => simp [RowKit.intOf]; omega
  ·have HE := Lib.hid (keyIx_none (findK_none (l := l) (n := n) fun j y hy => HR.out j y (by have := (List.getElem?_eq_some_iff.1 hy).1; rw [← HN.out] at this; omega) hy))
   go_wp2_with fail
   go_ret
   exact ⟨by rw [HE.out]; rfl, HB.out⟩
def DeadRel (l : List Int) (n : Int) (i : Value) : Prop := ∃ k : Nat, k ≤ l.length ∧ i = .int .i64 k ∧ ∀ (j : Nat) (y : Int), j < k → l[j]? = some y → y ≠ n
set_option maxHeartbeats 400000 in
theorem dead_spec (now : Int) (h : GH) (l : List Int) (n : Int) (w : World) (hn : h.dn = l.length) (hl : LIn inCf w h.dp l) (hc : l.length ≤ 1048576) :
  Calls Tryz.prog 118 #[grV now h, .int .i64 n] w (Ret (.bool (isDeadB l n)) w) := by
 obtain ⟨wp, wn, wc, kp, kn, kc, dp, dn, dc⟩ := h
 unfold grV
 simp only at hn hl ⊢
 have HN := Lib.hid hn
 have hc' : dn ≤ 1048576 := by omega
 have hb0 := (Below.refl w.heap.size w).alloc (Nat.le_refl _) (.cells #[.int .i64 now, .slice wp wn wc, .slice kp kn kc, .slice dp dn dc] 27)
 have HL := Lib.hid (hl.later hb0)
 have HB := Lib.hid hb0
 clear hn hl hc hb0
 go_enter Tryz.func118, Tryz.ntmps118
 go_wp2_with fail
 go_loop [5] (DeadRel l n) (fun i => dn - (RowKit.intOf i).toNat)
 case atStart => exact ⟨0, by omega, rfl, fun j y h => by omega⟩
 case round =>
  obtain ⟨k, hk, rfl, hr⟩ := hrel
  rw [← HN.out] at hk
  have HR := Lib.hid hr
  clear hr
  by_cases hlt : k < dn
  ·obtain ⟨x, hx⟩ : ∃ x, l[k]? = some x := ⟨_, List.getElem?_eq_getElem (by rw [← HN.out]; exact hlt)⟩
   obtain ⟨b, o, rfl, hat⟩ := HL.out.some hx
   have c0 := in_cells hat hx
   have HX := Lib.hid hx
   clear hx hat
   by_cases he : x = n
   ·have HE := Lib.hid (isDead_yes HX.out he)
    subst he
    go_wp2_with fail
    go_ret
    exact ⟨by rw [HE.out]; rfl, HB.out⟩
   ·have e1 : (x == n) = false := by simpa using he
    have HE := Lib.hid he
    clear he
    go_wp2_with fail
    go_round
    case rel =>
     refine ⟨k + 1, by rw [← HN.out]; omega, by go_num, fun j y hj hy => ?_⟩
     by_cases e : j = k
     ·subst e
      rw [HX.out] at hy
      obtain rfl := Option.some.inj hy
      exact HE.out
     ·exact HR.out j y (by omega) hy
    case measure => simp [RowKit.intOf]; omega
  ·have HE := Lib.hid (isDead_no (l := l) (n := n) fun j y hy => HR.out j y (by have := (List.getElem?_eq_some_iff.1 hy).1; rw [← HN.out] at this; omega) hy)
   go_wp2_with fail
   go_ret
   exact ⟨by rw [HE.out]; rfl, HB.out⟩
theorem keyOpen_ways (now : Int) (dead : List Int) (x : Ky) : ((x.state == 0) = false ∧ keyOpenB now dead x = false) ∨ ((x.state == 0) = true ∧ x.till < now ∧ keyOpenB now dead x = false) ∨ ((x.state == 0) = true ∧ now ≤ x.till ∧ isDeadB dead x.fam = true ∧ keyOpenB now dead x = false) ∨ ((x.state == 0) = true ∧ now ≤ x.till ∧ isDeadB dead x.fam = false ∧ keyOpenB now dead x = true) := by
 unfold keyOpenB
 cases h1 : x.state == 0
 ·left; simp
 ·right
  by_cases h2 : now ≤ x.till
  ·cases h3 : isDeadB dead x.fam <;> simp [h2]
  ·left; exact ⟨rfl, by omega, by rw [decide_eq_false h2]; simp⟩
set_option maxHeartbeats 1000000 in
theorem opens_at (g : Gr) (h : GH) (k : Nat) (x : Ky) (w : World) (hin : GrIn w h g) (hs : GrSmall g) (hx : g.keys[k]? = some x) :
  Calls Tryz.prog 93 #[grV g.now h, .int .i64 k] w (Ret (.bool (keyOpenB g.now g.dead x)) w) := by
 obtain ⟨wp, wn, wc, kp, kn, kc, dp, dn, dc⟩ := h
 obtain ⟨now, ws, ks, ds⟩ := g
 obtain ⟨⟨hn1, hn2, hn3⟩, hl1, hl2, hl3⟩ := hin
 obtain ⟨hc1, hc2, hc3, hsh⟩ := hs
 simp only at hn1 hn2 hn3 hl1 hl2 hl3 hc1 hc2 hc3 hsh hx ⊢
 unfold grV
 simp only
 obtain ⟨b, o, rfl, hat⟩ := hl2.some hx
 have hk : k < kn := by have := (List.getElem?_eq_some_iff.1 hx).1; omega
 have hk2 : kn ≤ 1048576 := by omega
 obtain ⟨a0, a1, a2, a3, a4, a5⟩ := ky_cells hat hx
 have hbw : b < w.heap.size := World.block_lt_of_cell? w _ a0
 have c0 : (w.alloc (.cells #[.int .i64 now, .slice wp wn wc, .slice (some ⟨b, o, none⟩) kn kc, .slice dp dn dc] 27)).cell? ⟨b, o + k * 6, none⟩ = some (.int .i64 x.no) := (((Below.refl w.heap.size w).alloc (Nat.le_refl _) _).cell (p := ⟨b, o + k * 6, none⟩) hbw).trans a0
 have c1 : (w.alloc (.cells #[.int .i64 now, .slice wp wn wc, .slice (some ⟨b, o, none⟩) kn kc, .slice dp dn dc] 27)).cell? ⟨b, o + k * 6 + 1, none⟩ = some (.int .i64 x.client) := (((Below.refl w.heap.size w).alloc (Nat.le_refl _) _).cell (p := ⟨b, o + k * 6 + 1, none⟩) hbw).trans a1
 have c2 : (w.alloc (.cells #[.int .i64 now, .slice wp wn wc, .slice (some ⟨b, o, none⟩) kn kc, .slice dp dn dc] 27)).cell? ⟨b, o + k * 6 + 2, none⟩ = some (.int .i64 x.fam) := (((Below.refl w.heap.size w).alloc (Nat.le_refl _) _).cell (p := ⟨b, o + k * 6 + 2, none⟩) hbw).trans a2
 have c3 : (w.alloc (.cells #[.int .i64 now, .slice wp wn wc, .slice (some ⟨b, o, none⟩) kn kc, .slice dp dn dc] 27)).cell? ⟨b, o + k * 6 + 3, none⟩ = some (.bool x.refresh) := (((Below.refl w.heap.size w).alloc (Nat.le_refl _) _).cell (p := ⟨b, o + k * 6 + 3, none⟩) hbw).trans a3
 have c4 : (w.alloc (.cells #[.int .i64 now, .slice wp wn wc, .slice (some ⟨b, o, none⟩) kn kc, .slice dp dn dc] 27)).cell? ⟨b, o + k * 6 + 4, none⟩ = some (.int .i64 x.till) := (((Below.refl w.heap.size w).alloc (Nat.le_refl _) _).cell (p := ⟨b, o + k * 6 + 4, none⟩) hbw).trans a4
 have c5 : (w.alloc (.cells #[.int .i64 now, .slice wp wn wc, .slice (some ⟨b, o, none⟩) kn kc, .slice dp dn dc] 27)).cell? ⟨b, o + k * 6 + 5, none⟩ = some (.int .i64 x.state) := (((Below.refl w.heap.size w).alloc (Nat.le_refl _) _).cell (p := ⟨b, o + k * 6 + 5, none⟩) hbw).trans a5
 clear a0 a1 a2 a3 a4 a5
 have HL3 := Lib.hid hl3
 have HN3 := Lib.hid hn3
 clear hn1 hn2 hn3 hl1 hl2 hl3 hat hx hc1 hc2 hsh
 rcases keyOpen_ways now ds x with ⟨t1, te⟩ | ⟨t1, t2, te⟩ | ⟨t1, t2, t3, te⟩ | ⟨t1, t2, t3, te⟩
 ·have TE := Lib.hid te
  clear te
  rw [TE.out]
  go_enter Tryz.func93, Tryz.ntmps93
  go_wp2_with fail
  go_ret
  exact ⟨rfl, by go_grown⟩
 ·have TE := Lib.hid te
  have d : decide (now ≤ x.till) = false := decide_eq_false (by omega)
  clear te
  rw [TE.out]
  go_enter Tryz.func93, Tryz.ntmps93
  go_wp2_with fail
  go_ret
  exact ⟨rfl, by go_grown⟩
 ·have TE := Lib.hid te
  have T3 := Lib.hid t3
  have d : decide (now ≤ x.till) = true := decide_eq_true t2
  clear te t3
  rw [TE.out]
  go_enter Tryz.func93, Tryz.ntmps93
  go_wp2_with fail
  refine (dead_spec now ⟨wp, wn, wc, some ⟨b, o, none⟩, kn, kc, dp, dn, dc⟩ ds x.fam _ HN3.out (LIn.later HL3.out (by go_grown)) hc3).mono ?_
  rw [T3.out]
  rintro e w1 ⟨rfl, hb1⟩
  have HB1 := Lib.hid hb1
  clear hb1
  go_wp2_with fail
  go_ret
  exact ⟨rfl, (((Below.refl w.heap.size w).alloc (Nat.le_refl _) _).alloc (by simp) _).trans (HB1.out.mono (by simp; omega))⟩
 ·have TE := Lib.hid te
  have T3 := Lib.hid t3
  have d : decide (now ≤ x.till) = true := decide_eq_true t2
  clear te t3
  rw [TE.out]
  go_enter Tryz.func93, Tryz.ntmps93
  go_wp2_with fail
  refine (dead_spec now ⟨wp, wn, wc, some ⟨b, o, none⟩, kn, kc, dp, dn, dc⟩ ds x.fam _ HN3.out (LIn.later HL3.out (by go_grown)) hc3).mono ?_
  rw [T3.out]
  rintro e w1 ⟨rfl, hb1⟩
  have HB1 := Lib.hid hb1
  clear hb1
  go_wp2_with fail
  go_ret
  exact ⟨rfl, (((Below.refl w.heap.size w).alloc (Nat.le_refl _) _).alloc (by simp) _).trans (HB1.out.mono (by simp; omega))⟩
end Go.Proofs.YtchfgdiipjbgoaaGreat
