/- Opens: the model's side. -/
import Derived.Test.YtjccnjfdeedneaaGreatSGdA
import Derived.Test.YtjccnjfdeedneaaGreatSGrSpec2
namespace Go.Proofs.YtjccnjfdeedneaaGreat
open Go Go.RowKit Go.Lib
set_option linter.unusedVariables false

def KeyRel (l : List Ky) (n : Int) (i : Value) : Prop := ∃ k : Nat, k ≤ l.length ∧ i = .int .i64 k ∧ ∀ (j : Nat) (y : Ky), j < k → l[j]? = some y → y.no ≠ n
set_option maxHeartbeats 400000 in
theorem key_ix (now : Int) (h : GH) (l : List Ky) (n : Int) (w : World) (hn : h.kn = l.length) (hl : LIn kyCf w h.kp l) (hc : l.length ≤ 1048576) :
  Calls Tryz.prog 72 #[grV now h, .int .i64 n] w (Ret (.int .i64 (keyIx l n)) w) := by
 obtain ⟨wp, wn, wc, kp, kn, kc, dp, dn, dc⟩ := h
 unfold grV
 simp only at hn hl ⊢
 have HN := Lib.hid hn
 have hc' : kn ≤ 1048576 := by omega
 have hb0 := (Below.refl w.heap.size w).alloc (Nat.le_refl _) (.cells #[.int .i64 now, .slice wp wn wc, .slice kp kn kc, .slice dp dn dc] 31)
 have HL := Lib.hid (hl.later hb0)
 have HB := Lib.hid hb0
 clear hn hl hc hb0
 go_enter Tryz.func72, Tryz.ntmps72
 go_wp2_with fail
 go_loop [5] (KeyRel l n) (fun i => kn - (RowKit.intOf i).toNat)
 case atStart => exact ⟨0, by omega, rfl, fun j y h => by omega⟩
 case round =>
  obtain ⟨k, hk, rfl, hr⟩ := hrel
  rw [← HN.out] at hk
  have HR := Lib.hid hr
  clear hr
  by_cases hlt : k < kn
  ·obtain ⟨x, hx⟩ : ∃ x, l[k]? = some x := ⟨_, List.getElem?_eq_getElem (by rw [← HN.out]; exact hlt)⟩
   obtain ⟨b, o, rfl, hat⟩ := HL.out.some hx
   obtain ⟨c0, c1, c2, c3, c4, c5⟩ := ky_cells hat hx
   have HX := Lib.hid hx
   clear hx hat c1 c2 c3 c4 c5
   by_cases he : x.no = n
   ·have e1 : (x.no == n) = true := by simpa using he
    have HE := Lib.hid (keyIx_at HX.out he HR.out)
    clear he
    go_wp2_with fail
    go_ret
    exact ⟨by rw [HE.out]; rfl, HB.out⟩
   ·have e1 : (x.no == n) = false := by simpa using he
    have HE := Lib.hid he
    clear he
    go_wp2_with fail
    go_round
    case rel =>
     refine ⟨k + 1, by rw [← HN.out]; omega, by go_num, fun j y hj hy => ?_⟩
     by_cases e : j = k
     ·subst e
      rw [HX.out] at hy
      obtain rfl := Option.some.inj hy
      exact HE.out
     ·exact HR.out j y (by omega) hy
    case measure => simp [RowKit.intOf]; omega
  ·have HE := Lib.hid (keyIx_none (findK_none (l := l) (n := n) fun j y hy => HR.out j y (by have := (List.getElem?_eq_some_iff.1 hy).1; rw [← HN.out] at this; omega) hy))
   go_wp2_with fail
   go_ret
   exact ⟨by rw [HE.out]; rfl, HB.out⟩
def DeadRel (l : List Int) (n : Int) (i : Value) : Prop := ∃ k : Nat, k ≤ l.length ∧ i = .int .i64 k ∧ ∀ (j : Nat) (y : Int), j < k → l[j]? = some y → y ≠ n
set_option maxHeartbeats 400000 in
theorem dead_spec (now : Int) (h : GH) (l : List Int) (n : Int) (w : World) (hn : h.dn = l.length) (hl : LIn inCf w h.dp l) (hc : l.length ≤ 1048576) :
  Calls Tryz.prog 73 #[grV now h, .int .i64 n] w (Ret (.bool (isDeadB l n)) w) := by
 obtain ⟨wp, wn, wc, kp, kn, kc, dp, dn, dc⟩ := h
 unfold grV
 simp only at hn hl ⊢
 have HN := Lib.hid hn
 have hc' : dn ≤ 1048576 := by omega
 have hb0 := (Below.refl w.heap.size w).alloc (Nat.le_refl _) (.cells #[.int .i64 now, .slice wp wn wc, .slice kp kn kc, .slice dp dn dc] 31)
 have HL := Lib.hid (hl.later hb0)
 have HB := Lib.hid hb0
 clear hn hl hc hb0
 go_enter Tryz.func73, Tryz.ntmps73
 go_wp2_with fail
 go_loop [5] (DeadRel l n) (fun i => dn - (RowKit.intOf i).toNat)
 case atStart => exact ⟨0, by omega, rfl, fun j y h => by omega⟩
 case round =>
  obtain ⟨k, hk, rfl, hr⟩ := hrel
  rw [← HN.out] at hk
  have HR := Lib.hid hr
  clear hr
  by_cases hlt : k < dn
  ·obtain ⟨x, hx⟩ : ∃ x, l[k]? = some x := ⟨_, List.getElem?_eq_getElem (by rw [← HN.out]; exact hlt)⟩
   obtain ⟨b, o, rfl, hat⟩ := HL.out.some hx
   have c0 := in_cells hat hx
   have HX := Lib.hid hx
   clear hx hat
   by_cases he : x = n
   ·have HE := Lib.hid (isDead_yes HX.out he)
    subst he
    go_wp2_with fail
    go_ret
    exact ⟨by rw [HE.out]; rfl, HB.out⟩
   ·have e1 : (x == n) = false := by simpa using he
    have HE := Lib.hid he
    clear he
    go_wp2_with fail
    go_round
    case rel =>
     refine ⟨k + 1, by rw [← HN.out]; omega, by go_num, fun j y hj hy => ?_⟩
     by_cases e : j = k
     ·subst e
      rw [HX.out] at hy
      obtain rfl := Option.some.inj hy
      exact HE.out
     ·exact HR.out j y (by omega) hy
    case measure => simp [RowKit.intOf]; omega
  ·have HE := Lib.hid (isDead_no (l := l) (n := n) fun j y hy => HR.out j y (by have := (List.getElem?_eq_some_iff.1 hy).1; rw [← HN.out] at this; omega) hy)
   go_wp2_with fail
   go_ret
   exact ⟨by rw [HE.out]; rfl, HB.out⟩
theorem keyOpen_ways (now : Int) (dead : List Int) (x : Ky) : ((x.state == 0) = false ∧ keyOpenB now dead x = false) ∨ ((x.state == 0) = true ∧ x.till < now ∧ keyOpenB now dead x = false) ∨ ((x.state == 0) = true ∧ now ≤ x.till ∧ isDeadB dead x.fam = true ∧ keyOpenB now dead x = false) ∨ ((x.state == 0) = true ∧ now ≤ x.till ∧ isDeadB dead x.fam = false ∧ keyOpenB now dead x = true) := by
 unfold keyOpenB
 cases h1 : x.state == 0
 ·left; simp
 ·right
  by_cases h2 : now ≤ x.till
  ·cases h3 : isDeadB dead x.fam <;> simp [h2]
  ·left; exact ⟨rfl, by omega, by rw [decide_eq_false h2]; simp⟩
end Go.Proofs.YtjccnjfdeedneaaGreat
