/- Right grants: the model's side. -/
import Derived.Test.YtjccnjfdeedneaaGreatSGdA
namespace Go.Proofs.YtjccnjfdeedneaaGreat
open Go Go.RowKit Go.Lib
set_option linter.unusedVariables false

theorem time_spec (n : Int) (w : World) : Calls Tryz.prog 101 #[.int .i64 n] w fun e w' => e = .returned (.bool (isB n 0 1000000)) ∧ w = w' := by
 go_enter Tryz.func101, Tryz.ntmps101
 go_wp2_with (go_at_call 102; refine (is_spec _ _ _ _).mono ?_; rintro e w' ⟨rfl, rfl⟩)
 go_ret
 exact ⟨rfl, rfl⟩
theorem time_at {n : Int} {b : Bool} {w : World} (h : isB n 0 1000000 = b) : Calls Tryz.prog 101 #[.int .i64 n] w fun e w' => e = .returned (.bool b) ∧ w' = w := by
 subst h
 exact (time_spec n w).mono fun _ _ h => ⟨h.1, h.2.symm⟩

/-- The place of a word, or -1. -/
def WordAt (l : List Wd) (n r : Int) : Prop := (r = -1 ∧ hasNo l n = false) ∨ ∃ (k : Nat) (x : Wd), r = (k : Nat) ∧ l[k]? = some x ∧ x.no = n ∧ ∀ (i : Nat) (y : Wd), i < k → l[i]? = some y → y.no ≠ n
def WordOut (l : List Wd) (n : Int) (w : World) (e : Ending) (w' : World) : Prop := ∃ r : Int, WordAt l n r ∧ e = .returned (.int .i64 r) ∧ Below w.heap.size w w'
def NoRel (l : List Wd) (n : Int) (i : Value) : Prop := ∃ k : Nat, k ≤ l.length ∧ i = .int .i64 k ∧ ∀ (j : Nat) (y : Wd), j < k → l[j]? = some y → y.no ≠ n
theorem hasNo_no {l : List Wd} {n : Int} (h : ∀ (j : Nat) (y : Wd), l[j]? = some y → y.no ≠ n) : hasNo l n = false := by
 unfold hasNo
 rw [List.any_eq_false]
 intro x hx
 obtain ⟨j, hj⟩ := List.getElem?_of_mem hx
 simpa using h j x hj
theorem hasNo_yes {l : List Wd} {n : Int} {k : Nat} {x : Wd} (hx : l[k]? = some x) (h : x.no = n) : hasNo l n = true := by
 unfold hasNo
 rw [List.any_eq_true]
 exact ⟨x, List.mem_of_getElem? hx, by simpa using h⟩

set_option maxHeartbeats 400000 in
theorem word_any (now : Int) (h : GH) (l : List Wd) (n : Int) (w : World) (hn : h.wn = l.length) (hl : LIn wdCf w h.wp l) (hc : l.length ≤ 1048576) :
  Calls Tryz.prog 104 #[grV now h, .int .i64 n] w (WordOut l n w) := by
 obtain ⟨wp, wn, wc, kp, kn, kc, dp, dn, dc⟩ := h
 unfold grV
 simp only at hn hl ⊢
 have HN := Lib.hid hn
 have hc' : wn ≤ 1048576 := by omega
 have hb0 := (Below.refl w.heap.size w).alloc (Nat.le_refl _) (.cells #[.int .i64 now, .slice wp wn wc, .slice kp kn kc, .slice dp dn dc] 31)
 have HL := Lib.hid (hl.later hb0)
 have HB := Lib.hid hb0
 clear hn hl hc hb0
 go_enter Tryz.func104, Tryz.ntmps104
 go_wp2_with fail
 go_loop [5] (NoRel l n) (fun i => wn - (RowKit.intOf i).toNat)
 case atStart => exact ⟨0, by omega, rfl, fun j y h => by omega⟩
 case round =>
  obtain ⟨k, hk, rfl, hr⟩ := hrel
  rw [← HN.out] at hk
  have HR := Lib.hid hr
  clear hr
  by_cases hlt : k < wn
  ·obtain ⟨x, hx⟩ : ∃ x, l[k]? = some x := ⟨_, List.getElem?_eq_getElem (by rw [← HN.out]; exact hlt)⟩
   obtain ⟨b, o, rfl, hat⟩ := HL.out.some hx
   obtain ⟨c0, c1, c2, c3, c4⟩ := wd_cells hat hx
   have HX := Lib.hid hx
   clear hx hat c1 c2 c3 c4
   by_cases he : x.no = n
   ·have e1 : (x.no == n) = true := by simpa using he
    have HE := Lib.hid he
    clear he
    go_wp2_with fail
    go_ret
    exact ⟨k, Or.inr ⟨k, x, rfl, HX.out, HE.out, HR.out⟩, rfl, HB.out⟩
   ·have e1 : (x.no == n) = false := by simpa using he
    have HE := Lib.hid he
    clear he
    go_wp2_with fail
    go_round
    case rel =>
     refine ⟨k + 1, by rw [← HN.out]; omega, by go_num, fun j y hj hy => ?_⟩
     by_cases e : j = k
     ·subst e
      rw [HX.out] at hy
      obtain rfl := Option.some.inj hy
      exact HE.out
     ·exact HR.out j y (by omega) hy
    case measure => simp [RowKit.intOf]; omega
  ·go_wp2_with fail
   go_ret
   exact ⟨-1, Or.inl ⟨rfl, hasNo_no fun j y hy => HR.out j y (by have := (List.getElem?_eq_some_iff.1 hy).1; rw [← HN.out] at this; omega) hy⟩, rfl, HB.out⟩
end Go.Proofs.YtjccnjfdeedneaaGreat
