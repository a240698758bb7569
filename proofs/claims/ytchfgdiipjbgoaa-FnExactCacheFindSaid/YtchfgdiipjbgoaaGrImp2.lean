/- Right grants: the program's side, whole. -/
import Derived.Test.YtchfgdiipjbgoaaGrImp
import Derived.Test.YtchfgdiipjbgoaaIMap
namespace Go.Proofs.Ytchfgdiipjbgoaa
open Go Go.RowKit Go.Lib
set_option linter.unusedVariables false

theorem drop_end {α : Type} {l : List α} {k n : Nat} (hn : n = l.length) (hk : n ≤ k) : l.drop k = [] := List.drop_of_length_le (by omega)
theorem wordsOk_no {l : List Wd} {k : Nat} {x : Wd} {b : Int} (hx : l[k]? = some x) (h : wordOk b x = false) : wordsOk b (l.drop k) = false := by rw [drop_cons hx, wordsOk, h]; rfl
theorem wordsOk_yes {l : List Wd} {k : Nat} {x : Wd} {b : Int} (hx : l[k]? = some x) (h : wordOk b x = true) : wordsOk b (l.drop k) = wordsOk x.no (l.drop (k + 1)) := by rw [drop_cons hx, wordsOk, h]; rfl
theorem keysOk_no {ws : List Wd} {l : List Ky} {k : Nat} {x : Ky} {b : Int} (hx : l[k]? = some x) (h : keyOk ws b x = false) : keysOk ws b (l.drop k) = false := by rw [drop_cons hx, keysOk, h]; rfl
theorem keysOk_yes {ws : List Wd} {l : List Ky} {k : Nat} {x : Ky} {b : Int} (hx : l[k]? = some x) (h : keyOk ws b x = true) : keysOk ws b (l.drop k) = keysOk ws x.no (l.drop (k + 1)) := by rw [drop_cons hx, keysOk, h]; rfl
theorem deadOk_no {ws : List Wd} {l : List Int} {k : Nat} {x : Int} {b : Int} (hx : l[k]? = some x) (h : (decide (b < x) && hasNo ws x) = false) : deadOk ws b (l.drop k) = false := by rw [drop_cons hx, deadOk, h]; rfl
theorem deadOk_yes {ws : List Wd} {l : List Int} {k : Nat} {x : Int} {b : Int} (hx : l[k]? = some x) (h : (decide (b < x) && hasNo ws x) = true) : deadOk ws b (l.drop k) = deadOk ws x (l.drop (k + 1)) := by rw [drop_cons hx, deadOk, h]; rfl
theorem wordI_ways (b : Int) (x : Wd) : (x.no ≤ b ∧ wordOk b x = false) ∨ (b < x.no ∧ 99 < x.no ∧ wordOk b x = false) ∨ (b < x.no ∧ x.no ≤ 99 ∧ isB x.client 1 3 = false ∧ wordOk b x = false) ∨ (b < x.no ∧ x.no ≤ 99 ∧ isB x.client 1 3 = true ∧ proofB x.shade = false ∧ wordOk b x = false) ∨
    (b < x.no ∧ x.no ≤ 99 ∧ isB x.client 1 3 = true ∧ proofB x.shade = true ∧ isB x.till 0 1000000 = false ∧ wordOk b x = false) ∨ (b < x.no ∧ x.no ≤ 99 ∧ isB x.client 1 3 = true ∧ proofB x.shade = true ∧ isB x.till 0 1000000 = true ∧ wordOk b x = true) := by
  unfold wordOk
  by_cases h1 : b < x.no
  · right
    by_cases h2 : x.no ≤ 99
    · cases h4 : isB x.client 1 3 <;> cases h5 : proofB x.shade <;> cases h6 : isB x.till 0 1000000 <;> simp [h1, h2]
    · left; exact ⟨h1, by omega, by rw [decide_eq_false h2]; simp⟩
  · left; exact ⟨by omega, by rw [decide_eq_false h1]; simp⟩
theorem keyI_ways (ws : List Wd) (b : Int) (x : Ky) : (x.no ≤ b ∧ keyOk ws b x = false) ∨ (b < x.no ∧ 999 < x.no ∧ keyOk ws b x = false) ∨ (b < x.no ∧ x.no ≤ 999 ∧ isB x.client 1 3 = false ∧ keyOk ws b x = false) ∨ (b < x.no ∧ x.no ≤ 999 ∧ isB x.client 1 3 = true ∧ hasNo ws x.fam = false ∧ keyOk ws b x = false) ∨
    (b < x.no ∧ x.no ≤ 999 ∧ isB x.client 1 3 = true ∧ hasNo ws x.fam = true ∧ isB x.till 0 1000000 = false ∧ keyOk ws b x = false) ∨ (b < x.no ∧ x.no ≤ 999 ∧ isB x.client 1 3 = true ∧ hasNo ws x.fam = true ∧ isB x.till 0 1000000 = true ∧ stateB x = false ∧ keyOk ws b x = false) ∨
    (b < x.no ∧ x.no ≤ 999 ∧ isB x.client 1 3 = true ∧ hasNo ws x.fam = true ∧ isB x.till 0 1000000 = true ∧ stateB x = true ∧ keyOk ws b x = true) := by
  unfold keyOk
  by_cases h1 : b < x.no
  · right
    by_cases h2 : x.no ≤ 999
    · cases h4 : isB x.client 1 3 <;> cases h5 : hasNo ws x.fam <;> cases h6 : isB x.till 0 1000000 <;> cases h7 : stateB x <;> simp [h1, h2]
    · left; exact ⟨h1, by omega, by rw [decide_eq_false h2]; simp⟩
  · left; exact ⟨by omega, by rw [decide_eq_false h1]; simp⟩
/-- The map of a grant's words: which numbers are there. -/
def noF (l : List Wd) (i : Int) : Option Value := if hasNo l i then some (.bool true) else none
theorem noF_get (l : List Wd) (i : Int) : (noF l i).getD (.bool false) = .bool (hasNo l i) := by
  unfold noF
  cases hasNo l i <;> rfl
theorem boolZ (w : World) : (zeroValue 4).run Try.prog w = .ok (.bool false) w := by kernel_rfl
def WIRel (l : List Wd) (w : World) (v i : Value) (wr : World) : Prop := ∃ (k : Nat) (b : Int), k ≤ l.length ∧ i = .int .i64 k ∧ v = .int .i64 b ∧ 0 ≤ b ∧ wordsOk 0 l = wordsOk b (l.drop k) ∧ Below w.heap.size w wr
def KIRel (ws : List Wd) (l : List Ky) (w : World) (v i : Value) (wr : World) : Prop := ∃ (k : Nat) (b : Int), k ≤ l.length ∧ i = .int .i64 k ∧ v = .int .i64 b ∧ 0 ≤ b ∧ keysOk ws 0 l = keysOk ws b (l.drop k) ∧ Below w.heap.size w wr
def DIRel (ws : List Wd) (l : List Int) (v i : Value) : Prop := ∃ (k : Nat) (b : Int), k ≤ l.length ∧ i = .int .i64 k ∧ v = .int .i64 b ∧ deadOk ws 0 l = deadOk ws b (l.drop k)

set_option maxHeartbeats 1000000 in
theorem words_imp (p : Option Addr) (n cap : Nat) (l : List Wd) (w : World) (hn : n = l.length) (hl : LIn wdCf w p l) (hc : n ≤ 1048576) (hs : ∀ x ∈ l, x.shade.size ≤ maxLen) : Calls Try.prog 52 #[.slice p n cap] w (Ret (.bool (decide (l.length ≤ 20) && wordsOk 0 l)) w) := by
  have HL := Lib.hid hl
  have HN := Lib.hid hn
  have HS := Lib.hid hs
  clear hs
  clear hl hn
  by_cases hbig : 20 < n
  · have HB : Hid ((decide (l.length ≤ 20) && wordsOk 0 l) = false) := Lib.hid (by rw [decide_eq_false (by have := HN.out; omega), Bool.false_and])
    have d : decide (20 < (n : Int)) = true := decide_eq_true (by omega)
    go_enter Try.func52, Try.ntmps52
    go_wp2_with fail
    go_ret
    exact ⟨by rw [HB.out]; rfl, Below.refl _ _⟩
  have HA : Hid ((decide (l.length ≤ 20) && wordsOk 0 l) = wordsOk 0 l) := Lib.hid (by rw [decide_eq_true (by have := HN.out; omega), Bool.true_and])
  rw [HA.out]
  have d : decide (20 < (n : Int)) = false := decide_eq_false (by omega)
  go_enter Try.func52, Try.ntmps52
  go_wp2_with fail
  go_loopw [3, 11] (WIRel l w) (fun _ i _ => n - (RowKit.intOf i).toNat)
  case atStart => exact ⟨0, 0, by omega, rfl, rfl, by omega, rfl, Below.refl _ _⟩
  case round =>
    obtain ⟨k, b, hk, rfl, rfl, hb0, he, hbel⟩ := hrel
    rw [← HN.out] at hk
    have HE := Lib.hid he
    have HBl := Lib.hid hbel
    have hz := hbel.size
    clear he hbel
    by_cases hlt : k < n
    · obtain ⟨x, hx⟩ : ∃ x, l[k]? = some x := ⟨_, List.getElem?_eq_getElem (by rw [← HN.out]; exact hlt)⟩
      obtain ⟨bb, o, rfl, hat⟩ := HL.out.some hx
      obtain ⟨a0, a1, a2, a3, a4⟩ := wd_cells hat hx
      have hbW : bb < w.heap.size := World.block_lt_of_cell? w _ a0
      have c0 := (HBl.out.cell (p := ⟨bb, o + k * 5, none⟩) hbW).trans a0
      have c1 := (HBl.out.cell (p := ⟨bb, o + k * 5 + 1, none⟩) hbW).trans a1
      have c2 := (HBl.out.cell (p := ⟨bb, o + k * 5 + 2, none⟩) hbW).trans a2
      have c3 := (HBl.out.cell (p := ⟨bb, o + k * 5 + 3, none⟩) hbW).trans a3
      have c4 := (HBl.out.cell (p := ⟨bb, o + k * 5 + 4, none⟩) hbW).trans a4
      have hsz := HS.out x (List.mem_of_getElem? hx)
      have HX := Lib.hid hx
      clear a0 a1 a2 a3 a4 hx hat
      rcases wordI_ways b x with ⟨t1, te⟩ | ⟨t1, t2, te⟩ | ⟨t1, t2, t3, te⟩ | ⟨t1, t2, t3, t4, te⟩ | ⟨t1, t2, t3, t4, t5, te⟩ | ⟨t1, t2, t3, t4, t5, te⟩
      · have TE := Lib.hid te
        clear te
        have e0 : decide (x.no ≤ b) = true := decide_eq_true t1
        go_wp2_with (first | (go_at_call 57; refine (upto_at (by assumption)).mono ?_; rintro e w' ⟨rfl, rfl⟩) | (go_at_call 70; refine (proofI_at (by assumption) hsz).mono ?_; rintro e w' ⟨rfl, rfl⟩) | (go_at_call 34; refine (isTime_at (by assumption)).mono ?_; rintro e w' ⟨rfl, rfl⟩))
        go_ret
        exact ⟨by rw [HE.out.trans (wordsOk_no HX.out TE.out)]; rfl, HBl.out.alloc hz _⟩
      · have TE := Lib.hid te
        clear te
        have e0 : decide (x.no ≤ b) = false := decide_eq_false (by omega)
        have e1 : decide (99 < x.no) = true := decide_eq_true t2
        go_wp2_with (first | (go_at_call 57; refine (upto_at (by assumption)).mono ?_; rintro e w' ⟨rfl, rfl⟩) | (go_at_call 70; refine (proofI_at (by assumption) hsz).mono ?_; rintro e w' ⟨rfl, rfl⟩) | (go_at_call 34; refine (isTime_at (by assumption)).mono ?_; rintro e w' ⟨rfl, rfl⟩))
        go_ret
        exact ⟨by rw [HE.out.trans (wordsOk_no HX.out TE.out)]; rfl, HBl.out.alloc hz _⟩
      · have TE := Lib.hid te
        clear te
        have e0 : decide (x.no ≤ b) = false := decide_eq_false (by omega)
        have e1 : decide (99 < x.no) = false := decide_eq_false (by omega)
        go_wp2_with (first | (go_at_call 57; refine (upto_at (by assumption)).mono ?_; rintro e w' ⟨rfl, rfl⟩) | (go_at_call 70; refine (proofI_at (by assumption) hsz).mono ?_; rintro e w' ⟨rfl, rfl⟩) | (go_at_call 34; refine (isTime_at (by assumption)).mono ?_; rintro e w' ⟨rfl, rfl⟩))
        go_ret
        exact ⟨by rw [HE.out.trans (wordsOk_no HX.out TE.out)]; rfl, HBl.out.alloc hz _⟩
      · have TE := Lib.hid te
        clear te
        have e0 : decide (x.no ≤ b) = false := decide_eq_false (by omega)
        have e1 : decide (99 < x.no) = false := decide_eq_false (by omega)
        go_wp2_with (first | (go_at_call 57; refine (upto_at (by assumption)).mono ?_; rintro e w' ⟨rfl, rfl⟩) | (go_at_call 70; refine (proofI_at (by assumption) hsz).mono ?_; rintro e w' ⟨rfl, rfl⟩) | (go_at_call 34; refine (isTime_at (by assumption)).mono ?_; rintro e w' ⟨rfl, rfl⟩))
        go_ret
        exact ⟨by rw [HE.out.trans (wordsOk_no HX.out TE.out)]; rfl, HBl.out.alloc hz _⟩
      · have TE := Lib.hid te
        clear te
        have e0 : decide (x.no ≤ b) = false := decide_eq_false (by omega)
        have e1 : decide (99 < x.no) = false := decide_eq_false (by omega)
        go_wp2_with (first | (go_at_call 57; refine (upto_at (by assumption)).mono ?_; rintro e w' ⟨rfl, rfl⟩) | (go_at_call 70; refine (proofI_at (by assumption) hsz).mono ?_; rintro e w' ⟨rfl, rfl⟩) | (go_at_call 34; refine (isTime_at (by assumption)).mono ?_; rintro e w' ⟨rfl, rfl⟩))
        go_ret
        exact ⟨by rw [HE.out.trans (wordsOk_no HX.out TE.out)]; rfl, HBl.out.alloc hz _⟩
      · have TE := Lib.hid te
        clear te
        have e0 : decide (x.no ≤ b) = false := decide_eq_false (by omega)
        have e1 : decide (99 < x.no) = false := decide_eq_false (by omega)
        go_wp2_with (first | (go_at_call 57; refine (upto_at (by assumption)).mono ?_; rintro e w' ⟨rfl, rfl⟩) | (go_at_call 70; refine (proofI_at (by assumption) hsz).mono ?_; rintro e w' ⟨rfl, rfl⟩) | (go_at_call 34; refine (isTime_at (by assumption)).mono ?_; rintro e w' ⟨rfl, rfl⟩))
        go_roundw
        case rel => exact ⟨k + 1, x.no, by rw [← HN.out]; omega, by go_num, rfl, by omega, HE.out.trans (wordsOk_yes HX.out TE.out), HBl.out.alloc hz _⟩
        case measure => simp [RowKit.intOf]; omega
    · have HD : Hid (wordsOk 0 l = true) := Lib.hid (by rw [HE.out, drop_end HN.out (by omega)]; rfl)
      go_wp2_with fail
      go_ret
      exact ⟨by rw [HD.out]; rfl, HBl.out⟩

set_option maxHeartbeats 1000000 in
theorem keys_imp (p : Option Addr) (n cap : Nat) (l : List Ky) (ws : List Wd) (g N : Nat) (w : World) (hn : n = l.length) (hl : LIn kyCf w p l) (hc : n ≤ 1048576) (hm : IMap Try.prog 2 w g N (noF ws)) (hf : ∀ x ∈ l, (Lit.int .i64 x.fam).wf = true) : Calls Try.prog 53 #[.slice p n cap, .map (some g)] w (Ret (.bool (decide (l.length ≤ 40) && keysOk ws 0 l)) w) := by
  have HL := Lib.hid hl
  have HN := Lib.hid hn
  have HM := Lib.hid hm
  have HF := Lib.hid hf
  clear hm hf
  clear hl hn
  by_cases hbig : 40 < n
  · have HB : Hid ((decide (l.length ≤ 40) && keysOk ws 0 l) = false) := Lib.hid (by rw [decide_eq_false (by have := HN.out; omega), Bool.false_and])
    have d : decide (40 < (n : Int)) = true := decide_eq_true (by omega)
    go_enter Try.func53, Try.ntmps53
    go_wp2_with fail
    go_ret
    exact ⟨by rw [HB.out]; rfl, Below.refl _ _⟩
  have HA : Hid ((decide (l.length ≤ 40) && keysOk ws 0 l) = keysOk ws 0 l) := Lib.hid (by rw [decide_eq_true (by have := HN.out; omega), Bool.true_and])
  rw [HA.out]
  have d : decide (40 < (n : Int)) = false := decide_eq_false (by omega)
  go_enter Try.func53, Try.ntmps53
  go_wp2_with fail
  go_loopw [5, 13] (KIRel ws l w) (fun _ i _ => n - (RowKit.intOf i).toNat)
  case atStart => exact ⟨0, 0, by omega, rfl, rfl, by omega, rfl, Below.refl _ _⟩
  case round =>
    obtain ⟨k, b, hk, rfl, rfl, hb0, he, hbel⟩ := hrel
    rw [← HN.out] at hk
    have HE := Lib.hid he
    have HBl := Lib.hid hbel
    have hz := hbel.size
    clear he hbel
    by_cases hlt : k < n
    · obtain ⟨x, hx⟩ : ∃ x, l[k]? = some x := ⟨_, List.getElem?_eq_getElem (by rw [← HN.out]; exact hlt)⟩
      obtain ⟨bb, o, rfl, hat⟩ := HL.out.some hx
      obtain ⟨a0, a1, a2, a3, a4, a5⟩ := ky_cells hat hx
      have hbW : bb < w.heap.size := World.block_lt_of_cell? w _ a0
      have c0 := (HBl.out.cell (p := ⟨bb, o + k * 6, none⟩) hbW).trans a0
      have c1 := (HBl.out.cell (p := ⟨bb, o + k * 6 + 1, none⟩) hbW).trans a1
      have c2 := (HBl.out.cell (p := ⟨bb, o + k * 6 + 2, none⟩) hbW).trans a2
      have c3 := (HBl.out.cell (p := ⟨bb, o + k * 6 + 3, none⟩) hbW).trans a3
      have c4 := (HBl.out.cell (p := ⟨bb, o + k * 6 + 4, none⟩) hbW).trans a4
      have c5 := (HBl.out.cell (p := ⟨bb, o + k * 6 + 5, none⟩) hbW).trans a5
      have hlk : (Instr.lookup 110 (.map (some g)) (.int .i64 x.fam) false).run Try.prog (wr.alloc (.cells #[.int .i64 x.no, .int .i64 x.client, .int .i64 x.fam, .bool x.refresh, .int .i64 x.till, .int .i64 x.state] 104)) = .ok (.bool (hasNo ws x.fam)) (wr.alloc (.cells #[.int .i64 x.no, .int .i64 x.client, .int .i64 x.fam, .bool x.refresh, .int .i64 x.till, .int .i64 x.state] 104)) := by rw [← noF_get]; exact ((HM.out.later HBl.out).alloc _).look Try.underlying2 Try.underlying110 (boolZ _) (HF.out x (List.mem_of_getElem? hx))
      have HX := Lib.hid hx
      clear a0 a1 a2 a3 a4 a5 hx hat
      rcases keyI_ways ws b x with ⟨t1, te⟩ | ⟨t1, t2, te⟩ | ⟨t1, t2, t3, te⟩ | ⟨t1, t2, t3, th, te⟩ | ⟨t1, t2, t3, th, t5, te⟩ | ⟨t1, t2, t3, th, t5, t6, te⟩ | ⟨t1, t2, t3, th, t5, t6, te⟩
      · have TE := Lib.hid te
        clear te
        have e0 : decide (x.no ≤ b) = true := decide_eq_true t1
        go_wp2_with (first | (go_at_call 57; refine (upto_at (by assumption)).mono ?_; rintro e w' ⟨rfl, rfl⟩) | (go_at_call 34; refine (isTime_at (by assumption)).mono ?_; rintro e w' ⟨rfl, rfl⟩) | (go_at_call 71; refine (state_at (by assumption)).mono ?_; rintro e w3 ⟨rfl, hb3⟩; have HB3 := Lib.hid hb3; have y0 : w3.cell? ⟨wr.heap.size, 0, none⟩ = some (.int .i64 x.no) := (hb3.cell (p := ⟨wr.heap.size, 0, none⟩) (by simp)).trans (by simp); clear hb3))
        go_ret
        exact ⟨by rw [HE.out.trans (keysOk_no HX.out TE.out)]; rfl, HBl.out.alloc hz _⟩
      · have TE := Lib.hid te
        clear te
        have e0 : decide (x.no ≤ b) = false := decide_eq_false (by omega)
        have e1 : decide (999 < x.no) = true := decide_eq_true t2
        go_wp2_with (first | (go_at_call 57; refine (upto_at (by assumption)).mono ?_; rintro e w' ⟨rfl, rfl⟩) | (go_at_call 34; refine (isTime_at (by assumption)).mono ?_; rintro e w' ⟨rfl, rfl⟩) | (go_at_call 71; refine (state_at (by assumption)).mono ?_; rintro e w3 ⟨rfl, hb3⟩; have HB3 := Lib.hid hb3; have y0 : w3.cell? ⟨wr.heap.size, 0, none⟩ = some (.int .i64 x.no) := (hb3.cell (p := ⟨wr.heap.size, 0, none⟩) (by simp)).trans (by simp); clear hb3))
        go_ret
        exact ⟨by rw [HE.out.trans (keysOk_no HX.out TE.out)]; rfl, HBl.out.alloc hz _⟩
      · have TE := Lib.hid te
        clear te
        have e0 : decide (x.no ≤ b) = false := decide_eq_false (by omega)
        have e1 : decide (999 < x.no) = false := decide_eq_false (by omega)
        go_wp2_with (first | (go_at_call 57; refine (upto_at (by assumption)).mono ?_; rintro e w' ⟨rfl, rfl⟩) | (go_at_call 34; refine (isTime_at (by assumption)).mono ?_; rintro e w' ⟨rfl, rfl⟩) | (go_at_call 71; refine (state_at (by assumption)).mono ?_; rintro e w3 ⟨rfl, hb3⟩; have HB3 := Lib.hid hb3; have y0 : w3.cell? ⟨wr.heap.size, 0, none⟩ = some (.int .i64 x.no) := (hb3.cell (p := ⟨wr.heap.size, 0, none⟩) (by simp)).trans (by simp); clear hb3))
        go_ret
        exact ⟨by rw [HE.out.trans (keysOk_no HX.out TE.out)]; rfl, HBl.out.alloc hz _⟩
      · have TE := Lib.hid te
        clear te
        have e0 : decide (x.no ≤ b) = false := decide_eq_false (by omega)
        have e1 : decide (999 < x.no) = false := decide_eq_false (by omega)
        rw [th] at hlk
        go_wp2_with (first | (go_at_call 57; refine (upto_at (by assumption)).mono ?_; rintro e w' ⟨rfl, rfl⟩) | (go_at_call 34; refine (isTime_at (by assumption)).mono ?_; rintro e w' ⟨rfl, rfl⟩) | (go_at_call 71; refine (state_at (by assumption)).mono ?_; rintro e w3 ⟨rfl, hb3⟩; have HB3 := Lib.hid hb3; have y0 : w3.cell? ⟨wr.heap.size, 0, none⟩ = some (.int .i64 x.no) := (hb3.cell (p := ⟨wr.heap.size, 0, none⟩) (by simp)).trans (by simp); clear hb3))
        go_ret
        exact ⟨by rw [HE.out.trans (keysOk_no HX.out TE.out)]; rfl, HBl.out.alloc hz _⟩
      · have TE := Lib.hid te
        clear te
        have e0 : decide (x.no ≤ b) = false := decide_eq_false (by omega)
        have e1 : decide (999 < x.no) = false := decide_eq_false (by omega)
        rw [th] at hlk
        go_wp2_with (first | (go_at_call 57; refine (upto_at (by assumption)).mono ?_; rintro e w' ⟨rfl, rfl⟩) | (go_at_call 34; refine (isTime_at (by assumption)).mono ?_; rintro e w' ⟨rfl, rfl⟩) | (go_at_call 71; refine (state_at (by assumption)).mono ?_; rintro e w3 ⟨rfl, hb3⟩; have HB3 := Lib.hid hb3; have y0 : w3.cell? ⟨wr.heap.size, 0, none⟩ = some (.int .i64 x.no) := (hb3.cell (p := ⟨wr.heap.size, 0, none⟩) (by simp)).trans (by simp); clear hb3))
        go_ret
        exact ⟨by rw [HE.out.trans (keysOk_no HX.out TE.out)]; rfl, HBl.out.alloc hz _⟩
      · have TE := Lib.hid te
        clear te
        have e0 : decide (x.no ≤ b) = false := decide_eq_false (by omega)
        have e1 : decide (999 < x.no) = false := decide_eq_false (by omega)
        rw [th] at hlk
        go_wp2_with (first | (go_at_call 57; refine (upto_at (by assumption)).mono ?_; rintro e w' ⟨rfl, rfl⟩) | (go_at_call 34; refine (isTime_at (by assumption)).mono ?_; rintro e w' ⟨rfl, rfl⟩) | (go_at_call 71; refine (state_at (by assumption)).mono ?_; rintro e w3 ⟨rfl, hb3⟩; have HB3 := Lib.hid hb3; have y0 : w3.cell? ⟨wr.heap.size, 0, none⟩ = some (.int .i64 x.no) := (hb3.cell (p := ⟨wr.heap.size, 0, none⟩) (by simp)).trans (by simp); clear hb3))
        go_ret
        exact ⟨by rw [HE.out.trans (keysOk_no HX.out TE.out)]; rfl, (HBl.out.alloc hz _).trans (HB3.out.mono (by simp; omega))⟩
      · have TE := Lib.hid te
        clear te
        have e0 : decide (x.no ≤ b) = false := decide_eq_false (by omega)
        have e1 : decide (999 < x.no) = false := decide_eq_false (by omega)
        rw [th] at hlk
        go_wp2_with (first | (go_at_call 57; refine (upto_at (by assumption)).mono ?_; rintro e w' ⟨rfl, rfl⟩) | (go_at_call 34; refine (isTime_at (by assumption)).mono ?_; rintro e w' ⟨rfl, rfl⟩) | (go_at_call 71; refine (state_at (by assumption)).mono ?_; rintro e w3 ⟨rfl, hb3⟩; have HB3 := Lib.hid hb3; have y0 : w3.cell? ⟨wr.heap.size, 0, none⟩ = some (.int .i64 x.no) := (hb3.cell (p := ⟨wr.heap.size, 0, none⟩) (by simp)).trans (by simp); clear hb3))
        go_roundw
        case rel => exact ⟨k + 1, x.no, by rw [← HN.out]; omega, by go_num, rfl, by omega, HE.out.trans (keysOk_yes HX.out TE.out), (HBl.out.alloc hz _).trans (HB3.out.mono (by simp; omega))⟩
        case measure => simp [RowKit.intOf]; omega
    · have HD : Hid (keysOk ws 0 l = true) := Lib.hid (by rw [HE.out, drop_end HN.out (by omega)]; rfl)
      go_wp2_with fail
      go_ret
      exact ⟨by rw [HD.out]; rfl, HBl.out⟩

set_option maxHeartbeats 1000000 in
theorem dead_imp (p : Option Addr) (n cap : Nat) (l : List Int) (ws : List Wd) (g N : Nat) (w : World) (hn : n = l.length) (hl : LIn inCf w p l) (hc : n ≤ 1048576) (hm : IMap Try.prog 2 w g N (noF ws)) (hf : ∀ x ∈ l, (Lit.int .i64 x).wf = true) :
    Calls Try.prog 54 #[.slice p n cap, .map (some g)] w fun e w' => e = .returned (.bool (deadOk ws 0 l)) ∧ w = w' := by
  have HL := Lib.hid hl
  have HN := Lib.hid hn
  have HM := Lib.hid hm
  have HF := Lib.hid hf
  clear hl hn hm hf
  go_enter Try.func54, Try.ntmps54
  go_wp2_with fail
  go_loop [5, 10] (DIRel ws l) (fun _ i => n - (RowKit.intOf i).toNat)
  case atStart => exact ⟨0, 0, by omega, rfl, rfl, rfl⟩
  case round =>
    obtain ⟨k, b, hk, rfl, rfl, he⟩ := hrel
    rw [← HN.out] at hk
    have HE := Lib.hid he
    clear he
    by_cases hlt : k < n
    · obtain ⟨x, hx⟩ : ∃ x, l[k]? = some x := ⟨_, List.getElem?_eq_getElem (by rw [← HN.out]; exact hlt)⟩
      obtain ⟨bb, o, rfl, hat⟩ := HL.out.some hx
      have a0 := in_cells hat hx
      have hlk : (Instr.lookup 110 (.map (some g)) (.int .i64 x) false).run Try.prog w = .ok (.bool (hasNo ws x)) w := by rw [← noF_get]; exact HM.out.look Try.underlying2 Try.underlying110 (boolZ _) (HF.out x (List.mem_of_getElem? hx))
      have HX := Lib.hid hx
      clear hx hat
      by_cases h1 : b < x
      · have e0 : decide (x ≤ b) = false := decide_eq_false (by omega)
        cases th : hasNo ws x with
        | false =>
          have TE : Hid ((decide (b < x) && hasNo ws x) = false) := Lib.hid (by rw [th, Bool.and_false])
          rw [th] at hlk
          go_wp2_with fail
          go_ret
          exact ⟨by rw [HE.out.trans (deadOk_no HX.out TE.out)]; rfl, rfl⟩
        | true =>
          have TE : Hid ((decide (b < x) && hasNo ws x) = true) := Lib.hid (by rw [th, decide_eq_true h1]; rfl)
          rw [th] at hlk
          go_wp2_with fail
          go_round
          case rel => exact ⟨k + 1, x, by rw [← HN.out]; omega, by go_num, rfl, HE.out.trans (deadOk_yes HX.out TE.out)⟩
          case measure => simp [RowKit.intOf]; omega
      · have e0 : decide (x ≤ b) = true := decide_eq_true (by omega)
        have TE : Hid ((decide (b < x) && hasNo ws x) = false) := Lib.hid (by rw [decide_eq_false h1, Bool.false_and])
        clear hlk
        go_wp2_with fail
        go_ret
        exact ⟨by rw [HE.out.trans (deadOk_no HX.out TE.out)]; rfl, rfl⟩
    · have HD : Hid (deadOk ws 0 l = true) := Lib.hid (by rw [HE.out, drop_end HN.out (by omega)]; rfl)
      go_wp2_with fail
      go_ret
      exact ⟨by rw [HD.out]; rfl, rfl⟩
end Go.Proofs.Ytchfgdiipjbgoaa
