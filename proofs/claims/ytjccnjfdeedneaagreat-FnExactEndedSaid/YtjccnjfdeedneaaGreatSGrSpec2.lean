/- Right grants: the model's side, whole. -/
import Derived.Test.YtjccnjfdeedneaaGreatSGrSpec
namespace Go.Proofs.YtjccnjfdeedneaaGreat
open Go Go.RowKit Go.Lib
set_option linter.unusedVariables false

def wordIx (l : List Wd) (n : Int) : Int := if hasNo l n then ((l.findIdx fun x => x.no == n : Nat) : Int) else -1
theorem wordAt_ix {l : List Wd} {n r : Int} (h : WordAt l n r) : r = wordIx l n := by
 rcases h with ⟨rfl, h⟩ | ⟨k, x, rfl, hx, hn, hj⟩
 ·simp [wordIx, h]
 ·obtain ⟨hk, he⟩ := List.getElem?_eq_some_iff.1 hx
  have hi : (l.findIdx fun x => x.no == n) = k := (List.findIdx_eq hk).2 ⟨by rw [he]; simpa using hn, fun j hjk => by
   have hjl : j < l.length := by omega
   simpa using hj j l[j] hjk (List.getElem?_eq_getElem hjl)⟩
  rw [wordIx, if_pos (hasNo_yes hx hn), hi]
theorem wordIx_yes {l : List Wd} {n : Int} (h : hasNo l n = true) : 0 ≤ wordIx l n := by rw [wordIx, if_pos h]; omega
theorem wordIx_no {l : List Wd} {n : Int} (h : hasNo l n = false) : wordIx l n < 0 := by simp [wordIx, h]
theorem wordIx_dec {l : List Wd} {n : Int} (h : hasNo l n = true) : decide (wordIx l n < 0) = false := decide_eq_false (by have := wordIx_yes h; omega)
theorem word_ix (now : Int) (h : GH) (l : List Wd) (n : Int) (w : World) (hn : h.wn = l.length) (hl : LIn wdCf w h.wp l) (hc : l.length ≤ 1048576) :
  Calls Tryz.prog 104 #[grV now h, .int .i64 n] w (Ret (.int .i64 (wordIx l n)) w) :=
 (word_any now h l n w hn hl hc).mono fun _ _ ⟨r, h1, h2, h3⟩ => ⟨by rw [h2, wordAt_ix h1], h3⟩

/-- The number ahead of place k: 0 at the start. -/
def noAt (l : List Wd) : Nat → Int
 | 0 => 0
 | k + 1 => match l[k]? with | some x => x.no | none => 0
theorem noAt_succ {l : List Wd} {k : Nat} {x : Wd} (h : l[k]? = some x) : noAt l (k + 1) = x.no := by simp [noAt, h]
def noAtK (l : List Ky) : Nat → Int
 | 0 => 0
 | k + 1 => match l[k]? with | some x => x.no | none => 0
theorem noAtK_succ {l : List Ky} {k : Nat} {x : Ky} (h : l[k]? = some x) : noAtK l (k + 1) = x.no := by simp [noAtK, h]
def noAtD (l : List Int) : Nat → Int
 | 0 => 0
 | k + 1 => match l[k]? with | some x => x | none => 0
theorem noAtD_succ {l : List Int} {k : Nat} {x : Int} (h : l[k]? = some x) : noAtD l (k + 1) = x := by simp [noAtD, h]
def WsRel (l : List Wd) (W : World) (i : Value) (wr : World) : Prop := ∃ k : Nat, k ≤ l.length ∧ i = .int .i64 k ∧ 0 ≤ noAt l k ∧ wordsOk 0 l = wordsOk (noAt l k) (l.drop k) ∧ Below W.heap.size W wr
def KsRel (ws : List Wd) (l : List Ky) (W : World) (i : Value) (wr : World) : Prop := ∃ k : Nat, k ≤ l.length ∧ i = .int .i64 k ∧ 0 ≤ noAtK l k ∧ keysOk ws 0 l = keysOk ws (noAtK l k) (l.drop k) ∧ Below W.heap.size W wr
def DsRel (ws : List Wd) (l : List Int) (W : World) (i : Value) (wr : World) : Prop := ∃ k : Nat, k ≤ l.length ∧ k ≤ 21 ∧ i = .int .i64 k ∧ deadOk ws 0 l = deadOk ws (noAtD l k) (l.drop k) ∧ Below W.heap.size W wr
theorem ws_no {l : List Wd} {k : Nat} {x : Wd} {b : Int} (hx : l[k]? = some x) (h : wordOk b x = false) : wordsOk b (l.drop k) = false := by rw [drop_cons hx, wordsOk, h]; rfl
theorem ws_yes {l : List Wd} {k : Nat} {x : Wd} {b : Int} (hx : l[k]? = some x) (h : wordOk b x = true) : wordsOk b (l.drop k) = wordsOk x.no (l.drop (k + 1)) := by rw [drop_cons hx, wordsOk, h]; rfl
theorem ks_no {ws : List Wd} {l : List Ky} {k : Nat} {x : Ky} {b : Int} (hx : l[k]? = some x) (h : keyOk ws b x = false) : keysOk ws b (l.drop k) = false := by rw [drop_cons hx, keysOk, h]; rfl
theorem ks_yes {ws : List Wd} {l : List Ky} {k : Nat} {x : Ky} {b : Int} (hx : l[k]? = some x) (h : keyOk ws b x = true) : keysOk ws b (l.drop k) = keysOk ws x.no (l.drop (k + 1)) := by rw [drop_cons hx, keysOk, h]; rfl
theorem ds_no {ws : List Wd} {l : List Int} {k : Nat} {x : Int} {b : Int} (hx : l[k]? = some x) (h : (decide (b < x) && hasNo ws x) = false) : deadOk ws b (l.drop k) = false := by rw [drop_cons hx, deadOk, h]; rfl
theorem ds_yes {ws : List Wd} {l : List Int} {k : Nat} {x : Int} {b : Int} (hx : l[k]? = some x) (h : (decide (b < x) && hasNo ws x) = true) : deadOk ws b (l.drop k) = deadOk ws x (l.drop (k + 1)) := by rw [drop_cons hx, deadOk, h]; rfl
theorem gr_no1 {now : Int} {ws : List Wd} {ks : List Ky} {ds : List Int} (h : wordsOk 0 ws = false) : grantB ⟨now, ws, ks, ds⟩ = false := by simp [grantB, h]
theorem gr_no2 {now : Int} {ws : List Wd} {ks : List Ky} {ds : List Int} (h : keysOk ws 0 ks = false) : grantB ⟨now, ws, ks, ds⟩ = false := by simp [grantB, h]
theorem gr_no3 {now : Int} {ws : List Wd} {ks : List Ky} {ds : List Int} (h : deadOk ws 0 ds = false) : grantB ⟨now, ws, ks, ds⟩ = false := by simp [grantB, h]
theorem gr_yes {now : Int} {ws : List Wd} {ks : List Ky} {ds : List Int} (h0 : isB now 0 1000000 = true) (h1 : ws.length ≤ 20) (h2 : ks.length ≤ 40) (h3 : wordsOk 0 ws = true) (h4 : keysOk ws 0 ks = true) (h5 : deadOk ws 0 ds = true) : grantB ⟨now, ws, ks, ds⟩ = true := by simp [grantB, h0, h1, h2, h3, h4, h5]
theorem dead_many {ws : List Wd} {ds : List Int} (h1 : wordsOk 0 ws = true) (h2 : ws.length ≤ 20) (h3 : 20 < ds.length) : deadOk ws 0 ds = false := by
 cases h : deadOk ws 0 ds with
 | false => rfl
 | true =>
  have := deadOk_le h1 h (fun x hx => (deadOk_up h x hx).2)
  omega
theorem no_pos {ws : List Wd} {n : Int} (h1 : wordsOk 0 ws = true) (h : hasNo ws n = true) : 0 < n := by
 obtain ⟨x, hx, hn⟩ := List.any_eq_true.1 h
 have := wordsOk_up h1 x hx
 have := eq_of_beq hn
 omega

theorem is_lo {n hi : Int} (h : isB n 1 hi = true) : 1 ≤ n ∧ n ≤ hi := by unfold isB at h; simpa using h
theorem is_hi {n b hi : Int} (h0 : 0 ≤ b) (h : isB n 1 hi = false) : (decide (b < n) && decide (n ≤ hi)) = false := by
 by_cases h2 : b < n
 ·have h3 : decide (n ≤ hi) = false := decide_eq_false fun h4 => by
   unfold isB at h
   rw [decide_eq_true h4, decide_eq_true (by omega)] at h
   cases h
  rw [h3, Bool.and_false]
 ·rw [decide_eq_false h2, Bool.false_and]
theorem word_ways (b : Int) (x : Wd) (h : 0 ≤ b) : (isB x.no 1 99 = false ∧ wordOk b x = false) ∨ (isB x.no 1 99 = true ∧ x.no ≤ b ∧ wordOk b x = false) ∨ (isB x.no 1 99 = true ∧ b < x.no ∧ isB x.client 1 3 = false ∧ wordOk b x = false) ∨
  (isB x.no 1 99 = true ∧ b < x.no ∧ isB x.client 1 3 = true ∧ proofB x.shade = false ∧ wordOk b x = false) ∨ (isB x.no 1 99 = true ∧ b < x.no ∧ isB x.client 1 3 = true ∧ proofB x.shade = true ∧ isB x.till 0 1000000 = false ∧ wordOk b x = false) ∨
  (isB x.no 1 99 = true ∧ b < x.no ∧ isB x.client 1 3 = true ∧ proofB x.shade = true ∧ isB x.till 0 1000000 = true ∧ wordOk b x = true) := by
 unfold wordOk
 cases h1 : isB x.no 1 99 with
 | false => left; refine ⟨rfl, ?_⟩; rw [is_hi h h1]; simp
 | true =>
  right
  have h3 := (is_lo h1).2
  by_cases h2 : b < x.no
  ·cases h4 : isB x.client 1 3 <;> cases h5 : proofB x.shade <;> cases h6 : isB x.till 0 1000000 <;> simp [h2, h3]
  ·left; exact ⟨rfl, by omega, by rw [decide_eq_false h2]; simp⟩
theorem key_ways (ws : List Wd) (b : Int) (x : Ky) (h : 0 ≤ b) : (isB x.no 1 999 = false ∧ keyOk ws b x = false) ∨ (isB x.no 1 999 = true ∧ x.no ≤ b ∧ keyOk ws b x = false) ∨ (isB x.no 1 999 = true ∧ b < x.no ∧ isB x.client 1 3 = false ∧ keyOk ws b x = false) ∨
  (isB x.no 1 999 = true ∧ b < x.no ∧ isB x.client 1 3 = true ∧ hasNo ws x.fam = false ∧ keyOk ws b x = false) ∨ (isB x.no 1 999 = true ∧ b < x.no ∧ isB x.client 1 3 = true ∧ hasNo ws x.fam = true ∧ isB x.till 0 1000000 = false ∧ keyOk ws b x = false) ∨
  (isB x.no 1 999 = true ∧ b < x.no ∧ isB x.client 1 3 = true ∧ hasNo ws x.fam = true ∧ isB x.till 0 1000000 = true ∧ isB x.state 0 2 = false ∧ keyOk ws b x = false) ∨
  (isB x.no 1 999 = true ∧ b < x.no ∧ isB x.client 1 3 = true ∧ hasNo ws x.fam = true ∧ isB x.till 0 1000000 = true ∧ isB x.state 0 2 = true ∧ x.refresh = true ∧ (x.state == 2) = true ∧ keyOk ws b x = false) ∨
  (isB x.no 1 999 = true ∧ b < x.no ∧ isB x.client 1 3 = true ∧ hasNo ws x.fam = true ∧ isB x.till 0 1000000 = true ∧ isB x.state 0 2 = true ∧ x.refresh = true ∧ (x.state == 2) = false ∧ keyOk ws b x = true) ∨
  (isB x.no 1 999 = true ∧ b < x.no ∧ isB x.client 1 3 = true ∧ hasNo ws x.fam = true ∧ isB x.till 0 1000000 = true ∧ isB x.state 0 2 = true ∧ x.refresh = false ∧ keyOk ws b x = true) := by
 unfold keyOk stateB
 cases h1 : isB x.no 1 999 with
 | false => left; refine ⟨rfl, ?_⟩; rw [is_hi h h1]; simp
 | true =>
  right
  have h3 := (is_lo h1).2
  by_cases h2 : b < x.no
  ·cases h4 : isB x.client 1 3 <;> cases h5 : hasNo ws x.fam <;> cases h6 : isB x.till 0 1000000 <;> cases h7 : isB x.state 0 2 <;> cases h8 : x.refresh <;> cases h9 : (x.state == 2) <;> simp [h2, h3]
  ·left; exact ⟨rfl, by omega, by rw [decide_eq_false h2]; simp⟩

set_option maxRecDepth 100000 in
theorem grant_spec_small (now : Int) (ws : List Wd) (ks : List Ky) (ds : List Int) (h : GH) (w : World) (hb : isB now 0 1000000 = false ∨ 20 < h.wn ∨ 40 < h.kn) (hn1 : h.wn = ws.length) (hn2 : h.kn = ks.length) (c1 : h.wn ≤ 1048576) (c2 : h.kn ≤ 1048576) : Calls Tryz.prog 44 #[grV now h] w (Ret (.bool (grantB ⟨now, ws, ks, ds⟩)) w) := by
 obtain ⟨wp, wn, wc, kp, kn, kc, dp, dn, dc⟩ := h
 simp only at hb hn1 hn2 c1 c2
 unfold grV
 have HG : Hid (grantB ⟨now, ws, ks, ds⟩ = false) := Lib.hid (by
  rcases hb with h | h | h
  ·simp [grantB, h]
  ·have h2 : decide (ws.length ≤ 20) = false := decide_eq_false (by omega)
   simp [grantB, h2]
  ·have h2 : decide (ks.length ≤ 40) = false := decide_eq_false (by omega)
   simp [grantB, h2])
 rw [HG.out]
 cases t0 : isB now 0 1000000 with
 | false =>
  clear hb
  go_enter Tryz.func44, Tryz.ntmps44
  go_wp2_with (go_at_call 101; refine (time_at t0).mono ?_; rintro e w' ⟨rfl, rfl⟩)
  go_ret
  exact ⟨rfl, by go_grown⟩
 | true =>
  by_cases h1 : 20 < wn
  ·have d1 : decide (20 < (wn : Int)) = true := decide_eq_true (by omega)
   clear hb
   go_enter Tryz.func44, Tryz.ntmps44
   go_wp2_with (go_at_call 101; refine (time_at t0).mono ?_; rintro e w' ⟨rfl, rfl⟩)
   go_ret
   exact ⟨rfl, by go_grown⟩
  ·have h2 : 40 < kn := by
    rcases hb with h | h | h
    ·rw [t0] at h; cases h
    ·omega
    ·exact h
   have d1 : decide (20 < (wn : Int)) = false := decide_eq_false (by omega)
   have d2 : decide (40 < (kn : Int)) = true := decide_eq_true (by omega)
   clear hb
   go_enter Tryz.func44, Tryz.ntmps44
   go_wp2_with (go_at_call 101; refine (time_at t0).mono ?_; rintro e w' ⟨rfl, rfl⟩)
   go_ret
   exact ⟨rfl, by go_grown⟩

set_option maxRecDepth 100000 in
set_option maxHeartbeats 8000000 in
theorem grant_spec (g : Gr) (h : GH) (w : World) (hin : GrIn w h g) (hs : GrSmall g) : Calls Tryz.prog 44 #[grV g.now h] w (Ret (.bool (grantB g)) w) := by
 obtain ⟨wp, wn, wc, kp, kn, kc, dp, dn, dc⟩ := h
 obtain ⟨now, ws, ks, ds⟩ := g
 obtain ⟨⟨hn1, hn2, hn3⟩, hl1, hl2, hl3⟩ := hin
 obtain ⟨hc1, hc2, hc3, hsh⟩ := hs
 simp only at hn1 hn2 hn3 hl1 hl2 hl3 hc1 hc2 hc3 hsh ⊢
 have b1 : wn ≤ 1048576 := by omega
 have b2 : kn ≤ 1048576 := by omega
 have b3 : dn ≤ 1048576 := by omega
 cases t0 : isB now 0 1000000 with
 | false => exact grant_spec_small now ws ks ds ⟨wp, wn, wc, kp, kn, kc, dp, dn, dc⟩ w (.inl t0) hn1 hn2 b1 b2
 | true =>
 by_cases h1 : 20 < wn
 ·exact grant_spec_small now ws ks ds ⟨wp, wn, wc, kp, kn, kc, dp, dn, dc⟩ w (.inr (.inl h1)) hn1 hn2 b1 b2
 by_cases h2 : 40 < kn
 ·exact grant_spec_small now ws ks ds ⟨wp, wn, wc, kp, kn, kc, dp, dn, dc⟩ w (.inr (.inr h2)) hn1 hn2 b1 b2
 unfold grV
 simp only
 have HN1 := Lib.hid hn1
 have HN2 := Lib.hid hn2
 have HN3 := Lib.hid hn3
 have HC1 := Lib.hid hc1
 have hb0 := (Below.refl w.heap.size w).alloc (Nat.le_refl _) (.cells #[.int .i64 now, .slice wp wn wc, .slice kp kn kc, .slice dp dn dc] 31)
 have hrow : Row (w.alloc (.cells #[.int .i64 now, .slice wp wn wc, .slice kp kn kc, .slice dp dn dc] 31)) w.heap.size 31 [.int .i64 now, .slice wp wn wc, .slice kp kn kc, .slice dp dn dc] := heap_alloc_new w _
 obtain ⟨W, hW⟩ : ∃ W, W = w.alloc (.cells #[.int .i64 now, .slice wp wn wc, .slice kp kn kc, .slice dp dn dc] 31) := ⟨_, rfl⟩
 rw [← hW] at hb0 hrow
 have HW := Lib.hid hW
 have HR := Lib.hid hrow
 have HL1 := Lib.hid (hl1.later hb0)
 have HL2 := Lib.hid (hl2.later hb0)
 have HL3 := Lib.hid (hl3.later hb0)
 have HB := Lib.hid hb0
 have HS := Lib.hid hsh
 have hz := hb0.size
 have hgl := hrow.lt
 clear hn1 hn2 hn3 hl1 hl2 hl3 hc1 hc2 hc3 hsh hb0 hrow hW
 have d1 : decide (20 < (wn : Int)) = false := decide_eq_false (by omega)
 have d2 : decide (40 < (kn : Int)) = false := decide_eq_false (by omega)
 go_enter Tryz.func44, Tryz.ntmps44
 go_wp2_with (go_at_call 101; refine (time_at t0).mono ?_; rintro e w' ⟨rfl, rfl⟩)
 rw [← HW.out]
 clear d1 d2
 go_loopw [3] (WsRel ws W) (fun i _ => wn - (RowKit.intOf i).toNat)
 case atStart => exact ⟨0, by omega, rfl, by simp [noAt], rfl, Below.refl _ _⟩
 case round =>
  obtain ⟨k, hk, rfl, h0, he, hbel⟩ := hrel
  rw [← HN1.out] at hk
  have HE := Lib.hid he
  have HBl := Lib.hid hbel
  have hzr := hbel.size
  have hgr : w.heap.size < wr.heap.size := by omega
  have g0 : wr.cell? ⟨w.heap.size, 0, none⟩ = some (.int .i64 now) := (hbel.cell (p := ⟨w.heap.size, 0, none⟩) hgl).trans (HR.out.cell 0)
  have g1 : wr.cell? ⟨w.heap.size, 1, none⟩ = some (.slice wp wn wc) := (hbel.cell (p := ⟨w.heap.size, 1, none⟩) hgl).trans (HR.out.cell 1)
  have g2 : wr.cell? ⟨w.heap.size, 2, none⟩ = some (.slice kp kn kc) := (hbel.cell (p := ⟨w.heap.size, 2, none⟩) hgl).trans (HR.out.cell 2)
  have g3 : wr.cell? ⟨w.heap.size, 3, none⟩ = some (.slice dp dn dc) := (hbel.cell (p := ⟨w.heap.size, 3, none⟩) hgl).trans (HR.out.cell 3)
  clear he hbel
  by_cases hlt : k < wn
  ·skip
   obtain ⟨x, hx⟩ : ∃ x, ws[k]? = some x := ⟨_, List.getElem?_eq_getElem (by rw [← HN1.out]; exact hlt)⟩
   obtain ⟨b, o, rfl, hat⟩ := HL1.out.some hx
   obtain ⟨a0, a1, a2, a3, a4⟩ := wd_cells hat hx
   have hbW : b < W.heap.size := World.block_lt_of_cell? W _ a0
   have hbr : b < wr.heap.size := by omega
   have c0 := (HBl.out.cell (p := ⟨b, o + k * 5, none⟩) hbW).trans a0
   have c1 := (HBl.out.cell (p := ⟨b, o + k * 5 + 1, none⟩) hbW).trans a1
   have c2 := (HBl.out.cell (p := ⟨b, o + k * 5 + 2, none⟩) hbW).trans a2
   have c3 := (HBl.out.cell (p := ⟨b, o + k * 5 + 3, none⟩) hbW).trans a3
   have c4 := (HBl.out.cell (p := ⟨b, o + k * 5 + 4, none⟩) hbW).trans a4
   have hsz := HS.out x (List.mem_of_getElem? hx)
   have HX := Lib.hid hx
   have HAt := Lib.hid hat
   clear a0 a1 a2 a3 a4 hx hat
   have f0 : ∀ u : Ext (wr.alloc (.cells #[.int .i64 x.no, .int .i64 x.client, .string x.shade, .int .i64 x.till, .bool x.used] 163)), u.w.cell? ⟨wr.heap.size, 0, none⟩ = some (.int .i64 x.no) := fun u => u.cell (by simp)
   have f1 : ∀ u : Ext (wr.alloc (.cells #[.int .i64 x.no, .int .i64 x.client, .string x.shade, .int .i64 x.till, .bool x.used] 163)), u.w.cell? ⟨wr.heap.size, 1, none⟩ = some (.int .i64 x.client) := fun u => u.cell (by simp)
   have f2 : ∀ u : Ext (wr.alloc (.cells #[.int .i64 x.no, .int .i64 x.client, .string x.shade, .int .i64 x.till, .bool x.used] 163)), u.w.cell? ⟨wr.heap.size, 2, none⟩ = some (.string x.shade) := fun u => u.cell (by simp)
   have f3 : ∀ u : Ext (wr.alloc (.cells #[.int .i64 x.no, .int .i64 x.client, .string x.shade, .int .i64 x.till, .bool x.used] 163)), u.w.cell? ⟨wr.heap.size, 3, none⟩ = some (.int .i64 x.till) := fun u => u.cell (by simp)
   have f4 : ∀ u : Ext (wr.alloc (.cells #[.int .i64 x.no, .int .i64 x.client, .string x.shade, .int .i64 x.till, .bool x.used] 163)), u.w.cell? ⟨wr.heap.size, 4, none⟩ = some (.bool x.used) := fun u => u.cell (by simp)
   have q0 : ∀ u : Ext (wr.alloc (.cells #[.int .i64 x.no, .int .i64 x.client, .string x.shade, .int .i64 x.till, .bool x.used] 163)), u.w.cell? ⟨w.heap.size, 0, none⟩ = some (.int .i64 now) := fun u => u.cell ((((Below.refl wr.heap.size wr).alloc (Nat.le_refl _) _).cell (p := ⟨w.heap.size, 0, none⟩) hgr).trans g0)
   have q1 : ∀ u : Ext (wr.alloc (.cells #[.int .i64 x.no, .int .i64 x.client, .string x.shade, .int .i64 x.till, .bool x.used] 163)), u.w.cell? ⟨w.heap.size, 1, none⟩ = some (.slice (some ⟨b, o, none⟩) wn wc) := fun u => u.cell ((((Below.refl wr.heap.size wr).alloc (Nat.le_refl _) _).cell (p := ⟨w.heap.size, 1, none⟩) hgr).trans g1)
   have q2 : ∀ u : Ext (wr.alloc (.cells #[.int .i64 x.no, .int .i64 x.client, .string x.shade, .int .i64 x.till, .bool x.used] 163)), u.w.cell? ⟨w.heap.size, 2, none⟩ = some (.slice kp kn kc) := fun u => u.cell ((((Below.refl wr.heap.size wr).alloc (Nat.le_refl _) _).cell (p := ⟨w.heap.size, 2, none⟩) hgr).trans g2)
   have q3 : ∀ u : Ext (wr.alloc (.cells #[.int .i64 x.no, .int .i64 x.client, .string x.shade, .int .i64 x.till, .bool x.used] 163)), u.w.cell? ⟨w.heap.size, 3, none⟩ = some (.slice dp dn dc) := fun u => u.cell ((((Below.refl wr.heap.size wr).alloc (Nat.le_refl _) _).cell (p := ⟨w.heap.size, 3, none⟩) hgr).trans g3)
   have HLu : Hid (∀ u : Ext (wr.alloc (.cells #[.int .i64 x.no, .int .i64 x.client, .string x.shade, .int .i64 x.till, .bool x.used] 163)), LIn wdCf u.w (some ⟨b, o, none⟩) ws) := Lib.hid (fun u => HL1.out.later ((HBl.out.alloc hzr _).trans (u.below.mono (by simp; omega))))
   rcases Nat.eq_zero_or_pos k with hk0 | hpos
   ·rw [show noAt ws k = 0 by rw [hk0]; rfl] at h0 HE
    have hk1 : k ≤ 0 := by omega
    have hk2 : decide (0 < k) = false := decide_eq_false (by omega)
    clear hk0
    rcases word_ways 0 x h0 with ⟨t1, te⟩ | ⟨t1, t2, te⟩ | ⟨t1, t2, t3, te⟩ | ⟨t1, t2, t3, t4, te⟩ | ⟨t1, t2, t3, t4, t5, te⟩ | ⟨t1, t2, t3, t4, t5, te⟩
    ·have TE := Lib.hid te
     clear te
     go_wp2_with fail
     refine ext_region (wr.alloc (.cells #[.int .i64 x.no, .int .i64 x.client, .string x.shade, .int .i64 x.till, .bool x.used] 163)) (by kernel_rfl) (by kernel_rfl) (Below.refl _ _) ?_
     repeat (go_big_quiet_step ((first | (go_at_call 102; exact calls_ext_same (is_at (by assumption))) | (go_at_call 103; exact calls_ext_same (proof_at (by assumption) hsz)) | (go_at_call 101; exact calls_ext_same (time_at (by assumption))) | (go_at_call 104; exact calls_ext (word_ix now ⟨wp, wn, wc, _, _, _, _, _, _⟩ ws _ _ HN1.out (HLu.out _) HC1.out)))))
     refine wpQuiet_nil ?_
     intro w2 hb2
     have HB2 := Lib.hid hb2
     clear hb2
     go_wp2_with fail
     go_ret
     exact ⟨by rw [gr_no1 (HE.out.trans (ws_no HX.out TE.out))]; rfl, ((HB.out.trans (HBl.out.mono hz)).alloc (by omega) _).trans (HB2.out.mono (by simp; omega))⟩
    ·have := (is_lo t1).1; omega
    ·have TE := Lib.hid te
     clear te
     go_wp2_with fail
     refine ext_region (wr.alloc (.cells #[.int .i64 x.no, .int .i64 x.client, .string x.shade, .int .i64 x.till, .bool x.used] 163)) (by kernel_rfl) (by kernel_rfl) (Below.refl _ _) ?_
     repeat (go_big_quiet_step ((first | (go_at_call 102; exact calls_ext_same (is_at (by assumption))) | (go_at_call 103; exact calls_ext_same (proof_at (by assumption) hsz)) | (go_at_call 101; exact calls_ext_same (time_at (by assumption))) | (go_at_call 104; exact calls_ext (word_ix now ⟨wp, wn, wc, _, _, _, _, _, _⟩ ws _ _ HN1.out (HLu.out _) HC1.out)))))
     refine wpQuiet_nil ?_
     intro w2 hb2
     have HB2 := Lib.hid hb2
     clear hb2
     go_wp2_with fail
     go_ret
     exact ⟨by rw [gr_no1 (HE.out.trans (ws_no HX.out TE.out))]; rfl, ((HB.out.trans (HBl.out.mono hz)).alloc (by omega) _).trans (HB2.out.mono (by simp; omega))⟩
    ·have TE := Lib.hid te
     clear te
     go_wp2_with fail
     refine ext_region (wr.alloc (.cells #[.int .i64 x.no, .int .i64 x.client, .string x.shade, .int .i64 x.till, .bool x.used] 163)) (by kernel_rfl) (by kernel_rfl) (Below.refl _ _) ?_
     repeat (go_big_quiet_step ((first | (go_at_call 102; exact calls_ext_same (is_at (by assumption))) | (go_at_call 103; exact calls_ext_same (proof_at (by assumption) hsz)) | (go_at_call 101; exact calls_ext_same (time_at (by assumption))) | (go_at_call 104; exact calls_ext (word_ix now ⟨wp, wn, wc, _, _, _, _, _, _⟩ ws _ _ HN1.out (HLu.out _) HC1.out)))))
     refine wpQuiet_nil ?_
     intro w2 hb2
     have HB2 := Lib.hid hb2
     clear hb2
     go_wp2_with fail
     go_ret
     exact ⟨by rw [gr_no1 (HE.out.trans (ws_no HX.out TE.out))]; rfl, ((HB.out.trans (HBl.out.mono hz)).alloc (by omega) _).trans (HB2.out.mono (by simp; omega))⟩
    ·have TE := Lib.hid te
     clear te
     go_wp2_with fail
     refine ext_region (wr.alloc (.cells #[.int .i64 x.no, .int .i64 x.client, .string x.shade, .int .i64 x.till, .bool x.used] 163)) (by kernel_rfl) (by kernel_rfl) (Below.refl _ _) ?_
     repeat (go_big_quiet_step ((first | (go_at_call 102; exact calls_ext_same (is_at (by assumption))) | (go_at_call 103; exact calls_ext_same (proof_at (by assumption) hsz)) | (go_at_call 101; exact calls_ext_same (time_at (by assumption))) | (go_at_call 104; exact calls_ext (word_ix now ⟨wp, wn, wc, _, _, _, _, _, _⟩ ws _ _ HN1.out (HLu.out _) HC1.out)))))
     refine wpQuiet_nil ?_
     intro w2 hb2
     have HB2 := Lib.hid hb2
     clear hb2
     go_wp2_with fail
     go_ret
     exact ⟨by rw [gr_no1 (HE.out.trans (ws_no HX.out TE.out))]; rfl, ((HB.out.trans (HBl.out.mono hz)).alloc (by omega) _).trans (HB2.out.mono (by simp; omega))⟩
    ·have TE := Lib.hid te
     clear te
     go_wp2_with fail
     refine ext_region (wr.alloc (.cells #[.int .i64 x.no, .int .i64 x.client, .string x.shade, .int .i64 x.till, .bool x.used] 163)) (by kernel_rfl) (by kernel_rfl) (Below.refl _ _) ?_
     repeat (go_big_quiet_step ((first | (go_at_call 102; exact calls_ext_same (is_at (by assumption))) | (go_at_call 103; exact calls_ext_same (proof_at (by assumption) hsz)) | (go_at_call 101; exact calls_ext_same (time_at (by assumption))) | (go_at_call 104; exact calls_ext (word_ix now ⟨wp, wn, wc, _, _, _, _, _, _⟩ ws _ _ HN1.out (HLu.out _) HC1.out)))))
     refine wpQuiet_nil ?_
     intro w2 hb2
     have HB2 := Lib.hid hb2
     clear hb2
     go_wp2_with fail
     go_roundw
     case rel => exact ⟨k + 1, by rw [← HN1.out]; omega, by go_num, by rw [noAt_succ HX.out]; have := (is_lo t1).1; omega, by rw [noAt_succ HX.out]; exact HE.out.trans (ws_yes HX.out TE.out), (HBl.out.alloc hzr _).trans (HB2.out.mono (by simp; omega))⟩
     case measure => simp [RowKit.intOf]; omega
   ·obtain ⟨y, hy⟩ : ∃ y, ws[k - 1]? = some y := ⟨_, List.getElem?_eq_getElem (by rw [← HN1.out]; omega)⟩
    have hyn : noAt ws k = y.no := by have := noAt_succ hy; rwa [show k - 1 + 1 = k by omega] at this
    rw [hyn] at h0 HE
    obtain ⟨p0, _⟩ := wd_cells HAt.out hy
    have p1 : ∀ u : Ext (wr.alloc (.cells #[.int .i64 x.no, .int .i64 x.client, .string x.shade, .int .i64 x.till, .bool x.used] 163)), u.w.cell? ⟨b, o + (k - 1) * 5, none⟩ = some (.int .i64 y.no) := fun u => u.cell ((((Below.refl wr.heap.size wr).alloc (Nat.le_refl _) _).cell (p := ⟨b, o + (k - 1) * 5, none⟩) hbr).trans ((HBl.out.cell (p := ⟨b, o + (k - 1) * 5, none⟩) hbW).trans p0))
    clear p0 hy hyn
    rcases word_ways y.no x h0 with ⟨t1, te⟩ | ⟨t1, t2, te⟩ | ⟨t1, t2, t3, te⟩ | ⟨t1, t2, t3, t4, te⟩ | ⟨t1, t2, t3, t4, t5, te⟩ | ⟨t1, t2, t3, t4, t5, te⟩
    ·have TE := Lib.hid te
     clear te
     go_wp2_with fail
     refine ext_region (wr.alloc (.cells #[.int .i64 x.no, .int .i64 x.client, .string x.shade, .int .i64 x.till, .bool x.used] 163)) (by kernel_rfl) (by kernel_rfl) (Below.refl _ _) ?_
     repeat (go_big_quiet_step ((first | (go_at_call 102; exact calls_ext_same (is_at (by assumption))) | (go_at_call 103; exact calls_ext_same (proof_at (by assumption) hsz)) | (go_at_call 101; exact calls_ext_same (time_at (by assumption))) | (go_at_call 104; exact calls_ext (word_ix now ⟨wp, wn, wc, _, _, _, _, _, _⟩ ws _ _ HN1.out (HLu.out _) HC1.out)))))
     refine wpQuiet_nil ?_
     intro w2 hb2
     have HB2 := Lib.hid hb2
     clear hb2
     go_wp2_with fail
     go_ret
     exact ⟨by rw [gr_no1 (HE.out.trans (ws_no HX.out TE.out))]; rfl, ((HB.out.trans (HBl.out.mono hz)).alloc (by omega) _).trans (HB2.out.mono (by simp; omega))⟩
    ·have TE := Lib.hid te
     clear te
     go_wp2_with fail
     refine ext_region (wr.alloc (.cells #[.int .i64 x.no, .int .i64 x.client, .string x.shade, .int .i64 x.till, .bool x.used] 163)) (by kernel_rfl) (by kernel_rfl) (Below.refl _ _) ?_
     repeat (go_big_quiet_step ((first | (go_at_call 102; exact calls_ext_same (is_at (by assumption))) | (go_at_call 103; exact calls_ext_same (proof_at (by assumption) hsz)) | (go_at_call 101; exact calls_ext_same (time_at (by assumption))) | (go_at_call 104; exact calls_ext (word_ix now ⟨wp, wn, wc, _, _, _, _, _, _⟩ ws _ _ HN1.out (HLu.out _) HC1.out)))))
     refine wpQuiet_nil ?_
     intro w2 hb2
     have HB2 := Lib.hid hb2
     clear hb2
     go_wp2_with fail
     go_ret
     exact ⟨by rw [gr_no1 (HE.out.trans (ws_no HX.out TE.out))]; rfl, ((HB.out.trans (HBl.out.mono hz)).alloc (by omega) _).trans (HB2.out.mono (by simp; omega))⟩
    ·have TE := Lib.hid te
     clear te
     have dt : decide (x.no ≤ y.no) = false := decide_eq_false (by omega)
     go_wp2_with fail
     refine ext_region (wr.alloc (.cells #[.int .i64 x.no, .int .i64 x.client, .string x.shade, .int .i64 x.till, .bool x.used] 163)) (by kernel_rfl) (by kernel_rfl) (Below.refl _ _) ?_
     repeat (go_big_quiet_step ((first | (go_at_call 102; exact calls_ext_same (is_at (by assumption))) | (go_at_call 103; exact calls_ext_same (proof_at (by assumption) hsz)) | (go_at_call 101; exact calls_ext_same (time_at (by assumption))) | (go_at_call 104; exact calls_ext (word_ix now ⟨wp, wn, wc, _, _, _, _, _, _⟩ ws _ _ HN1.out (HLu.out _) HC1.out)))))
     refine wpQuiet_nil ?_
     intro w2 hb2
     have HB2 := Lib.hid hb2
     clear hb2
     go_wp2_with fail
     go_ret
     exact ⟨by rw [gr_no1 (HE.out.trans (ws_no HX.out TE.out))]; rfl, ((HB.out.trans (HBl.out.mono hz)).alloc (by omega) _).trans (HB2.out.mono (by simp; omega))⟩
    ·have TE := Lib.hid te
     clear te
     have dt : decide (x.no ≤ y.no) = false := decide_eq_false (by omega)
     go_wp2_with fail
     refine ext_region (wr.alloc (.cells #[.int .i64 x.no, .int .i64 x.client, .string x.shade, .int .i64 x.till, .bool x.used] 163)) (by kernel_rfl) (by kernel_rfl) (Below.refl _ _) ?_
     repeat (go_big_quiet_step ((first | (go_at_call 102; exact calls_ext_same (is_at (by assumption))) | (go_at_call 103; exact calls_ext_same (proof_at (by assumption) hsz)) | (go_at_call 101; exact calls_ext_same (time_at (by assumption))) | (go_at_call 104; exact calls_ext (word_ix now ⟨wp, wn, wc, _, _, _, _, _, _⟩ ws _ _ HN1.out (HLu.out _) HC1.out)))))
     refine wpQuiet_nil ?_
     intro w2 hb2
     have HB2 := Lib.hid hb2
     clear hb2
     go_wp2_with fail
     go_ret
     exact ⟨by rw [gr_no1 (HE.out.trans (ws_no HX.out TE.out))]; rfl, ((HB.out.trans (HBl.out.mono hz)).alloc (by omega) _).trans (HB2.out.mono (by simp; omega))⟩
    ·have TE := Lib.hid te
     clear te
     have dt : decide (x.no ≤ y.no) = false := decide_eq_false (by omega)
     go_wp2_with fail
     refine ext_region (wr.alloc (.cells #[.int .i64 x.no, .int .i64 x.client, .string x.shade, .int .i64 x.till, .bool x.used] 163)) (by kernel_rfl) (by kernel_rfl) (Below.refl _ _) ?_
     repeat (go_big_quiet_step ((first | (go_at_call 102; exact calls_ext_same (is_at (by assumption))) | (go_at_call 103; exact calls_ext_same (proof_at (by assumption) hsz)) | (go_at_call 101; exact calls_ext_same (time_at (by assumption))) | (go_at_call 104; exact calls_ext (word_ix now ⟨wp, wn, wc, _, _, _, _, _, _⟩ ws _ _ HN1.out (HLu.out _) HC1.out)))))
     refine wpQuiet_nil ?_
     intro w2 hb2
     have HB2 := Lib.hid hb2
     clear hb2
     go_wp2_with fail
     go_ret
     exact ⟨by rw [gr_no1 (HE.out.trans (ws_no HX.out TE.out))]; rfl, ((HB.out.trans (HBl.out.mono hz)).alloc (by omega) _).trans (HB2.out.mono (by simp; omega))⟩
    ·have TE := Lib.hid te
     clear te
     have dt : decide (x.no ≤ y.no) = false := decide_eq_false (by omega)
     go_wp2_with fail
     refine ext_region (wr.alloc (.cells #[.int .i64 x.no, .int .i64 x.client, .string x.shade, .int .i64 x.till, .bool x.used] 163)) (by kernel_rfl) (by kernel_rfl) (Below.refl _ _) ?_
     repeat (go_big_quiet_step ((first | (go_at_call 102; exact calls_ext_same (is_at (by assumption))) | (go_at_call 103; exact calls_ext_same (proof_at (by assumption) hsz)) | (go_at_call 101; exact calls_ext_same (time_at (by assumption))) | (go_at_call 104; exact calls_ext (word_ix now ⟨wp, wn, wc, _, _, _, _, _, _⟩ ws _ _ HN1.out (HLu.out _) HC1.out)))))
     refine wpQuiet_nil ?_
     intro w2 hb2
     have HB2 := Lib.hid hb2
     clear hb2
     go_wp2_with fail
     go_roundw
     case rel => exact ⟨k + 1, by rw [← HN1.out]; omega, by go_num, by rw [noAt_succ HX.out]; omega, by rw [noAt_succ HX.out]; exact HE.out.trans (ws_yes HX.out TE.out), (HBl.out.alloc hzr _).trans (HB2.out.mono (by simp; omega))⟩
     case measure => simp [RowKit.intOf]; omega
  ·have hkw : wn ≤ k := by omega
   have HWk : Hid (wordsOk 0 ws = true) := Lib.hid (by rw [HE.out, List.drop_of_length_le (by rw [← HN1.out]; exact hkw)]; rfl)
   clear h0 HE
   go_wp2_with fail
   obtain ⟨wo, hwo⟩ : ∃ wo : World, wo = wr := ⟨_, rfl⟩
   rw [← hwo] at HBl hzr ⊢
   clear g0 g1 g2 g3 hgr hwo
   go_loopw [5] (KsRel ws ks W) (fun i _ => kn - (RowKit.intOf i).toNat)
   case atStart => exact ⟨0, by omega, rfl, by simp [noAtK], rfl, HBl.out⟩
   case round =>
    clear HBl hzr
    obtain ⟨k, hk, rfl, h0, he, hbel⟩ := hrel
    rw [← HN2.out] at hk
    have HE := Lib.hid he
    have HBl := Lib.hid hbel
    have hzr := hbel.size
    have hgr : w.heap.size < wr.heap.size := by omega
    have g0 : wr.cell? ⟨w.heap.size, 0, none⟩ = some (.int .i64 now) := (hbel.cell (p := ⟨w.heap.size, 0, none⟩) hgl).trans (HR.out.cell 0)
    have g1 : wr.cell? ⟨w.heap.size, 1, none⟩ = some (.slice wp wn wc) := (hbel.cell (p := ⟨w.heap.size, 1, none⟩) hgl).trans (HR.out.cell 1)
    have g2 : wr.cell? ⟨w.heap.size, 2, none⟩ = some (.slice kp kn kc) := (hbel.cell (p := ⟨w.heap.size, 2, none⟩) hgl).trans (HR.out.cell 2)
    have g3 : wr.cell? ⟨w.heap.size, 3, none⟩ = some (.slice dp dn dc) := (hbel.cell (p := ⟨w.heap.size, 3, none⟩) hgl).trans (HR.out.cell 3)
    clear he hbel
    by_cases hlt : k < kn
    ·skip
     obtain ⟨x, hx⟩ : ∃ x, ks[k]? = some x := ⟨_, List.getElem?_eq_getElem (by rw [← HN2.out]; exact hlt)⟩
     obtain ⟨b, o, rfl, hat⟩ := HL2.out.some hx
     obtain ⟨a0, a1, a2, a3, a4, a5⟩ := ky_cells hat hx
     have hbW : b < W.heap.size := World.block_lt_of_cell? W _ a0
     have hbr : b < wr.heap.size := by omega
     have c0 := (HBl.out.cell (p := ⟨b, o + k * 6, none⟩) hbW).trans a0
     have c1 := (HBl.out.cell (p := ⟨b, o + k * 6 + 1, none⟩) hbW).trans a1
     have c2 := (HBl.out.cell (p := ⟨b, o + k * 6 + 2, none⟩) hbW).trans a2
     have c3 := (HBl.out.cell (p := ⟨b, o + k * 6 + 3, none⟩) hbW).trans a3
     have c4 := (HBl.out.cell (p := ⟨b, o + k * 6 + 4, none⟩) hbW).trans a4
     have c5 := (HBl.out.cell (p := ⟨b, o + k * 6 + 5, none⟩) hbW).trans a5
     have HX := Lib.hid hx
     have HAt := Lib.hid hat
     clear a0 a1 a2 a3 a4 a5 hx hat
     have f0 : ∀ u : Ext (wr.alloc (.cells #[.int .i64 x.no, .int .i64 x.client, .int .i64 x.fam, .bool x.refresh, .int .i64 x.till, .int .i64 x.state] 127)), u.w.cell? ⟨wr.heap.size, 0, none⟩ = some (.int .i64 x.no) := fun u => u.cell (by simp)
     have f1 : ∀ u : Ext (wr.alloc (.cells #[.int .i64 x.no, .int .i64 x.client, .int .i64 x.fam, .bool x.refresh, .int .i64 x.till, .int .i64 x.state] 127)), u.w.cell? ⟨wr.heap.size, 1, none⟩ = some (.int .i64 x.client) := fun u => u.cell (by simp)
     have f2 : ∀ u : Ext (wr.alloc (.cells #[.int .i64 x.no, .int .i64 x.client, .int .i64 x.fam, .bool x.refresh, .int .i64 x.till, .int .i64 x.state] 127)), u.w.cell? ⟨wr.heap.size, 2, none⟩ = some (.int .i64 x.fam) := fun u => u.cell (by simp)
     have f3 : ∀ u : Ext (wr.alloc (.cells #[.int .i64 x.no, .int .i64 x.client, .int .i64 x.fam, .bool x.refresh, .int .i64 x.till, .int .i64 x.state] 127)), u.w.cell? ⟨wr.heap.size, 3, none⟩ = some (.bool x.refresh) := fun u => u.cell (by simp)
     have f4 : ∀ u : Ext (wr.alloc (.cells #[.int .i64 x.no, .int .i64 x.client, .int .i64 x.fam, .bool x.refresh, .int .i64 x.till, .int .i64 x.state] 127)), u.w.cell? ⟨wr.heap.size, 4, none⟩ = some (.int .i64 x.till) := fun u => u.cell (by simp)
     have f5 : ∀ u : Ext (wr.alloc (.cells #[.int .i64 x.no, .int .i64 x.client, .int .i64 x.fam, .bool x.refresh, .int .i64 x.till, .int .i64 x.state] 127)), u.w.cell? ⟨wr.heap.size, 5, none⟩ = some (.int .i64 x.state) := fun u => u.cell (by simp)
     have q0 : ∀ u : Ext (wr.alloc (.cells #[.int .i64 x.no, .int .i64 x.client, .int .i64 x.fam, .bool x.refresh, .int .i64 x.till, .int .i64 x.state] 127)), u.w.cell? ⟨w.heap.size, 0, none⟩ = some (.int .i64 now) := fun u => u.cell ((((Below.refl wr.heap.size wr).alloc (Nat.le_refl _) _).cell (p := ⟨w.heap.size, 0, none⟩) hgr).trans g0)
     have q1 : ∀ u : Ext (wr.alloc (.cells #[.int .i64 x.no, .int .i64 x.client, .int .i64 x.fam, .bool x.refresh, .int .i64 x.till, .int .i64 x.state] 127)), u.w.cell? ⟨w.heap.size, 1, none⟩ = some (.slice wp wn wc) := fun u => u.cell ((((Below.refl wr.heap.size wr).alloc (Nat.le_refl _) _).cell (p := ⟨w.heap.size, 1, none⟩) hgr).trans g1)
     have q2 : ∀ u : Ext (wr.alloc (.cells #[.int .i64 x.no, .int .i64 x.client, .int .i64 x.fam, .bool x.refresh, .int .i64 x.till, .int .i64 x.state] 127)), u.w.cell? ⟨w.heap.size, 2, none⟩ = some (.slice (some ⟨b, o, none⟩) kn kc) := fun u => u.cell ((((Below.refl wr.heap.size wr).alloc (Nat.le_refl _) _).cell (p := ⟨w.heap.size, 2, none⟩) hgr).trans g2)
     have q3 : ∀ u : Ext (wr.alloc (.cells #[.int .i64 x.no, .int .i64 x.client, .int .i64 x.fam, .bool x.refresh, .int .i64 x.till, .int .i64 x.state] 127)), u.w.cell? ⟨w.heap.size, 3, none⟩ = some (.slice dp dn dc) := fun u => u.cell ((((Below.refl wr.heap.size wr).alloc (Nat.le_refl _) _).cell (p := ⟨w.heap.size, 3, none⟩) hgr).trans g3)
     have HLu : Hid (∀ u : Ext (wr.alloc (.cells #[.int .i64 x.no, .int .i64 x.client, .int .i64 x.fam, .bool x.refresh, .int .i64 x.till, .int .i64 x.state] 127)), LIn wdCf u.w wp ws) := Lib.hid (fun u => HL1.out.later ((HBl.out.alloc hzr _).trans (u.below.mono (by simp; omega))))
     rcases Nat.eq_zero_or_pos k with hk0 | hpos
     ·rw [show noAtK ks k = 0 by rw [hk0]; rfl] at h0 HE
      have hk1 : k ≤ 0 := by omega
      have hk2 : decide (0 < k) = false := decide_eq_false (by omega)
      clear hk0
      rcases key_ways ws 0 x h0 with ⟨t1, te⟩ | ⟨t1, t2, te⟩ | ⟨t1, t2, t3, te⟩ | ⟨t1, t2, t3, th, te⟩ | ⟨t1, t2, t3, th, t5, te⟩ | ⟨t1, t2, t3, th, t5, t6, te⟩ | ⟨t1, t2, t3, th, t5, t6, t7, t8, te⟩ | ⟨t1, t2, t3, th, t5, t6, t7, t8, te⟩ | ⟨t1, t2, t3, th, t5, t6, t7, te⟩
      ·have TE := Lib.hid te
       clear te
       go_wp2_with fail
       refine ext_region (wr.alloc (.cells #[.int .i64 x.no, .int .i64 x.client, .int .i64 x.fam, .bool x.refresh, .int .i64 x.till, .int .i64 x.state] 127)) (by kernel_rfl) (by kernel_rfl) (Below.refl _ _) ?_
       repeat (go_big_quiet_step ((first | (go_at_call 102; exact calls_ext_same (is_at (by assumption))) | (go_at_call 103; exact calls_ext_same (proof_at (by assumption) hsz)) | (go_at_call 101; exact calls_ext_same (time_at (by assumption))) | (go_at_call 104; exact calls_ext (word_ix now ⟨wp, wn, wc, _, _, _, _, _, _⟩ ws _ _ HN1.out (HLu.out _) HC1.out)))))
       refine wpQuiet_nil ?_
       intro w2 hb2
       have HB2 := Lib.hid hb2
       clear hb2
       go_wp2_with fail
       go_ret
       exact ⟨by rw [gr_no2 (HE.out.trans (ks_no HX.out TE.out))]; rfl, ((HB.out.trans (HBl.out.mono hz)).alloc (by omega) _).trans (HB2.out.mono (by simp; omega))⟩
      ·have := (is_lo t1).1; omega
      ·have TE := Lib.hid te
       clear te
       go_wp2_with fail
       refine ext_region (wr.alloc (.cells #[.int .i64 x.no, .int .i64 x.client, .int .i64 x.fam, .bool x.refresh, .int .i64 x.till, .int .i64 x.state] 127)) (by kernel_rfl) (by kernel_rfl) (Below.refl _ _) ?_
       repeat (go_big_quiet_step ((first | (go_at_call 102; exact calls_ext_same (is_at (by assumption))) | (go_at_call 103; exact calls_ext_same (proof_at (by assumption) hsz)) | (go_at_call 101; exact calls_ext_same (time_at (by assumption))) | (go_at_call 104; exact calls_ext (word_ix now ⟨wp, wn, wc, _, _, _, _, _, _⟩ ws _ _ HN1.out (HLu.out _) HC1.out)))))
       refine wpQuiet_nil ?_
       intro w2 hb2
       have HB2 := Lib.hid hb2
       clear hb2
       go_wp2_with fail
       go_ret
       exact ⟨by rw [gr_no2 (HE.out.trans (ks_no HX.out TE.out))]; rfl, ((HB.out.trans (HBl.out.mono hz)).alloc (by omega) _).trans (HB2.out.mono (by simp; omega))⟩
      ·have TE := Lib.hid te
       clear te
       have tw := wordIx_no th
       go_wp2_with fail
       refine ext_region (wr.alloc (.cells #[.int .i64 x.no, .int .i64 x.client, .int .i64 x.fam, .bool x.refresh, .int .i64 x.till, .int .i64 x.state] 127)) (by kernel_rfl) (by kernel_rfl) (Below.refl _ _) ?_
       repeat (go_big_quiet_step ((first | (go_at_call 102; exact calls_ext_same (is_at (by assumption))) | (go_at_call 103; exact calls_ext_same (proof_at (by assumption) hsz)) | (go_at_call 101; exact calls_ext_same (time_at (by assumption))) | (go_at_call 104; exact calls_ext (word_ix now ⟨wp, wn, wc, _, _, _, _, _, _⟩ ws _ _ HN1.out (HLu.out _) HC1.out)))))
       refine wpQuiet_nil ?_
       intro w2 hb2
       have HB2 := Lib.hid hb2
       clear hb2
       go_wp2_with fail
       go_ret
       exact ⟨by rw [gr_no2 (HE.out.trans (ks_no HX.out TE.out))]; rfl, ((HB.out.trans (HBl.out.mono hz)).alloc (by omega) _).trans (HB2.out.mono (by simp; omega))⟩
      ·have TE := Lib.hid te
       clear te
       have tw := wordIx_dec th
       go_wp2_with fail
       refine ext_region (wr.alloc (.cells #[.int .i64 x.no, .int .i64 x.client, .int .i64 x.fam, .bool x.refresh, .int .i64 x.till, .int .i64 x.state] 127)) (by kernel_rfl) (by kernel_rfl) (Below.refl _ _) ?_
       repeat (go_big_quiet_step ((first | (go_at_call 102; exact calls_ext_same (is_at (by assumption))) | (go_at_call 103; exact calls_ext_same (proof_at (by assumption) hsz)) | (go_at_call 101; exact calls_ext_same (time_at (by assumption))) | (go_at_call 104; exact calls_ext (word_ix now ⟨wp, wn, wc, _, _, _, _, _, _⟩ ws _ _ HN1.out (HLu.out _) HC1.out)))))
       refine wpQuiet_nil ?_
       intro w2 hb2
       have HB2 := Lib.hid hb2
       clear hb2
       go_wp2_with fail
       go_ret
       exact ⟨by rw [gr_no2 (HE.out.trans (ks_no HX.out TE.out))]; rfl, ((HB.out.trans (HBl.out.mono hz)).alloc (by omega) _).trans (HB2.out.mono (by simp; omega))⟩
      ·have TE := Lib.hid te
       clear te
       have tw := wordIx_dec th
       go_wp2_with fail
       refine ext_region (wr.alloc (.cells #[.int .i64 x.no, .int .i64 x.client, .int .i64 x.fam, .bool x.refresh, .int .i64 x.till, .int .i64 x.state] 127)) (by kernel_rfl) (by kernel_rfl) (Below.refl _ _) ?_
       repeat (go_big_quiet_step ((first | (go_at_call 102; exact calls_ext_same (is_at (by assumption))) | (go_at_call 103; exact calls_ext_same (proof_at (by assumption) hsz)) | (go_at_call 101; exact calls_ext_same (time_at (by assumption))) | (go_at_call 104; exact calls_ext (word_ix now ⟨wp, wn, wc, _, _, _, _, _, _⟩ ws _ _ HN1.out (HLu.out _) HC1.out)))))
       refine wpQuiet_nil ?_
       intro w2 hb2
       have HB2 := Lib.hid hb2
       clear hb2
       go_wp2_with fail
       go_ret
       exact ⟨by rw [gr_no2 (HE.out.trans (ks_no HX.out TE.out))]; rfl, ((HB.out.trans (HBl.out.mono hz)).alloc (by omega) _).trans (HB2.out.mono (by simp; omega))⟩
      ·have TE := Lib.hid te
       clear te
       have tw := wordIx_dec th
       have T7 := Lib.hid t7
       clear t7
       go_wp2_with fail
       refine ext_region (wr.alloc (.cells #[.int .i64 x.no, .int .i64 x.client, .int .i64 x.fam, .bool x.refresh, .int .i64 x.till, .int .i64 x.state] 127)) (by kernel_rfl) (by kernel_rfl) (Below.refl _ _) ?_
       have t7 := T7.out
       repeat (go_big_quiet_step ((first | (go_at_call 102; exact calls_ext_same (is_at (by assumption))) | (go_at_call 103; exact calls_ext_same (proof_at (by assumption) hsz)) | (go_at_call 101; exact calls_ext_same (time_at (by assumption))) | (go_at_call 104; exact calls_ext (word_ix now ⟨wp, wn, wc, _, _, _, _, _, _⟩ ws _ _ HN1.out (HLu.out _) HC1.out)))))
       refine wpQuiet_nil ?_
       intro w2 hb2
       have HB2 := Lib.hid hb2
       clear hb2
       go_wp2_with fail
       go_ret
       exact ⟨by rw [gr_no2 (HE.out.trans (ks_no HX.out TE.out))]; rfl, ((HB.out.trans (HBl.out.mono hz)).alloc (by omega) _).trans (HB2.out.mono (by simp; omega))⟩
      ·have TE := Lib.hid te
       clear te
       have tw := wordIx_dec th
       have T7 := Lib.hid t7
       clear t7
       go_wp2_with fail
       refine ext_region (wr.alloc (.cells #[.int .i64 x.no, .int .i64 x.client, .int .i64 x.fam, .bool x.refresh, .int .i64 x.till, .int .i64 x.state] 127)) (by kernel_rfl) (by kernel_rfl) (Below.refl _ _) ?_
       have t7 := T7.out
       repeat (go_big_quiet_step ((first | (go_at_call 102; exact calls_ext_same (is_at (by assumption))) | (go_at_call 103; exact calls_ext_same (proof_at (by assumption) hsz)) | (go_at_call 101; exact calls_ext_same (time_at (by assumption))) | (go_at_call 104; exact calls_ext (word_ix now ⟨wp, wn, wc, _, _, _, _, _, _⟩ ws _ _ HN1.out (HLu.out _) HC1.out)))))
       refine wpQuiet_nil ?_
       intro w2 hb2
       have HB2 := Lib.hid hb2
       clear hb2
       go_wp2_with fail
       go_roundw
       case rel => exact ⟨k + 1, by rw [← HN2.out]; omega, by go_num, by rw [noAtK_succ HX.out]; have := (is_lo t1).1; omega, by rw [noAtK_succ HX.out]; exact HE.out.trans (ks_yes HX.out TE.out), (HBl.out.alloc hzr _).trans (HB2.out.mono (by simp; omega))⟩
       case measure => simp [RowKit.intOf]; omega
      ·have TE := Lib.hid te
       clear te
       have tw := wordIx_dec th
       have T7 := Lib.hid t7
       clear t7
       go_wp2_with fail
       refine ext_region (wr.alloc (.cells #[.int .i64 x.no, .int .i64 x.client, .int .i64 x.fam, .bool x.refresh, .int .i64 x.till, .int .i64 x.state] 127)) (by kernel_rfl) (by kernel_rfl) (Below.refl _ _) ?_
       have t7 := T7.out
       repeat (go_big_quiet_step ((first | (go_at_call 102; exact calls_ext_same (is_at (by assumption))) | (go_at_call 103; exact calls_ext_same (proof_at (by assumption) hsz)) | (go_at_call 101; exact calls_ext_same (time_at (by assumption))) | (go_at_call 104; exact calls_ext (word_ix now ⟨wp, wn, wc, _, _, _, _, _, _⟩ ws _ _ HN1.out (HLu.out _) HC1.out)))))
       refine wpQuiet_nil ?_
       intro w2 hb2
       have HB2 := Lib.hid hb2
       clear hb2
       go_wp2_with fail
       go_roundw
       case rel => exact ⟨k + 1, by rw [← HN2.out]; omega, by go_num, by rw [noAtK_succ HX.out]; have := (is_lo t1).1; omega, by rw [noAtK_succ HX.out]; exact HE.out.trans (ks_yes HX.out TE.out), (HBl.out.alloc hzr _).trans (HB2.out.mono (by simp; omega))⟩
       case measure => simp [RowKit.intOf]; omega
     ·obtain ⟨y, hy⟩ : ∃ y, ks[k - 1]? = some y := ⟨_, List.getElem?_eq_getElem (by rw [← HN2.out]; omega)⟩
      have hyn : noAtK ks k = y.no := by have := noAtK_succ hy; rwa [show k - 1 + 1 = k by omega] at this
      rw [hyn] at h0 HE
      obtain ⟨p0, _⟩ := ky_cells HAt.out hy
      have p1 : ∀ u : Ext (wr.alloc (.cells #[.int .i64 x.no, .int .i64 x.client, .int .i64 x.fam, .bool x.refresh, .int .i64 x.till, .int .i64 x.state] 127)), u.w.cell? ⟨b, o + (k - 1) * 6, none⟩ = some (.int .i64 y.no) := fun u => u.cell ((((Below.refl wr.heap.size wr).alloc (Nat.le_refl _) _).cell (p := ⟨b, o + (k - 1) * 6, none⟩) hbr).trans ((HBl.out.cell (p := ⟨b, o + (k - 1) * 6, none⟩) hbW).trans p0))
      clear p0 hy hyn
      rcases key_ways ws y.no x h0 with ⟨t1, te⟩ | ⟨t1, t2, te⟩ | ⟨t1, t2, t3, te⟩ | ⟨t1, t2, t3, th, te⟩ | ⟨t1, t2, t3, th, t5, te⟩ | ⟨t1, t2, t3, th, t5, t6, te⟩ | ⟨t1, t2, t3, th, t5, t6, t7, t8, te⟩ | ⟨t1, t2, t3, th, t5, t6, t7, t8, te⟩ | ⟨t1, t2, t3, th, t5, t6, t7, te⟩
      ·have TE := Lib.hid te
       clear te
       go_wp2_with fail
       refine ext_region (wr.alloc (.cells #[.int .i64 x.no, .int .i64 x.client, .int .i64 x.fam, .bool x.refresh, .int .i64 x.till, .int .i64 x.state] 127)) (by kernel_rfl) (by kernel_rfl) (Below.refl _ _) ?_
       repeat (go_big_quiet_step ((first | (go_at_call 102; exact calls_ext_same (is_at (by assumption))) | (go_at_call 103; exact calls_ext_same (proof_at (by assumption) hsz)) | (go_at_call 101; exact calls_ext_same (time_at (by assumption))) | (go_at_call 104; exact calls_ext (word_ix now ⟨wp, wn, wc, _, _, _, _, _, _⟩ ws _ _ HN1.out (HLu.out _) HC1.out)))))
       refine wpQuiet_nil ?_
       intro w2 hb2
       have HB2 := Lib.hid hb2
       clear hb2
       go_wp2_with fail
       go_ret
       exact ⟨by rw [gr_no2 (HE.out.trans (ks_no HX.out TE.out))]; rfl, ((HB.out.trans (HBl.out.mono hz)).alloc (by omega) _).trans (HB2.out.mono (by simp; omega))⟩
      ·have TE := Lib.hid te
       clear te
       go_wp2_with fail
       refine ext_region (wr.alloc (.cells #[.int .i64 x.no, .int .i64 x.client, .int .i64 x.fam, .bool x.refresh, .int .i64 x.till, .int .i64 x.state] 127)) (by kernel_rfl) (by kernel_rfl) (Below.refl _ _) ?_
       repeat (go_big_quiet_step ((first | (go_at_call 102; exact calls_ext_same (is_at (by assumption))) | (go_at_call 103; exact calls_ext_same (proof_at (by assumption) hsz)) | (go_at_call 101; exact calls_ext_same (time_at (by assumption))) | (go_at_call 104; exact calls_ext (word_ix now ⟨wp, wn, wc, _, _, _, _, _, _⟩ ws _ _ HN1.out (HLu.out _) HC1.out)))))
       refine wpQuiet_nil ?_
       intro w2 hb2
       have HB2 := Lib.hid hb2
       clear hb2
       go_wp2_with fail
       go_ret
       exact ⟨by rw [gr_no2 (HE.out.trans (ks_no HX.out TE.out))]; rfl, ((HB.out.trans (HBl.out.mono hz)).alloc (by omega) _).trans (HB2.out.mono (by simp; omega))⟩
      ·have TE := Lib.hid te
       clear te
       have dt : decide (x.no ≤ y.no) = false := decide_eq_false (by omega)
       go_wp2_with fail
       refine ext_region (wr.alloc (.cells #[.int .i64 x.no, .int .i64 x.client, .int .i64 x.fam, .bool x.refresh, .int .i64 x.till, .int .i64 x.state] 127)) (by kernel_rfl) (by kernel_rfl) (Below.refl _ _) ?_
       repeat (go_big_quiet_step ((first | (go_at_call 102; exact calls_ext_same (is_at (by assumption))) | (go_at_call 103; exact calls_ext_same (proof_at (by assumption) hsz)) | (go_at_call 101; exact calls_ext_same (time_at (by assumption))) | (go_at_call 104; exact calls_ext (word_ix now ⟨wp, wn, wc, _, _, _, _, _, _⟩ ws _ _ HN1.out (HLu.out _) HC1.out)))))
       refine wpQuiet_nil ?_
       intro w2 hb2
       have HB2 := Lib.hid hb2
       clear hb2
       go_wp2_with fail
       go_ret
       exact ⟨by rw [gr_no2 (HE.out.trans (ks_no HX.out TE.out))]; rfl, ((HB.out.trans (HBl.out.mono hz)).alloc (by omega) _).trans (HB2.out.mono (by simp; omega))⟩
      ·have TE := Lib.hid te
       clear te
       have tw := wordIx_no th
       have dt : decide (x.no ≤ y.no) = false := decide_eq_false (by omega)
       go_wp2_with fail
       refine ext_region (wr.alloc (.cells #[.int .i64 x.no, .int .i64 x.client, .int .i64 x.fam, .bool x.refresh, .int .i64 x.till, .int .i64 x.state] 127)) (by kernel_rfl) (by kernel_rfl) (Below.refl _ _) ?_
       repeat (go_big_quiet_step ((first | (go_at_call 102; exact calls_ext_same (is_at (by assumption))) | (go_at_call 103; exact calls_ext_same (proof_at (by assumption) hsz)) | (go_at_call 101; exact calls_ext_same (time_at (by assumption))) | (go_at_call 104; exact calls_ext (word_ix now ⟨wp, wn, wc, _, _, _, _, _, _⟩ ws _ _ HN1.out (HLu.out _) HC1.out)))))
       refine wpQuiet_nil ?_
       intro w2 hb2
       have HB2 := Lib.hid hb2
       clear hb2
       go_wp2_with fail
       go_ret
       exact ⟨by rw [gr_no2 (HE.out.trans (ks_no HX.out TE.out))]; rfl, ((HB.out.trans (HBl.out.mono hz)).alloc (by omega) _).trans (HB2.out.mono (by simp; omega))⟩
      ·have TE := Lib.hid te
       clear te
       have tw := wordIx_dec th
       have dt : decide (x.no ≤ y.no) = false := decide_eq_false (by omega)
       go_wp2_with fail
       refine ext_region (wr.alloc (.cells #[.int .i64 x.no, .int .i64 x.client, .int .i64 x.fam, .bool x.refresh, .int .i64 x.till, .int .i64 x.state] 127)) (by kernel_rfl) (by kernel_rfl) (Below.refl _ _) ?_
       repeat (go_big_quiet_step ((first | (go_at_call 102; exact calls_ext_same (is_at (by assumption))) | (go_at_call 103; exact calls_ext_same (proof_at (by assumption) hsz)) | (go_at_call 101; exact calls_ext_same (time_at (by assumption))) | (go_at_call 104; exact calls_ext (word_ix now ⟨wp, wn, wc, _, _, _, _, _, _⟩ ws _ _ HN1.out (HLu.out _) HC1.out)))))
       refine wpQuiet_nil ?_
       intro w2 hb2
       have HB2 := Lib.hid hb2
       clear hb2
       go_wp2_with fail
       go_ret
       exact ⟨by rw [gr_no2 (HE.out.trans (ks_no HX.out TE.out))]; rfl, ((HB.out.trans (HBl.out.mono hz)).alloc (by omega) _).trans (HB2.out.mono (by simp; omega))⟩
      ·have TE := Lib.hid te
       clear te
       have tw := wordIx_dec th
       have dt : decide (x.no ≤ y.no) = false := decide_eq_false (by omega)
       go_wp2_with fail
       refine ext_region (wr.alloc (.cells #[.int .i64 x.no, .int .i64 x.client, .int .i64 x.fam, .bool x.refresh, .int .i64 x.till, .int .i64 x.state] 127)) (by kernel_rfl) (by kernel_rfl) (Below.refl _ _) ?_
       repeat (go_big_quiet_step ((first | (go_at_call 102; exact calls_ext_same (is_at (by assumption))) | (go_at_call 103; exact calls_ext_same (proof_at (by assumption) hsz)) | (go_at_call 101; exact calls_ext_same (time_at (by assumption))) | (go_at_call 104; exact calls_ext (word_ix now ⟨wp, wn, wc, _, _, _, _, _, _⟩ ws _ _ HN1.out (HLu.out _) HC1.out)))))
       refine wpQuiet_nil ?_
       intro w2 hb2
       have HB2 := Lib.hid hb2
       clear hb2
       go_wp2_with fail
       go_ret
       exact ⟨by rw [gr_no2 (HE.out.trans (ks_no HX.out TE.out))]; rfl, ((HB.out.trans (HBl.out.mono hz)).alloc (by omega) _).trans (HB2.out.mono (by simp; omega))⟩
      ·have TE := Lib.hid te
       clear te
       have tw := wordIx_dec th
       have dt : decide (x.no ≤ y.no) = false := decide_eq_false (by omega)
       have T7 := Lib.hid t7
       clear t7
       go_wp2_with fail
       refine ext_region (wr.alloc (.cells #[.int .i64 x.no, .int .i64 x.client, .int .i64 x.fam, .bool x.refresh, .int .i64 x.till, .int .i64 x.state] 127)) (by kernel_rfl) (by kernel_rfl) (Below.refl _ _) ?_
       have t7 := T7.out
       repeat (go_big_quiet_step ((first | (go_at_call 102; exact calls_ext_same (is_at (by assumption))) | (go_at_call 103; exact calls_ext_same (proof_at (by assumption) hsz)) | (go_at_call 101; exact calls_ext_same (time_at (by assumption))) | (go_at_call 104; exact calls_ext (word_ix now ⟨wp, wn, wc, _, _, _, _, _, _⟩ ws _ _ HN1.out (HLu.out _) HC1.out)))))
       refine wpQuiet_nil ?_
       intro w2 hb2
       have HB2 := Lib.hid hb2
       clear hb2
       go_wp2_with fail
       go_ret
       exact ⟨by rw [gr_no2 (HE.out.trans (ks_no HX.out TE.out))]; rfl, ((HB.out.trans (HBl.out.mono hz)).alloc (by omega) _).trans (HB2.out.mono (by simp; omega))⟩
      ·have TE := Lib.hid te
       clear te
       have tw := wordIx_dec th
       have dt : decide (x.no ≤ y.no) = false := decide_eq_false (by omega)
       have T7 := Lib.hid t7
       clear t7
       go_wp2_with fail
       refine ext_region (wr.alloc (.cells #[.int .i64 x.no, .int .i64 x.client, .int .i64 x.fam, .bool x.refresh, .int .i64 x.till, .int .i64 x.state] 127)) (by kernel_rfl) (by kernel_rfl) (Below.refl _ _) ?_
       have t7 := T7.out
       repeat (go_big_quiet_step ((first | (go_at_call 102; exact calls_ext_same (is_at (by assumption))) | (go_at_call 103; exact calls_ext_same (proof_at (by assumption) hsz)) | (go_at_call 101; exact calls_ext_same (time_at (by assumption))) | (go_at_call 104; exact calls_ext (word_ix now ⟨wp, wn, wc, _, _, _, _, _, _⟩ ws _ _ HN1.out (HLu.out _) HC1.out)))))
       refine wpQuiet_nil ?_
       intro w2 hb2
       have HB2 := Lib.hid hb2
       clear hb2
       go_wp2_with fail
       go_roundw
       case rel => exact ⟨k + 1, by rw [← HN2.out]; omega, by go_num, by rw [noAtK_succ HX.out]; omega, by rw [noAtK_succ HX.out]; exact HE.out.trans (ks_yes HX.out TE.out), (HBl.out.alloc hzr _).trans (HB2.out.mono (by simp; omega))⟩
       case measure => simp [RowKit.intOf]; omega
      ·have TE := Lib.hid te
       clear te
       have tw := wordIx_dec th
       have dt : decide (x.no ≤ y.no) = false := decide_eq_false (by omega)
       have T7 := Lib.hid t7
       clear t7
       go_wp2_with fail
       refine ext_region (wr.alloc (.cells #[.int .i64 x.no, .int .i64 x.client, .int .i64 x.fam, .bool x.refresh, .int .i64 x.till, .int .i64 x.state] 127)) (by kernel_rfl) (by kernel_rfl) (Below.refl _ _) ?_
       have t7 := T7.out
       repeat (go_big_quiet_step ((first | (go_at_call 102; exact calls_ext_same (is_at (by assumption))) | (go_at_call 103; exact calls_ext_same (proof_at (by assumption) hsz)) | (go_at_call 101; exact calls_ext_same (time_at (by assumption))) | (go_at_call 104; exact calls_ext (word_ix now ⟨wp, wn, wc, _, _, _, _, _, _⟩ ws _ _ HN1.out (HLu.out _) HC1.out)))))
       refine wpQuiet_nil ?_
       intro w2 hb2
       have HB2 := Lib.hid hb2
       clear hb2
       go_wp2_with fail
       go_roundw
       case rel => exact ⟨k + 1, by rw [← HN2.out]; omega, by go_num, by rw [noAtK_succ HX.out]; omega, by rw [noAtK_succ HX.out]; exact HE.out.trans (ks_yes HX.out TE.out), (HBl.out.alloc hzr _).trans (HB2.out.mono (by simp; omega))⟩
       case measure => simp [RowKit.intOf]; omega
    ·have hkw2 : kn ≤ k := by omega
     have HKk : Hid (keysOk ws 0 ks = true) := Lib.hid (by rw [HE.out, List.drop_of_length_le (by rw [← HN2.out]; exact hkw2)]; rfl)
     clear h0 HE
     go_wp2_with fail
     obtain ⟨wo, hwo⟩ : ∃ wo : World, wo = wr := ⟨_, rfl⟩
     rw [← hwo] at HBl hzr ⊢
     clear g0 g1 g2 g3 hgr hwo hkw2 hlt hk
     go_loopw [7] (DsRel ws ds W) (fun i _ => dn - (RowKit.intOf i).toNat)
     case atStart => exact ⟨0, by omega, by omega, rfl, rfl, HBl.out⟩
     case round =>
      clear HBl hzr
      obtain ⟨k, hk, hk2, rfl, he, hbel⟩ := hrel
      rw [← HN3.out] at hk
      have HE := Lib.hid he
      have HBl := Lib.hid hbel
      have hzr := hbel.size
      have hgr : w.heap.size < wr.heap.size := by omega
      have g0 : wr.cell? ⟨w.heap.size, 0, none⟩ = some (.int .i64 now) := (hbel.cell (p := ⟨w.heap.size, 0, none⟩) hgl).trans (HR.out.cell 0)
      have g1 : wr.cell? ⟨w.heap.size, 1, none⟩ = some (.slice wp wn wc) := (hbel.cell (p := ⟨w.heap.size, 1, none⟩) hgl).trans (HR.out.cell 1)
      have g2 : wr.cell? ⟨w.heap.size, 2, none⟩ = some (.slice kp kn kc) := (hbel.cell (p := ⟨w.heap.size, 2, none⟩) hgl).trans (HR.out.cell 2)
      have g3 : wr.cell? ⟨w.heap.size, 3, none⟩ = some (.slice dp dn dc) := (hbel.cell (p := ⟨w.heap.size, 3, none⟩) hgl).trans (HR.out.cell 3)
      clear he hbel
      by_cases hlt : k < dn
      ·by_cases h20 : k ≤ 20
       ·obtain ⟨x, hx⟩ : ∃ x, ds[k]? = some x := ⟨_, List.getElem?_eq_getElem (by rw [← HN3.out]; exact hlt)⟩
        obtain ⟨b, o, rfl, hat⟩ := HL3.out.some hx
        have a0 := in_cells hat hx
        have hbW : b < W.heap.size := World.block_lt_of_cell? W _ a0
        have hbr : b < wr.heap.size := by omega
        have c0 : wr.cell? ⟨b, o + k, none⟩ = some (.int .i64 x) := (HBl.out.cell (p := ⟨b, o + k, none⟩) hbW).trans a0
        have f0 : ∀ u : Ext wr, u.w.cell? ⟨b, o + k, none⟩ = some (.int .i64 x) := fun u => u.cell c0
        have HX := Lib.hid hx
        have HAt := Lib.hid hat
        clear a0 hx hat c0
        have d20 : decide (k ≤ 20) = true := decide_eq_true h20
        have q0 : ∀ u : Ext wr, u.w.cell? ⟨w.heap.size, 0, none⟩ = some (.int .i64 now) := fun u => u.cell g0
        have q1 : ∀ u : Ext wr, u.w.cell? ⟨w.heap.size, 1, none⟩ = some (.slice wp wn wc) := fun u => u.cell g1
        have q2 : ∀ u : Ext wr, u.w.cell? ⟨w.heap.size, 2, none⟩ = some (.slice kp kn kc) := fun u => u.cell g2
        have q3 : ∀ u : Ext wr, u.w.cell? ⟨w.heap.size, 3, none⟩ = some (.slice (some ⟨b, o, none⟩) dn dc) := fun u => u.cell g3
        have HLu : Hid (∀ u : Ext wr, LIn wdCf u.w wp ws) := Lib.hid (fun u => HL1.out.later (HBl.out.trans (u.below.mono hzr)))
        cases th : hasNo ws x with
        | false =>
         have tw := wordIx_no th
         have HT := Lib.hid th
         clear th
         go_wp2_with fail
         refine ext_region (wr) (by kernel_rfl) (by kernel_rfl) (Below.refl _ _) ?_
         repeat (go_big_quiet_step ((first | (go_at_call 102; exact calls_ext_same (is_at (by assumption))) | (go_at_call 103; exact calls_ext_same (proof_at (by assumption) hsz)) | (go_at_call 101; exact calls_ext_same (time_at (by assumption))) | (go_at_call 104; exact calls_ext (word_ix now ⟨wp, wn, wc, _, _, _, _, _, _⟩ ws _ _ HN1.out (HLu.out _) HC1.out)))))
         refine wpQuiet_nil ?_
         intro w2 hb2
         have HB2 := Lib.hid hb2
         clear hb2
         go_wp2_with fail
         go_ret
         exact ⟨by rw [gr_no3 (HE.out.trans (ds_no HX.out (by rw [HT.out, Bool.and_false])))]; rfl, (HB.out.trans (HBl.out.mono hz)).trans (HB2.out.mono (by omega))⟩
        | true =>
         have tw := wordIx_dec th
         have HT := Lib.hid th
         have hp := no_pos HWk.out th
         clear th
         rcases Nat.eq_zero_or_pos k with hk0 | hpos
         ·rw [show noAtD ds k = 0 by rw [hk0]; rfl] at HE
          have hk1 : k ≤ 0 := by omega
          have hk2 : decide (0 < k) = false := decide_eq_false (by omega)
          clear hk0
          go_wp2_with fail
          refine ext_region (wr) (by kernel_rfl) (by kernel_rfl) (Below.refl _ _) ?_
          repeat (go_big_quiet_step ((first | (go_at_call 102; exact calls_ext_same (is_at (by assumption))) | (go_at_call 103; exact calls_ext_same (proof_at (by assumption) hsz)) | (go_at_call 101; exact calls_ext_same (time_at (by assumption))) | (go_at_call 104; exact calls_ext (word_ix now ⟨wp, wn, wc, _, _, _, _, _, _⟩ ws _ _ HN1.out (HLu.out _) HC1.out)))))
          refine wpQuiet_nil ?_
          intro w2 hb2
          have HB2 := Lib.hid hb2
          clear hb2
          go_wp2_with fail
          go_roundw
          case rel => exact ⟨k + 1, by rw [← HN3.out]; omega, by omega, by go_num, by rw [noAtD_succ HX.out]; exact HE.out.trans (ds_yes HX.out (by rw [HT.out, decide_eq_true hp]; rfl)), HBl.out.trans (HB2.out.mono hzr)⟩
          case measure => simp [RowKit.intOf]; omega
         ·obtain ⟨y, hy⟩ : ∃ y, ds[k - 1]? = some y := ⟨_, List.getElem?_eq_getElem (by rw [← HN3.out]; omega)⟩
          have hyn : noAtD ds k = y := by have := noAtD_succ hy; rwa [show k - 1 + 1 = k by omega] at this
          rw [hyn] at HE
          have p0 := in_cells HAt.out hy
          have p1 : ∀ u : Ext wr, u.w.cell? ⟨b, o + (k - 1), none⟩ = some (.int .i64 y) := fun u => u.cell ((HBl.out.cell (p := ⟨b, o + (k - 1), none⟩) hbW).trans p0)
          clear p0 hy hyn
          by_cases hyx : y < x
          ·have dt : decide (x ≤ y) = false := decide_eq_false (by omega)
           go_wp2_with fail
           refine ext_region (wr) (by kernel_rfl) (by kernel_rfl) (Below.refl _ _) ?_
           repeat (go_big_quiet_step ((first | (go_at_call 102; exact calls_ext_same (is_at (by assumption))) | (go_at_call 103; exact calls_ext_same (proof_at (by assumption) hsz)) | (go_at_call 101; exact calls_ext_same (time_at (by assumption))) | (go_at_call 104; exact calls_ext (word_ix now ⟨wp, wn, wc, _, _, _, _, _, _⟩ ws _ _ HN1.out (HLu.out _) HC1.out)))))
           refine wpQuiet_nil ?_
           intro w2 hb2
           have HB2 := Lib.hid hb2
           clear hb2
           go_wp2_with fail
           go_roundw
           case rel => exact ⟨k + 1, by rw [← HN3.out]; omega, by omega, by go_num, by rw [noAtD_succ HX.out]; exact HE.out.trans (ds_yes HX.out (by rw [HT.out, decide_eq_true hyx]; rfl)), HBl.out.trans (HB2.out.mono hzr)⟩
           case measure => simp [RowKit.intOf]; omega
          ·have dt : decide (x ≤ y) = true := decide_eq_true (by omega)
           go_wp2_with fail
           refine ext_region (wr) (by kernel_rfl) (by kernel_rfl) (Below.refl _ _) ?_
           repeat (go_big_quiet_step ((first | (go_at_call 102; exact calls_ext_same (is_at (by assumption))) | (go_at_call 103; exact calls_ext_same (proof_at (by assumption) hsz)) | (go_at_call 101; exact calls_ext_same (time_at (by assumption))) | (go_at_call 104; exact calls_ext (word_ix now ⟨wp, wn, wc, _, _, _, _, _, _⟩ ws _ _ HN1.out (HLu.out _) HC1.out)))))
           refine wpQuiet_nil ?_
           intro w2 hb2
           have HB2 := Lib.hid hb2
           clear hb2
           go_wp2_with fail
           go_ret
           exact ⟨by rw [gr_no3 (HE.out.trans (ds_no HX.out (by rw [show decide (y < x) = false from decide_eq_false (by omega)]; rfl)))]; rfl, (HB.out.trans (HBl.out.mono hz)).trans (HB2.out.mono (by omega))⟩
       ·have d20 : decide (k ≤ 20) = false := decide_eq_false h20
        have dl : decide ((dn : Int) ≤ 20) = false := decide_eq_false (by omega)
        have HG : Hid (grantB ⟨now, ws, ks, ds⟩ = false) := Lib.hid (gr_no3 (dead_many HWk.out (by rw [← HN1.out]; omega) (by rw [← HN3.out]; omega)))
        go_wp2_with fail
        go_ret
        exact ⟨by rw [HG.out]; rfl, HB.out.trans (HBl.out.mono hz)⟩
      ·have HDk : Hid (deadOk ws 0 ds = true) := Lib.hid (by rw [HE.out, List.drop_of_length_le (by rw [← HN3.out]; omega)]; rfl)
       by_cases hd20 : dn ≤ 20
       ·have dl : decide ((dn : Int) ≤ 20) = true := decide_eq_true (by omega)
        have HG : Hid (grantB ⟨now, ws, ks, ds⟩ = true) := Lib.hid (gr_yes t0 (by rw [← HN1.out]; omega) (by rw [← HN2.out]; omega) HWk.out HKk.out HDk.out)
        go_wp2_with fail
        go_ret
        exact ⟨by rw [HG.out]; rfl, HB.out.trans (HBl.out.mono hz)⟩
       ·have dl : decide ((dn : Int) ≤ 20) = false := decide_eq_false (by omega)
        have HG : Hid (grantB ⟨now, ws, ks, ds⟩ = false) := Lib.hid (gr_no3 (dead_many HWk.out (by rw [← HN1.out]; omega) (by rw [← HN3.out]; omega)))
        go_wp2_with fail
        go_ret
        exact ⟨by rw [HG.out]; rfl, HB.out.trans (HBl.out.mono hz)⟩
end Go.Proofs.YtjccnjfdeedneaaGreat
