/- Which worlds are right; the place of the thread of a number. -/
import Derived.Test.YtjccnjfdeedneaaGreatSWoD
import Derived.Test.YtjccnjfdeedneaaGreatSStImp
import Derived.Test.YtjccnjfdeedneaaGreatSThRight
import Derived.Test.YtjccnjfdeedneaaGreatSGdC
import Derived.Test.YtjccnjfdeedneaaGreatSGdE
namespace Go.Proofs.YtjccnjfdeedneaaGreat
open Go Go.RowKit Go.Lib
set_option linter.unusedVariables false
set_option maxRecDepth 100000

def hasNoT (l : List TH) (t : Int) : Bool := l.any fun x => x.req.no == t
def thrOk : List TH → List TH → Bool
 | _, [] => true
 | seen, x :: r => threadB x && !hasNoT seen x.req.no && thrOk (seen ++ [x]) r
theorem thrOk_at {l : List TH} {k : Nat} {x : TH} (hx : l[k]? = some x) : thrOk (l.take k) (l.drop k) = (threadB x && !hasNoT (l.take k) x.req.no && thrOk (l.take (k + 1)) (l.drop (k + 1))) := by
 rw [drop_cons hx, thrOk, List.take_add_one, hx, Option.toList_some]
theorem thrOk_end {l : List TH} {k : Nat} (hk : l.length ≤ k) : thrOk (l.take k) (l.drop k) = true := by
 rw [List.drop_of_length_le hk]; rfl
/-- The place of a token, or -1. -/
def thIx (l : List TH) (t : Int) : Int := if hasNoT l t then ((l.findIdx fun x => x.req.no == t : Nat) : Int) else -1
theorem hasNoT_no {l : List TH} {t : Int} (h : ∀ (j : Nat) (y : TH), l[j]? = some y → y.req.no ≠ t) : hasNoT l t = false := by
 unfold hasNoT
 rw [List.any_eq_false]
 intro x hx
 obtain ⟨j, hj⟩ := List.getElem?_of_mem hx
 simpa using h j x hj
theorem hasNoT_yes {l : List TH} {t : Int} {k : Nat} {x : TH} (hx : l[k]? = some x) (h : x.req.no = t) : hasNoT l t = true := by
 unfold hasNoT
 rw [List.any_eq_true]
 exact ⟨x, List.mem_of_getElem? hx, by simpa using h⟩
theorem thIx_none {l : List TH} {t : Int} (h : ∀ (j : Nat) (y : TH), l[j]? = some y → y.req.no ≠ t) : thIx l t = -1 := by simp [thIx, hasNoT_no h]
theorem thIx_at {l : List TH} {t : Int} {k : Nat} {x : TH} (hx : l[k]? = some x) (hn : x.req.no = t) (h : ∀ (j : Nat) (y : TH), j < k → l[j]? = some y → y.req.no ≠ t) : thIx l t = (k : Nat) := by
 obtain ⟨hk, he⟩ := List.getElem?_eq_some_iff.1 hx
 have hi : (l.findIdx fun x => x.req.no == t) = k := (List.findIdx_eq hk).2 ⟨by rw [he]; simpa using hn, fun j hjk => by
  have hjl : j < l.length := by omega
  simpa using h j l[j] hjk (List.getElem?_eq_getElem hjl)⟩
 simp [thIx, hasNoT_yes hx hn, hi]
theorem thIx_some {l : List TH} {t : Int} (h : hasNoT l t = true) : ∃ (k : Nat) (x : TH), thIx l t = (k : Nat) ∧ l[k]? = some x ∧ x.req.no = t ∧ ∀ (j : Nat) (y : TH), j < k → l[j]? = some y → y.req.no ≠ t := by
 obtain ⟨x, hx, hn⟩ := List.any_eq_true.1 h
 have hlt : (l.findIdx fun x => x.req.no == t) < l.length := List.findIdx_lt_length_of_exists ⟨x, hx, hn⟩
 refine ⟨l.findIdx fun x => x.req.no == t, l[l.findIdx fun x => x.req.no == t], by simp [thIx, h], List.getElem?_eq_getElem hlt, by simpa using List.findIdx_getElem (w := hlt), fun j y hj hy => ?_⟩
 obtain ⟨h1, h2⟩ := List.getElem?_eq_some_iff.1 hy
 have := List.not_of_lt_findIdx hj
 rw [h2] at this
 simpa using this
theorem thIx_nonneg {l : List TH} {t : Int} : decide (0 ≤ thIx l t) = hasNoT l t := by
 unfold thIx
 cases h : hasNoT l t
 ·simp
 ·simp
/-- The first place of a token that stands at place k is k, if it does not stand ahead of it. -/
theorem thIx_first {l : List TH} {k : Nat} {x : TH} (hx : l[k]? = some x) : (thIx l x.req.no != (k : Nat)) = hasNoT (l.take k) x.req.no := by
 cases h : hasNoT (l.take k) x.req.no with
 | false =>
  rw [thIx_at hx rfl fun j y hj hy he => ?_]
  ·simp
  ·have : hasNoT (l.take k) x.req.no = true := hasNoT_yes (k := j) (x := y) (by rw [List.getElem?_take_of_lt hj]; exact hy) he
   rw [h] at this; cases this
 | true =>
  obtain ⟨j, y, _, h2, h3, _⟩ := thIx_some h
  have hj : j < k := by have := (List.getElem?_eq_some_iff.1 h2).1; rw [List.length_take] at this; omega
  rw [List.getElem?_take_of_lt hj] at h2
  obtain ⟨i, z, g1, g2, g3, g4⟩ := thIx_some (hasNoT_yes h2 h3)
  rw [g1]
  have : i ≤ j := by
   rcases Nat.lt_or_ge j i with h | h
   ·exact absurd h3 (g4 j y h h2)
   ·exact h
  have e : (i : Int) ≠ (k : Int) := by omega
  simpa using e
/-- No word, and neither of the two keys, of a thread's. -/
def freeT (g : Gr) (t : TH) : Bool := (findW g.words t.req.no).isNone && !((findK g.keys (10 * t.req.no + 1)).isSome || (findK g.keys (10 * t.req.no + 2)).isSome)
def freeB (g : Gr) (l : List TH) : Bool := l.all fun t => freeT g t
def roomB (g : Gr) (n : Nat) : Bool := decide (g.words.length + n ≤ 20) && decide (g.keys.length + 2 * n ≤ 40)
def lockB (lock : Int) (l : List TH) : Bool := lock == 0 || hasNoT l lock
/-- The events, of so many threads: who has begun, who has returned. -/
def evOk (m : Nat) (bg bk : Nat → Bool) (x : Ev) : Bool := decide (0 ≤ x.thread) && decide (x.thread < m) && !bk x.thread.toNat && (bg x.thread.toNat == x.ret) && (x.ret || (x.resp.code == 0 && x.resp.token == 0 && x.resp.next == 0 && !x.resp.yes))
def setB (f : Nat → Bool) (i : Nat) (b : Bool) (j : Nat) : Bool := if j = i then b else f j
def logOk (m : Nat) : (Nat → Bool) → (Nat → Bool) → List Ev → Bool
 | _, _, [] => true
 | bg, bk, x :: r => evOk m bg bk x && logOk m (setB bg x.thread.toNat true) (setB bk x.thread.toNat x.ret) r
def no0 : Nat → Bool := fun _ => false
def thsB (l : List TH) : Bool := decide (1 ≤ l.length) && decide (l.length ≤ 6) && thrOk [] l
def worldB (x : Wr) : Bool := grantB x.first && storeB x.store && thsB x.ths && lockB x.store.lock x.ths && (roomB x.first x.ths.length && freeB x.first x.ths) && logOk x.ths.length no0 no0 x.log
theorem freeB_at {g : Gr} {l : List TH} {k : Nat} {x : TH} (hx : l[k]? = some x) : freeB g (l.take (k + 1)) = (freeB g (l.take k) && freeT g x) := by
 unfold freeB
 rw [List.take_add_one, hx, Option.toList_some, List.all_append]
 simp
theorem freeB_false {g : Gr} {l : List TH} {k : Nat} {x : TH} (hx : l[k]? = some x) (h : freeT g x = false) : freeB g l = false := by
 unfold freeB
 rw [List.all_eq_false]
 exact ⟨x, List.mem_of_getElem? hx, by rw [h]; simp⟩
theorem freeB_end {g : Gr} {l : List TH} {k : Nat} (hk : l.length ≤ k) : freeB g (l.take k) = freeB g l := by rw [List.take_of_length_le hk]
theorem thrOk_th : ∀ {l seen : List TH}, thrOk seen l = true → ∀ x ∈ l, threadB x = true
 | [], _, _, x, hx => by simp at hx
 | y :: r, seen, h, x, hx => by
  unfold thrOk at h
  simp only [Bool.and_eq_true] at h
  rcases List.mem_cons.1 hx with rfl | hx
  ·exact h.1.1
  ·exact thrOk_th h.2 x hx
theorem threadB_no {t : TH} (h : threadB t = true) : 1 ≤ t.req.no ∧ t.req.no ≤ 99 := by
 unfold threadB at h
 simp only [Bool.and_eq_true] at h
 exact (rq_facts h.1).1
theorem lockB_neg {lock : Int} {l : List TH} : decide (thIx l lock < 0) = !hasNoT l lock := by
 unfold thIx
 cases h : hasNoT l lock
 ·simp
 ·simp
theorem thread1_any (x : TH) (q : Nat) (t : Int) (b : Bool) (hb : (x.req.no == t) = b) (w : World) (hq : w.cell? ⟨q, 0, none⟩ = some (.int .i64 t)) : Calls Tryz.prog 145 #[thV x, .pointer (some ⟨q, 0, none⟩)] w (Ret (.bool b) w) := by
 have hq2 : (w.alloc (.cells #[.int .i64 x.req.no, .int .i64 x.req.kind, .int .i64 x.req.client, .int .i64 x.req.code, .int .i64 x.req.token, .string x.req.proof, .int .i64 x.req.upTo, .int .i64 x.pc, .int .i64 x.ver, .int .i64 x.till, .int .i64 x.resp.code, .int .i64 x.resp.token, .int .i64 x.resp.next, .bool x.resp.yes, .bool x.done] 147)).cell? ⟨q, 0, none⟩ = some (.int .i64 t) := (((Below.refl w.heap.size w).alloc (Nat.le_refl _) _).cell (p := ⟨q, 0, none⟩) (World.block_lt_of_cell? w _ hq)).trans hq
 unfold thV
 clear hq
 cases b with
 | true =>
  go_enter Tryz.func145, Tryz.ntmps145
  go_wp2_with fail
  go_ret
  exact ⟨rfl, by go_grown⟩
 | false =>
  go_enter Tryz.func145, Tryz.ntmps145
  go_wp2_with fail
  go_ret
  exact ⟨rfl, by go_grown⟩
def ThRelW (l : List TH) (t : Int) (w : World) (i : Value) (wr : World) : Prop := ∃ k : Nat, k ≤ l.length ∧ i = .int .i64 k ∧ (∀ (j : Nat) (y : TH), j < k → l[j]? = some y → y.req.no ≠ t) ∧ Below w.heap.size w wr
set_option maxHeartbeats 800000 in
theorem indexTh_any (p : Option Addr) (cap : Nat) (l : List TH) (t : Int) (q : Nat) (w : World) (hl : LIn thL w p l) (hc : l.length ≤ 1048576) (hq : w.cell? ⟨q, 0, none⟩ = some (.int .i64 t)) :
  Calls Tryz.prog 144 #[.slice p l.length cap, .func (.func 145) #[] #[.pointer (some ⟨q, 0, none⟩)]] w (Ret (.int .i64 (thIx l t)) w) := by
 have HL := Lib.hid hl
 have HQ := Lib.hid hq
 have hql := World.block_lt_of_cell? w _ hq
 obtain ⟨n, hn⟩ : ∃ n, n = l.length := ⟨_, rfl⟩
 rw [← hn] at hc ⊢
 have HN := Lib.hid hn
 clear hl hn hq
 go_enter Tryz.func144, Tryz.ntmps144
 go_wp2_with fail
 go_loopw [8] (ThRelW l t w) (fun i _ => n - (RowKit.intOf i).toNat)
 case atStart => exact ⟨0, by omega, rfl, fun j y h => by omega, Below.refl _ _⟩
 case round =>
  obtain ⟨k, hk, rfl, hr, hbel⟩ := hrel
  rw [← HN.out] at hk
  have HR := Lib.hid hr
  have HB := Lib.hid hbel
  have hz := hbel.size
  have HQr := Lib.hid ((hbel.cell (p := ⟨q, 0, none⟩) hql).trans HQ.out)
  clear hr hbel
  by_cases hlt : k < n
  ·obtain ⟨x, hx⟩ : ∃ x, l[k]? = some x := ⟨_, List.getElem?_eq_getElem (by rw [← HN.out]; exact hlt)⟩
   obtain ⟨b, o, rfl, hat⟩ := (HL.out.later HB.out).some hx
   obtain ⟨c0, c1, c2, c3, c4, c5, c6, c7, c8, c9, c10, c11, c12, c13, c14⟩ := th_cells hat hx
   have HX := Lib.hid hx
   have HV := Lib.hid (show thV x = .agg #[.int .i64 x.req.no, .int .i64 x.req.kind, .int .i64 x.req.client, .int .i64 x.req.code, .int .i64 x.req.token, .string x.req.proof, .int .i64 x.req.upTo, .int .i64 x.pc, .int .i64 x.ver, .int .i64 x.till, .int .i64 x.resp.code, .int .i64 x.resp.token, .int .i64 x.resp.next, .bool x.resp.yes, .bool x.done] from rfl)
   clear hx hat
   cases he : x.req.no == t with
   | true =>
    have HE := Lib.hid he
    clear he
    go_wp2_with fail
    rw [← HV.out]
    refine (thread1_any x q t true HE.out _ HQr.out).mono ?_
    rintro e w2 ⟨rfl, hb2⟩
    have HB2 := Lib.hid (HB.out.trans (hb2.mono hz))
    clear hb2
    go_wp2_with fail
    go_ret
    exact ⟨by rw [thIx_at HX.out (by simpa using HE.out) HR.out]; rfl, HB2.out⟩
   | false =>
    have HE := Lib.hid he
    clear he
    go_wp2_with fail
    rw [← HV.out]
    refine (thread1_any x q t false HE.out _ HQr.out).mono ?_
    rintro e w2 ⟨rfl, hb2⟩
    have HB2 := Lib.hid (HB.out.trans (hb2.mono hz))
    clear hb2
    go_wp2_with fail
    go_roundw
    case rel =>
     refine ⟨k + 1, by rw [← HN.out]; omega, by go_num, fun j y hj hy => ?_, HB2.out⟩
     by_cases e : j = k
     ·subst e
      rw [HX.out] at hy
      obtain rfl := Option.some.inj hy
      simpa using HE.out
     ·exact HR.out j y (by omega) hy
    case measure => simp [RowKit.intOf]; omega
  ·go_wp2_with fail
   go_ret
   exact ⟨by rw [thIx_none fun j y hy => HR.out j y (by have := (List.getElem?_eq_some_iff.1 hy).1; rw [← HN.out] at this; omega) hy]; rfl, HB.out⟩
theorem threadOf_any (p : Option Addr) (cap : Nat) (l : List TH) (t : Int) (w : World) (hl : LIn thL w p l) (hc : l.length ≤ 1048576) : Calls Tryz.prog 82 #[.slice p l.length cap, .int .i64 t] w (Ret (.int .i64 (thIx l t)) w) := by
 have hb0 := (Below.refl w.heap.size w).alloc (Nat.le_refl _) (.cells #[.int .i64 t] 2)
 have HL := Lib.hid (hl.later hb0)
 have HQ : Hid ((w.alloc (.cells #[.int .i64 t] 2)).cell? ⟨w.heap.size, 0, none⟩ = some (.int .i64 t)) := Lib.hid (by simp)
 have HB := Lib.hid hb0
 have hz := hb0.size
 obtain ⟨n, hn⟩ : ∃ n, n = l.length := ⟨_, rfl⟩
 rw [← hn]
 have HN := Lib.hid hn
 have HC := Lib.hid hc
 clear hl hb0 hn hc
 go_enter Tryz.func82, Tryz.ntmps82
 go_wp2_with fail
 rw [HN.out]
 refine (indexTh_any p cap l t w.heap.size _ HL.out HC.out HQ.out).mono ?_
 rintro e w2 ⟨rfl, hb2⟩
 have HB2 := Lib.hid (HB.out.trans (hb2.mono hz))
 clear hb2
 go_wp2_with fail
 go_ret
 exact ⟨rfl, HB2.out⟩
theorem threadOf_ext {W : World} {u : Ext W} {p : Option Addr} {n cap : Nat} {l : List TH} {t r : Int} (hn : n = l.length) (hl : LIn thL W p l) (hc : l.length ≤ 1048576) (hr : thIx l t = r) : Calls Tryz.prog 82 #[.slice p n cap, .int .i64 t] u.w fun e w' => e = .returned (.int .i64 r) ∧ ∃ u' : Ext W, w' = u'.w := by
 subst hn hr
 exact calls_ext (threadOf_any p cap l t u.w (hl.later u.below) hc)
end Go.Proofs.YtjccnjfdeedneaaGreat
