/- Stores as data: entries, a store; where they lie; which are right. -/
import Derived.Test.YtchfgdiipjbgoaaGrS2
namespace Go.Proofs.Ytchfgdiipjbgoaa
open Go Go.RowKit Go.Lib
set_option linter.unusedVariables false

structure En where
  token : Int
  client : Int
  till : Int
  ver : Int
def enCf (x : En) : List Value := [.int .i64 x.token, .int .i64 x.client, .int .i64 x.till, .int .i64 x.ver]
def enV (x : En) : Value := .agg #[.int .i64 x.token, .int .i64 x.client, .int .i64 x.till, .int .i64 x.ver]
theorem enCf_len (x : En) : (enCf x).length = 4 := rfl
theorem en_cells {w : World} {b o : Nat} {l : List En} (h : LAt enCf w b o l) {i : Nat} {x : En} (hi : l[i]? = some x) :
    w.cell? ⟨b, o + i * 4, none⟩ = some (.int .i64 x.token) ∧ w.cell? ⟨b, o + i * 4 + 1, none⟩ = some (.int .i64 x.client) ∧ w.cell? ⟨b, o + i * 4 + 2, none⟩ = some (.int .i64 x.till) ∧ w.cell? ⟨b, o + i * 4 + 3, none⟩ = some (.int .i64 x.ver) :=
  have hr := rangeAt_elem enCf_len h hi
  ⟨hr 0 _ rfl, hr 1 _ rfl, hr 2 _ rfl, hr 3 _ rfl⟩
structure St where
  gr : Gr
  ver : Int
  lock : Int
  cache : List En
structure SH where
  gh : GH
  cp : Option Addr
  cn : Nat
  cc : Nat
def stL (s : St) (h : SH) : List Value := [.int .i64 s.gr.now, .slice h.gh.wp h.gh.wn h.gh.wc, .slice h.gh.kp h.gh.kn h.gh.kc, .slice h.gh.dp h.gh.dn h.gh.dc, .int .i64 s.ver, .int .i64 s.lock, .slice h.cp h.cn h.cc]
def stV (s : St) (h : SH) : Value := .agg #[.int .i64 s.gr.now, .slice h.gh.wp h.gh.wn h.gh.wc, .slice h.gh.kp h.gh.kn h.gh.kc, .slice h.gh.dp h.gh.dn h.gh.dc, .int .i64 s.ver, .int .i64 s.lock, .slice h.cp h.cn h.cc]
def StIn (w : World) (h : SH) (s : St) : Prop := GrIn w h.gh s.gr ∧ h.cn = s.cache.length ∧ LIn enCf w h.cp s.cache
theorem StIn.later {w w1 : World} {h : SH} {s : St} (hg : StIn w h s) (hb : Below w.heap.size w w1) : StIn w1 h s := ⟨GrIn.later hg.1 hb, hg.2.1, hg.2.2.later hb⟩
def StSmall (s : St) : Prop := GrSmall s.gr ∧ s.cache.length ≤ 1048576
/-- Which stores are right. -/
def entryB (x : En) : Bool := isB x.token 1 999 && isB x.client 1 3 && isB x.till 0 1000000 && isB x.ver 0 1000000
def hasTok (l : List En) (t : Int) : Bool := l.any fun x => x.token == t
def cacheOk : List En → List En → Bool
  | _, [] => true
  | seen, x :: r => entryB x && !hasTok seen x.token && cacheOk (seen ++ [x]) r
def storeB (s : St) : Bool := grantB s.gr && isB s.ver 0 1000000 && isB s.lock 0 99 && decide (s.cache.length ≤ 4) && cacheOk [] s.cache
theorem cacheOk_at {l : List En} {k : Nat} {x : En} (hx : l[k]? = some x) : cacheOk (l.take k) (l.drop k) = (entryB x && !hasTok (l.take k) x.token && cacheOk (l.take (k + 1)) (l.drop (k + 1))) := by
  rw [drop_cons hx, cacheOk, List.take_add_one, hx, Option.toList_some]
theorem cacheOk_end {l : List En} {k : Nat} (hk : l.length ≤ k) : cacheOk (l.take k) (l.drop k) = true := by
  rw [List.drop_of_length_le hk]; rfl
/-- The place of a token, or -1. -/
def enIx (l : List En) (t : Int) : Int := if hasTok l t then ((l.findIdx fun x => x.token == t : Nat) : Int) else -1
theorem hasTok_no {l : List En} {t : Int} (h : ∀ (j : Nat) (y : En), l[j]? = some y → y.token ≠ t) : hasTok l t = false := by
  unfold hasTok
  rw [List.any_eq_false]
  intro x hx
  obtain ⟨j, hj⟩ := List.getElem?_of_mem hx
  simpa using h j x hj
theorem hasTok_yes {l : List En} {t : Int} {k : Nat} {x : En} (hx : l[k]? = some x) (h : x.token = t) : hasTok l t = true := by
  unfold hasTok
  rw [List.any_eq_true]
  exact ⟨x, List.mem_of_getElem? hx, by simpa using h⟩
theorem enIx_none {l : List En} {t : Int} (h : ∀ (j : Nat) (y : En), l[j]? = some y → y.token ≠ t) : enIx l t = -1 := by simp [enIx, hasTok_no h]
theorem enIx_at {l : List En} {t : Int} {k : Nat} {x : En} (hx : l[k]? = some x) (hn : x.token = t) (h : ∀ (j : Nat) (y : En), j < k → l[j]? = some y → y.token ≠ t) : enIx l t = (k : Nat) := by
  obtain ⟨hk, he⟩ := List.getElem?_eq_some_iff.1 hx
  have hi : (l.findIdx fun x => x.token == t) = k := (List.findIdx_eq hk).2 ⟨by rw [he]; simpa using hn, fun j hjk => by
    have hjl : j < l.length := by omega
    simpa using h j l[j] hjk (List.getElem?_eq_getElem hjl)⟩
  simp [enIx, hasTok_yes hx hn, hi]
theorem enIx_some {l : List En} {t : Int} (h : hasTok l t = true) : ∃ (k : Nat) (x : En), enIx l t = (k : Nat) ∧ l[k]? = some x ∧ x.token = t ∧ ∀ (j : Nat) (y : En), j < k → l[j]? = some y → y.token ≠ t := by
  obtain ⟨x, hx, hn⟩ := List.any_eq_true.1 h
  have hlt : (l.findIdx fun x => x.token == t) < l.length := List.findIdx_lt_length_of_exists ⟨x, hx, hn⟩
  refine ⟨l.findIdx fun x => x.token == t, l[l.findIdx fun x => x.token == t], by simp [enIx, h], List.getElem?_eq_getElem hlt, by simpa using List.findIdx_getElem (w := hlt), fun j y hj hy => ?_⟩
  obtain ⟨h1, h2⟩ := List.getElem?_eq_some_iff.1 hy
  have := List.not_of_lt_findIdx hj
  rw [h2] at this
  simpa using this
theorem enIx_nonneg {l : List En} {t : Int} : decide (0 ≤ enIx l t) = hasTok l t := by
  unfold enIx
  cases h : hasTok l t
  · simp
  · simp
/-- The first place of a token that stands at place k is k, if it does not stand ahead of it. -/
theorem enIx_first {l : List En} {k : Nat} {x : En} (hx : l[k]? = some x) : (enIx l x.token != (k : Nat)) = hasTok (l.take k) x.token := by
  cases h : hasTok (l.take k) x.token with
  | false =>
    rw [enIx_at hx rfl fun j y hj hy he => ?_]
    · simp
    · have : hasTok (l.take k) x.token = true := hasTok_yes (k := j) (x := y) (by rw [List.getElem?_take_of_lt hj]; exact hy) he
      rw [h] at this; cases this
  | true =>
    obtain ⟨j, y, _, h2, h3, _⟩ := enIx_some h
    have hj : j < k := by have := (List.getElem?_eq_some_iff.1 h2).1; rw [List.length_take] at this; omega
    rw [List.getElem?_take_of_lt hj] at h2
    obtain ⟨i, z, g1, g2, g3, g4⟩ := enIx_some (hasTok_yes h2 h3)
    rw [g1]
    have : i ≤ j := by
      rcases Nat.lt_or_ge j i with h | h
      · exact absurd h3 (g4 j y h h2)
      · exact h
    have e : (i : Int) ≠ (k : Int) := by omega
    simpa using e
end Go.Proofs.Ytchfgdiipjbgoaa
