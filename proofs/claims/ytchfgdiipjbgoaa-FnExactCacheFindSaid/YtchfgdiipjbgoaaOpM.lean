/- Which keys open; what is found in a grant. -/
import Derived.Test.YtchfgdiipjbgoaaGr
namespace Go.Proofs.Ytchfgdiipjbgoaa
open Go Go.RowKit Go.Lib
set_option linter.unusedVariables false

def findW (l : List Wd) (i : Int) : Option Wd := l.find? fun x => x.no == i
def findK (l : List Ky) (i : Int) : Option Ky := l.find? fun x => x.no == i
def isDeadB (l : List Int) (f : Int) : Bool := l.any fun d => d == f
def keyOpenB (now : Int) (dead : List Int) (x : Ky) : Bool := x.state == 0 && decide (now ≤ x.till) && !isDeadB dead x.fam
def opensAt (g : Gr) (no client : Int) : Bool := match findK g.keys no with
  | none => false
  | some x => x.client == client && keyOpenB g.now g.dead x
def opensB (g : Gr) (no client : Int) : Bool := grantB g && opensAt g no client
theorem findK_none {l : List Ky} {n : Int} (h : ∀ (j : Nat) (y : Ky), l[j]? = some y → y.no ≠ n) : findK l n = none := by
  unfold findK
  rw [List.find?_eq_none]
  intro x hx
  obtain ⟨j, hj⟩ := List.getElem?_of_mem hx
  simpa using h j x hj
theorem findK_some {l : List Ky} {n : Int} {k : Nat} {x : Ky} (hx : l[k]? = some x) (hn : x.no = n) (h : ∀ (j : Nat) (y : Ky), j < k → l[j]? = some y → y.no ≠ n) : findK l n = some x := by
  induction l generalizing k with
  | nil => simp at hx
  | cons y r ih =>
    unfold findK
    rw [List.find?_cons]
    cases k with
    | zero =>
      obtain rfl : y = x := by simpa using hx
      have e : (y.no == n) = true := by simpa using hn
      rw [e]
    | succ k =>
      have e : (y.no == n) = false := by simpa using h 0 y (by omega) rfl
      rw [e]
      exact ih (by simpa using hx) fun j z hj hz => h (j + 1) z (by omega) (by simpa using hz)
theorem findW_none {l : List Wd} {n : Int} (h : ∀ (j : Nat) (y : Wd), l[j]? = some y → y.no ≠ n) : findW l n = none := by
  unfold findW
  rw [List.find?_eq_none]
  intro x hx
  obtain ⟨j, hj⟩ := List.getElem?_of_mem hx
  simpa using h j x hj
theorem findW_some {l : List Wd} {n : Int} {k : Nat} {x : Wd} (hx : l[k]? = some x) (hn : x.no = n) (h : ∀ (j : Nat) (y : Wd), j < k → l[j]? = some y → y.no ≠ n) : findW l n = some x := by
  induction l generalizing k with
  | nil => simp at hx
  | cons y r ih =>
    unfold findW
    rw [List.find?_cons]
    cases k with
    | zero =>
      obtain rfl : y = x := by simpa using hx
      have e : (y.no == n) = true := by simpa using hn
      rw [e]
    | succ k =>
      have e : (y.no == n) = false := by simpa using h 0 y (by omega) rfl
      rw [e]
      exact ih (by simpa using hx) fun j z hj hz => h (j + 1) z (by omega) (by simpa using hz)
theorem isDead_no {l : List Int} {n : Int} (h : ∀ (j : Nat) (y : Int), l[j]? = some y → y ≠ n) : isDeadB l n = false := by
  unfold isDeadB
  rw [List.any_eq_false]
  intro x hx
  obtain ⟨j, hj⟩ := List.getElem?_of_mem hx
  simpa using h j x hj
theorem isDead_yes {l : List Int} {n : Int} {k : Nat} {x : Int} (hx : l[k]? = some x) (h : x = n) : isDeadB l n = true := by
  unfold isDeadB
  rw [List.any_eq_true]
  exact ⟨x, List.mem_of_getElem? hx, by simpa using h⟩
/-- The place of a key, or -1. -/
def keyIx (l : List Ky) (n : Int) : Int := match findK l n with
  | none => -1
  | some _ => ((l.findIdx fun x => x.no == n : Nat) : Int)
theorem keyIx_none {l : List Ky} {n : Int} (h : findK l n = none) : keyIx l n = -1 := by simp [keyIx, h]
theorem keyIx_at {l : List Ky} {n : Int} {k : Nat} {x : Ky} (hx : l[k]? = some x) (hn : x.no = n) (h : ∀ (j : Nat) (y : Ky), j < k → l[j]? = some y → y.no ≠ n) : keyIx l n = (k : Nat) := by
  obtain ⟨hk, he⟩ := List.getElem?_eq_some_iff.1 hx
  have hi : (l.findIdx fun x => x.no == n) = k := (List.findIdx_eq hk).2 ⟨by rw [he]; simpa using hn, fun j hjk => by
    have hjl : j < l.length := by omega
    simpa using h j l[j] hjk (List.getElem?_eq_getElem hjl)⟩
  simp [keyIx, findK_some hx hn h, hi]
theorem keyIx_some {l : List Ky} {n : Int} {x : Ky} (h : findK l n = some x) : ∃ k : Nat, keyIx l n = (k : Nat) ∧ l[k]? = some x ∧ x.no = n := by
  have hn : x.no = n := by have := List.find?_some h; simpa using this
  have hlt : (l.findIdx fun x => x.no == n) < l.length := List.findIdx_lt_length_of_exists ⟨x, List.mem_of_find?_eq_some h, by simpa using hn⟩
  refine ⟨l.findIdx fun x => x.no == n, by simp [keyIx, h], ?_, hn⟩
  have h2 : l.find? (fun x => x.no == n) = l[l.findIdx fun x => x.no == n]? := List.find?_eq_getElem?_findIdx ..
  unfold findK at h
  rw [← h2, h]
end Go.Proofs.Ytchfgdiipjbgoaa
