/- Grants as data: words, keys, the dead; where they lie; which are right. -/
import Derived.Test.YtchfgdiipjbgoaaRow
import Derived.Test.YtchfgdiipjbgoaaIs
import Derived.Test.YtchfgdiipjbgoaaRet
import Derived.Outline
namespace Go.Proofs.Ytchfgdiipjbgoaa
open Go Go.RowKit Go.Lib
set_option linter.unusedVariables false

/-- In block b from o on lie the items l; cf is what cells one has. -/
def LAt {α : Type} (cf : α → List Value) (w : World) (b o : Nat) (l : List α) : Prop := w.rangeAt b o (l.flatMap cf)
def LIn {α : Type} (cf : α → List Value) (w : World) (p : Option Addr) (l : List α) : Prop := l = [] ∨ ∃ b o, p = some ⟨b, o, none⟩ ∧ LAt cf w b o l
theorem LAt.later {α : Type} {cf : α → List Value} {w w1 : World} {b o : Nat} {l : List α} (h : LAt cf w b o l) (hb : Below w.heap.size w w1) : LAt cf w1 b o l := rangeAt_later h hb
theorem LAt.below {α : Type} {cf : α → List Value} {w w' : World} {B b o : Nat} {l : List α} (h : LAt cf w b o l) (hb : Below B w w') (hB : b < B) : LAt cf w' b o l := rangeAt_below h hb hB
theorem LIn.later {α : Type} {cf : α → List Value} {w w1 : World} {p : Option Addr} {l : List α} (h : LIn cf w p l) (hb : Below w.heap.size w w1) : LIn cf w1 p l := by
  rcases h with h | ⟨b, o, h1, h2⟩
  · exact .inl h
  · exact .inr ⟨b, o, h1, h2.later hb⟩
theorem LIn.some {α : Type} {cf : α → List Value} {w : World} {p : Option Addr} {l : List α} (h : LIn cf w p l) {k : Nat} {x : α} (hk : l[k]? = some x) : ∃ b o, p = some ⟨b, o, none⟩ ∧ LAt cf w b o l := by
  rcases h with rfl | h
  · simp at hk
  · exact h
theorem LIn.of {α : Type} {cf : α → List Value} {w : World} {b o : Nat} {l : List α} (h : LAt cf w b o l) : LIn cf w (.some ⟨b, o, none⟩) l := .inr ⟨b, o, rfl, h⟩

/-- A word; a key; a grant. -/
structure Wd where
  no : Int
  client : Int
  shade : ByteArray
  till : Int
  used : Bool
structure Ky where
  no : Int
  client : Int
  fam : Int
  refresh : Bool
  till : Int
  state : Int
structure Gr where
  now : Int
  words : List Wd
  keys : List Ky
  dead : List Int
def wdCf (x : Wd) : List Value := [.int .i64 x.no, .int .i64 x.client, .string x.shade, .int .i64 x.till, .bool x.used]
def kyCf (x : Ky) : List Value := [.int .i64 x.no, .int .i64 x.client, .int .i64 x.fam, .bool x.refresh, .int .i64 x.till, .int .i64 x.state]
def inCf (n : Int) : List Value := [.int .i64 n]
theorem wdCf_len (x : Wd) : (wdCf x).length = 5 := rfl
theorem kyCf_len (x : Ky) : (kyCf x).length = 6 := rfl
theorem inCf_len (n : Int) : (inCf n).length = 1 := rfl
def wdV (x : Wd) : Value := .agg #[.int .i64 x.no, .int .i64 x.client, .string x.shade, .int .i64 x.till, .bool x.used]
def kyV (x : Ky) : Value := .agg #[.int .i64 x.no, .int .i64 x.client, .int .i64 x.fam, .bool x.refresh, .int .i64 x.till, .int .i64 x.state]
theorem wd_cells {w : World} {b o : Nat} {l : List Wd} (h : LAt wdCf w b o l) {i : Nat} {x : Wd} (hi : l[i]? = some x) :
    w.cell? ⟨b, o + i * 5, none⟩ = some (.int .i64 x.no) ∧ w.cell? ⟨b, o + i * 5 + 1, none⟩ = some (.int .i64 x.client) ∧ w.cell? ⟨b, o + i * 5 + 2, none⟩ = some (.string x.shade) ∧ w.cell? ⟨b, o + i * 5 + 3, none⟩ = some (.int .i64 x.till) ∧ w.cell? ⟨b, o + i * 5 + 4, none⟩ = some (.bool x.used) :=
  have hr := rangeAt_elem wdCf_len h hi
  ⟨hr 0 _ rfl, hr 1 _ rfl, hr 2 _ rfl, hr 3 _ rfl, hr 4 _ rfl⟩
theorem ky_cells {w : World} {b o : Nat} {l : List Ky} (h : LAt kyCf w b o l) {i : Nat} {x : Ky} (hi : l[i]? = some x) :
    w.cell? ⟨b, o + i * 6, none⟩ = some (.int .i64 x.no) ∧ w.cell? ⟨b, o + i * 6 + 1, none⟩ = some (.int .i64 x.client) ∧ w.cell? ⟨b, o + i * 6 + 2, none⟩ = some (.int .i64 x.fam) ∧ w.cell? ⟨b, o + i * 6 + 3, none⟩ = some (.bool x.refresh) ∧ w.cell? ⟨b, o + i * 6 + 4, none⟩ = some (.int .i64 x.till) ∧ w.cell? ⟨b, o + i * 6 + 5, none⟩ = some (.int .i64 x.state) :=
  have hr := rangeAt_elem kyCf_len h hi
  ⟨hr 0 _ rfl, hr 1 _ rfl, hr 2 _ rfl, hr 3 _ rfl, hr 4 _ rfl, hr 5 _ rfl⟩
theorem in_cells {w : World} {b o : Nat} {l : List Int} (h : LAt inCf w b o l) {i : Nat} {x : Int} (hi : l[i]? = some x) : w.cell? ⟨b, o + i, none⟩ = some (.int .i64 x) := by
  have hr := rangeAt_elem inCf_len h hi 0 _ rfl
  simpa using hr

/-- Where the lists of a grant lie. -/
structure GH where
  wp : Option Addr
  wn : Nat
  wc : Nat
  kp : Option Addr
  kn : Nat
  kc : Nat
  dp : Option Addr
  dn : Nat
  dc : Nat
def grV (now : Int) (h : GH) : Value := .agg #[.int .i64 now, .slice h.wp h.wn h.wc, .slice h.kp h.kn h.kc, .slice h.dp h.dn h.dc]
def GrIn (w : World) (h : GH) (g : Gr) : Prop := (h.wn = g.words.length ∧ h.kn = g.keys.length ∧ h.dn = g.dead.length) ∧ LIn wdCf w h.wp g.words ∧ LIn kyCf w h.kp g.keys ∧ LIn inCf w h.dp g.dead
theorem GrIn.later {w w1 : World} {h : GH} {g : Gr} (hg : GrIn w h g) (hb : Below w.heap.size w w1) : GrIn w1 h g := ⟨hg.1, hg.2.1.later hb, hg.2.2.1.later hb, hg.2.2.2.later hb⟩
/-- The lists of a grant are short enough to be walked. -/
def GrSmall (g : Gr) : Prop := g.words.length ≤ 1048576 ∧ g.keys.length ≤ 1048576 ∧ g.dead.length ≤ 1048576 ∧ ∀ x ∈ g.words, x.shade.size ≤ maxLen

/-- Which grants are right. -/
def wordOk (b : Int) (x : Wd) : Bool := decide (b < x.no) && decide (x.no ≤ 99) && isB x.client 1 3 && proofB x.shade && isB x.till 0 1000000
def wordsOk : Int → List Wd → Bool
  | _, [] => true
  | b, x :: r => wordOk b x && wordsOk x.no r
def hasNo (l : List Wd) (n : Int) : Bool := l.any fun x => x.no == n
def stateB (x : Ky) : Bool := isB x.state 0 2 && !(x.refresh && x.state == 2)
def keyOk (l : List Wd) (b : Int) (x : Ky) : Bool := decide (b < x.no) && decide (x.no ≤ 999) && isB x.client 1 3 && hasNo l x.fam && isB x.till 0 1000000 && stateB x
def keysOk (l : List Wd) : Int → List Ky → Bool
  | _, [] => true
  | b, x :: r => keyOk l b x && keysOk l x.no r
def deadOk (l : List Wd) : Int → List Int → Bool
  | _, [] => true
  | b, x :: r => decide (b < x) && hasNo l x && deadOk l x r
def grantB (g : Gr) : Bool := isB g.now 0 1000000 && decide (g.words.length ≤ 20) && decide (g.keys.length ≤ 40) && wordsOk 0 g.words && keysOk g.words 0 g.keys && deadOk g.words 0 g.dead

theorem drop_cons {α : Type} {l : List α} {k : Nat} {x : α} (h : l[k]? = some x) : l.drop k = x :: l.drop (k + 1) := by
  obtain ⟨hk, he⟩ := List.getElem?_eq_some_iff.1 h
  rw [List.drop_eq_getElem_cons hk, he]
theorem wordsOk_up {l : List Wd} : ∀ {b : Int}, wordsOk b l = true → (∀ x ∈ l, b < x.no) := by
  induction l with
  | nil => intro b _ x hx; cases hx
  | cons y r ih =>
    intro b h
    unfold wordsOk wordOk at h
    simp only [Bool.and_eq_true, decide_eq_true_eq] at h
    intro x hx
    rcases List.mem_cons.1 hx with rfl | hx
    · omega
    · have := ih h.2 x hx
      omega
theorem deadOk_up {ws : List Wd} {l : List Int} : ∀ {b : Int}, deadOk ws b l = true → (∀ x ∈ l, b < x ∧ hasNo ws x = true) := by
  induction l with
  | nil => intro b _ x hx; cases hx
  | cons y r ih =>
    intro b h
    unfold deadOk at h
    simp only [Bool.and_eq_true, decide_eq_true_eq] at h
    intro x hx
    rcases List.mem_cons.1 hx with rfl | hx
    · exact ⟨h.1.1, h.1.2⟩
    · have := ih h.2 x hx
      exact ⟨by omega, this.2⟩
theorem deadOk_le {ws : List Wd} {l : List Int} {b : Int} : ∀ {a : Int} {us : List Wd}, wordsOk a us = true → deadOk ws b l = true → (∀ x ∈ l, hasNo us x = true) → l.length ≤ us.length := by
  intro a us
  induction us generalizing a b l with
  | nil =>
    intro _ _ h
    cases l with
    | nil => simp
    | cons y r => have := h y (by simp); simp [hasNo] at this
  | cons u r ih =>
    intro hw hd h
    have hu := hw
    unfold wordsOk wordOk at hu
    simp only [Bool.and_eq_true, decide_eq_true_eq] at hu
    cases l with
    | nil => simp
    | cons y t =>
      have hdt := hd
      unfold deadOk at hdt
      simp only [Bool.and_eq_true, decide_eq_true_eq] at hdt
      have hy := h y (by simp)
      have hup := deadOk_up hdt.2
      have hmem : ∀ x, u.no < x → hasNo (u :: r) x = true → hasNo r x = true := by
        intro x hx hh
        unfold hasNo at hh ⊢
        rw [List.any_cons, Bool.or_eq_true] at hh
        rcases hh with hh | hh
        · have := eq_of_beq hh; omega
        · exact hh
      have hle : u.no ≤ y := by
        unfold hasNo at hy
        rw [List.any_cons, Bool.or_eq_true] at hy
        rcases hy with hy | hy
        · have := eq_of_beq hy; omega
        · obtain ⟨z, hz, hzy⟩ := List.any_eq_true.1 hy
          have := wordsOk_up hu.2 z hz
          have := eq_of_beq hzy
          omega
      have h2 := ih hu.2 hdt.2 (fun x hx => hmem x (by have := (hup x hx).1; omega) (h x (List.mem_cons_of_mem _ hx)))
      simp only [List.length_cons]
      omega
end Go.Proofs.Ytchfgdiipjbgoaa
