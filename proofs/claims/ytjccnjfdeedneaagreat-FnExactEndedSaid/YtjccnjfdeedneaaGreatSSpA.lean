/- The model's grant behind a pointer: what lies where, lists put together. -/
import Derived.Test.YtjccnjfdeedneaaGreatSGdA
import Derived.Test.YtjccnjfdeedneaaGreatSGdD
import Derived.Test.YtjccnjfdeedneaaGreatSGdB
import Derived.Laws.AppendOwnNone
import Derived.OwnWalk
import Derived.Test.YtjccnjfdeedneaaGreatSSpA0
namespace Go.Proofs.YtjccnjfdeedneaaGreat
open Go Go.RowKit Go.Lib
set_option linter.unusedVariables false
set_option maxRecDepth 100000

def grL (now : Int) (h : GH) : List Value := [.int .i64 now, .slice h.wp h.wn h.wc, .slice h.kp h.kn h.kc, .slice h.dp h.dn h.dc]
/-- The block in which a grant lies first: its type, and what lies behind the grant. -/
structure Tail where
 ty : TypeId
 rest : List Value
 hW : ty ≠ 163
 hK : ty ≠ 127
 hI : ty ≠ 2
def tailG : Tail := ⟨31, [], by decide, by decide, by decide⟩
/-- At p lies the grant g, whose lists are the call's own. -/
structure GrAt (tl : Tail) (N : Nat) (w : World) (p : Nat) (h : GH) (g : Gr) : Prop where
 row : Row w p tl.ty (grL g.now h ++ tl.rest)
 words : w.ownsRow N 163 5 (.slice h.wp h.wn h.wc) g.words.length (g.words.flatMap wdCf)
 keys : w.ownsRow N 127 6 (.slice h.kp h.kn h.kc) g.keys.length (g.keys.flatMap kyCf)
 dead : w.ownsRow N 2 1 (.slice h.dp h.dn h.dc) g.dead.length (g.dead.flatMap inCf)
 place : N ≤ p
section
variable {tl : Tail} {N p : Nat} {w w' : World} {h : GH} {g : Gr}
theorem GrAt.later (k : GrAt tl N w p h g) (hb : Below w.heap.size w w') : GrAt tl N w' p h g := ⟨k.row.below hb k.row.lt, own_late k.words hb, own_late k.keys hb, own_late k.dead hb, k.place⟩
theorem GrAt.isIn (k : GrAt tl N w p h g) : GrIn w h g := by
 refine ⟨⟨own_len k.words, own_len k.keys, own_len k.dead⟩, ?_, ?_, ?_⟩
 ·rcases Nat.eq_zero_or_pos g.words.length with h0 | h0
  ·exact .inl (List.eq_nil_of_length_eq_zero h0)
  ·obtain ⟨gN, h1, _, _, _, h2⟩ := own_some k.words h0
   exact .inr ⟨gN, 0, h1, fun j u hj => by rw [Nat.zero_add]; exact h2 j u hj⟩
 ·rcases Nat.eq_zero_or_pos g.keys.length with h0 | h0
  ·exact .inl (List.eq_nil_of_length_eq_zero h0)
  ·obtain ⟨gN, h1, _, _, _, h2⟩ := own_some k.keys h0
   exact .inr ⟨gN, 0, h1, fun j u hj => by rw [Nat.zero_add]; exact h2 j u hj⟩
 ·rcases Nat.eq_zero_or_pos g.dead.length with h0 | h0
  ·exact .inl (List.eq_nil_of_length_eq_zero h0)
  ·obtain ⟨gN, h1, _, _, _, h2⟩ := own_some k.dead h0
   exact .inr ⟨gN, 0, h1, fun j u hj => by rw [Nat.zero_add]; exact h2 j u hj⟩
end
/-- Put in its place: behind all that are less. -/
theorem insD_at {l : List Int} {f : Int} {k : Nat} (h1 : ∀ j y, j < k → l[j]? = some y → y < f) (h2 : ∀ y, l[k]? = some y → f < y) (hk : k ≤ l.length) : insD l f = l.take k ++ f :: l.drop k := by
 induction l generalizing k with
 | nil => simp [insD]
 | cons d r ih =>
  cases k with
  | zero =>
   have := h2 d rfl
   unfold insD
   rw [if_neg (by omega), if_neg (by omega)]; rfl
  | succ k =>
   have := h1 0 d (by omega) rfl
   unfold insD
   rw [if_pos this, ih (k := k) (fun j y hj hy => h1 (j + 1) y (by omega) (by simpa using hy)) (fun y hy => h2 y (by simpa using hy)) (by simpa using hk)]
   rfl
theorem insD_there {l : List Int} {f : Int} {k : Nat} (h1 : ∀ j y, j < k → l[j]? = some y → y < f) (h2 : l[k]? = some f) : insD l f = l := by
 induction l generalizing k with
 | nil => simp at h2
 | cons d r ih =>
  cases k with
  | zero =>
   obtain rfl : d = f := by simpa using h2
   unfold insD
   rw [if_neg (by omega), if_pos rfl]
  | succ k =>
   have := h1 0 d (by omega) rfl
   unfold insD
   rw [if_pos this, ih (k := k) (fun j y hj hy => h1 (j + 1) y (by omega) (by simpa using hy)) (by simpa using h2)]
theorem insW_at {l : List Wd} {f : Wd} {k : Nat} (h1 : ∀ j y, j < k → l[j]? = some y → y.no < f.no) (h2 : ∀ y, l[k]? = some y → ¬ y.no < f.no) (hk : k ≤ l.length) : insW l f = l.take k ++ f :: l.drop k := by
 induction l generalizing k with
 | nil => simp [insW]
 | cons d r ih =>
  cases k with
  | zero =>
   have := h2 d rfl
   unfold insW
   rw [if_neg this]; rfl
  | succ k =>
   have := h1 0 d (by omega) rfl
   unfold insW
   rw [if_pos this, ih (k := k) (fun j y hj hy => h1 (j + 1) y (by omega) (by simpa using hy)) (fun y hy => h2 y (by simpa using hy)) (by simpa using hk)]
   rfl
theorem insK_at {l : List Ky} {f : Ky} {k : Nat} (h1 : ∀ j y, j < k → l[j]? = some y → y.no < f.no) (h2 : ∀ y, l[k]? = some y → ¬ y.no < f.no) (hk : k ≤ l.length) : insK l f = l.take k ++ f :: l.drop k := by
 induction l generalizing k with
 | nil => simp [insK]
 | cons d r ih =>
  cases k with
  | zero =>
   have := h2 d rfl
   unfold insK
   rw [if_neg this]; rfl
  | succ k =>
   have := h1 0 d (by omega) rfl
   unfold insK
   rw [if_pos this, ih (k := k) (fun j y hj hy => h1 (j + 1) y (by omega) (by simpa using hy)) (fun y hy => h2 y (by simpa using hy)) (by simpa using hk)]
   rfl
end Go.Proofs.YtjccnjfdeedneaaGreat
