/- What FormRead answers: both sides. -/
import Derived.Test.YtjoobpieomhklaaDoorParts
import Derived.Test.YtjoobpieomhklaaDoorText3
namespace Go.Proofs.YtjoobpieomhklaaDoor
open Go Go.RowKit Go.Lib
set_option linter.unusedVariables false

/-- The pairs that the parts of a text are, with what their texts stand for. -/
def readL (s : ByteArray) : List Pr := (splitL s.data.toList).map partP
def rawL (s : ByteArray) : List Pr := (splitL s.data.toList).map rawP
def ReadR (s : ByteArray) (code : Int) (l : List Pr) : Prop :=
  (8000 < s.size ∧ code = 2 ∧ l = []) ∨ (s.size ≤ 8000 ∧ ¬ Apart (readL s) (readL s).length ∧ code = 7 ∧ l = []) ∨
  (s.size ≤ 8000 ∧ Apart (readL s) (readL s).length ∧ ¬ (FormP (readL s) ∧ formT (readL s) = s) ∧ code = 3 ∧ l = []) ∨
  (s.size ≤ 8000 ∧ Apart (readL s) (readL s).length ∧ (FormP (readL s) ∧ formT (readL s) = s) ∧ code = 0 ∧ l = readL s)
theorem readR_one {s : ByteArray} {c c' : Int} {l l' : List Pr} (h : ReadR s c l) (h' : ReadR s c' l') : c = c' ∧ l = l' := by
  rcases h with ⟨h1, rfl, rfl⟩ | ⟨h1, h2, rfl, rfl⟩ | ⟨h1, h2, h3, rfl, rfl⟩ | ⟨h1, h2, h3, rfl, rfl⟩ <;>
  rcases h' with ⟨g1, rfl, rfl⟩ | ⟨g1, g2, rfl, rfl⟩ | ⟨g1, g2, g3, rfl, rfl⟩ | ⟨g1, g2, g3, rfl, rfl⟩ <;>
  first
    | exact ⟨rfl, rfl⟩
    | (exfalso; omega)
    | exact absurd h2 g2
    | exact absurd g2 h2
    | exact absurd h3 g3
    | exact absurd g3 h3
theorem apart_raw (s : ByteArray) : Apart (rawL s) (rawL s).length ↔ Apart (readL s) (readL s).length := by
  have h : ∀ i : Nat, (rawL s)[i]?.map Prod.fst = (readL s)[i]?.map Prod.fst := fun i => by
    simp only [rawL, readL, List.getElem?_map, Option.map_map]
    rfl
  have hl : (rawL s).length = (readL s).length := by simp [rawL, readL]
  have key : ∀ {a b : List Pr}, (∀ i : Nat, a[i]?.map Prod.fst = b[i]?.map Prod.fst) → a.length = b.length → Apart a a.length → Apart b b.length := fun {a b} h hl ha j p hj hp i q hi hq => by
    have h1 := h j
    have h2 := h i
    rw [hp] at h1
    rw [hq] at h2
    obtain ⟨p', hp', e1⟩ := Option.map_eq_some_iff.1 h1
    obtain ⟨q', hq', e2⟩ := Option.map_eq_some_iff.1 h2
    rw [← e1, ← e2]
    exact ha j p' (by omega) hp' i q' hi hq'
  exact ⟨key h hl, key (fun i => (h i).symm) hl.symm⟩
theorem readL_len (s : ByteArray) : (readL s).length ≤ s.size + 1 := by
  rw [readL, List.length_map, size_eq]
  exact splitL_length_le _
theorem part_small {s : ByteArray} (hs : s.size ≤ 8000) : ∀ p ∈ splitL s.data.toList, p.length ≤ 8000 := fun p hp => Nat.le_trans (split_small (l := []) _ s.data.toList (Nat.le_refl _) hp) (by rw [← size_eq]; exact hs)
theorem readL_small {s : ByteArray} (hs : s.size ≤ 8000) : ∀ p ∈ readL s, SmallPr p := fun p hp => by
  obtain ⟨q, hq, rfl⟩ := List.mem_map.1 hp
  have h1 := part_small hs q hq
  have h2 := cutL_len q
  have h3 := decL_len _ (cutL q).2 (Nat.le_refl _)
  unfold SmallPr maxLen partP
  simp only [bs_size]
  omega
theorem rawL_small {s : ByteArray} (hs : s.size ≤ 8000) : ∀ p ∈ rawL s, p.1.size ≤ 8000 ∧ p.2.size ≤ 8000 := fun p hp => by
  obtain ⟨q, hq, rfl⟩ := List.mem_map.1 hp
  have h1 := part_small hs q hq
  have h2 := cutL_len q
  unfold rawP
  simp only [bs_size]
  omega
theorem rawL_get {s : ByteArray} {k : Nat} {p : Pr} (hp : (rawL s)[k]? = some p) : (readL s)[k]? = some (p.1, ⟨(decL p.2.data.toList).toArray⟩) := by
  simp only [rawL, readL, List.getElem?_map] at hp ⊢
  obtain ⟨q, hq, rfl⟩ := Option.map_eq_some_iff.1 hp
  rw [hq]
  simp [partP, rawP, bs]
theorem textTo_ne {l : List Pr} (hf : FormP l) : ∀ k, textTo l (k + 1) = [] → l[k]? = none := fun k h => by
  rw [textTo] at h
  have h1 := (List.append_eq_nil_iff.1 h).2
  cases hp : l[k]? with
  | none => rfl
  | some p =>
    rw [pairAtL_some hp] at h1
    simp [pairL] at h1
theorem formT_ne {l : List Pr} (hf : FormP l) : formT l ≠ ⟨#[]⟩ := fun h => by
  have h1 : textTo l l.length = [] := by
    have := congrArg (fun b : ByteArray => b.data.toList) h
    simpa [formT] using this
  obtain ⟨k, hk⟩ : ∃ k, l.length = k + 1 := ⟨l.length - 1, by have := hf.1; omega⟩
  rw [hk] at h1
  have h2 := textTo_ne hf k h1
  have h3 := List.getElem?_eq_none_iff.1 h2
  omega
/-- Some pairs are made anew, one after the other. -/
def mixL (a b : List Pr) (k : Nat) : List Pr := a.take k ++ b.drop k
theorem mix_get {a b : List Pr} {k : Nat} (h : a.length = b.length) (hk : k < a.length) : (mixL a b k)[k]? = b[k]? := by
  unfold mixL
  rw [List.getElem?_append_right (by rw [List.length_take]; omega), List.length_take, Nat.min_eq_left (by omega), Nat.sub_self, List.getElem?_drop, Nat.add_zero]
theorem mix_cells {a b : List Pr} {k : Nat} {p q : Pr} (h : a.length = b.length) (hp : b[k]? = some p) (hq : a[k]? = some q) (sp : List Value) :
    putCells ((mixL a b k).flatMap pairCf ++ sp) (k * 2) (pairCf q) = (mixL a b (k + 1)).flatMap pairCf ++ sp ∧ (mixL a b k).flatMap pairCf ++ sp = (a.take k).flatMap pairCf ++ (pairCf p ++ ((b.drop (k + 1)).flatMap pairCf ++ sp)) := by
  obtain ⟨hk, hpe⟩ := List.getElem?_eq_some_iff.1 hp
  have hla : ((a.take k).flatMap pairCf).length = k * 2 := by rw [flat_len pairCf_len, List.length_take, Nat.min_eq_left (by omega)]
  have e1 : (mixL a b k).flatMap pairCf ++ sp = (a.take k).flatMap pairCf ++ (pairCf p ++ ((b.drop (k + 1)).flatMap pairCf ++ sp)) := by
    unfold mixL
    rw [List.drop_eq_getElem_cons hk, hpe]
    simp
  refine ⟨?_, e1⟩
  rw [e1, ← hla, putCells_mid (pairCf q) _ (pairCf p) _ rfl]
  unfold mixL
  rw [List.take_add_one, hq, Option.toList_some]
  simp
end Go.Proofs.YtjoobpieomhklaaDoor
