/- Parts between '&': plain mathematics on lists of bytes. -/
import Derived.Lib.Split
import Derived.Lib.SplitLaws
import Derived.Lib.CountLaws
namespace Go.Proofs.YtjoobpieomhklaaDoor
open Go Go.Lib
set_option linter.unusedVariables false

def splitL : List UInt8 → List (List UInt8)
  | [] => [[]]
  | c :: r => if c = 38 then [] :: splitL r else match splitL r with
    | [] => [[c]]
    | p :: ps => (c :: p) :: ps
theorem splitL_ne (l : List UInt8) : splitL l ≠ [] := by
  cases l with
  | nil => simp [splitL]
  | cons c r =>
    unfold splitL
    split
    · simp
    · split <;> simp
theorem splitL_none : ∀ l : List UInt8, (38 : UInt8) ∉ l → splitL l = [l]
  | [], _ => rfl
  | c :: r, h => by
    have h1 : c ≠ 38 := fun e => h (by simp [e])
    have h2 := splitL_none r (fun e => h (by simp [e]))
    rw [splitL, if_neg h1, h2]
theorem splitL_hit : ∀ (pre post : List UInt8), (38 : UInt8) ∉ pre → splitL (pre ++ 38 :: post) = pre :: splitL post
  | [], post, _ => by simp [splitL]
  | c :: r, post, h => by
    have h1 : c ≠ 38 := fun e => h (by simp [e])
    have h2 := splitL_hit r post (fun e => h (by simp [e]))
    rw [List.cons_append, splitL, if_neg h1, h2]
theorem splitL_length_le : ∀ l : List UInt8, (splitL l).length ≤ l.length + 1
  | [] => by simp [splitL]
  | c :: r => by
    have h := splitL_length_le r
    unfold splitL
    split
    · simp; omega
    · split
      · simp
      · rename_i hq
        rw [hq] at h
        simp at h ⊢
        omega

theorem pre38 (b : UInt8) (l : List UInt8) : ([38] : List UInt8).isPrefixOf (b :: l) = decide (b = 38) := by
  by_cases h : b = 38
  · subst h; simp [List.isPrefixOf]
  · have : ¬ (38 : UInt8) = b := fun e => h e.symm
    simp [List.isPrefixOf, h, this]
theorem index38 : ∀ l : List UInt8, (index l [38] = -1 ∧ (38 : UInt8) ∉ l) ∨ ∃ pre post, l = pre ++ 38 :: post ∧ (38 : UInt8) ∉ pre ∧ index l [38] = (pre.length : Nat)
  | [] => .inl ⟨by decide, by simp⟩
  | b :: l => by
    by_cases hb : b = 38
    · subst hb
      exact .inr ⟨[], l, rfl, by simp, by simp [index]⟩
    · rcases index38 l with ⟨h1, h2⟩ | ⟨pre, post, rfl, h2, h3⟩
      · refine .inl ⟨by simp [index, pre38, hb, h1], by simp; exact ⟨fun e => hb e.symm, h2⟩⟩
      · refine .inr ⟨b :: pre, post, rfl, by simp; exact ⟨fun e => hb e.symm, h2⟩, ?_⟩
        have hne : ¬ (index (pre ++ 38 :: post) [38] == -1) = true := by rw [h3]; simp
        rw [index, pre38, if_neg (by simpa using hb), if_neg hne, h3]
        simp
theorem split_eq : ∀ (n : Nat) (l : List UInt8), l.length ≤ n → splitK [38] 0 (count l [38]) l = splitL l
  | n, l, hn => by
    rcases index38 l with ⟨h1, h2⟩ | ⟨pre, post, rfl, h2, h3⟩
    · rw [count_miss h1, splitL_none l h2]
      rfl
    · have hd : (pre ++ 38 :: post).drop (pre.length + ([38] : List UInt8).length) = post := by simp
      rw [count_hit (by simp) h3, hd, Nat.add_comm, splitL_hit pre post h2]
      match n, hn with
      | 0, hn => simp at hn
      | n + 1, hn =>
        have hne : ¬ (index (pre ++ 38 :: post) [38] == -1) = true := by rw [h3]; simp
        have hl : post.length ≤ n := by simp at hn; omega
        rw [splitK, if_neg hne, h3, Int.toNat_natCast, hd, split_eq n post hl]
        simp
theorem splitB_eq (s : ByteArray) : (splitB ⟨#[38]⟩ 0 (countB s ⟨#[38]⟩) s).map (·.data.toList) = splitL s.data.toList := by
  rw [splitB_data]
  exact split_eq _ _ (Nat.le_refl _)
end Go.Proofs.YtjoobpieomhklaaDoor
