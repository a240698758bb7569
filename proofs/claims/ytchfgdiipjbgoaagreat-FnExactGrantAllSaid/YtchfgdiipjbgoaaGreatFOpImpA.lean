/- The key of that number and client. -/
import Derived.Test.YtchfgdiipjbgoaaGreatFGdC
namespace Go.Proofs.YtchfgdiipjbgoaaGreat
open Go Go.RowKit Go.Lib
set_option linter.unusedVariables false

theorem opens_for (g : Gr) (no client : Int) : opensAt g no client = match keyFor g.keys no client with
  | none => false
  | some x => keyOpenB g.now g.dead x := by
 unfold opensAt keyFor
 cases findK g.keys no with
 | none => rfl
 | some x =>
  simp only
  cases h : x.client == client <;> simp
theorem keyFor_mem {ks : List Ky} {no client : Int} {x : Ky} (h : keyFor ks no client = some x) : findK ks no = some x ∧ x.client = client := by
 unfold keyFor at h
 split at h
 ·cases h
 ·split at h
  ·rename_i hf hc
   cases h
   exact ⟨hf, by simpa using hc⟩
  ·cases h
end Go.Proofs.YtchfgdiipjbgoaaGreat
