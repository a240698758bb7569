/-
  DERIVED. GIVEN WITH THE SEED: THE CARDS: each row of YtjoobpieomhklaaDoorRows.lean that lists a variable, with what it lists TIED to the program's text (the seventh form; the later family's looks); each row that meets fmt, with fmt's text TOLD by the authors' own Lean function (tested against real Go, not proved from fmt's source: count such statements apart). THE CARD IS WHAT COUNTS. Prove the row's statement (the work); the ties are given (YtjoobpieomhklaaDoorTie.lean); close each card by the builder's one call (the guide's Derived/Test/ToyasCard.lean, 'card_holds'). Laid BY PROGRAM, IN A SANDBOX (cutbox-door.mjs). By AI agents, Wed Nov 11 2026. No macro, syntax, notation, axiom, sorry.
-/
import Derived.Test.YtjoobpieomhklaaDoorRows
import GoSem.ClaimSeven
namespace Go.Proofs.YtjoobpieomhklaaDoor
namespace Rows

/-- THE TIED CARD OF 'laws.FnExactFormRead'. -/
def fnExactFormReadCard : Claim7 := { stood := { row := fnExactFormReadRow, standIns := [], harness := (true, "52fce03053278c38a73cc6d785a54b9aadf5b4a64bb0da58cbc8220bda2a5c17"), looks := true }, kinds := [], alts := [], laidByText := true, laidKinds := [.data, .handle, .pinned], laidTests := true, laidLooks := .later }
def FnExactFormReadCardSaid : Prop := Claim7.holds Tryd.pinned (.plain (OpenSpec.ofChange fnExactFormReadSpec)) fnExactFormReadCard

/-- THE SECOND FORM's CARD OF 'laws.FnExactFormRead'. -/
def fnExactFormReadUptoCard : Claim7 := { stood := { row := fnExactFormReadUptoRow, standIns := [], harness := (true, "52fce03053278c38a73cc6d785a54b9aadf5b4a64bb0da58cbc8220bda2a5c17"), looks := true }, kinds := [], alts := [], laidByText := true, laidKinds := [.data, .handle, .pinned], laidTests := true, laidLooks := .later }
def FnExactFormReadUptoCardSaid : Prop := Claim7.holds Tryd.pinned (.plain (OpenSpec.upto fnExactFormReadSpec)) fnExactFormReadUptoCard
end Rows
end Go.Proofs.YtjoobpieomhklaaDoor
