/-
  DERIVED. GIVEN WITH THE SEED: THE CARDS: each row of YtmhjihdefagkmaaDoorRows.lean that lists a variable, with what it lists TIED to the program's text (the seventh form; the later family's looks); each row that meets fmt, with fmt's text TOLD by the authors' own Lean function (tested against real Go, not proved from fmt's source: count such statements apart). THE CARD IS WHAT COUNTS. Prove the row's statement (the work); the ties are given (YtmhjihdefagkmaaDoorTie.lean); close each card by the builder's one call (the guide's Derived/Test/ToyasCard.lean, 'card_holds'). Laid BY PROGRAM, IN A SANDBOX (cutbox-door.mjs). By AI agents, Wed Nov 11 2026. No macro, syntax, notation, axiom, sorry.
-/
import Derived.Test.YtmhjihdefagkmaaDoorRows
import GoSem.ClaimSeven
namespace Go.Proofs.YtmhjihdefagkmaaDoor
namespace Rows

/-- THE TIED CARD OF 'laws.FnExactRespText'. -/
def fnExactRespTextCard : Claim7 := { stood := { row := fnExactRespTextRow, standIns := [], harness := (true, "c0c9debd98bf0fec46b292c6ac97afd6369deaf19a4440eb4ccf12cdd58f2d6c"), looks := false }, kinds := [], alts := [], laidByText := true, laidKinds := [.data, .data, .data], laidTests := true, laidLooks := .later }
def FnExactRespTextCardSaid : Prop := Claim7.holds Tryd.pinned (.plain (OpenSpec.ofChange fnExactRespTextSpec)) fnExactRespTextCard

/-- THE SECOND FORM's CARD OF 'laws.FnExactRespText'. -/
def fnExactRespTextUptoCard : Claim7 := { stood := { row := fnExactRespTextUptoRow, standIns := [], harness := (true, "c0c9debd98bf0fec46b292c6ac97afd6369deaf19a4440eb4ccf12cdd58f2d6c"), looks := false }, kinds := [], alts := [], laidByText := true, laidKinds := [.data, .data, .data], laidTests := true, laidLooks := .later }
def FnExactRespTextUptoCardSaid : Prop := Claim7.holds Tryd.pinned (.plain (OpenSpec.upto fnExactRespTextSpec)) fnExactRespTextUptoCard
end Rows
end Go.Proofs.YtmhjihdefagkmaaDoor
