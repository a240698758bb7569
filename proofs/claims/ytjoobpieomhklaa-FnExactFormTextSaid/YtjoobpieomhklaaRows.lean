/-
  No cell of these rows narrows 'for every input' (looked for: loops, veiled, ifaces, maps, wideKeys, modest, calm, conditions, laid).
  DERIVED. THE GIVEN ROWS OF THIS SEAT. 4 by the template 'for every input the law returns true; each argument reads behind the call as it read before'; 0 by the template 'total and deterministic' (their statements: YtjoobpieomhklaaTotals.lean).
  GIVEN WITH THE SEED: the statements are not yours to turn. If you find one false, say at which input.
  Laid BY PROGRAM, IN A SANDBOX (cutbox-rows.mjs): the forced cells as the released guide's own fill.sh prints them over the translation 1d38ac7dc123db85… (all of the seat's roots in one cut). By AI agents, Wed Nov 11 2026. No macro, syntax, notation, axiom, sorry.
-/
import Derived.Test.YtjoobpieomhklaaChecked
import GoSem.Claim
import GoSem.ClaimJoined
import GoSem.ClaimMapViews
import Derived.JoinedTies
import Derived.KernelRfl
namespace Go.Proofs.Ytjoobpieomhklaa
/- THE CELL 'sum', in the pinned program and in every row, IS THE sha256 OF THE DUMP (.gsa) THAT YtjoobpieomhklaaProg.lean LOADS. Nothing in Lean hashes anything: it is a label: what it is worth is what the hold of that sum in a sandbox is worth. -/
noncomputable def Try.pinned : Pinned := { name := "ytjoobpieomhklaa", sum := "1d38ac7dc123db852c071f0feb42ffea10a7088332aa0c18f425359cdbc99bb5", checked := Try.checked }
namespace Rows
def none {H : Type} : Left H := { results := [], args := [] }

/-- 'laws.FnExactFormRight': WHATEVER THE INPUT: true; the input reads as it did. -/
def fnExactFormRightSpec : ChangeSpec := { name := "fnExactFormRight", fn := fun _ => fun
  | [d] => { results := [.lit (.bool true)], args := [d] }
  | _ => none }
def fnExactFormRightRow : OpenClaim := { program := "ytjoobpieomhklaa", sum := "1d38ac7dc123db852c071f0feb42ffea10a7088332aa0c18f425359cdbc99bb5", func := "loop.example/g00842/laws.FnExactFormRight", spec := "fnExactFormRight", apart := false }
def FnExactFormRightSaid : Prop := fnExactFormRightRow.holds Try.pinned (OpenSpec.ofChange fnExactFormRightSpec)

/-- ITS FALSE NEIGHBOUR: 'it returns false'. Refute it at one input. -/
def fnExactFormRightWrong : ChangeSpec := { name := "fnExactFormRight", fn := fun _ => fun
  | [d] => { results := [.lit (.bool false)], args := [d] }
  | _ => none }
def FnExactFormRightWrongFalsely : Prop := fnExactFormRightRow.holds Try.pinned (OpenSpec.ofChange fnExactFormRightWrong)

/-- 'laws.FnExactFormText': WHATEVER THE INPUT: true; the input reads as it did. -/
def fnExactFormTextSpec : ChangeSpec := { name := "fnExactFormText", fn := fun _ => fun
  | [d] => { results := [.lit (.bool true)], args := [d] }
  | _ => none }
def fnExactFormTextRow : OpenClaim := { program := "ytjoobpieomhklaa", sum := "1d38ac7dc123db852c071f0feb42ffea10a7088332aa0c18f425359cdbc99bb5", func := "loop.example/g00842/laws.FnExactFormText", spec := "fnExactFormText", apart := false }
def FnExactFormTextSaid : Prop := fnExactFormTextRow.holds Try.pinned (OpenSpec.ofChange fnExactFormTextSpec)

/-- ITS FALSE NEIGHBOUR: 'it returns false'. Refute it at one input. -/
def fnExactFormTextWrong : ChangeSpec := { name := "fnExactFormText", fn := fun _ => fun
  | [d] => { results := [.lit (.bool false)], args := [d] }
  | _ => none }
def FnExactFormTextWrongFalsely : Prop := fnExactFormTextRow.holds Try.pinned (OpenSpec.ofChange fnExactFormTextWrong)

/-- 'laws.FnExactFormGet': WHATEVER THE INPUT: true; the input reads as it did. -/
def fnExactFormGetSpec : ChangeSpec := { name := "fnExactFormGet", fn := fun _ => fun
  | [d1, d2] => { results := [.lit (.bool true)], args := [d1, d2] }
  | _ => none }
def fnExactFormGetRow : OpenClaim := { program := "ytjoobpieomhklaa", sum := "1d38ac7dc123db852c071f0feb42ffea10a7088332aa0c18f425359cdbc99bb5", func := "loop.example/g00842/laws.FnExactFormGet", spec := "fnExactFormGet", apart := false }
def FnExactFormGetSaid : Prop := fnExactFormGetRow.holds Try.pinned (OpenSpec.ofChange fnExactFormGetSpec)

/-- ITS FALSE NEIGHBOUR: 'it returns false'. Refute it at one input. -/
def fnExactFormGetWrong : ChangeSpec := { name := "fnExactFormGet", fn := fun _ => fun
  | [d1, d2] => { results := [.lit (.bool false)], args := [d1, d2] }
  | _ => none }
def FnExactFormGetWrongFalsely : Prop := fnExactFormGetRow.holds Try.pinned (OpenSpec.ofChange fnExactFormGetWrong)

/-- 'laws.FnExactShade': WHATEVER THE INPUT: true; the input reads as it did. -/
def fnExactShadeSpec : ChangeSpec := { name := "fnExactShade", fn := fun _ => fun
  | [d] => { results := [.lit (.bool true)], args := [d] }
  | _ => none }
def fnExactShadeRow : OpenClaim := { program := "ytjoobpieomhklaa", sum := "1d38ac7dc123db852c071f0feb42ffea10a7088332aa0c18f425359cdbc99bb5", func := "loop.example/g00842/laws.FnExactShade", spec := "fnExactShade", apart := false }
def FnExactShadeSaid : Prop := fnExactShadeRow.holds Try.pinned (OpenSpec.ofChange fnExactShadeSpec)

/-- ITS FALSE NEIGHBOUR: 'it returns false'. Refute it at one input. -/
def fnExactShadeWrong : ChangeSpec := { name := "fnExactShade", fn := fun _ => fun
  | [d] => { results := [.lit (.bool false)], args := [d] }
  | _ => none }
def FnExactShadeWrongFalsely : Prop := fnExactShadeRow.holds Try.pinned (OpenSpec.ofChange fnExactShadeWrong)

/- THE SECOND FORM. 'bulk': how many values and letters a reading holds, each counted each time it is reached (what is shared counts as often as it is met; a slice's spare places count too). A statement '..UptoSaid' is the law's where the arguments, and the package variables that the reading takes, are together of bulk at most 1048576: NARROWER than '..Said'. Prove '..Said' where nothing that the law and all that it calls make is longer than what came in: it says more and counts as full. Else prove '..UptoSaid'. A law counts once. -/
mutual
def uptoBulk {H : Type} : DataW H → Nat
  | .lit (.string bytes) => bytes.length + 1
  | .lit _ => 1
  | .nil => 1
  | .ptr d => uptoBulk d + 1
  | .slice elems spare => uptoBulkAll elems + uptoBulkAll spare + 1
  | .agg parts => uptoBulkAll parts + 1
  | .iface _ d => uptoBulk d + 1
  | .map entries => uptoBulkEntries entries + 1
  | .held _ => 1
def uptoBulkAll {H : Type} : List (DataW H) → Nat
  | [] => 0
  | d :: r => uptoBulk d + uptoBulkAll r
def uptoBulkEntries {H : Type} : List (Lit × DataW H) → Nat
  | [] => 0
  | x :: r => uptoBulkEntry x + uptoBulkEntries r
def uptoBulkEntry {H : Type} : Lit × DataW H → Nat
  | (.string bytes, d) => bytes.length + uptoBulk d + 1
  | (_, d) => uptoBulk d + 1
 end
def uptoSmall : (H : Type) → List (DataW H) → Bool := fun _ ds => decide (uptoBulkAll ds ≤ 1048576)
def OpenSpec.upto (s : _root_.Go.ChangeSpec) : _root_.Go.OpenSpec := { _root_.Go.OpenSpec.ofChange s with cond := some uptoSmall }

/-- 'laws.FnExactFormRight', WHERE WHAT IT READS IS OF BULK AT MOST 1048576: true; the input reads as it did. -/
def fnExactFormRightUptoRow : OpenClaim := { program := "ytjoobpieomhklaa", sum := "1d38ac7dc123db852c071f0feb42ffea10a7088332aa0c18f425359cdbc99bb5", func := "loop.example/g00842/laws.FnExactFormRight", spec := "fnExactFormRight", apart := false, narrowed := true }
def FnExactFormRightUptoSaid : Prop := fnExactFormRightUptoRow.holds Try.pinned (OpenSpec.upto fnExactFormRightSpec)

/-- 'laws.FnExactFormText', WHERE WHAT IT READS IS OF BULK AT MOST 1048576: true; the input reads as it did. -/
def fnExactFormTextUptoRow : OpenClaim := { program := "ytjoobpieomhklaa", sum := "1d38ac7dc123db852c071f0feb42ffea10a7088332aa0c18f425359cdbc99bb5", func := "loop.example/g00842/laws.FnExactFormText", spec := "fnExactFormText", apart := false, narrowed := true }
def FnExactFormTextUptoSaid : Prop := fnExactFormTextUptoRow.holds Try.pinned (OpenSpec.upto fnExactFormTextSpec)

/-- 'laws.FnExactFormGet', WHERE WHAT IT READS IS OF BULK AT MOST 1048576: true; the input reads as it did. -/
def fnExactFormGetUptoRow : OpenClaim := { program := "ytjoobpieomhklaa", sum := "1d38ac7dc123db852c071f0feb42ffea10a7088332aa0c18f425359cdbc99bb5", func := "loop.example/g00842/laws.FnExactFormGet", spec := "fnExactFormGet", apart := false, narrowed := true }
def FnExactFormGetUptoSaid : Prop := fnExactFormGetUptoRow.holds Try.pinned (OpenSpec.upto fnExactFormGetSpec)

/-- 'laws.FnExactShade', WHERE WHAT IT READS IS OF BULK AT MOST 1048576: true; the input reads as it did. -/
def fnExactShadeUptoRow : OpenClaim := { program := "ytjoobpieomhklaa", sum := "1d38ac7dc123db852c071f0feb42ffea10a7088332aa0c18f425359cdbc99bb5", func := "loop.example/g00842/laws.FnExactShade", spec := "fnExactShade", apart := false, narrowed := true }
def FnExactShadeUptoSaid : Prop := fnExactShadeUptoRow.holds Try.pinned (OpenSpec.upto fnExactShadeSpec)

end Rows
end Go.Proofs.Ytjoobpieomhklaa
