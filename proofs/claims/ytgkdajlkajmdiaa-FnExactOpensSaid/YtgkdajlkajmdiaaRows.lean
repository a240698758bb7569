/-
  No cell of these rows narrows 'for every input' (looked for: loops, veiled, ifaces, maps, wideKeys, modest, calm, conditions, laid).
  DERIVED. THE GIVEN ROWS OF THIS SEAT. 4 by the template 'for every input the law returns true; each argument reads behind the call as it read before'; 0 by the template 'total and deterministic' (their statements: YtgkdajlkajmdiaaTotals.lean).
  GIVEN WITH THE SEED: the statements are not yours to turn. If you find one false, say at which input.
  Laid BY PROGRAM, IN A SANDBOX (cutbox-rows.mjs): the forced cells as the released guide's own fill.sh prints them over the translation 788494509870f6bd… (all of the seat's roots in one cut). By AI agents, Wed Nov 11 2026. No macro, syntax, notation, axiom, sorry.
-/
import Derived.Test.YtgkdajlkajmdiaaChecked
import GoSem.Claim
import GoSem.ClaimJoined
import GoSem.ClaimMapViews
import Derived.JoinedTies
import Derived.KernelRfl
namespace Go.Proofs.Ytgkdajlkajmdiaa
/- THE CELL 'sum', in the pinned program and in every row, IS THE sha256 OF THE DUMP (.gsa) THAT YtgkdajlkajmdiaaProg.lean LOADS. Nothing in Lean hashes anything: it is a label: what it is worth is what the hold of that sum in a sandbox is worth. -/
noncomputable def Try.pinned : Pinned := { name := "ytgkdajlkajmdiaa", sum := "788494509870f6bd192c328f0dd5ba2dc1ae17dff73832f9e9e596f42870fba7", checked := Try.checked }
namespace Rows
def none {H : Type} : Left H := { results := [], args := [] }

/-- 'laws.FnExactOpens': WHATEVER THE INPUT: true; the input reads as it did. -/
def fnExactOpensSpec : ChangeSpec := { name := "fnExactOpens", fn := fun _ => fun
  | [d1, d2, d3] => { results := [.lit (.bool true)], args := [d1, d2, d3] }
  | _ => none }
def fnExactOpensRow : OpenClaim := { program := "ytgkdajlkajmdiaa", sum := "788494509870f6bd192c328f0dd5ba2dc1ae17dff73832f9e9e596f42870fba7", func := "loop.example/g00842/laws.FnExactOpens", spec := "fnExactOpens", inPlace := ["math.Float64frombits"], apart := false }
def FnExactOpensSaid : Prop := fnExactOpensRow.holds Try.pinned (OpenSpec.ofChange fnExactOpensSpec)

/-- ITS FALSE NEIGHBOUR: 'it returns false'. Refute it at one input. -/
def fnExactOpensWrong : ChangeSpec := { name := "fnExactOpens", fn := fun _ => fun
  | [d1, d2, d3] => { results := [.lit (.bool false)], args := [d1, d2, d3] }
  | _ => none }
def FnExactOpensWrongFalsely : Prop := fnExactOpensRow.holds Try.pinned (OpenSpec.ofChange fnExactOpensWrong)

/-- 'laws.FnExactCacheFind': WHATEVER THE INPUT: true; the input reads as it did. -/
def fnExactCacheFindSpec : ChangeSpec := { name := "fnExactCacheFind", fn := fun _ => fun
  | [d1, d2, d3] => { results := [.lit (.bool true)], args := [d1, d2, d3] }
  | _ => none }
def fnExactCacheFindRow : OpenClaim := { program := "ytgkdajlkajmdiaa", sum := "788494509870f6bd192c328f0dd5ba2dc1ae17dff73832f9e9e596f42870fba7", func := "loop.example/g00842/laws.FnExactCacheFind", spec := "fnExactCacheFind", inPlace := ["math.Float64frombits", "sync/atomic.StoreInt64", "(*internal/sync.Mutex).Lock", "internal/race.Disable", "sync/atomic.CompareAndSwapInt32", "internal/race.Enable", "internal/race.Acquire", "(*internal/sync.Mutex).lockSlow", "internal/sync.runtime_canSpin", "internal/sync.runtime_doSpin", "internal/sync.throw", "internal/sync.runtime_nanotime", "internal/sync.runtime_SemacquireMutex", "sync/atomic.AddInt32", "(*internal/sync.Mutex).Unlock", "internal/race.ReleaseMerge", "(*internal/sync.Mutex).unlockSlow", "internal/sync.fatal", "internal/sync.runtime_Semrelease"], unfollowed := true, recurses := true, apart := false }
def FnExactCacheFindSaid : Prop := fnExactCacheFindRow.holds Try.pinned (OpenSpec.ofChange fnExactCacheFindSpec)

/-- ITS FALSE NEIGHBOUR: 'it returns false'. Refute it at one input. -/
def fnExactCacheFindWrong : ChangeSpec := { name := "fnExactCacheFind", fn := fun _ => fun
  | [d1, d2, d3] => { results := [.lit (.bool false)], args := [d1, d2, d3] }
  | _ => none }
def FnExactCacheFindWrongFalsely : Prop := fnExactCacheFindRow.holds Try.pinned (OpenSpec.ofChange fnExactCacheFindWrong)

/-- 'laws.FnExactThreadRight': WHATEVER THE INPUT: true; the input reads as it did. -/
def fnExactThreadRightSpec : ChangeSpec := { name := "fnExactThreadRight", fn := fun _ => fun
  | [d] => { results := [.lit (.bool true)], args := [d] }
  | _ => none }
def fnExactThreadRightRow : OpenClaim := { program := "ytgkdajlkajmdiaa", sum := "788494509870f6bd192c328f0dd5ba2dc1ae17dff73832f9e9e596f42870fba7", func := "loop.example/g00842/laws.FnExactThreadRight", spec := "fnExactThreadRight", inPlace := ["math.Float64frombits"], unfollowed := true, recurses := true, apart := false }
def FnExactThreadRightSaid : Prop := fnExactThreadRightRow.holds Try.pinned (OpenSpec.ofChange fnExactThreadRightSpec)

/-- ITS FALSE NEIGHBOUR: 'it returns false'. Refute it at one input. -/
def fnExactThreadRightWrong : ChangeSpec := { name := "fnExactThreadRight", fn := fun _ => fun
  | [d] => { results := [.lit (.bool false)], args := [d] }
  | _ => none }
def FnExactThreadRightWrongFalsely : Prop := fnExactThreadRightRow.holds Try.pinned (OpenSpec.ofChange fnExactThreadRightWrong)

/-- 'laws.FnExactThreadNew': WHATEVER THE INPUT: true; the input reads as it did. -/
def fnExactThreadNewSpec : ChangeSpec := { name := "fnExactThreadNew", fn := fun _ => fun
  | [d] => { results := [.lit (.bool true)], args := [d] }
  | _ => none }
def fnExactThreadNewRow : OpenClaim := { program := "ytgkdajlkajmdiaa", sum := "788494509870f6bd192c328f0dd5ba2dc1ae17dff73832f9e9e596f42870fba7", func := "loop.example/g00842/laws.FnExactThreadNew", spec := "fnExactThreadNew", unfollowed := true, recurses := true, apart := false }
def FnExactThreadNewSaid : Prop := fnExactThreadNewRow.holds Try.pinned (OpenSpec.ofChange fnExactThreadNewSpec)

/-- ITS FALSE NEIGHBOUR: 'it returns false'. Refute it at one input. -/
def fnExactThreadNewWrong : ChangeSpec := { name := "fnExactThreadNew", fn := fun _ => fun
  | [d] => { results := [.lit (.bool false)], args := [d] }
  | _ => none }
def FnExactThreadNewWrongFalsely : Prop := fnExactThreadNewRow.holds Try.pinned (OpenSpec.ofChange fnExactThreadNewWrong)

/- THE SECOND FORM. 'bulk': how many values and letters a reading holds, each counted each time it is reached (what is shared counts as often as it is met; a slice's spare places count too). A statement '..UptoSaid' is the law's where the arguments, and the package variables that the reading takes, are together of bulk at most 1048576: NARROWER than '..Said'. Prove '..Said' where nothing that the law and all that it calls make is longer than what came in: it says more and counts as full. Else prove '..UptoSaid'. A law counts once. -/
mutual
def uptoBulk {H : Type} : DataW H → Nat
  | .lit (.string bytes) => bytes.length + 1
  | .lit _ => 1
  | .nil => 1
  | .ptr d => uptoBulk d + 1
  | .slice elems spare => uptoBulkAll elems + uptoBulkAll spare + 1
  | .agg parts => uptoBulkAll parts + 1
  | .iface _ d => uptoBulk d + 1
  | .map entries => uptoBulkEntries entries + 1
  | .held _ => 1
def uptoBulkAll {H : Type} : List (DataW H) → Nat
  | [] => 0
  | d :: r => uptoBulk d + uptoBulkAll r
def uptoBulkEntries {H : Type} : List (Lit × DataW H) → Nat
  | [] => 0
  | x :: r => uptoBulkEntry x + uptoBulkEntries r
def uptoBulkEntry {H : Type} : Lit × DataW H → Nat
  | (.string bytes, d) => bytes.length + uptoBulk d + 1
  | (_, d) => uptoBulk d + 1
 end
def uptoSmall : (H : Type) → List (DataW H) → Bool := fun _ ds => decide (uptoBulkAll ds ≤ 1048576)
def OpenSpec.upto (s : _root_.Go.ChangeSpec) : _root_.Go.OpenSpec := { _root_.Go.OpenSpec.ofChange s with cond := some uptoSmall }

/-- 'laws.FnExactOpens', WHERE WHAT IT READS IS OF BULK AT MOST 1048576: true; the input reads as it did. -/
def fnExactOpensUptoRow : OpenClaim := { program := "ytgkdajlkajmdiaa", sum := "788494509870f6bd192c328f0dd5ba2dc1ae17dff73832f9e9e596f42870fba7", func := "loop.example/g00842/laws.FnExactOpens", spec := "fnExactOpens", inPlace := ["math.Float64frombits"], apart := false, narrowed := true }
def FnExactOpensUptoSaid : Prop := fnExactOpensUptoRow.holds Try.pinned (OpenSpec.upto fnExactOpensSpec)

/-- 'laws.FnExactCacheFind', WHERE WHAT IT READS IS OF BULK AT MOST 1048576: true; the input reads as it did. -/
def fnExactCacheFindUptoRow : OpenClaim := { program := "ytgkdajlkajmdiaa", sum := "788494509870f6bd192c328f0dd5ba2dc1ae17dff73832f9e9e596f42870fba7", func := "loop.example/g00842/laws.FnExactCacheFind", spec := "fnExactCacheFind", inPlace := ["math.Float64frombits", "sync/atomic.StoreInt64", "(*internal/sync.Mutex).Lock", "internal/race.Disable", "sync/atomic.CompareAndSwapInt32", "internal/race.Enable", "internal/race.Acquire", "(*internal/sync.Mutex).lockSlow", "internal/sync.runtime_canSpin", "internal/sync.runtime_doSpin", "internal/sync.throw", "internal/sync.runtime_nanotime", "internal/sync.runtime_SemacquireMutex", "sync/atomic.AddInt32", "(*internal/sync.Mutex).Unlock", "internal/race.ReleaseMerge", "(*internal/sync.Mutex).unlockSlow", "internal/sync.fatal", "internal/sync.runtime_Semrelease"], unfollowed := true, recurses := true, apart := false, narrowed := true }
def FnExactCacheFindUptoSaid : Prop := fnExactCacheFindUptoRow.holds Try.pinned (OpenSpec.upto fnExactCacheFindSpec)

/-- 'laws.FnExactThreadRight', WHERE WHAT IT READS IS OF BULK AT MOST 1048576: true; the input reads as it did. -/
def fnExactThreadRightUptoRow : OpenClaim := { program := "ytgkdajlkajmdiaa", sum := "788494509870f6bd192c328f0dd5ba2dc1ae17dff73832f9e9e596f42870fba7", func := "loop.example/g00842/laws.FnExactThreadRight", spec := "fnExactThreadRight", inPlace := ["math.Float64frombits"], unfollowed := true, recurses := true, apart := false, narrowed := true }
def FnExactThreadRightUptoSaid : Prop := fnExactThreadRightUptoRow.holds Try.pinned (OpenSpec.upto fnExactThreadRightSpec)

/-- 'laws.FnExactThreadNew', WHERE WHAT IT READS IS OF BULK AT MOST 1048576: true; the input reads as it did. -/
def fnExactThreadNewUptoRow : OpenClaim := { program := "ytgkdajlkajmdiaa", sum := "788494509870f6bd192c328f0dd5ba2dc1ae17dff73832f9e9e596f42870fba7", func := "loop.example/g00842/laws.FnExactThreadNew", spec := "fnExactThreadNew", unfollowed := true, recurses := true, apart := false, narrowed := true }
def FnExactThreadNewUptoSaid : Prop := fnExactThreadNewUptoRow.holds Try.pinned (OpenSpec.upto fnExactThreadNewSpec)

end Rows
end Go.Proofs.Ytgkdajlkajmdiaa
