/- The numbers under which this dump holds the functions and types of sync.Mutex, and that it holds them. -/
import Derived.Test.YtchfgdiipjbgoaaProg
import Derived.Conc.RwLib
import Derived.KernelRfl
namespace Go.Proofs.Ytchfgdiipjbgoaa
open Go
abbrev muL : Go.Conc.Locks.MuLink := { lock := 41, unlock := 42, ilock := 64, iunlock := 65, lockSlow := 78, unlockSlow := 81, disable := 74, enable := 76, acquire := 77, relMerge := 79, cas32 := 75, add32 := 80, tMutex := 60, tIMutex := 58, tPMutex := 130, tPIMutex := 136, tPI32 := 138, tUP := 140, tNoCopy := 55, tU32 := 56 }
theorem muLib : Go.Conc.Locks.MuLib Try.prog muL :=
  ⟨Try.func41, Try.func42, Try.func64, Try.func65, Try.func74, Try.func76, Try.func77, Try.func79, Try.func75, Try.func80, Try.underlying58, Try.runUnderlying58, Try.sizeOf58, Try.isAgg58, Try.zeroValue58, Try.underlying60, Try.runUnderlying60, Try.sizeOf60, Try.isAgg60, Try.zeroValue60, Try.underlying130, Try.runUnderlying130, Try.sizeOf130, Try.isAgg130, Try.zeroValue130, Try.underlying136, Try.runUnderlying136, Try.sizeOf136, Try.isAgg136, Try.zeroValue136, Try.underlying138, Try.runUnderlying138, Try.sizeOf138, Try.isAgg138, Try.zeroValue138, Try.underlying140, Try.runUnderlying140, Try.sizeOf140, Try.isAgg140, Try.zeroValue140, Try.underlying55, Try.runUnderlying55, Try.sizeOf55, Try.isAgg55, Try.zeroValue55, Try.underlying21, Try.runUnderlying21, Try.sizeOf21, Try.isAgg21, Try.zeroValue21, (by kernel_rfl)⟩
end Go.Proofs.Ytchfgdiipjbgoaa
