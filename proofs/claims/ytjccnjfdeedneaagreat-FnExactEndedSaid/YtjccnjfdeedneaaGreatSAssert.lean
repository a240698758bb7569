/- A type switch over types of structs: what 'x.(T)' gives, over any program. -/
import Derived.Stop.Asserts
import Derived.KernelRfl
namespace Go.Proofs.YtjccnjfdeedneaaGreat
open Go

section
variable {P : Program}
theorem run_as_hit {T : TypeId} {fs : Array Field} (hu : P.underlying T = some (.struct fs)) (v : Value) (xT : TypeId) (w : World) :
  (Instr.typeAssert (.iface T v) xT T true).run P w = .ok (.tuple #[v, .bool true]) w := by
 simp [Instr.typeAssert, run_underlying hu]
theorem run_as_miss {t T : TypeId} {fs : Array Field} (hu : P.underlying T = some (.struct fs)) (hne : t ≠ T) {z : Value} (hz : (P.info? T).map (·.zero) = some (some z)) (v : Value) (xT : TypeId) (w : World) :
  (Instr.typeAssert (.iface t v) xT T true).run P w = .ok (.tuple #[z, .bool false]) w := by
 obtain ⟨j, hj, hz'⟩ := Option.map_eq_some_iff.1 hz
 simp [Instr.typeAssert, run_underlying hu, hne, zeroValue, typeInfo, hj, hz']
end
end Go.Proofs.YtjccnjfdeedneaaGreat
