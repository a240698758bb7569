/- Words, keys, numbers: what the loader says of them. -/
import Derived.Test.YtchfgdiipjbgoaaGr
import Derived.Test.YtchfgdiipjbgoaaExt
import Derived.Deep.RegionHeld3
import Derived.Deep.QuietTactic
namespace Go.Proofs.Ytchfgdiipjbgoaa
open Go Go.RowKit Go.Lib
set_option linter.unusedVariables false

theorem infoWord : (Try.prog.info? 101).map (fun i => (i.zero, i.size, i.bytes)) = some (some (.agg #[.int .i64 0, .int .i64 0, .string ByteArray.empty, .int .i64 0, .bool false]), 5, 48) := by kernel_rfl
theorem sizeWord : (Try.prog.info? 101).map (·.size) = some 5 := by kernel_rfl
theorem oneWord (x : Wd) : (#[.int .i64 x.no, .int .i64 x.client, .string x.shade, .int .i64 x.till, .bool x.used] : Array Value).all (·.oneCell') = true := all_oneCell_toArray (cs := [.int .i64 x.no, .int .i64 x.client, .string x.shade, .int .i64 x.till, .bool x.used]) (by
  intro v hv
  simp at hv
  rcases hv with rfl | rfl | rfl | rfl | rfl <;> rfl)
theorem infoKey : (Try.prog.info? 104).map (fun i => (i.zero, i.size, i.bytes)) = some (some (.agg #[.int .i64 0, .int .i64 0, .int .i64 0, .bool false, .int .i64 0, .int .i64 0]), 6, 48) := by kernel_rfl
theorem sizeKey : (Try.prog.info? 104).map (·.size) = some 6 := by kernel_rfl
theorem oneKey (x : Ky) : (#[.int .i64 x.no, .int .i64 x.client, .int .i64 x.fam, .bool x.refresh, .int .i64 x.till, .int .i64 x.state] : Array Value).all (·.oneCell') = true := all_oneCell_toArray (cs := [.int .i64 x.no, .int .i64 x.client, .int .i64 x.fam, .bool x.refresh, .int .i64 x.till, .int .i64 x.state]) (by
  intro v hv
  simp at hv
  rcases hv with rfl | rfl | rfl | rfl | rfl | rfl <;> rfl)
theorem infoInt64 : (Try.prog.info? 2).map (fun i => (i.zero, i.size, i.bytes)) = some (some (.int .i64 0), 1, 8) := by kernel_rfl
theorem sizeInt64 : (Try.prog.info? 2).map (·.size) = some 1 := by kernel_rfl
end Go.Proofs.Ytchfgdiipjbgoaa
