/- What the program says of the type byte. -/
import Derived.Test.YtgkdajlkajmdiaaRows
import Derived.Test.YtgkdajlkajmdiaaAid
import Derived.Outline
namespace Go.Proofs.Ytgkdajlkajmdiaa
open Go Go.RowKit Go.Lib

theorem info5 : (Try.prog.info? 5).map (fun i => (i.zero, i.size, i.bytes)) = some (some (.int .u8 0), 1, 1) := by kernel_rfl
theorem info5s : (Try.prog.info? 5).map (·.size) = some 1 := by kernel_rfl
theorem ret_str {a b : ByteArray} (h : a = b) : Ending.returned (.string a) = .returned (.string b) := by rw [h]
end Go.Proofs.Ytgkdajlkajmdiaa
