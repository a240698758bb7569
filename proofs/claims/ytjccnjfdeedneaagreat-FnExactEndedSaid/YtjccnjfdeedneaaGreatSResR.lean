/- What is told, as a result that lies in cells. -/
import Derived.Test.YtjccnjfdeedneaaGreatSGdD
import Derived.Laws.Rows
namespace Go.Proofs.YtjccnjfdeedneaaGreat
open Go Go.RowKit Go.Lib
set_option linter.unusedVariables false
set_option maxRecDepth 100000

def rsL (s : RS) : List Value := [.int .i64 s.code, .int .i64 s.token, .int .i64 s.next, .bool s.yes]
def rqL (r : RQ) : List Value := [.int .i64 r.no, .int .i64 r.kind, .int .i64 r.client, .int .i64 r.code, .int .i64 r.token, .string r.proof, .int .i64 r.upTo]
theorem sizeResp : (Tryz.prog.info? 145).map (·.size) = some 4 := by kernel_rfl
theorem oneResp (s : RS) : (#[Value.int .i64 s.code, .int .i64 s.token, .int .i64 s.next, .bool s.yes] : Array Value).all (·.oneCell') = true := by simp [Value.oneCell']
theorem ret_resp {fn : Func} {p : Tmp} (h : fn.results = #[.cell p 145]) {tmps : Array Value} {w : World} {g : Nat} {s : RS} (hp : tmps.getD p undef = .pointer (some ⟨g, 0, none⟩)) (hr : Row w g 145 (rsL s)) :
  (results fn tmps).run Tryz.prog w = .ok (rsV s) w := by
 have hu := Tryz.underlying145
 exact results_cell_row h tmps w g 145 (rsL s).toArray (0, 0) _ hp hr hu rfl sizeResp
theorem put_resp {w : World} {g : Nat} {s : RS} {l : List Value} (hr : Row w g 145 l) (hl : l.length = 4) : Row (w.setCells g 0 #[.int .i64 s.code, .int .i64 s.token, .int .i64 s.next, .bool s.yes].toList) g 145 (rsL s) := by
 match l, hl with
 | [a, b, c, d], _ => exact hr.setCells _ 0
theorem there_resp {w : World} {g : Nat} {l : List Value} (hr : Row w g 145 l) (hl : l.length = 4) : w.there g 0 4 := hr.there 0 4 (by omega)
end Go.Proofs.YtjccnjfdeedneaaGreat
