/- What is told, as data. -/
import Derived.Test.YtgkdajlkajmdiaaReq2
namespace Go.Proofs.Ytgkdajlkajmdiaa
open Go Go.RowKit Go.Lib

/-- What is told. -/
structure RS where
  code : Int
  token : Int
  next : Int
  yes : Bool
def rsV (s : RS) : Value := .agg #[.int .i64 s.code, .int .i64 s.token, .int .i64 s.next, .bool s.yes]
end Go.Proofs.Ytgkdajlkajmdiaa
