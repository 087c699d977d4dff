/-
  What is shown of a box, as plain data. Conditions: none.
-/
import Derived.Test.YtcbbjloojngoiaaMem
namespace Go.Proofs.Ytcbbjloojngoiaa
open Go.RowKit Go.Shelf

/-- What is shown of a box. -/
structure Sn where
  id : Int
  tok : Int
  ver : Int
  zone : Int
  on : Bool
  well : Bool
  inn : Bool
  deriving DecidableEq
def Sn.vs (s : Sn) : List Value := [.int .i64 s.id, .int .i64 s.tok, .int .i64 s.ver, .int .i64 s.zone, .bool s.on, .bool s.well, .bool s.inn]

end Go.Proofs.Ytcbbjloojngoiaa
