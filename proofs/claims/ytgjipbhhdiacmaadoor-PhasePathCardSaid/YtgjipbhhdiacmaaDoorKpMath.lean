/-
  An instance that is kept, as plain data.
-/
import Derived.Test.YtgjipbhhdiacmaaDoorNumKit
namespace Go.Proofs.YtgjipbhhdiacmaaDoor
open Go.RowKit Go.Shelf

structure Kp where
  id : Int
  tok : Int
  ver : Int
  zone : Int
  phase : Int
  since : Int
  guard : Bool
  done : Bool
  deriving DecidableEq

end Go.Proofs.YtgjipbhhdiacmaaDoor
