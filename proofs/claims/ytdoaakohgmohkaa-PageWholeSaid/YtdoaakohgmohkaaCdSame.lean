/-
  The walks of 'Same' of package cloud, and of the document's own Same, SameTell and Own. Conditions: those that each theorem names.
-/
import Derived.Test.YtdoaakohgmohkaaCdEq
namespace Go.Proofs.Ytdoaakohgmohkaa
open Go.RowKit Go.Shelf

def sameCw (x y : Cw) : Bool := decide (x.fl = y.fl) && (decide (x.dr = y.dr) && (decide (x.nw = y.nw) && ((x.tg == y.tg) && decide (x.l = y.l))))

def sameTl (c k d i c' k' d' i' : Int) : Bool := decide (c = c') && (decide (k = k') && (decide (d = d') && decide (i = i')))
end Go.Proofs.Ytdoaakohgmohkaa
