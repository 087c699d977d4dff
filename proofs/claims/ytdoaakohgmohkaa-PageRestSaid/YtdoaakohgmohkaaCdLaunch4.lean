/-
  The walk of launch of package cloud: a cloud that has no room, a token that there is. Conditions: those that each theorem names.
-/
import Derived.Test.YtdoaakohgmohkaaCdLaunch1
namespace Go.Proofs.Ytdoaakohgmohkaa
open Go.RowKit Go.Shelf

section
variable {base Cb n c : Nat} {A : Option Addr} {x : Cw} {q : Ak} {W0 : World}

end

end Go.Proofs.Ytdoaakohgmohkaa
