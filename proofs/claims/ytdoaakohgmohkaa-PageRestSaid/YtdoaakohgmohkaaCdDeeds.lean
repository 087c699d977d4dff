/-
  The walks of 'launch' as a whole and of 'deeds' (package cloud): which deed each kind of ask has. Conditions: those that each theorem names.
-/
import Derived.Test.YtdoaakohgmohkaaCdLaunch2
import Derived.Test.YtdoaakohgmohkaaCdLaunch3
import Derived.Test.YtdoaakohgmohkaaCdLaunch4
import Derived.Maps.OwnOps
namespace Go.Proofs.Ytdoaakohgmohkaa
open Go.RowKit Go.Shelf
open Go.Maps (Keyed int_keyed keyOf_int_mk)

/-- A function's value, without what it captured; with a box. -/
def fn0 (f : Nat) : Value := .func (.func f) #[] #[]
def fn1 (f b : Nat) : Value := .func (.func f) #[] #[.pointer (some ⟨b, 0, none⟩)]

/-- A deed, as a value of the map. -/
def deedR : Value → Option (DataW Value × List MemPlace) := fun v => some (.held v, [])
def DsMap (W : World) (b n : Nat) (D : DataW Value) : Prop := W.ownsMap Try.prog 5 deedR b n D

section
variable {lo b1 b2 b3 b4 b5 b6 b7 b8 : Nat} {W W' : World}
end

end Go.Proofs.Ytdoaakohgmohkaa
