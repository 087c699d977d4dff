/-
  The walk of what 'taking' hands back (package cloud). Conditions: those that each theorem names.
-/
import Derived.Test.YtdoaakohgmohkaaCdTouch
import Derived.Test.YtdoaakohgmohkaaHand
namespace Go.Proofs.Ytdoaakohgmohkaa
open Go.RowKit Go.Shelf

set_option maxRecDepth 100000 in
/-- A cloud's cells, one by one. -/
theorem Clu.cells {W : World} {base Cb : Nat} {A : Option Addr} {n c : Nat} {x : Cw} (h : Clu W base Cb A n c x) :
    W.cell? ⟨Cb, 0, none⟩ = some (.slice A n c) ∧ W.cell? ⟨Cb, 1, none⟩ = some (.int .i64 x.fl) ∧ W.cell? ⟨Cb, 2, none⟩ = some (.int .i64 x.dr) ∧ W.cell? ⟨Cb, 3, none⟩ = some (.int .i64 x.nw) ∧ W.cell? ⟨Cb, 4, none⟩ = some (.bool x.tg) :=
  ⟨h.box.cell 0, h.box.cell 1, h.box.cell 2, h.box.cell 3, h.box.cell 4⟩

/-- Whether it is forbidden to take a box away. -/
def barred (x : Cw) (y : Bx) : Bool := cnt y && decide ((hN x.l : Int) - 1 < x.fl)

section
variable {base Cb g n c o j P f : Nat} {lb : Array Value} {x : Cw} {y y' : Bx} {W0 : World}

end

end Go.Proofs.Ytdoaakohgmohkaa
