/-
  The walks of 'Find' and 'missing' of package cloud, and of the predicates that 'place' is handed. Conditions: those that each theorem names.
-/
import Derived.Test.YtdoaakohgmohkaaCdPlace
namespace Go.Proofs.Ytdoaakohgmohkaa
open Go.RowKit Go.Shelf

set_option maxRecDepth 100000 in
theorem cell_up {W : World} {b i : Nat} {v : Value} (h : W.cell? ⟨b, i, none⟩ = some v) (o : Obj) : (W.alloc o).cell? ⟨b, i, none⟩ = some v :=
  (((Below.refl _ W).alloc (Nat.le_refl _) o).cell (p := ⟨b, i, none⟩) (World.block_lt_of_cell? W _ h)).trans h
set_option maxRecDepth 100000 in
theorem cell_below {W W' : World} {b i : Nat} {v : Value} (h : W.cell? ⟨b, i, none⟩ = some v) (hb : Below W.heap.size W W') : W'.cell? ⟨b, i, none⟩ = some v :=
  (hb.cell (p := ⟨b, i, none⟩) (World.block_lt_of_cell? W _ h)).trans h

/-- What is asked, as values. -/
def akC (q : Ak) : Array Value := #[.int .u8 q.kind, .int .i64 q.call, .int .i64 q.a, .int .i64 q.b, .int .i64 q.c, .int .i64 q.d]

def U8Post (v : Int) (w : World) (e : Ending) (w' : World) : Prop := e = .returned (.int .u8 v) ∧ Below w.heap.size w w'
def missK (x : Cw) (q : Ak) : Int := if q.kind = 6 ∧ (x.l.any fun y => y.id == q.a) then 1 else 2

end Go.Proofs.Ytdoaakohgmohkaa
