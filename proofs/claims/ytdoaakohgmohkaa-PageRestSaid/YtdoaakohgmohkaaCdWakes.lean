/-
  The walk of the statements' 'wakes' (layer 8). Conditions: those that the theorem names.
-/
import Derived.Test.YtdoaakohgmohkaaCdDo
namespace Go.Proofs.Ytdoaakohgmohkaa
open Go.RowKit Go.Shelf

def wb : Bx := ⟨1, 5, 1, 0, true, true, false, true, 0, 0, 2⟩
def wb' : Bx := ⟨1, 5, 1, 0, true, true, false, true, 1, 0, 4⟩

set_option maxRecDepth 100000 in
theorem whole_two {W : World} {t u : TypeId} {x y : Array Value} : Whole ((W.alloc (.cells x t)).alloc (.cells y u)) W.heap.size t x ∧ Whole ((W.alloc (.cells x t)).alloc (.cells y u)) (W.heap.size + 1) u y ∧ Below W.heap.size W ((W.alloc (.cells x t)).alloc (.cells y u)) :=
  ⟨(Whole.new W _ _).alloc _, by have := Whole.new (W.alloc (.cells x t)) u y; rwa [World.size_alloc] at this, ((Below.refl _ W).alloc (Nat.le_refl _) _).alloc (by simp) _⟩

end Go.Proofs.Ytdoaakohgmohkaa
