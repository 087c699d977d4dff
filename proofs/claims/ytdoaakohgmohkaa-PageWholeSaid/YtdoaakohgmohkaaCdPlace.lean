/-
  The walks of 'place', of what it is handed, and of 'Find' of package cloud. Conditions: those that each theorem names.
-/
import Derived.Test.YtdoaakohgmohkaaCdH
namespace Go.Proofs.Ytdoaakohgmohkaa
open Go.RowKit Go.Shelf
attribute [local go_sem] Oper.semAt_some

/-- What holds between two rounds. -/
structure PlAt (w : World) (l : List Bx) (p : Bx → Bool) (C : Array Value) (fv : Value) (pre : List (Nat × Bx)) (W : World) : Prop where
  no : ∀ i y, i < pre.length → l[i]? = some y → p y = false
  res : Whole W (w.heap.size + 1 + 1) 3 #[.int .i64 0]
  fn : Whole W (w.heap.size + 1) 61 #[fv]
  bn : Whole W (w.heap.size + 1 + 1 + 1) 24 C
  below : Below w.heap.size w W
set_option maxRecDepth 100000 in
theorem plAt_own (w : World) (l : List Bx) (p : Bx → Bool) (C : Array Value) (fv : Value) (B : Nat) (hB : w.heap.size ≤ B) : OwnFrom B (PlAt w l p C fv) := by
  intro pre W1 W2 row h hg hr
  have hr' : ∀ r, row = some r → ∃ o : Obj, W1.heap[r]? = some o ∧ o.isCells = false := fun r e => (hr r e).2
  exact ⟨h.no, h.res.turn hg hr', h.fn.turn hg hr', h.bn.turn hg hr', h.below.grown hg h.below.size (fun k e => by have := (hr k e).1; omega)⟩
set_option maxRecDepth 100000 in
theorem PlAt.under {w : World} {l : List Bx} {p : Bx → Bool} {C : Array Value} {fv : Value} {pre : List (Nat × Bx)} {W W' : World} (h : PlAt w l p C fv pre W) (hb : Below W.heap.size W W') : PlAt w l p C fv pre W' := ⟨h.no, h.res.under hb, h.fn.under hb, h.bn.under hb, h.below.trans (hb.mono h.below.size)⟩

/-- Where the loop is left: the place is told. -/
def PlEnd (w : World) (l : List Bx) (p : Bx → Bool) (c : Code) (W : World) : Prop := c = .ret ∧ ∃ j : Nat, firstAt p l = some j ∧ Whole W (w.heap.size + 1 + 1) 3 #[.int .i64 (j : Int)] ∧ Below w.heap.size w W
set_option maxRecDepth 100000 in
theorem plEnd_own (w : World) (l : List Bx) (p : Bx → Bool) (B : Nat) (hB : w.heap.size ≤ B) : OwnFrom B (PlEnd w l p) := by
  rintro c W1 W2 row ⟨h0, j, h1, h2, h3⟩ hg hr
  have hr' : ∀ r, row = some r → ∃ o : Obj, W1.heap[r]? = some o ∧ o.isCells = false := fun r e => (hr r e).2
  exact ⟨h0, j, h1, h2.turn hg hr', h3.grown hg h3.size (fun k e => by have := (hr k e).1; omega)⟩

def PlacePost (r : Option Nat) (w : World) (e : Ending) (w' : World) : Prop := e = .returned (.int .i64 (placeI r)) ∧ Below w.heap.size w w'

end Go.Proofs.Ytdoaakohgmohkaa
