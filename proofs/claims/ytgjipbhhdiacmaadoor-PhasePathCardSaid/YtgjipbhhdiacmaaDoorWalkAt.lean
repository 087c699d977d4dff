/-
  The world named where a walk stands. Conditions: none.
-/
import Derived.ProofKit
import Derived.Below
import Derived.Deep.Draws
namespace Go.Proofs.YtgjipbhhdiacmaaDoor
open Go.RowKit

theorem wpV {P : Program} {c : Code} {Q : Exit → Act → World → Prop} {a : Act} {W : World} (h : ∀ V, W = V → c.wp P Q a V) : c.wp P Q a W := h W rfl
theorem callsV {P : Program} {f : FuncId} {args : Array Value} {W : World} {R : Ending → World → Prop} (h : ∀ V, W = V → Calls P f args V R) : Calls P f args W R := h W rfl
theorem qV {Q : Exit → Act → World → Prop} {e : Exit} {a : Act} {W : World} (h : ∀ V, W = V → Q e a V) : Q e a W := h W rfl
theorem below_drewB {B : Nat} {w w' : World} (h : Below B w w') (k : Nat) : Below B w (w'.drewN k) := ⟨h.os, h.tape, h.output, h.size, h.block⟩

end Go.Proofs.YtgjipbhhdiacmaaDoor
