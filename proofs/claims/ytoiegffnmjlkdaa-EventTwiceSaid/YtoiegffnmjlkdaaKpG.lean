/-
  What a round keeps, told by a predicate on blocks. Conditions: those that each theorem names.
-/
import Derived.Test.YtoiegffnmjlkdaaRangeMem
namespace Go.Proofs.Ytoiegffnmjlkdaa
open Go.RowKit Go.Shelf

/-- What a round keeps: the blocks of which G holds. -/
def KpG (G : Nat → Prop) (W W' : World) : Prop := W.heap.size ≤ W'.heap.size ∧ ∀ b, G b → W'.heap[b]? = W.heap[b]?
section
variable {G : Nat → Prop} {W W' W'' : World}
theorem kpG_t (h : KpG G W W') (k : KpG G W' W'') : KpG G W W'' := ⟨Nat.le_trans h.1 k.1, fun b hb => (k.2 b hb).trans (h.2 b hb)⟩
theorem kpG_refl : KpG G W W := ⟨Nat.le_refl _, fun _ _ => rfl⟩
theorem kpG_b {w : World} (hG : ∀ b, G b → b < w.heap.size) (W : World) (i : Nat) (o o' : Obj) (hl : w.heap.size ≤ i) (_ : W.heap[i]? = some o) (_ : o.isCells = false) (_ : o.isWalk = false) : KpG G W (W.putObj i o') :=
  ⟨by simp [World.putObj], fun b hb => World.putObj_heap_other (by have := hG b hb; omega)⟩
theorem kpG_under (hG : ∀ b, G b → b < W.heap.size) (h : Below W.heap.size W W') : KpG G W W' := ⟨h.size, fun b hb => h.block b (hG b hb)⟩
theorem kpG_set (g i : Nat) (hg : ¬ G g) (v : Value) : KpG G W (W.setCell ⟨g, i, none⟩ v) := ⟨by simp, fun b hb => Below.heap_setCell W ⟨g, i, none⟩ v b (fun e => hg (by subst e; exact hb))⟩
end

end Go.Proofs.Ytoiegffnmjlkdaa
