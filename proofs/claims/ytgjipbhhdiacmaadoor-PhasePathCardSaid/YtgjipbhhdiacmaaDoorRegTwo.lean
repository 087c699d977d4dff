/-
  A drawn region by hand, where either of two operations may come up. Conditions: those that each theorem names.
-/
import Derived.Test.YtgjipbhhdiacmaaDoorRegT
namespace Go.Proofs.YtgjipbhhdiacmaaDoor
open Go.RowKit Go.Shelf

section
variable {P : Program} {ops : Array Oper} {Q : Exit → Act → World → Prop} {md : Region.Mode} {ls : List Nat} {T : World → Prop} {listed : Array Bool} {a : Act} {w : World} {fuel : Nat} {i j : Nat}
variable {d d' : Option Tmp} {op op' : Op} {t t' : TypeId} {pos pos' : String} {after after' : Array Edge} {g g' : Option (Nat × Bool)}
set_option maxRecDepth 100000 in
/-- Two operations may come up: the walk goes on behind either. -/
theorem twoT (hi : ops[i]? = some { dst := d, op := op, type := t, pos := pos, after := after, guard := g }) (hj : ops[j]? = some { dst := d', op := op', type := t', pos := pos', after := after', guard := g' }) (hr : Region.ready md ops listed = [i, j])
    (hw : Region.wanted { dst := d, op := op, type := t, pos := pos, after := after, guard := g } (yielded ops a.tmps) = true)
    (hw' : Region.wanted { dst := d', op := op', type := t', pos := pos', after := after', guard := g' } (yielded ops a.tmps) = true)
    (h : ∀ K' : Act → World → Prop, Shut (∀ a w, (fresh ls (listed.setIfInBounds i true) = true → T w) → wpAnyT P md ops Q ls T fuel (listed.setIfInBounds i true) a w → K' a w) → ({ dst := d, op := op, type := t, pos := pos, after := after, guard := g } : Oper).wp P a w K' Q)
    (h' : ∀ K' : Act → World → Prop, Shut (∀ a w, (fresh ls (listed.setIfInBounds j true) = true → T w) → wpAnyT P md ops Q ls T fuel (listed.setIfInBounds j true) a w → K' a w) → ({ dst := d', op := op', type := t', pos := pos', after := after', guard := g' } : Oper).wp P a w K' Q) : wpAnyT P md ops Q ls T (fuel + 1) listed a w := by
  refine ⟨fun h0 => (by rw [hr] at h0; cases h0), fun k hk => ?_⟩
  rw [hr] at hk
  simp only [List.mem_cons, List.not_mem_nil, or_false] at hk
  rcases hk with rfl | rfl
  · exact wpOp_step hi (fun K' hK => by rw [if_pos hw]; exact h K' (fun a w hT hW => hK a w ⟨hT, hW⟩))
  · exact wpOp_step hj (fun K' hK => by rw [if_pos hw']; exact h' K' (fun a w hT hW => hK a w ⟨hT, hW⟩))
end

end Go.Proofs.YtgjipbhhdiacmaaDoor
