/-
  Operations of drawn regions in which events are done, one by one. Conditions: those that each theorem names.
-/
import Derived.Test.YtoiegffnmjlkdaaCdRegKit
import Derived.Test.YtoiegffnmjlkdaaEvKit
namespace Go.Proofs.Ytoiegffnmjlkdaa
open Go.RowKit Go.Shelf

/-- An event in a block that is there. -/
def EvB (w : World) (b o : Nat) (e : Ev) : Prop := b < w.heap.size ∧ EvAt w b o e
theorem EvB.under {w w' : World} {b o : Nat} {e : Ev} (h : EvB w b o e) (hb : Below w.heap.size w w') : EvB w' b o e := ⟨Nat.lt_of_lt_of_le h.1 hb.size, evAt_of fun i hi => (hb.cell (p := ⟨b, o + i, none⟩) h.1).trans (h.2.all i hi)⟩
section
variable {K : Act → World → Prop} {Q : Exit → Act → World → Prop} {a : Act} {w : World} {dst : Option Tmp} {t : TypeId} {pos : String} {after : Array Edge} {b : Nat} {x y z : Operand} {e e2 e3 : Ev}
theorem opF_idxE {off m cl j : Nat} (hx : a.eval x = .slice (some ⟨b, off, none⟩) m cl) (hy : a.eval y = .int .i64 (j : Int)) (hj : (j : Int) < (m : Int)) (h : K (a.put dst (.pointer (some ⟨b, off + j * 3, none⟩))) w) :
    ({ dst := dst, op := .indexAddr 27 x y, type := t, pos := pos, after := after, guard := none } : Oper).wp Try.prog a w K Q := by
  unfold Oper.wp execOp
  simp only [hx, hy]
  go_simp
  exact h
theorem opF_loadEv {p : Nat} (hx : a.eval x = .pointer (some ⟨b, p, none⟩)) (hq : EvAt w b p e) (h : K (a.put dst (.agg #[.int .u8 e.kind, .int .i64 e.a, .int .i64 e.b])) w) :
    ({ dst := dst, op := .load 26 x, type := t, pos := pos, after := after, guard := none } : Oper).wp Try.prog a w K Q := by
  obtain ⟨c0, c1, c2⟩ := hq
  unfold Oper.wp execOp
  simp only [hx]
  go_simp
  exact h
theorem opF_evDo {T : Ending → World → Prop} {vs vx : Value} (hx : a.eval x = vs) (hy : a.eval y = vx) (hc : Calls Try.prog 10 #[vs, vx] w T) (h : ∀ e w', T e w' → ∃ v, e = .returned v ∧ K (a.put dst v) w') :
    ({ dst := dst, op := .call { callee := .value (.func 10), args := #[x, y], argTypes := #[24, 26] }, type := t, pos := pos, after := after, guard := none } : Oper).wp Try.prog a w K Q := by
  have hf : a.eval (.func 10) = .func (.func 10) #[] #[] := rfl
  unfold Oper.wp execOp
  simp only [resolve, List.map_toArray, List.map_cons, List.map_nil, hx, hy, hf]
  go_simp
  refine hc.mono ?_
  intro e w' hT
  obtain ⟨v, rfl, hK⟩ := h e w' hT
  exact hK
theorem opF_evAll {T : Ending → World → Prop} {vs vx : Value} (hx : a.eval x = vs) (hy : a.eval y = vx) (hc : Calls Try.prog 12 #[vs, vx] w T) (h : ∀ e w', T e w' → ∃ v, e = .returned v ∧ K (a.put dst v) w') :
    ({ dst := dst, op := .call { callee := .value (.func 12), args := #[x, y], argTypes := #[24, 27] }, type := t, pos := pos, after := after, guard := none } : Oper).wp Try.prog a w K Q := by
  have hf : a.eval (.func 12) = .func (.func 12) #[] #[] := rfl
  unfold Oper.wp execOp
  simp only [resolve, List.map_toArray, List.map_cons, List.map_nil, hx, hy, hf]
  go_simp
  refine hc.mono ?_
  intro e w' hT
  obtain ⟨v, rfl, hK⟩ := h e w' hT
  exact hK
theorem opF_bs1 (hx : a.eval x = .agg #[.int .u8 e.kind, .int .i64 e.a, .int .i64 e.b]) (h : K (a.put dst (.slice (some ⟨w.heap.size, 0, none⟩) 1 1)) (w.alloc (.cells ([e].flatMap Ev.vs).toArray 26))) :
    ({ dst := dst, op := .buildSlice 27 1 #[(0, x)], type := t, pos := pos, after := after, guard := none } : Oper).wp Try.prog a w K Q := by
  unfold Oper.wp execOp
  simp only [List.map_toArray, List.map_cons, List.map_nil, hx]
  go_simp
  exact h
theorem opF_bs3 (hx : a.eval x = .agg #[.int .u8 e.kind, .int .i64 e.a, .int .i64 e.b]) (hy : a.eval y = .agg #[.int .u8 e2.kind, .int .i64 e2.a, .int .i64 e2.b]) (hz : a.eval z = .agg #[.int .u8 e3.kind, .int .i64 e3.a, .int .i64 e3.b]) (h : K (a.put dst (.slice (some ⟨w.heap.size, 0, none⟩) 3 3)) (w.alloc (.cells ([e, e2, e3].flatMap Ev.vs).toArray 26))) :
    ({ dst := dst, op := .buildSlice 27 3 #[(0, x), (1, y), (2, z)], type := t, pos := pos, after := after, guard := none } : Oper).wp Try.prog a w K Q := by
  unfold Oper.wp execOp
  simp only [List.map_toArray, List.map_cons, List.map_nil, hx, hy, hz]
  go_simp
  exact h
end

end Go.Proofs.Ytoiegffnmjlkdaa
