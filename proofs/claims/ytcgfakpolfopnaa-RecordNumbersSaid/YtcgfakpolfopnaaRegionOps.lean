/-
  The operations of a region that draws, one by one: what each leaves, in whatever frame. Conditions: those that each theorem names.
-/
import Derived.Test.YtcgfakpolfopnaaRegionInv
namespace Go.Proofs.Ytcgfakpolfopnaa
open Go.RowKit Go.Shelf

section
variable {K : Act → World → Prop} {Q : Exit → Act → World → Prop} {a : Act} {w : World} {dst : Option Tmp} {t : TypeId} {pos : String} {after : Array Edge} {b : Nat} {x y : Operand}

theorem op_field0 (hx : a.eval x = .pointer (some ⟨b, 0, none⟩)) (h : K (a.put dst (.pointer (some ⟨b, 0, none⟩))) w) :
    ({ dst := dst, op := .fieldAddr 24 x 0, type := t, pos := pos, after := after, guard := none } : Oper).wp Try.prog a w K Q := by
  unfold Oper.wp execOp
  simp only [hx]
  go_simp
  exact h
theorem op_field1 (hx : a.eval x = .pointer (some ⟨b, 0, none⟩)) (h : K (a.put dst (.pointer (some ⟨b, 1, none⟩))) w) :
    ({ dst := dst, op := .fieldAddr 24 x 1, type := t, pos := pos, after := after, guard := none } : Oper).wp Try.prog a w K Q := by
  unfold Oper.wp execOp
  simp only [hx]
  go_simp
  exact h
theorem op_loadk {k : Int} (hx : a.eval x = .pointer (some ⟨b, 0, none⟩)) (hc : w.cell? ⟨b, 0, none⟩ = some (.int .u8 k)) (h : K (a.put dst (.int .u8 k)) w) :
    ({ dst := dst, op := .load 5 x, type := t, pos := pos, after := after, guard := none } : Oper).wp Try.prog a w K Q := by
  unfold Oper.wp execOp
  simp only [hx]
  go_simp
  exact h
theorem op_loadl {A : Option Addr} {n c : Nat} (hx : a.eval x = .pointer (some ⟨b, 1, none⟩)) (hc : w.cell? ⟨b, 1, none⟩ = some (.slice A n c)) (h : K (a.put dst (.slice A n c)) w) :
    ({ dst := dst, op := .load 22 x, type := t, pos := pos, after := after, guard := none } : Oper).wp Try.prog a w K Q := by
  unfold Oper.wp execOp
  simp only [hx]
  go_simp
  exact h
theorem op_make0 (h : K (a.put dst (.slice (some ⟨w.heap.size, 0, none⟩) 0 0)) (w.alloc (.cells #[] 3))) :
    ({ dst := dst, op := .buildSlice 22 0 #[], type := t, pos := pos, after := after, guard := none } : Oper).wp Try.prog a w K Q := by
  unfold Oper.wp execOp
  go_simp
  exact h
theorem op_make1 (h : K (a.put dst (.slice (some ⟨w.heap.size, 0, none⟩) 1 1)) (w.alloc (.cells #[.int .i64 1] 3))) :
    ({ dst := dst, op := .buildSlice 22 1 #[(0, .const (.int .i64 1))], type := t, pos := pos, after := after, guard := none } : Oper).wp Try.prog a w K Q := by
  unfold Oper.wp execOp
  go_simp
  exact h
theorem op_append {vs vx v' : Value} {w' : World} (hx : a.eval x = vs) (hy : a.eval y = vx) (hr : (Builtin.append_ #[22, 22] t #[vs, vx]).run Try.prog w = .ok v' w') (h : K (a.put dst v') w') :
    ({ dst := dst, op := .call { callee := .builtin .append, args := #[x, y], argTypes := #[22, 22] }, type := t, pos := pos, after := after, guard := none } : Oper).wp Try.prog a w K Q := by
  unfold Oper.wp execOp
  simp only [resolve, invoke, builtin, Sem.run_bind, Sem.run_pure, Result.andThen_ok, List.map_toArray, List.map_cons, List.map_nil, hx, hy, hr]
  exact h
theorem op_of {T : Ending → World → Prop} {vs vx : Value} (hx : a.eval x = vs) (hy : a.eval y = vx) (hc : Calls Try.prog 23 #[vs, vx] w T) (h : ∀ e w', T e w' → ∃ v, e = .returned v ∧ K (a.put dst v) w') :
    ({ dst := dst, op := .call { callee := .value (.func 23), args := #[x, y], argTypes := #[5, 22] }, type := t, pos := pos, after := after, guard := none } : Oper).wp Try.prog a w K Q := by
  have hf : a.eval (.func 23) = .func (.func 23) #[] #[] := rfl
  unfold Oper.wp execOp
  simp only [resolve, List.map_toArray, List.map_cons, List.map_nil, hx, hy, hf]
  go_simp
  refine hc.mono ?_
  intro e w' hT
  obtain ⟨v, rfl, hK⟩ := h e w' hT
  exact hK
theorem op_alloc (h : K (a.put dst (.pointer (some ⟨w.heap.size, 0, none⟩))) (w.alloc (.cells #[.int .u8 0, .slice none 0 0] 24))) :
    ({ dst := dst, op := .alloc 24, type := t, pos := pos, after := after, guard := none } : Oper).wp Try.prog a w K Q := by
  unfold Oper.wp execOp
  go_simp
  exact h
theorem op_store {k : Int} {A : Option Addr} {n c : Nat} {cs : Array Value} (hx : a.eval x = .pointer (some ⟨b, 0, none⟩)) (hy : a.eval y = .agg #[.int .u8 k, .slice A n c]) (hw : Whole w b 24 cs) (hs : cs.size = 2)
    (h : K (a.put dst undef) ((w.setCell ⟨b, 0, none⟩ (.int .u8 k)).setCell ⟨b, 1, none⟩ (.slice A n c))) :
    ({ dst := dst, op := .store 24 x y, type := t, pos := pos, after := after, guard := none } : Oper).wp Try.prog a w K Q := by
  have h0 := hw.frozen 0
  have h1 := hw.frozen 1
  have c0 := hw.cell 0
  have c1 := hw.cell 1
  obtain ⟨u0, u1, e⟩ : ∃ u0 u1, cs = #[u0, u1] := by
    match cs, hs with
    | ⟨[u0, u1]⟩, _ => exact ⟨u0, u1, rfl⟩
  subst e
  simp only [List.getElem?_toArray, List.getElem?_cons_zero, List.getElem?_cons_succ] at c0 c1
  unfold Oper.wp execOp
  simp only [hx, hy]
  go_simp
  exact h
end

end Go.Proofs.Ytcgfakpolfopnaa
