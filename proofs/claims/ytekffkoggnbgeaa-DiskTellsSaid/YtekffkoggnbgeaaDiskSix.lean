/-
  What one operation does to an array of six disks: it is made, it is built, it is stored; and a call of a function on plain arguments. Conditions: none but those named.
-/
import Derived.Test.YtekffkoggnbgeaaRefSameAll
import Derived.Laws.CopyOwn
namespace Go.Proofs.Ytekffkoggnbgeaa
open Go.RowKit Go.Shelf

abbrev sixZ : Array Value := #[.slice none 0 0, .int .i64 0, .int .i64 0, .slice none 0 0, .int .i64 0, .int .i64 0, .slice none 0 0, .int .i64 0, .int .i64 0, .slice none 0 0, .int .i64 0, .int .i64 0, .slice none 0 0, .int .i64 0, .int .i64 0, .slice none 0 0, .int .i64 0, .int .i64 0]

set_option maxHeartbeats 400000 in
theorem opSix_alloc {K : Act → World → Prop} {Q : Exit → Act → World → Prop} {a : Act} {w : World} {dst : Option Tmp} {t : TypeId} {pos : String} {after : Array Edge} (h : K (a.put dst (.pointer (some ⟨w.heap.size, 0, none⟩))) (w.alloc (.cells sixZ 33))) :
    ({ dst := dst, op := .alloc 33, type := t, pos := pos, after := after, guard := none } : Oper).wp Try.prog a w K Q := by
  unfold Oper.wp execOp
  go_simp
  exact h

set_option maxHeartbeats 400000 in
theorem opSix_build {K : Act → World → Prop} {Q : Exit → Act → World → Prop} {a : Act} {w : World} {dst : Option Tmp} {t : TypeId} {pos : String} {after : Array Edge} {x0 x1 x2 x3 x4 x5 : Operand} {p0 q0 r0 p1 q1 r1 p2 q2 r2 p3 q3 r3 p4 q4 r4 p5 q5 r5 : Value} (h0 : a.eval x0 = .agg #[p0, q0, r0]) (h1 : a.eval x1 = .agg #[p1, q1, r1]) (h2 : a.eval x2 = .agg #[p2, q2, r2]) (h3 : a.eval x3 = .agg #[p3, q3, r3]) (h4 : a.eval x4 = .agg #[p4, q4, r4]) (h5 : a.eval x5 = .agg #[p5, q5, r5]) (h : K (a.put dst (.agg #[p0, q0, r0, p1, q1, r1, p2, q2, r2, p3, q3, r3, p4, q4, r4, p5, q5, r5])) w) :
    ({ dst := dst, op := .build 33 #[(0, x0), (1, x1), (2, x2), (3, x3), (4, x4), (5, x5)], type := t, pos := pos, after := after, guard := none } : Oper).wp Try.prog a w K Q := by
  unfold Oper.wp execOp
  simp only [List.map_toArray, List.map_cons, List.map_nil, h0, h1, h2, h3, h4, h5]
  go_simp
  exact h

abbrev tSix : TypeId := 33

section
variable {w w' : World} {b g : Nat} {t : TypeId} {cs c' : Array Value}
theorem Whole.setRow (h : Whole w b t cs) (c' : Array Value) : Whole (w.setRow b c') b t c' := setRow_heap w b cs c' t (0, 0) h
theorem Whole.farRow (h : Whole w b t cs) (hne : b ≠ g) (c' : Array Value) : Whole (w.setRow g c') b t cs := (setRow_other w g b c' hne).trans h
theorem own_farRow {base n : Nat} {e : TypeId} {size : Nat} {v : Value} {xs : List Value} (ho : w.ownsRow base e size v n xs) (hne : v.ownBlock ≠ some g) (c' : Array Value) : (w.setRow g c').ownsRow base e size v n xs := by
  refine ⟨ho.1, ?_⟩
  rcases ho.2 with h | ⟨k, cap, cur, rfl, h2, h3, h4⟩
  · exact .inl h
  · exact .inr ⟨k, cap, cur, rfl, h2, (setRow_other w g k c' (fun e => hne (by simp [Value.ownBlock, e]))).trans h3, h4⟩
theorem own_farSix {base n : Nat} {v : Value} {xs : List Value} (ho : w.ownsRow base 5 1 v n xs) (hw : Whole w g tSix cs) (c' : Array Value) : (w.setRow g c').ownsRow base 5 1 v n xs := own_farRow ho (own_apart_of (by decide) ho hw) c'
end

theorem opSix_store {K : Act → World → Prop} {Q : Exit → Act → World → Prop} {a : Act} {w : World} {t : TypeId} {pos : String} {after : Array Edge} {x y : Operand} {b : Nat} {cs c' : Array Value} (hx : a.eval x = .pointer (some ⟨b, 0, none⟩)) (hy : a.eval y = .agg c') (hw : Whole w b tSix cs) (hs : cs.size = 18) (hs' : c'.size = 18) (h1 : c'.all (·.oneCell') = true) (h : K a (w.setRow b c')) :
    ({ dst := none, op := .store 33 x y, type := t, pos := pos, after := after, guard := none } : Oper).wp Try.prog a w K Q := by
  have hi : (Try.prog.info? 33).map (·.size) = some c'.size := by rw [hs']; kernel_rfl
  unfold Oper.wp execOp
  simp only [hx, hy, Instr.storeAt, Instr.sureAddr, Sem.run_bind, Sem.run_pure, Result.andThen_ok, run_storeVar_row w b tSix 33 cs c' hw hi (by rw [hs, hs']) h1]
  exact h

theorem opF_one {K : Act → World → Prop} {Q : Exit → Act → World → Prop} {a : Act} {w : World} {dst : Option Tmp} {t tx : TypeId} {pos : String} {after : Array Edge} {f : FuncId} {x : Operand} {T : Ending → World → Prop} {vs : Value} (hen : ∀ args w, (callFunc f args).run Try.prog w = .ok (.enter f args) w) (hx : a.eval x = vs) (hc : Calls Try.prog f #[vs] w T) (h : ∀ e w', T e w' → ∃ v, e = .returned v ∧ K (a.put dst v) w') :
    ({ dst := dst, op := .call { callee := .value (.func f), args := #[x], argTypes := #[tx] }, type := t, pos := pos, after := after, guard := none } : Oper).wp Try.prog a w K Q := by
  have hf : a.eval (.func f) = .func (.func f) #[] #[] := rfl
  unfold Oper.wp execOp
  simp only [resolve, List.map_toArray, List.map_cons, List.map_nil, hx, hf]
  go_simp
  refine hc.mono ?_
  intro e w' hT
  obtain ⟨v, rfl, hK⟩ := h e w' hT
  exact hK
theorem opF_two {K : Act → World → Prop} {Q : Exit → Act → World → Prop} {a : Act} {w : World} {dst : Option Tmp} {t tx ty : TypeId} {pos : String} {after : Array Edge} {f : FuncId} {x y : Operand} {T : Ending → World → Prop} {vs vx : Value} (hen : ∀ args w, (callFunc f args).run Try.prog w = .ok (.enter f args) w) (hx : a.eval x = vs) (hy : a.eval y = vx) (hc : Calls Try.prog f #[vs, vx] w T) (h : ∀ e w', T e w' → ∃ v, e = .returned v ∧ K (a.put dst v) w') :
    ({ dst := dst, op := .call { callee := .value (.func f), args := #[x, y], argTypes := #[tx, ty] }, type := t, pos := pos, after := after, guard := none } : Oper).wp Try.prog a w K Q := by
  have hf : a.eval (.func f) = .func (.func f) #[] #[] := rfl
  unfold Oper.wp execOp
  simp only [resolve, List.map_toArray, List.map_cons, List.map_nil, hx, hy, hf]
  go_simp
  refine hc.mono ?_
  intro e w' hT
  obtain ⟨v, rfl, hK⟩ := h e w' hT
  exact hK

end Go.Proofs.Ytekffkoggnbgeaa
