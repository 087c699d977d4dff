/-
  Two boxes compared: one step of a walk. Conditions: those that the theorem names.
-/
import Derived.Test.YtoiegffnmjlkdaaCdEq
import Derived.BigQuiet
namespace Go.Proofs.Ytoiegffnmjlkdaa
open Go.RowKit Go.Shelf

theorem wpList_neqBx {W : World} {ops : Array Oper} {rest : List Oper} {o : Oper} {a : Act} {Q : Exit → Act → World → Prop} {xo yo : Operand} (u z : Bx) (v : Bool) (hg : o.guard = none) (hop : o.op = .binOp .neq 36 xo yo 36) (hx : a.eval xo = .agg #[.int .i64 u.id, .int .i64 u.tok, .int .i64 u.ver, .int .i64 u.zone, .bool u.tag, .bool u.on, .bool u.gone, .bool u.well, .int .u8 u.lb, .int .i64 u.unt, .int .i64 u.fen]) (hy : a.eval yo = .agg #[.int .i64 z.id, .int .i64 z.tok, .int .i64 z.ver, .int .i64 z.zone, .bool z.tag, .bool z.on, .bool z.gone, .bool z.well, .int .u8 z.lb, .int .i64 z.unt, .int .i64 z.fen]) (hv : (!decide (u = z)) = v)
    (h : wpList Try.prog ops Q rest (a.put o.dst (.bool v)) W) : wpList Try.prog ops Q (o :: rest) a W := by
  refine wpList_plain hg fun K' hK' => ?_
  have hrun := run_neqBx W u z
  rw [hv] at hrun
  have hgt : Try.prog.eqGuardType Try.prog.depth 36 = false := by kernel_rfl
  unfold Oper.wp execOp
  simp only [hop, hx, hy, Sem.run_bind, run_eqGuard_agg (op := .neq) (hm := hgt), Result.andThen_ok, hrun, Sem.run_pure]
  exact hK' _ _ h

/-- The same, as an operation of a region taken by hand. -/
theorem exec_neqBx {W : World} {a : Act} {dst : Option Tmp} {ty : TypeId} {pos : String} {after : Array Edge} {g : Option (Nat × Bool)} {xo yo : Operand} (u z : Bx) (v : Bool) (hx : a.eval xo = .agg #[.int .i64 u.id, .int .i64 u.tok, .int .i64 u.ver, .int .i64 u.zone, .bool u.tag, .bool u.on, .bool u.gone, .bool u.well, .int .u8 u.lb, .int .i64 u.unt, .int .i64 u.fen]) (hy : a.eval yo = .agg #[.int .i64 z.id, .int .i64 z.tok, .int .i64 z.ver, .int .i64 z.zone, .bool z.tag, .bool z.on, .bool z.gone, .bool z.well, .int .u8 z.lb, .int .i64 z.unt, .int .i64 z.fen]) (hv : (!decide (u = z)) = v) :
    (execOp a.eval { dst := dst, op := .binOp .neq 36 xo yo 36, type := ty, pos := pos, after := after, guard := g }).run Try.prog W = .ok (.value (.bool v)) W := by
  have hrun := run_neqBx W u z
  rw [hv] at hrun
  have hgt : Try.prog.eqGuardType Try.prog.depth 36 = false := by kernel_rfl
  unfold execOp
  simp only [hx, hy, Sem.run_bind, run_eqGuard_agg (op := .neq) (hm := hgt), Result.andThen_ok, hrun, Sem.run_pure]

/-- The same, as a step of a region that only reads. -/
theorem wpQuiet_neqBx {ops : Array Oper} {C : World → Prop} {rest : List Oper} {o : Oper} {a : Act} {Q : Act → Prop} {xo yo : Operand} (u z : Bx) (v : Bool) (hw : Region.wanted o (yielded ops a.tmps) = true) (hop : o.op = .binOp .neq 36 xo yo 36) (hx : a.eval xo = .agg #[.int .i64 u.id, .int .i64 u.tok, .int .i64 u.ver, .int .i64 u.zone, .bool u.tag, .bool u.on, .bool u.gone, .bool u.well, .int .u8 u.lb, .int .i64 u.unt, .int .i64 u.fen]) (hy : a.eval yo = .agg #[.int .i64 z.id, .int .i64 z.tok, .int .i64 z.ver, .int .i64 z.zone, .bool z.tag, .bool z.on, .bool z.gone, .bool z.well, .int .u8 z.lb, .int .i64 z.unt, .int .i64 z.fen]) (hv : (!decide (u = z)) = v)
    (h : wpQuiet Try.prog ops C Q rest (a.put o.dst (.bool v))) : wpQuiet Try.prog ops C Q (o :: rest) a := by
  refine wpQuiet_step fun K hK => ?_
  rw [if_pos hw]
  refine ⟨.bool v, fun w _ => ?_, hK _ h⟩
  have hrun := run_neqBx w u z
  rw [hv] at hrun
  have hgt : Try.prog.eqGuardType Try.prog.depth 36 = false := by kernel_rfl
  unfold Oper.quietAt execOp
  simp only [hop, hx, hy, Sem.run_bind, run_eqGuard_agg (op := .neq) (hm := hgt), Result.andThen_ok, hrun, Sem.run_pure]
  exact ⟨rfl, rfl⟩

end Go.Proofs.Ytoiegffnmjlkdaa
