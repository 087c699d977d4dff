/-
  The table of bounds, as a statement's premise on the package's variable tells it. Conditions: those that each theorem names.
-/
import Derived.Test.YtdjieigmncoooaaDoorConfOpen
namespace Go.Proofs.YtdjieigmncoooaaDoor
open Go.RowKit Go.Shelf Go.ChangeShapes Go.WideShapes Go.ChangeAt

set_option maxRecDepth 100000 in
theorem gBounds : Tryd.prog.globalNamed "herd/conf.bounds" = some 0 := by kernel_rfl
set_option maxRecDepth 100000 in
theorem tBounds : (Tryd.prog.globals[0]?).map (·.type) = some 53 := by kernel_rfl

/-- The datum, element by element. -/
def bD (i : Nat) : DataW Unit := .agg [.lit (.int .i64 (loB i)), .lit (.int .i64 (hiB i))]
set_option maxRecDepth 100000 in
theorem laid_list : (Rows.laid_herd_conf_bounds : DataW Unit) = .agg ((List.range 13).map bD) := rfl

set_option maxRecDepth 100000 in
theorem tab_of_laid {W : World} (h : laidMetH Tryd.prog [("herd/conf.bounds", Rows.laid_herd_conf_bounds)] W) : Tab W := by
  rw [MakeChecks.laidMetH_plain _ _ _ (by kernel_rfl)] at h
  obtain ⟨ps, ⟨g0, t0, cs0, f0, p0, q0, hg0, ht0, hv0, hd0, _, _⟩, _, _⟩ := h
  obtain rfl := Option.some.inj (gBounds.symm.trans hg0)
  obtain rfl := Option.some.inj (tBounds.symm.trans ht0)
  obtain ⟨xs, m1, rfl, hx1, hlen, hn3, hel⟩ := DataW.trod_array Tryd.underlying53 hd0
  rw [laid_list] at hx1
  simp only [Prod.mk.injEq, DataW.agg.injEq] at hx1
  have cC : Tryd.prog.cellsOf 52 = 2 := by kernel_rfl
  have c3 : Tryd.prog.cellsOf 3 = 1 := by kernel_rfl
  have each : ∀ k, k < 13 → W.cell? ⟨0, k * 2, none⟩ = some (.int .i64 (loB k)) ∧ W.cell? ⟨0, k * 2 + 1, none⟩ = some (.int .i64 (hiB k)) := by
    intro k hk
    obtain ⟨y, hy⟩ : ∃ y, xs[k]? = some y := ⟨_, List.getElem?_eq_getElem (by omega)⟩
    have e1 : bD k = y.1 := by
      have := congrArg (fun l : List (DataW Unit) => l[k]?) hx1.1
      simpa [hy, hk] using this
    have h1 := hel k hk
    rw [cC, hy] at h1
    obtain ⟨u0, u1, m, hx, _, k0, k1⟩ := trod_struct2 Tryd.underlying52 h1
    obtain ⟨z0, e0, r0, _⟩ := DataW.trod_int Tryd.underlying3 k0
    obtain ⟨z1, e2, r1, _⟩ := DataW.trod_int Tryd.underlying3 k1
    rw [hx, r0, r1] at e1
    simp only [bD, DataW.agg.injEq, List.cons.injEq, DataW.lit.injEq, Lit.int.injEq, true_and, and_true] at e1
    obtain ⟨q0, q1⟩ := e1
    have v0 := World.var?_cell hg0 hv0 (k * 2)
    have v1 := World.var?_cell hg0 hv0 (k * 2 + 1)
    have a0 := congrArg (fun l : List Value => l[0]?) e0
    have a1 := congrArg (fun l : List Value => l[0]?) e2
    rw [c3] at a0 a1
    simp [List.getElem?_drop] at a0 a1
    rw [q0, q1]
    exact ⟨v0.trans a0, v1.trans a1⟩
  exact ⟨World.block_lt_of_cell? W _ (each 0 (by omega)).1, each⟩

end Go.Proofs.YtdjieigmncoooaaDoor
