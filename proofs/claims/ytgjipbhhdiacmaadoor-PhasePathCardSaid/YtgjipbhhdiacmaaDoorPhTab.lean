/-
  The table of names, as a statement's premise on the package's variable tells it. Conditions: those that each theorem names.
-/
import Derived.Test.YtgjipbhhdiacmaaDoorPhSmall
import Derived.Test.YtgjipbhhdiacmaaDoorKpOpen
import Derived.Test.YtgjipbhhdiacmaaDoorConfOpen
import Derived.Test.YtgjipbhhdiacmaaDoorRows
namespace Go.Proofs.YtgjipbhhdiacmaaDoor
open Go.RowKit Go.Shelf Go.ChangeShapes Go.WideShapes Go.ChangeAt

theorem gNames : Tryd.prog.globalNamed "herd/phase.names" = some 0 := by kernel_rfl
theorem tNames : (Tryd.prog.globals[0]?).map (·.type) = some 44 := by kernel_rfl
theorem laid_listN : (Rows.laid_herd_phase_names : DataW Unit) = .agg ((List.range 11).map fun i => .lit (.string (nmP i))) := rfl

set_option maxRecDepth 100000 in
theorem tabN_of_laid {W : World} (h : laidMetH Tryd.prog [("herd/phase.names", Rows.laid_herd_phase_names)] W) : TabN W := by
  rw [MakeChecks.laidMetH_plain _ _ _ (by kernel_rfl)] at h
  obtain ⟨ps, ⟨g0, t0, cs0, f0, p0, q0, hg0, ht0, hv0, hd0, _, _⟩, _, _⟩ := h
  obtain rfl := Option.some.inj (gNames.symm.trans hg0)
  obtain rfl := Option.some.inj (tNames.symm.trans ht0)
  have c9 : Tryd.prog.cellsOf 9 = 1 := by kernel_rfl
  obtain ⟨xs, m1, rfl, hx1, hlen, hn3, hel⟩ := DataW.trod_array Tryd.underlying44 hd0
  rw [laid_listN] at hx1
  simp only [Prod.mk.injEq, DataW.agg.injEq] at hx1
  have each : ∀ k, k < 11 → W.cell? ⟨0, k, none⟩ = some (.string ⟨(nmP k).toArray⟩) := by
    intro k hk
    obtain ⟨y, hy⟩ : ∃ y, xs[k]? = some y := ⟨_, List.getElem?_eq_getElem (by omega)⟩
    have e1 : (.lit (.string (nmP k)) : DataW Unit) = y.1 := by
      have := congrArg (fun l : List (DataW Unit) => l[k]?) hx1.1
      simpa [hy, hk] using this
    have h1 := hel k hk
    rw [c9, hy] at h1
    obtain ⟨s0, e0, r0, _⟩ := DataW.trod_string Tryd.underlying9 h1
    rw [r0] at e1
    simp only [DataW.lit.injEq, Lit.string.injEq] at e1
    have v0 := World.var?_cell hg0 hv0 k
    have a0 := congrArg (fun l : List Value => l[0]?) e0
    simp [List.getElem?_drop] at a0
    rw [v0, e1]
    exact a0
  exact ⟨World.block_lt_of_cell? W _ (each 0 (by omega)), each⟩

end Go.Proofs.YtgjipbhhdiacmaaDoor
