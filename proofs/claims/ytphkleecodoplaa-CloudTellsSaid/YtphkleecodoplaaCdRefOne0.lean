/-
  What the walks of the document's own 'one' share (layer 8). Conditions: those that each theorem names.
-/
import Derived.Test.YtphkleecodoplaaCdRefDo2
namespace Go.Proofs.Ytphkleecodoplaa
open Go.RowKit Go.Shelf

/-- What is told, and the cloud in memory of its own. -/
def RO (base : Nat) (x : Cw) (l : List Bx) (k : Int) (w : World) (e : Ending) (w' : World) : Prop :=
  ∃ A n c, e = .returned (.tuple #[.agg #[.slice A n c, .int .i64 x.fl, .int .i64 x.dr, .int .i64 x.nw, .bool x.tg], .int .u8 k]) ∧ w'.ownsRow base 40 11 (.slice A n c) n (flat l) ∧ Below base w w' ∧ Frz w w'
theorem cells11x {w : World} {t : TypeId} {g : Nat} {v0 v1 v2 v3 v4 v5 v6 v7 v8 v9 v10 : Value} (h : Whole w g t #[v0, v1, v2, v3, v4, v5, v6, v7, v8, v9, v10]) : w.cell? ⟨g, 0, none⟩ = some v0 ∧ w.cell? ⟨g, 1, none⟩ = some v1 ∧ w.cell? ⟨g, 2, none⟩ = some v2 ∧ w.cell? ⟨g, 3, none⟩ = some v3 ∧ w.cell? ⟨g, 4, none⟩ = some v4 ∧ w.cell? ⟨g, 5, none⟩ = some v5 ∧ w.cell? ⟨g, 6, none⟩ = some v6 ∧ w.cell? ⟨g, 7, none⟩ = some v7 ∧ w.cell? ⟨g, 8, none⟩ = some v8 ∧ w.cell? ⟨g, 9, none⟩ = some v9 ∧ w.cell? ⟨g, 10, none⟩ = some v10 := ⟨h.cell 0, h.cell 1, h.cell 2, h.cell 3, h.cell 4, h.cell 5, h.cell 6, h.cell 7, h.cell 8, h.cell 9, h.cell 10⟩
theorem own_cell {base n c g : Nat} {l : List Bx} {W : World} (ho : W.ownsRow base 40 11 (.slice (some ⟨g, 0, none⟩) n c) n (flat l)) {j : Nat} {y : Bx} (hx : l[j]? = some y) {i : Nat} (hi : i < 11) {u : Value} {y' : Bx} (hy : y'.vs = y.vs.set i u) :
    (W.setCell ⟨g, j * 11 + i, none⟩ u).ownsRow base 40 11 (.slice (some ⟨g, 0, none⟩) n c) n (flat (l.set j y')) := by
  have hs := ho.stored (j * 11 + i) u
  rw [flat_set hx hi hy] at hs
  exact hs.1
/-- A whole box is laid into a row of one's own. -/
theorem own_box {base n c g : Nat} {l : List Bx} {W : World} (ho : W.ownsRow base 40 11 (.slice (some ⟨g, 0, none⟩) n c) n (flat l)) {j : Nat} {y : Bx} (hx : l[j]? = some y) (v0 : Int) (v1 : Int) (v2 : Int) (v3 : Int) (v4 : Bool) (v5 : Bool) (v6 : Bool) (v7 : Bool) (v8 : Int) (v9 : Int) (v10 : Int) :
    ∃ W', (((((((((((W.setCell ⟨g, j * 11, none⟩ (.int .i64 v0)).setCell ⟨g, j * 11 + 1, none⟩ (.int .i64 v1)).setCell ⟨g, j * 11 + 2, none⟩ (.int .i64 v2)).setCell ⟨g, j * 11 + 3, none⟩ (.int .i64 v3)).setCell ⟨g, j * 11 + 4, none⟩ (.bool v4)).setCell ⟨g, j * 11 + 5, none⟩ (.bool v5)).setCell ⟨g, j * 11 + 6, none⟩ (.bool v6)).setCell ⟨g, j * 11 + 7, none⟩ (.bool v7)).setCell ⟨g, j * 11 + 8, none⟩ (.int .u8 v8)).setCell ⟨g, j * 11 + 9, none⟩ (.int .i64 v9)).setCell ⟨g, j * 11 + 10, none⟩ (.int .i64 v10)) = W' ∧ W'.ownsRow base 40 11 (.slice (some ⟨g, 0, none⟩) n c) n (flat (l.set j ⟨v0, v1, v2, v3, v4, v5, v6, v7, v8, v9, v10⟩)) ∧ KeptB g W W' := by
  have h0 := own_cell ho (i := 0) (y' := ⟨v0, y.tok, y.ver, y.zone, y.tag, y.on, y.gone, y.well, y.lb, y.unt, y.fen⟩) hx (by decide) (u := (.int .i64 v0)) rfl
  have k0 := keptB_one (w := W) (g := g) (j * 11) (.int .i64 v0)
  have h1 := own_cell h0 (i := 1) (y' := ⟨v0, v1, y.ver, y.zone, y.tag, y.on, y.gone, y.well, y.lb, y.unt, y.fen⟩) (set_at hx) (by decide) (u := (.int .i64 v1)) rfl
  rw [set_set] at h1
  have k1 := keptB_one (w := (W.setCell ⟨g, j * 11, none⟩ (.int .i64 v0))) (g := g) (j * 11 + 1) (.int .i64 v1)
  have h2 := own_cell h1 (i := 2) (y' := ⟨v0, v1, v2, y.zone, y.tag, y.on, y.gone, y.well, y.lb, y.unt, y.fen⟩) (set_at hx) (by decide) (u := (.int .i64 v2)) rfl
  rw [set_set] at h2
  have k2 := keptB_one (w := ((W.setCell ⟨g, j * 11, none⟩ (.int .i64 v0)).setCell ⟨g, j * 11 + 1, none⟩ (.int .i64 v1))) (g := g) (j * 11 + 2) (.int .i64 v2)
  have h3 := own_cell h2 (i := 3) (y' := ⟨v0, v1, v2, v3, y.tag, y.on, y.gone, y.well, y.lb, y.unt, y.fen⟩) (set_at hx) (by decide) (u := (.int .i64 v3)) rfl
  rw [set_set] at h3
  have k3 := keptB_one (w := (((W.setCell ⟨g, j * 11, none⟩ (.int .i64 v0)).setCell ⟨g, j * 11 + 1, none⟩ (.int .i64 v1)).setCell ⟨g, j * 11 + 2, none⟩ (.int .i64 v2))) (g := g) (j * 11 + 3) (.int .i64 v3)
  have h4 := own_cell h3 (i := 4) (y' := ⟨v0, v1, v2, v3, v4, y.on, y.gone, y.well, y.lb, y.unt, y.fen⟩) (set_at hx) (by decide) (u := (.bool v4)) rfl
  rw [set_set] at h4
  have k4 := keptB_one (w := ((((W.setCell ⟨g, j * 11, none⟩ (.int .i64 v0)).setCell ⟨g, j * 11 + 1, none⟩ (.int .i64 v1)).setCell ⟨g, j * 11 + 2, none⟩ (.int .i64 v2)).setCell ⟨g, j * 11 + 3, none⟩ (.int .i64 v3))) (g := g) (j * 11 + 4) (.bool v4)
  have h5 := own_cell h4 (i := 5) (y' := ⟨v0, v1, v2, v3, v4, v5, y.gone, y.well, y.lb, y.unt, y.fen⟩) (set_at hx) (by decide) (u := (.bool v5)) rfl
  rw [set_set] at h5
  have k5 := keptB_one (w := (((((W.setCell ⟨g, j * 11, none⟩ (.int .i64 v0)).setCell ⟨g, j * 11 + 1, none⟩ (.int .i64 v1)).setCell ⟨g, j * 11 + 2, none⟩ (.int .i64 v2)).setCell ⟨g, j * 11 + 3, none⟩ (.int .i64 v3)).setCell ⟨g, j * 11 + 4, none⟩ (.bool v4))) (g := g) (j * 11 + 5) (.bool v5)
  have h6 := own_cell h5 (i := 6) (y' := ⟨v0, v1, v2, v3, v4, v5, v6, y.well, y.lb, y.unt, y.fen⟩) (set_at hx) (by decide) (u := (.bool v6)) rfl
  rw [set_set] at h6
  have k6 := keptB_one (w := ((((((W.setCell ⟨g, j * 11, none⟩ (.int .i64 v0)).setCell ⟨g, j * 11 + 1, none⟩ (.int .i64 v1)).setCell ⟨g, j * 11 + 2, none⟩ (.int .i64 v2)).setCell ⟨g, j * 11 + 3, none⟩ (.int .i64 v3)).setCell ⟨g, j * 11 + 4, none⟩ (.bool v4)).setCell ⟨g, j * 11 + 5, none⟩ (.bool v5))) (g := g) (j * 11 + 6) (.bool v6)
  have h7 := own_cell h6 (i := 7) (y' := ⟨v0, v1, v2, v3, v4, v5, v6, v7, y.lb, y.unt, y.fen⟩) (set_at hx) (by decide) (u := (.bool v7)) rfl
  rw [set_set] at h7
  have k7 := keptB_one (w := (((((((W.setCell ⟨g, j * 11, none⟩ (.int .i64 v0)).setCell ⟨g, j * 11 + 1, none⟩ (.int .i64 v1)).setCell ⟨g, j * 11 + 2, none⟩ (.int .i64 v2)).setCell ⟨g, j * 11 + 3, none⟩ (.int .i64 v3)).setCell ⟨g, j * 11 + 4, none⟩ (.bool v4)).setCell ⟨g, j * 11 + 5, none⟩ (.bool v5)).setCell ⟨g, j * 11 + 6, none⟩ (.bool v6))) (g := g) (j * 11 + 7) (.bool v7)
  have h8 := own_cell h7 (i := 8) (y' := ⟨v0, v1, v2, v3, v4, v5, v6, v7, v8, y.unt, y.fen⟩) (set_at hx) (by decide) (u := (.int .u8 v8)) rfl
  rw [set_set] at h8
  have k8 := keptB_one (w := ((((((((W.setCell ⟨g, j * 11, none⟩ (.int .i64 v0)).setCell ⟨g, j * 11 + 1, none⟩ (.int .i64 v1)).setCell ⟨g, j * 11 + 2, none⟩ (.int .i64 v2)).setCell ⟨g, j * 11 + 3, none⟩ (.int .i64 v3)).setCell ⟨g, j * 11 + 4, none⟩ (.bool v4)).setCell ⟨g, j * 11 + 5, none⟩ (.bool v5)).setCell ⟨g, j * 11 + 6, none⟩ (.bool v6)).setCell ⟨g, j * 11 + 7, none⟩ (.bool v7))) (g := g) (j * 11 + 8) (.int .u8 v8)
  have h9 := own_cell h8 (i := 9) (y' := ⟨v0, v1, v2, v3, v4, v5, v6, v7, v8, v9, y.fen⟩) (set_at hx) (by decide) (u := (.int .i64 v9)) rfl
  rw [set_set] at h9
  have k9 := keptB_one (w := (((((((((W.setCell ⟨g, j * 11, none⟩ (.int .i64 v0)).setCell ⟨g, j * 11 + 1, none⟩ (.int .i64 v1)).setCell ⟨g, j * 11 + 2, none⟩ (.int .i64 v2)).setCell ⟨g, j * 11 + 3, none⟩ (.int .i64 v3)).setCell ⟨g, j * 11 + 4, none⟩ (.bool v4)).setCell ⟨g, j * 11 + 5, none⟩ (.bool v5)).setCell ⟨g, j * 11 + 6, none⟩ (.bool v6)).setCell ⟨g, j * 11 + 7, none⟩ (.bool v7)).setCell ⟨g, j * 11 + 8, none⟩ (.int .u8 v8))) (g := g) (j * 11 + 9) (.int .i64 v9)
  have h10 := own_cell h9 (i := 10) (y' := ⟨v0, v1, v2, v3, v4, v5, v6, v7, v8, v9, v10⟩) (set_at hx) (by decide) (u := (.int .i64 v10)) rfl
  rw [set_set] at h10
  have k10 := keptB_one (w := ((((((((((W.setCell ⟨g, j * 11, none⟩ (.int .i64 v0)).setCell ⟨g, j * 11 + 1, none⟩ (.int .i64 v1)).setCell ⟨g, j * 11 + 2, none⟩ (.int .i64 v2)).setCell ⟨g, j * 11 + 3, none⟩ (.int .i64 v3)).setCell ⟨g, j * 11 + 4, none⟩ (.bool v4)).setCell ⟨g, j * 11 + 5, none⟩ (.bool v5)).setCell ⟨g, j * 11 + 6, none⟩ (.bool v6)).setCell ⟨g, j * 11 + 7, none⟩ (.bool v7)).setCell ⟨g, j * 11 + 8, none⟩ (.int .u8 v8)).setCell ⟨g, j * 11 + 9, none⟩ (.int .i64 v9))) (g := g) (j * 11 + 10) (.int .i64 v10)
  exact ⟨_, rfl, h10, ((((((((((k0.trans k1).trans k2).trans k3).trans k4).trans k5).trans k6).trans k7).trans k8).trans k9).trans k10)⟩

end Go.Proofs.Ytphkleecodoplaa
