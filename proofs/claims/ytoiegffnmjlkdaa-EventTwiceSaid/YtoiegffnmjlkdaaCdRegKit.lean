/-
  What regions share in which clouds and boxes are laid into boxes of their own: what is kept when a small block is written over, operations one by one. Conditions: those that each theorem names.
-/
import Derived.Test.YtoiegffnmjlkdaaCdKit
import Derived.Test.YtoiegffnmjlkdaaRegionInv
namespace Go.Proofs.Ytoiegffnmjlkdaa
open Go.RowKit Go.Shelf

section
variable {w w' : World} {b : Nat} {t : TypeId}
/-- What is written over a block that is too small for a box changes no row of boxes. -/
theorem RdX.small {W : World} {B g n : Nat} {A : Option Addr} {l : List Bx} {xs : Array Value} (h : RdX W B A n l) (hA : Whole W g t xs) (hs : xs.size < 11) (i : Nat) (v : Value) : RdX (W.setCell ⟨g, i, none⟩ v) B A n l := by
  refine ⟨h.1, fun hn => ?_⟩
  obtain ⟨b, off, e, hlt, hc⟩ := h.2 hn
  have hne : b ≠ g := by
    rintro rfl
    obtain ⟨y, hy⟩ : ∃ y, l[0]? = some y := ⟨_, List.getElem?_eq_getElem (by have := h.1; omega)⟩
    have c10 := (hc 0 y hy).c10
    rw [hA.cell, Array.getElem?_eq_none (by omega)] at c10
    cases c10
  exact ⟨b, off, e, hlt, fun j y hy => bxAt_of fun k hk => (World.cell?_of_block (Below.heap_setCell W ⟨g, i, none⟩ v b hne)).trans ((hc j y hy).all k hk)⟩

/-- What is kept when a small block is written over. -/
structure Kept (g : Nat) (w w' : World) : Prop where
  size : w'.heap.size = w.heap.size
  far : ∀ b t xs, b ≠ g → Whole w b t xs → Whole w' b t xs
  rows : ∀ A n l, RdX w w.heap.size A n l → RdX w' w'.heap.size A n l
  bel : ∀ B w0, B ≤ g → Below B w0 w → Below B w0 w'
theorem kept_one {g : Nat} {xs : Array Value} (hA : Whole w g t xs) (hs : xs.size < 11) (i : Nat) (v : Value) : Kept g w (w.setCell ⟨g, i, none⟩ v) where
  size := World.size_setCell ..
  far := fun _ _ _ hne h => h.far hne v
  rows := fun _ _ _ h => by rw [World.size_setCell]; exact h.small hA hs i v
  bel := fun _ _ hB h => h.setCell (p := ⟨g, i, none⟩) hB v
theorem Kept.trans {g : Nat} {w'' : World} (h : Kept g w w') (h' : Kept g w' w'') : Kept g w w'' where
  size := h'.size.trans h.size
  far := fun b t xs hne hw => h'.far b t xs hne (h.far b t xs hne hw)
  rows := fun A n l hr => h'.rows A n l (h.rows A n l hr)
  bel := fun B w0 hB hb => h'.bel B w0 hB (h.bel B w0 hB hb)
theorem cells5 {g : Nat} {v0 v1 v2 v3 v4 : Value} (h : Whole w g t #[v0, v1, v2, v3, v4]) : w.cell? ⟨g, 0, none⟩ = some v0 ∧ w.cell? ⟨g, 1, none⟩ = some v1 ∧ w.cell? ⟨g, 2, none⟩ = some v2 ∧ w.cell? ⟨g, 3, none⟩ = some v3 ∧ w.cell? ⟨g, 4, none⟩ = some v4 := ⟨h.cell 0, h.cell 1, h.cell 2, h.cell 3, h.cell 4⟩
theorem cells6 {g : Nat} {v0 v1 v2 v3 v4 v5 : Value} (h : Whole w g t #[v0, v1, v2, v3, v4, v5]) : w.cell? ⟨g, 0, none⟩ = some v0 ∧ w.cell? ⟨g, 1, none⟩ = some v1 ∧ w.cell? ⟨g, 2, none⟩ = some v2 ∧ w.cell? ⟨g, 3, none⟩ = some v3 ∧ w.cell? ⟨g, 4, none⟩ = some v4 ∧ w.cell? ⟨g, 5, none⟩ = some v5 := ⟨h.cell 0, h.cell 1, h.cell 2, h.cell 3, h.cell 4, h.cell 5⟩
theorem kept5 {g : Nat} {x0 x1 x2 x3 x4 : Value} (hA : Whole w g t #[x0, x1, x2, x3, x4]) (v0 v1 v2 v3 v4 : Value) : Whole (((((w.setCell ⟨g, 0, none⟩ v0).setCell ⟨g, 1, none⟩ v1).setCell ⟨g, 2, none⟩ v2).setCell ⟨g, 3, none⟩ v3).setCell ⟨g, 4, none⟩ v4) g t #[v0, v1, v2, v3, v4] ∧ Kept g w (((((w.setCell ⟨g, 0, none⟩ v0).setCell ⟨g, 1, none⟩ v1).setCell ⟨g, 2, none⟩ v2).setCell ⟨g, 3, none⟩ v3).setCell ⟨g, 4, none⟩ v4) := by
  have k0 := kept_one hA (by simp) 0 v0
  have h0 := hA.set 0 v0
  simp only [List.setIfInBounds_toArray, List.set_cons_zero] at h0
  have k1 := kept_one h0 (by simp) 1 v1
  have h1 := h0.set 1 v1
  simp only [List.setIfInBounds_toArray, List.set_cons_zero, List.set_cons_succ] at h1
  have k2 := kept_one h1 (by simp) 2 v2
  have h2 := h1.set 2 v2
  simp only [List.setIfInBounds_toArray, List.set_cons_zero, List.set_cons_succ] at h2
  have k3 := kept_one h2 (by simp) 3 v3
  have h3 := h2.set 3 v3
  simp only [List.setIfInBounds_toArray, List.set_cons_zero, List.set_cons_succ] at h3
  have k4 := kept_one h3 (by simp) 4 v4
  have h4 := h3.set 4 v4
  simp only [List.setIfInBounds_toArray, List.set_cons_zero, List.set_cons_succ] at h4
  exact ⟨h4, ((((k0.trans k1).trans k2).trans k3).trans k4)⟩
theorem kept6 {g : Nat} {x0 x1 x2 x3 x4 x5 : Value} (hA : Whole w g t #[x0, x1, x2, x3, x4, x5]) (v0 v1 v2 v3 v4 v5 : Value) : Whole ((((((w.setCell ⟨g, 0, none⟩ v0).setCell ⟨g, 1, none⟩ v1).setCell ⟨g, 2, none⟩ v2).setCell ⟨g, 3, none⟩ v3).setCell ⟨g, 4, none⟩ v4).setCell ⟨g, 5, none⟩ v5) g t #[v0, v1, v2, v3, v4, v5] ∧ Kept g w ((((((w.setCell ⟨g, 0, none⟩ v0).setCell ⟨g, 1, none⟩ v1).setCell ⟨g, 2, none⟩ v2).setCell ⟨g, 3, none⟩ v3).setCell ⟨g, 4, none⟩ v4).setCell ⟨g, 5, none⟩ v5) := by
  have k0 := kept_one hA (by simp) 0 v0
  have h0 := hA.set 0 v0
  simp only [List.setIfInBounds_toArray, List.set_cons_zero] at h0
  have k1 := kept_one h0 (by simp) 1 v1
  have h1 := h0.set 1 v1
  simp only [List.setIfInBounds_toArray, List.set_cons_zero, List.set_cons_succ] at h1
  have k2 := kept_one h1 (by simp) 2 v2
  have h2 := h1.set 2 v2
  simp only [List.setIfInBounds_toArray, List.set_cons_zero, List.set_cons_succ] at h2
  have k3 := kept_one h2 (by simp) 3 v3
  have h3 := h2.set 3 v3
  simp only [List.setIfInBounds_toArray, List.set_cons_zero, List.set_cons_succ] at h3
  have k4 := kept_one h3 (by simp) 4 v4
  have h4 := h3.set 4 v4
  simp only [List.setIfInBounds_toArray, List.set_cons_zero, List.set_cons_succ] at h4
  have k5 := kept_one h4 (by simp) 5 v5
  have h5 := h4.set 5 v5
  simp only [List.setIfInBounds_toArray, List.set_cons_zero, List.set_cons_succ] at h5
  exact ⟨h5, (((((k0.trans k1).trans k2).trans k3).trans k4).trans k5)⟩
end

section
variable {K : Act → World → Prop} {Q : Exit → Act → World → Prop} {a : Act} {w : World} {dst : Option Tmp} {t : TypeId} {pos : String} {after : Array Edge} {b : Nat} {x y : Operand} {A : Option Addr} {n c : Nat} {fl dr nw : Int} {tg : Bool} {q : Ak}
theorem opF_loadC (hx : a.eval x = .pointer (some ⟨b, 0, none⟩)) (hw : Whole w b 24 #[.slice A n c, .int .i64 fl, .int .i64 dr, .int .i64 nw, .bool tg]) (h : K (a.put dst (.agg #[.slice A n c, .int .i64 fl, .int .i64 dr, .int .i64 nw, .bool tg])) w) :
    ({ dst := dst, op := .load 24 x, type := t, pos := pos, after := after, guard := none } : Oper).wp Try.prog a w K Q := by
  have c0 := hw.cell 0
  have c1 := hw.cell 1
  have c2 := hw.cell 2
  have c3 := hw.cell 3
  have c4 := hw.cell 4
  simp only [List.getElem?_toArray, List.getElem?_cons_zero, List.getElem?_cons_succ] at c0 c1 c2 c3 c4
  unfold Oper.wp execOp
  simp only [hx]
  go_simp
  exact h
theorem opF_allocC (h : K (a.put dst (.pointer (some ⟨w.heap.size, 0, none⟩))) (w.alloc (.cells #[.slice none 0 0, .int .i64 0, .int .i64 0, .int .i64 0, .bool false] 24))) :
    ({ dst := dst, op := .alloc 24, type := t, pos := pos, after := after, guard := none } : Oper).wp Try.prog a w K Q := by
  unfold Oper.wp execOp
  go_simp
  exact h
theorem opF_storeC {u0 u1 u2 u3 u4 : Value} (hx : a.eval x = .pointer (some ⟨b, 0, none⟩)) (hy : a.eval y = .agg #[.slice A n c, .int .i64 fl, .int .i64 dr, .int .i64 nw, .bool tg]) (hw : Whole w b 24 #[u0, u1, u2, u3, u4]) (h : K a (((((w.setCell ⟨b, 0, none⟩ (.slice A n c)).setCell ⟨b, 1, none⟩ (.int .i64 fl)).setCell ⟨b, 2, none⟩ (.int .i64 dr)).setCell ⟨b, 3, none⟩ (.int .i64 nw)).setCell ⟨b, 4, none⟩ (.bool tg))) :
    ({ dst := none, op := .store 24 x y, type := t, pos := pos, after := after, guard := none } : Oper).wp Try.prog a w K Q := by
  have c0 := hw.cell 0
  have c1 := hw.cell 1
  have c2 := hw.cell 2
  have c3 := hw.cell 3
  have c4 := hw.cell 4
  have f0 := hw.frozen 0
  have f1 := hw.frozen 1
  have f2 := hw.frozen 2
  have f3 := hw.frozen 3
  have f4 := hw.frozen 4
  simp only [List.getElem?_toArray, List.getElem?_cons_zero, List.getElem?_cons_succ] at c0 c1 c2 c3 c4
  unfold Oper.wp execOp
  simp only [hx, hy]
  go_simp
  exact h
theorem opF_move {v : Value} (hx : a.eval x = v) (h : K (a.put dst v) w) :
    ({ dst := dst, op := .move x, type := t, pos := pos, after := after, guard := none } : Oper).wp Try.prog a w K Q := by
  unfold Oper.wp execOp
  simp only [hx]
  go_simp
  exact h
end

/-- What is kept when a block is written over. -/
structure KeptB (g : Nat) (w w' : World) : Prop where
  size : w'.heap.size = w.heap.size
  far : ∀ b t xs, b ≠ g → Whole w b t xs → Whole w' b t xs
  bel : ∀ B w0, B ≤ g → Below B w0 w → Below B w0 w'
theorem keptB_one {w : World} {g : Nat} (i : Nat) (v : Value) : KeptB g w (w.setCell ⟨g, i, none⟩ v) where
  size := World.size_setCell ..
  far := fun _ _ _ hne h => h.far hne v
  bel := fun _ _ hB h => h.setCell (p := ⟨g, i, none⟩) hB v
theorem KeptB.trans {w w' w'' : World} {g : Nat} (h : KeptB g w w') (h' : KeptB g w' w'') : KeptB g w w'' where
  size := h'.size.trans h.size
  far := fun b t xs hne hw => h'.far b t xs hne (h.far b t xs hne hw)
  bel := fun B w0 hB hb => h'.bel B w0 hB (h.bel B w0 hB hb)
theorem Whole.ltS {w : World} {b : Nat} {t : TypeId} {xs : Array Value} (h : Whole w b t xs) : b < w.heap.size := (Array.getElem?_eq_some_iff.1 h).1
theorem kept11 {w : World} {t : TypeId} {g : Nat} {x0 x1 x2 x3 x4 x5 x6 x7 x8 x9 x10 : Value} (hA : Whole w g t #[x0, x1, x2, x3, x4, x5, x6, x7, x8, x9, x10]) (v0 v1 v2 v3 v4 v5 v6 v7 v8 v9 v10 : Value) : Whole (((((((((((w.setCell ⟨g, 0, none⟩ v0).setCell ⟨g, 1, none⟩ v1).setCell ⟨g, 2, none⟩ v2).setCell ⟨g, 3, none⟩ v3).setCell ⟨g, 4, none⟩ v4).setCell ⟨g, 5, none⟩ v5).setCell ⟨g, 6, none⟩ v6).setCell ⟨g, 7, none⟩ v7).setCell ⟨g, 8, none⟩ v8).setCell ⟨g, 9, none⟩ v9).setCell ⟨g, 10, none⟩ v10) g t #[v0, v1, v2, v3, v4, v5, v6, v7, v8, v9, v10] ∧ KeptB g w (((((((((((w.setCell ⟨g, 0, none⟩ v0).setCell ⟨g, 1, none⟩ v1).setCell ⟨g, 2, none⟩ v2).setCell ⟨g, 3, none⟩ v3).setCell ⟨g, 4, none⟩ v4).setCell ⟨g, 5, none⟩ v5).setCell ⟨g, 6, none⟩ v6).setCell ⟨g, 7, none⟩ v7).setCell ⟨g, 8, none⟩ v8).setCell ⟨g, 9, none⟩ v9).setCell ⟨g, 10, none⟩ v10) := by
  have k0 := keptB_one (w := w) (g := g) 0 v0
  have h0 := hA.set 0 v0
  simp only [List.setIfInBounds_toArray, List.set_cons_zero] at h0
  have k1 := keptB_one (w := (w.setCell ⟨g, 0, none⟩ v0)) (g := g) 1 v1
  have h1 := h0.set 1 v1
  simp only [List.setIfInBounds_toArray, List.set_cons_zero, List.set_cons_succ] at h1
  have k2 := keptB_one (w := ((w.setCell ⟨g, 0, none⟩ v0).setCell ⟨g, 1, none⟩ v1)) (g := g) 2 v2
  have h2 := h1.set 2 v2
  simp only [List.setIfInBounds_toArray, List.set_cons_zero, List.set_cons_succ] at h2
  have k3 := keptB_one (w := (((w.setCell ⟨g, 0, none⟩ v0).setCell ⟨g, 1, none⟩ v1).setCell ⟨g, 2, none⟩ v2)) (g := g) 3 v3
  have h3 := h2.set 3 v3
  simp only [List.setIfInBounds_toArray, List.set_cons_zero, List.set_cons_succ] at h3
  have k4 := keptB_one (w := ((((w.setCell ⟨g, 0, none⟩ v0).setCell ⟨g, 1, none⟩ v1).setCell ⟨g, 2, none⟩ v2).setCell ⟨g, 3, none⟩ v3)) (g := g) 4 v4
  have h4 := h3.set 4 v4
  simp only [List.setIfInBounds_toArray, List.set_cons_zero, List.set_cons_succ] at h4
  have k5 := keptB_one (w := (((((w.setCell ⟨g, 0, none⟩ v0).setCell ⟨g, 1, none⟩ v1).setCell ⟨g, 2, none⟩ v2).setCell ⟨g, 3, none⟩ v3).setCell ⟨g, 4, none⟩ v4)) (g := g) 5 v5
  have h5 := h4.set 5 v5
  simp only [List.setIfInBounds_toArray, List.set_cons_zero, List.set_cons_succ] at h5
  have k6 := keptB_one (w := ((((((w.setCell ⟨g, 0, none⟩ v0).setCell ⟨g, 1, none⟩ v1).setCell ⟨g, 2, none⟩ v2).setCell ⟨g, 3, none⟩ v3).setCell ⟨g, 4, none⟩ v4).setCell ⟨g, 5, none⟩ v5)) (g := g) 6 v6
  have h6 := h5.set 6 v6
  simp only [List.setIfInBounds_toArray, List.set_cons_zero, List.set_cons_succ] at h6
  have k7 := keptB_one (w := (((((((w.setCell ⟨g, 0, none⟩ v0).setCell ⟨g, 1, none⟩ v1).setCell ⟨g, 2, none⟩ v2).setCell ⟨g, 3, none⟩ v3).setCell ⟨g, 4, none⟩ v4).setCell ⟨g, 5, none⟩ v5).setCell ⟨g, 6, none⟩ v6)) (g := g) 7 v7
  have h7 := h6.set 7 v7
  simp only [List.setIfInBounds_toArray, List.set_cons_zero, List.set_cons_succ] at h7
  have k8 := keptB_one (w := ((((((((w.setCell ⟨g, 0, none⟩ v0).setCell ⟨g, 1, none⟩ v1).setCell ⟨g, 2, none⟩ v2).setCell ⟨g, 3, none⟩ v3).setCell ⟨g, 4, none⟩ v4).setCell ⟨g, 5, none⟩ v5).setCell ⟨g, 6, none⟩ v6).setCell ⟨g, 7, none⟩ v7)) (g := g) 8 v8
  have h8 := h7.set 8 v8
  simp only [List.setIfInBounds_toArray, List.set_cons_zero, List.set_cons_succ] at h8
  have k9 := keptB_one (w := (((((((((w.setCell ⟨g, 0, none⟩ v0).setCell ⟨g, 1, none⟩ v1).setCell ⟨g, 2, none⟩ v2).setCell ⟨g, 3, none⟩ v3).setCell ⟨g, 4, none⟩ v4).setCell ⟨g, 5, none⟩ v5).setCell ⟨g, 6, none⟩ v6).setCell ⟨g, 7, none⟩ v7).setCell ⟨g, 8, none⟩ v8)) (g := g) 9 v9
  have h9 := h8.set 9 v9
  simp only [List.setIfInBounds_toArray, List.set_cons_zero, List.set_cons_succ] at h9
  have k10 := keptB_one (w := ((((((((((w.setCell ⟨g, 0, none⟩ v0).setCell ⟨g, 1, none⟩ v1).setCell ⟨g, 2, none⟩ v2).setCell ⟨g, 3, none⟩ v3).setCell ⟨g, 4, none⟩ v4).setCell ⟨g, 5, none⟩ v5).setCell ⟨g, 6, none⟩ v6).setCell ⟨g, 7, none⟩ v7).setCell ⟨g, 8, none⟩ v8).setCell ⟨g, 9, none⟩ v9)) (g := g) 10 v10
  have h10 := h9.set 10 v10
  simp only [List.setIfInBounds_toArray, List.set_cons_zero, List.set_cons_succ] at h10
  exact ⟨h10, ((((((((((k0.trans k1).trans k2).trans k3).trans k4).trans k5).trans k6).trans k7).trans k8).trans k9).trans k10)⟩

section
variable {K : Act → World → Prop} {Q : Exit → Act → World → Prop} {a : Act} {w : World} {dst : Option Tmp} {t : TypeId} {pos : String} {after : Array Edge} {b : Nat} {x y' : Operand} {A : Option Addr} {n c : Nat} {fl dr nw : Int} {tg : Bool} {y : Bx}
theorem opF_field0 (hx : a.eval x = .pointer (some ⟨b, 0, none⟩)) (h : K (a.put dst (.pointer (some ⟨b, 0, none⟩))) w) :
    ({ dst := dst, op := .fieldAddr 24 x 0, type := t, pos := pos, after := after, guard := none } : Oper).wp Try.prog a w K Q := by
  unfold Oper.wp execOp
  simp only [hx]
  go_simp
  exact h
theorem opF_loadS (hx : a.eval x = .pointer (some ⟨b, 0, none⟩)) (hw : Whole w b 24 #[.slice A n c, .int .i64 fl, .int .i64 dr, .int .i64 nw, .bool tg]) (h : K (a.put dst (.slice A n c)) w) :
    ({ dst := dst, op := .load 22 x, type := t, pos := pos, after := after, guard := none } : Oper).wp Try.prog a w K Q := by
  have c0 := hw.cell 0
  simp only [List.getElem?_toArray, List.getElem?_cons_zero] at c0
  unfold Oper.wp execOp
  simp only [hx]
  go_simp
  exact h
theorem opF_idxX {off m cl j : Nat} (hx : a.eval x = .slice (some ⟨b, off, none⟩) m cl) (hy : a.eval y' = .int .i64 (j : Int)) (hj : (j : Int) < (m : Int)) (h : K (a.put dst (.pointer (some ⟨b, off + j * 11, none⟩))) w) :
    ({ dst := dst, op := .indexAddr 22 x y', type := t, pos := pos, after := after, guard := none } : Oper).wp Try.prog a w K Q := by
  unfold Oper.wp execOp
  simp only [hx, hy]
  go_simp
  exact h
theorem opF_loadX {p : Nat} (hx : a.eval x = .pointer (some ⟨b, p, none⟩)) (hq : BxAt w b p y) (h : K (a.put dst (.agg #[.int .i64 y.id, .int .i64 y.tok, .int .i64 y.ver, .int .i64 y.zone, .bool y.tag, .bool y.on, .bool y.gone, .bool y.well, .int .u8 y.lb, .int .i64 y.unt, .int .i64 y.fen])) w) :
    ({ dst := dst, op := .load 36 x, type := t, pos := pos, after := after, guard := none } : Oper).wp Try.prog a w K Q := by
  obtain ⟨c0, c1, c2, c3, c4, c5, c6, c7, c8, c9, c10⟩ := hq
  unfold Oper.wp execOp
  simp only [hx]
  go_simp
  exact h
theorem opF_allocX (h : K (a.put dst (.pointer (some ⟨w.heap.size, 0, none⟩))) (w.alloc (.cells #[.int .i64 0, .int .i64 0, .int .i64 0, .int .i64 0, .bool false, .bool false, .bool false, .bool false, .int .u8 0, .int .i64 0, .int .i64 0] 36))) :
    ({ dst := dst, op := .alloc 36, type := t, pos := pos, after := after, guard := none } : Oper).wp Try.prog a w K Q := by
  unfold Oper.wp execOp
  go_simp
  exact h
theorem opF_storeX {u0 u1 u2 u3 u4 u5 u6 u7 u8 u9 u10 : Value} (hx : a.eval x = .pointer (some ⟨b, 0, none⟩)) (hy : a.eval y' = .agg #[.int .i64 y.id, .int .i64 y.tok, .int .i64 y.ver, .int .i64 y.zone, .bool y.tag, .bool y.on, .bool y.gone, .bool y.well, .int .u8 y.lb, .int .i64 y.unt, .int .i64 y.fen]) (hw : Whole w b 36 #[u0, u1, u2, u3, u4, u5, u6, u7, u8, u9, u10]) (h : K a (((((((((((w.setCell ⟨b, 0, none⟩ (.int .i64 y.id)).setCell ⟨b, 1, none⟩ (.int .i64 y.tok)).setCell ⟨b, 2, none⟩ (.int .i64 y.ver)).setCell ⟨b, 3, none⟩ (.int .i64 y.zone)).setCell ⟨b, 4, none⟩ (.bool y.tag)).setCell ⟨b, 5, none⟩ (.bool y.on)).setCell ⟨b, 6, none⟩ (.bool y.gone)).setCell ⟨b, 7, none⟩ (.bool y.well)).setCell ⟨b, 8, none⟩ (.int .u8 y.lb)).setCell ⟨b, 9, none⟩ (.int .i64 y.unt)).setCell ⟨b, 10, none⟩ (.int .i64 y.fen))) :
    ({ dst := none, op := .store 36 x y', type := t, pos := pos, after := after, guard := none } : Oper).wp Try.prog a w K Q := by
  have c0 := hw.cell 0
  have c1 := hw.cell 1
  have c2 := hw.cell 2
  have c3 := hw.cell 3
  have c4 := hw.cell 4
  have c5 := hw.cell 5
  have c6 := hw.cell 6
  have c7 := hw.cell 7
  have c8 := hw.cell 8
  have c9 := hw.cell 9
  have c10 := hw.cell 10
  have f0 := hw.frozen 0
  have f1 := hw.frozen 1
  have f2 := hw.frozen 2
  have f3 := hw.frozen 3
  have f4 := hw.frozen 4
  have f5 := hw.frozen 5
  have f6 := hw.frozen 6
  have f7 := hw.frozen 7
  have f8 := hw.frozen 8
  have f9 := hw.frozen 9
  have f10 := hw.frozen 10
  simp only [List.getElem?_toArray, List.getElem?_cons_zero, List.getElem?_cons_succ] at c0 c1 c2 c3 c4 c5 c6 c7 c8 c9 c10
  unfold Oper.wp execOp
  simp only [hx, hy]
  go_simp
  exact h
end

theorem BxAt.below {W W' : World} {b o : Nat} {x : Bx} (h : BxAt W b o x) (hb : b < W.heap.size) (hB : Below W.heap.size W W') : BxAt W' b o x :=
  bxAt_of fun i hi => (hB.cell (p := ⟨b, o + i, none⟩) hb).trans (h.all i hi)

theorem BxAt.drew {W : World} {b o : Nat} {x : Bx} (h : BxAt W b o x) : BxAt W.drew b o x := ⟨h.c0, h.c1, h.c2, h.c3, h.c4, h.c5, h.c6, h.c7, h.c8, h.c9, h.c10⟩
theorem BxAt.bel {W W' : World} {b o B : Nat} {x : Bx} (h : BxAt W b o x) (hB : Below B W W') (hb : b < B) : BxAt W' b o x :=
  bxAt_of fun i hi => (hB.cell (p := ⟨b, o + i, none⟩) hb).trans (h.all i hi)

end Go.Proofs.Ytoiegffnmjlkdaa
