/-
  The region of CloudFloor in which a thing asked of a row is done, its answer laid into two boxes: whatever the order. Conditions: those that each theorem names.
-/
import Derived.Test.YtphkleecodoplaaCdLawKit
import Derived.Test.YtphkleecodoplaaCdOpen
import Derived.Test.YtphkleecodoplaaRegionInv
namespace Go.Proofs.Ytphkleecodoplaa
open Go.RowKit Go.Shelf

section
variable {w w' : World} {b : Nat} {t : TypeId}
set_option maxRecDepth 100000 in
/-- What is written over a block that is too small for a box changes no row of boxes. -/
theorem RdX.small {W : World} {B g n : Nat} {A : Option Addr} {l : List Bx} {xs : Array Value} (h : RdX W B A n l) (hA : Whole W g t xs) (hs : xs.size < 11) (i : Nat) (v : Value) : RdX (W.setCell ⟨g, i, none⟩ v) B A n l := by
  refine ⟨h.1, fun hn => ?_⟩
  obtain ⟨b, off, e, hlt, hc⟩ := h.2 hn
  have hne : b ≠ g := by
    rintro rfl
    obtain ⟨y, hy⟩ : ∃ y, l[0]? = some y := ⟨_, List.getElem?_eq_getElem (by have := h.1; omega)⟩
    have c10 := (hc 0 y hy).c10
    rw [hA.cell, Array.getElem?_eq_none (by omega)] at c10
    cases c10
  exact ⟨b, off, e, hlt, fun j y hy => bxAt_of fun k hk => (World.cell?_of_block (Below.heap_setCell W ⟨g, i, none⟩ v b hne)).trans ((hc j y hy).all k hk)⟩

/-- What is kept when a small block is written over. -/
structure Kept (g : Nat) (w w' : World) : Prop where
  size : w'.heap.size = w.heap.size
  far : ∀ b t xs, b ≠ g → Whole w b t xs → Whole w' b t xs
  rows : ∀ A n l, RdX w w.heap.size A n l → RdX w' w'.heap.size A n l
  bel : ∀ B w0, B ≤ g → Below B w0 w → Below B w0 w'
set_option maxRecDepth 100000 in
theorem kept_one {g : Nat} {xs : Array Value} (hA : Whole w g t xs) (hs : xs.size < 11) (i : Nat) (v : Value) : Kept g w (w.setCell ⟨g, i, none⟩ v) where
  size := World.size_setCell ..
  far := fun _ _ _ hne h => h.far hne v
  rows := fun _ _ _ h => by rw [World.size_setCell]; exact h.small hA hs i v
  bel := fun _ _ hB h => h.setCell (p := ⟨g, i, none⟩) hB v
set_option maxRecDepth 100000 in
theorem Kept.trans {g : Nat} {w'' : World} (h : Kept g w w') (h' : Kept g w' w'') : Kept g w w'' where
  size := h'.size.trans h.size
  far := fun b t xs hne hw => h'.far b t xs hne (h.far b t xs hne hw)
  rows := fun A n l hr => h'.rows A n l (h.rows A n l hr)
  bel := fun B w0 hB hb => h'.bel B w0 hB (h.bel B w0 hB hb)
set_option maxRecDepth 100000 in
theorem cells5 {g : Nat} {v0 v1 v2 v3 v4 : Value} (h : Whole w g t #[v0, v1, v2, v3, v4]) : w.cell? ⟨g, 0, none⟩ = some v0 ∧ w.cell? ⟨g, 1, none⟩ = some v1 ∧ w.cell? ⟨g, 2, none⟩ = some v2 ∧ w.cell? ⟨g, 3, none⟩ = some v3 ∧ w.cell? ⟨g, 4, none⟩ = some v4 := ⟨h.cell 0, h.cell 1, h.cell 2, h.cell 3, h.cell 4⟩
set_option maxRecDepth 100000 in
theorem cells6 {g : Nat} {v0 v1 v2 v3 v4 v5 : Value} (h : Whole w g t #[v0, v1, v2, v3, v4, v5]) : w.cell? ⟨g, 0, none⟩ = some v0 ∧ w.cell? ⟨g, 1, none⟩ = some v1 ∧ w.cell? ⟨g, 2, none⟩ = some v2 ∧ w.cell? ⟨g, 3, none⟩ = some v3 ∧ w.cell? ⟨g, 4, none⟩ = some v4 ∧ w.cell? ⟨g, 5, none⟩ = some v5 := ⟨h.cell 0, h.cell 1, h.cell 2, h.cell 3, h.cell 4, h.cell 5⟩
/-- A thing asked in a block that is there. -/
def AkB (w : World) (b o : Nat) (q : Ak) : Prop := b < w.heap.size ∧ AkAt w b o q
set_option maxRecDepth 100000 in
theorem AkB.under {b o : Nat} {q : Ak} (h : AkB w b o q) (hb : Below w.heap.size w w') : AkB w' b o q := ⟨Nat.lt_of_lt_of_le h.1 hb.size, akAt_of fun i hi => (hb.cell (p := ⟨b, o + i, none⟩) h.1).trans (h.2.all i hi)⟩
set_option maxRecDepth 100000 in
theorem kept5 {g : Nat} {x0 x1 x2 x3 x4 : Value} (hA : Whole w g t #[x0, x1, x2, x3, x4]) (v0 v1 v2 v3 v4 : Value) : Whole (((((w.setCell ⟨g, 0, none⟩ v0).setCell ⟨g, 1, none⟩ v1).setCell ⟨g, 2, none⟩ v2).setCell ⟨g, 3, none⟩ v3).setCell ⟨g, 4, none⟩ v4) g t #[v0, v1, v2, v3, v4] ∧ Kept g w (((((w.setCell ⟨g, 0, none⟩ v0).setCell ⟨g, 1, none⟩ v1).setCell ⟨g, 2, none⟩ v2).setCell ⟨g, 3, none⟩ v3).setCell ⟨g, 4, none⟩ v4) := by
  have k0 := kept_one hA (by simp) 0 v0
  have h0 := hA.set 0 v0
  simp only [List.setIfInBounds_toArray, List.set_cons_zero] at h0
  have k1 := kept_one h0 (by simp) 1 v1
  have h1 := h0.set 1 v1
  simp only [List.setIfInBounds_toArray, List.set_cons_zero, List.set_cons_succ] at h1
  have k2 := kept_one h1 (by simp) 2 v2
  have h2 := h1.set 2 v2
  simp only [List.setIfInBounds_toArray, List.set_cons_zero, List.set_cons_succ] at h2
  have k3 := kept_one h2 (by simp) 3 v3
  have h3 := h2.set 3 v3
  simp only [List.setIfInBounds_toArray, List.set_cons_zero, List.set_cons_succ] at h3
  have k4 := kept_one h3 (by simp) 4 v4
  have h4 := h3.set 4 v4
  simp only [List.setIfInBounds_toArray, List.set_cons_zero, List.set_cons_succ] at h4
  exact ⟨h4, ((((k0.trans k1).trans k2).trans k3).trans k4)⟩
set_option maxRecDepth 100000 in
theorem kept6 {g : Nat} {x0 x1 x2 x3 x4 x5 : Value} (hA : Whole w g t #[x0, x1, x2, x3, x4, x5]) (v0 v1 v2 v3 v4 v5 : Value) : Whole ((((((w.setCell ⟨g, 0, none⟩ v0).setCell ⟨g, 1, none⟩ v1).setCell ⟨g, 2, none⟩ v2).setCell ⟨g, 3, none⟩ v3).setCell ⟨g, 4, none⟩ v4).setCell ⟨g, 5, none⟩ v5) g t #[v0, v1, v2, v3, v4, v5] ∧ Kept g w ((((((w.setCell ⟨g, 0, none⟩ v0).setCell ⟨g, 1, none⟩ v1).setCell ⟨g, 2, none⟩ v2).setCell ⟨g, 3, none⟩ v3).setCell ⟨g, 4, none⟩ v4).setCell ⟨g, 5, none⟩ v5) := by
  have k0 := kept_one hA (by simp) 0 v0
  have h0 := hA.set 0 v0
  simp only [List.setIfInBounds_toArray, List.set_cons_zero] at h0
  have k1 := kept_one h0 (by simp) 1 v1
  have h1 := h0.set 1 v1
  simp only [List.setIfInBounds_toArray, List.set_cons_zero, List.set_cons_succ] at h1
  have k2 := kept_one h1 (by simp) 2 v2
  have h2 := h1.set 2 v2
  simp only [List.setIfInBounds_toArray, List.set_cons_zero, List.set_cons_succ] at h2
  have k3 := kept_one h2 (by simp) 3 v3
  have h3 := h2.set 3 v3
  simp only [List.setIfInBounds_toArray, List.set_cons_zero, List.set_cons_succ] at h3
  have k4 := kept_one h3 (by simp) 4 v4
  have h4 := h3.set 4 v4
  simp only [List.setIfInBounds_toArray, List.set_cons_zero, List.set_cons_succ] at h4
  have k5 := kept_one h4 (by simp) 5 v5
  have h5 := h4.set 5 v5
  simp only [List.setIfInBounds_toArray, List.set_cons_zero, List.set_cons_succ] at h5
  exact ⟨h5, (((((k0.trans k1).trans k2).trans k3).trans k4).trans k5)⟩
end

section
variable {K : Act → World → Prop} {Q : Exit → Act → World → Prop} {a : Act} {w : World} {dst : Option Tmp} {t : TypeId} {pos : String} {after : Array Edge} {b : Nat} {x y : Operand} {A : Option Addr} {n c : Nat} {fl dr nw : Int} {tg : Bool} {q : Ak}
set_option maxRecDepth 100000 in
theorem opF_loadC (hx : a.eval x = .pointer (some ⟨b, 0, none⟩)) (hw : Whole w b 24 #[.slice A n c, .int .i64 fl, .int .i64 dr, .int .i64 nw, .bool tg]) (h : K (a.put dst (.agg #[.slice A n c, .int .i64 fl, .int .i64 dr, .int .i64 nw, .bool tg])) w) :
    ({ dst := dst, op := .load 24 x, type := t, pos := pos, after := after, guard := none } : Oper).wp Try.prog a w K Q := by
  have c0 := hw.cell 0
  have c1 := hw.cell 1
  have c2 := hw.cell 2
  have c3 := hw.cell 3
  have c4 := hw.cell 4
  simp only [List.getElem?_toArray, List.getElem?_cons_zero, List.getElem?_cons_succ] at c0 c1 c2 c3 c4
  unfold Oper.wp execOp
  simp only [hx]
  go_simp
  exact h
set_option maxRecDepth 100000 in
theorem opF_move {v : Value} (hx : a.eval x = v) (h : K (a.put dst v) w) :
    ({ dst := dst, op := .move x, type := t, pos := pos, after := after, guard := none } : Oper).wp Try.prog a w K Q := by
  unfold Oper.wp execOp
  simp only [hx]
  go_simp
  exact h
set_option maxRecDepth 100000 in
theorem opF_idx {off m cl j : Nat} (hx : a.eval x = .slice (some ⟨b, off, none⟩) m cl) (hy : a.eval y = .int .i64 (j : Int)) (hj : (j : Int) < (m : Int)) (h : K (a.put dst (.pointer (some ⟨b, off + j * 6, none⟩))) w) :
    ({ dst := dst, op := .indexAddr 43 x y, type := t, pos := pos, after := after, guard := none } : Oper).wp Try.prog a w K Q := by
  unfold Oper.wp execOp
  simp only [hx, hy]
  go_simp
  exact h
set_option maxRecDepth 100000 in
theorem opF_loadA {p : Nat} (hx : a.eval x = .pointer (some ⟨b, p, none⟩)) (hq : AkAt w b p q) (h : K (a.put dst (.agg #[.int .u8 q.kind, .int .i64 q.call, .int .i64 q.a, .int .i64 q.b, .int .i64 q.c, .int .i64 q.d])) w) :
    ({ dst := dst, op := .load 26 x, type := t, pos := pos, after := after, guard := none } : Oper).wp Try.prog a w K Q := by
  obtain ⟨c0, c1, c2, c3, c4, c5⟩ := hq
  unfold Oper.wp execOp
  simp only [hx]
  go_simp
  exact h
set_option maxRecDepth 100000 in
theorem opF_do {T : Ending → World → Prop} {vs vx : Value} (hx : a.eval x = vs) (hy : a.eval y = vx) (hc : Calls Try.prog 9 #[vs, vx] w T) (h : ∀ e w', T e w' → ∃ v, e = .returned v ∧ K (a.put dst v) w') :
    ({ dst := dst, op := .call { callee := .value (.func 9), args := #[x, y], argTypes := #[24, 26] }, type := t, pos := pos, after := after, guard := none } : Oper).wp Try.prog a w K Q := by
  have hf : a.eval (.func 9) = .func (.func 9) #[] #[] := rfl
  unfold Oper.wp execOp
  simp only [resolve, List.map_toArray, List.map_cons, List.map_nil, hx, hy, hf]
  go_simp
  refine hc.mono ?_
  intro e w' hT
  obtain ⟨v, rfl, hK⟩ := h e w' hT
  exact hK
set_option maxRecDepth 100000 in
theorem opF_extract {v0 v1 : Value} {i : Nat} {v : Value} (hx : a.eval x = .tuple #[v0, v1]) (hv : #[v0, v1][i]? = some v) (h : K (a.put dst v) w) :
    ({ dst := dst, op := .extract x i, type := t, pos := pos, after := after, guard := none } : Oper).wp Try.prog a w K Q := by
  unfold Oper.wp execOp
  simp only [hx]
  simp [hv, go_sem]
  exact h
set_option maxRecDepth 100000 in
theorem opF_allocC (h : K (a.put dst (.pointer (some ⟨w.heap.size, 0, none⟩))) (w.alloc (.cells #[.slice none 0 0, .int .i64 0, .int .i64 0, .int .i64 0, .bool false] 24))) :
    ({ dst := dst, op := .alloc 24, type := t, pos := pos, after := after, guard := none } : Oper).wp Try.prog a w K Q := by
  unfold Oper.wp execOp
  go_simp
  exact h
set_option maxRecDepth 100000 in
theorem opF_allocT (h : K (a.put dst (.pointer (some ⟨w.heap.size, 0, none⟩))) (w.alloc (.cells #[.int .i64 0, .int .u8 0, .int .u8 0, .int .i64 0, .slice none 0 0, .bool false] 30))) :
    ({ dst := dst, op := .alloc 30, type := t, pos := pos, after := after, guard := none } : Oper).wp Try.prog a w K Q := by
  unfold Oper.wp execOp
  go_simp
  exact h
set_option maxRecDepth 100000 in
theorem opF_storeC {u0 u1 u2 u3 u4 : Value} (hx : a.eval x = .pointer (some ⟨b, 0, none⟩)) (hy : a.eval y = .agg #[.slice A n c, .int .i64 fl, .int .i64 dr, .int .i64 nw, .bool tg]) (hw : Whole w b 24 #[u0, u1, u2, u3, u4]) (h : K a (((((w.setCell ⟨b, 0, none⟩ (.slice A n c)).setCell ⟨b, 1, none⟩ (.int .i64 fl)).setCell ⟨b, 2, none⟩ (.int .i64 dr)).setCell ⟨b, 3, none⟩ (.int .i64 nw)).setCell ⟨b, 4, none⟩ (.bool tg))) :
    ({ dst := none, op := .store 24 x y, type := t, pos := pos, after := after, guard := none } : Oper).wp Try.prog a w K Q := by
  have c0 := hw.cell 0
  have c1 := hw.cell 1
  have c2 := hw.cell 2
  have c3 := hw.cell 3
  have c4 := hw.cell 4
  have f0 := hw.frozen 0
  have f1 := hw.frozen 1
  have f2 := hw.frozen 2
  have f3 := hw.frozen 3
  have f4 := hw.frozen 4
  simp only [List.getElem?_toArray, List.getElem?_cons_zero, List.getElem?_cons_succ] at c0 c1 c2 c3 c4
  unfold Oper.wp execOp
  simp only [hx, hy]
  go_simp
  exact h
set_option maxRecDepth 100000 in
theorem opF_storeT {i0 i1 i2 i3 : Int} {u0 u1 u2 u3 u4 u5 : Value} (hx : a.eval x = .pointer (some ⟨b, 0, none⟩)) (hy : a.eval y = .agg #[.int .i64 i0, .int .u8 i1, .int .u8 i2, .int .i64 i3, .slice A n c, .bool tg]) (hw : Whole w b 30 #[u0, u1, u2, u3, u4, u5]) (h : K a ((((((w.setCell ⟨b, 0, none⟩ (.int .i64 i0)).setCell ⟨b, 1, none⟩ (.int .u8 i1)).setCell ⟨b, 2, none⟩ (.int .u8 i2)).setCell ⟨b, 3, none⟩ (.int .i64 i3)).setCell ⟨b, 4, none⟩ (.slice A n c)).setCell ⟨b, 5, none⟩ (.bool tg))) :
    ({ dst := none, op := .store 30 x y, type := t, pos := pos, after := after, guard := none } : Oper).wp Try.prog a w K Q := by
  have c0 := hw.cell 0
  have c1 := hw.cell 1
  have c2 := hw.cell 2
  have c3 := hw.cell 3
  have c4 := hw.cell 4
  have c5 := hw.cell 5
  have f0 := hw.frozen 0
  have f1 := hw.frozen 1
  have f2 := hw.frozen 2
  have f3 := hw.frozen 3
  have f4 := hw.frozen 4
  have f5 := hw.frozen 5
  simp only [List.getElem?_toArray, List.getElem?_cons_zero, List.getElem?_cons_succ] at c0 c1 c2 c3 c4 c5
  unfold Oper.wp execOp
  simp only [hx, hy]
  go_simp
  exact h
end

abbrev flDs : List Nat := [7, 8, 27, 28, 29, 30, 31, 32, 33, 34, 35]

/-- What holds behind any operations of the region that have come up. -/
structure FPI (a0 : Act) (W0 : World) (A : Option Addr) (n c : Nat) (fl dr nw : Int) (tg : Bool) (b off m cl j : Nat) (q : Ak) (N : Nat) (Ls : List Bx) (Kd I : Int) (L : Nat → Bool) (a : Act) (w : World) : Prop where
  agree : Agree flDs a0 a
  bel : Below W0.heap.size W0 w
  x0 : L 0 = true → a.eval (.tmp 28) = .agg #[.slice A n c, .int .i64 fl, .int .i64 dr, .int .i64 nw, .bool tg]
  x1 : L 1 = true → a.eval (.tmp 29) = .slice (some ⟨b, off, none⟩) m cl
  x2 : L 2 = true → a.eval (.tmp 30) = .int .i64 (j : Int)
  x3 : L 3 = true → a.eval (.tmp 31) = .pointer (some ⟨b, off + j * 6, none⟩)
  x4 : L 4 = true → a.eval (.tmp 32) = .agg #[.int .u8 q.kind, .int .i64 q.call, .int .i64 q.a, .int .i64 q.b, .int .i64 q.c, .int .i64 q.d]
  s5 : L 5 = true → ∃ A' c', RdX w w.heap.size A' N Ls ∧ a.eval (.tmp 33) = .tuple #[.agg #[.slice A' N c', .int .i64 fl, .int .i64 dr, .int .i64 nw, .bool tg], .agg #[.int .i64 q.call, .int .u8 q.kind, .int .u8 Kd, .int .i64 I, .slice none 0 0, .bool false]] ∧ (L 6 = true → a.eval (.tmp 27) = .tuple #[.agg #[.slice A' N c', .int .i64 fl, .int .i64 dr, .int .i64 nw, .bool tg], .agg #[.int .i64 q.call, .int .u8 q.kind, .int .u8 Kd, .int .i64 I, .slice none 0 0, .bool false]]) ∧ (L 7 = true → a.eval (.tmp 34) = .agg #[.slice A' N c', .int .i64 fl, .int .i64 dr, .int .i64 nw, .bool tg]) ∧ (L 8 = true → a.eval (.tmp 35) = .agg #[.int .i64 q.call, .int .u8 q.kind, .int .u8 Kd, .int .i64 I, .slice none 0 0, .bool false]) ∧
    (L 11 = true → ∃ g, W0.heap.size ≤ g ∧ a.eval (.tmp 7) = .pointer (some ⟨g, 0, none⟩) ∧ Whole w g 24 #[.slice A' N c', .int .i64 fl, .int .i64 dr, .int .i64 nw, .bool tg])
  q9 : L 9 = true → L 11 = false → ∃ g, W0.heap.size ≤ g ∧ a.eval (.tmp 7) = .pointer (some ⟨g, 0, none⟩) ∧ Whole w g 24 #[.slice none 0 0, .int .i64 0, .int .i64 0, .int .i64 0, .bool false]
  qA : L 10 = true → ∃ g, W0.heap.size ≤ g ∧ a.eval (.tmp 8) = .pointer (some ⟨g, 0, none⟩) ∧ Whole w g 30 (if L 12 = true then #[.int .i64 q.call, .int .u8 q.kind, .int .u8 Kd, .int .i64 I, .slice none 0 0, .bool false] else #[.int .i64 0, .int .u8 0, .int .u8 0, .int .i64 0, .slice none 0 0, .bool false])

set_option maxRecDepth 100000 in
set_option maxHeartbeats 2000000 in
theorem fl_region {ops : Array Oper} {Q : Exit → Act → World → Prop} {id : Nat} (hsize : ops.size = 13) (hlow : lowOnly ops = true)
    {t0 : TypeId} {t1 : TypeId} {t2 : TypeId} {t3 : TypeId} {t4 : TypeId} {t5 : TypeId} {t6 : TypeId} {t7 : TypeId} {t8 : TypeId} {t9 : TypeId} {t10 : TypeId} {t11 : TypeId} {t12 : TypeId}
    (o0 : At ops 0 (some 28) (.load 24 (.tmp 2)) t0 [])
    (o1 : At ops 1 (some 29) (.move (.tmp 1)) t1 [])
    (o2 : At ops 2 (some 30) (.move (.tmp 5)) t2 [])
    (o3 : At ops 3 (some 31) (.indexAddr 43 (.tmp 29) (.tmp 30)) t3 [1, 2])
    (o4 : At ops 4 (some 32) (.load 26 (.tmp 31)) t4 [3])
    (o5 : At ops 5 (some 33) (.call { callee := .value (.func 9), args := #[.tmp 28, .tmp 32], argTypes := #[24, 26] }) t5 [0, 4])
    (o6 : At ops 6 (some 27) (.move (.tmp 33)) t6 [5])
    (o7 : At ops 7 (some 34) (.extract (.tmp 27) 0) t7 [6])
    (o8 : At ops 8 (some 35) (.extract (.tmp 27) 1) t8 [6])
    (o9 : At ops 9 (some 7) (.alloc 24) t9 [])
    (o10 : At ops 10 (some 8) (.alloc 30) t10 [])
    (o11 : At ops 11 none (.store 24 (.tmp 7) (.tmp 34)) t11 [5, 7, 9])
    (o12 : At ops 12 none (.store 30 (.tmp 8) (.tmp 35)) t12 [8, 10, 11])
    (a0 : Act) (W0 : World) (A : Option Addr) (n c : Nat) (fl dr nw : Int) (tg : Bool) (b off m cl j : Nat) (q : Ak) (N : Nat) (Ls : List Bx) (Kd I : Int) (hds : ∀ d ∈ flDs, d < a0.tmps.size) (g2 : Nat)
    (h2 : a0.eval (.tmp 2) = .pointer (some ⟨g2, 0, none⟩)) (h1 : a0.eval (.tmp 1) = .slice (some ⟨b, off, none⟩) m cl) (h5 : a0.eval (.tmp 5) = .int .i64 (j : Int))
    (hC : Whole W0 g2 24 #[.slice A n c, .int .i64 fl, .int .i64 dr, .int .i64 nw, .bool tg]) (hq : AkAt W0 b (off + j * 6) q) (hbl : b < W0.heap.size) (hj : (j : Int) < (m : Int))
    (hdo : ∀ w : World, Below W0.heap.size W0 w → Calls Try.prog 9 #[.agg #[.slice A n c, .int .i64 fl, .int .i64 dr, .int .i64 nw, .bool tg], .agg #[.int .u8 q.kind, .int .i64 q.call, .int .i64 q.a, .int .i64 q.b, .int .i64 q.c, .int .i64 q.d]] w fun e w' => ∃ A' c', e = .returned (.tuple #[.agg #[.slice A' N c', .int .i64 fl, .int .i64 dr, .int .i64 nw, .bool tg], .agg #[.int .i64 q.call, .int .u8 q.kind, .int .u8 Kd, .int .i64 I, .slice none 0 0, .bool false]]) ∧ RdX w' w'.heap.size A' N Ls ∧ Below w.heap.size w w')
    (fin : ∀ (σ : Nat → Value) W A' c' g g', σ 7 = .pointer (some ⟨g, 0, none⟩) → σ 8 = .pointer (some ⟨g', 0, none⟩) → RdX W W.heap.size A' N Ls → Whole W g 24 #[.slice A' N c', .int .i64 fl, .int .i64 dr, .int .i64 nw, .bool tg] → Whole W g' 30 #[.int .i64 q.call, .int .u8 q.kind, .int .u8 Kd, .int .i64 I, .slice none 0 0, .bool false] → Below W0.heap.size W0 W → Q .normal (lay σ flDs a0) W) :
    (Code.region id ops true).wp Try.prog Q a0 W0 := by
  refine region_clo (by kernel_rfl) hlow (fun L a w => FPI a0 W0 A n c fl dr nw tg b off m cl j q N Ls Kd I L a w) ?_ ?_ ?_
  · exact ⟨Agree.refl _ _, (Below.refl _ _).drew, by simp, by simp, by simp, by simp, by simp, by simp, by simp, by simp⟩
  · rintro i o L a w ho hi hclo hall J
    have hlt : i < 13 := by rw [← hsize]; exact (Array.getElem?_eq_some_iff.1 ho).1
    have hz : ∀ d ∈ flDs, d < a.tmps.size := fun d hd => by rw [J.agree.size]; exact hds d hd
    rcases (by omega : i = 0 ∨ i = 1 ∨ i = 2 ∨ i = 3 ∨ i = 4 ∨ i = 5 ∨ i = 6 ∨ i = 7 ∨ i = 8 ∨ i = 9 ∨ i = 10 ∨ i = 11 ∨ i = 12) with rfl | rfl | rfl | rfl | rfl | rfl | rfl | rfl | rfl | rfl | rfl | rfl | rfl
    · have hd := o0.needs ho hall
      refine o0.run fun _ _ => opF_loadC ((J.agree.eval (by decide)).trans h2) (hC.under J.bel) ⟨J.agree.put (by decide) _, ?_, ?_, ?_, ?_, ?_, ?_, ?_, ?_, ?_⟩
      · simpa [eval_old] using J.bel
      · intro _; exact eval_new (hz _ (by decide)) _
      · simpa [eval_old] using J.x1
      · simpa [eval_old] using J.x2
      · simpa [eval_old] using J.x3
      · simpa [eval_old] using J.x4
      · simpa [eval_old] using J.s5
      · simpa [eval_old] using J.q9
      · simpa [eval_old] using J.qA
    · have hd := o1.needs ho hall
      refine o1.run fun _ _ => opF_move ((J.agree.eval (by decide)).trans h1) ⟨J.agree.put (by decide) _, ?_, ?_, ?_, ?_, ?_, ?_, ?_, ?_, ?_⟩
      · simpa [eval_old] using J.bel
      · simpa [eval_old] using J.x0
      · intro _; exact eval_new (hz _ (by decide)) _
      · simpa [eval_old] using J.x2
      · simpa [eval_old] using J.x3
      · simpa [eval_old] using J.x4
      · simpa [eval_old] using J.s5
      · simpa [eval_old] using J.q9
      · simpa [eval_old] using J.qA
    · have hd := o2.needs ho hall
      refine o2.run fun _ _ => opF_move ((J.agree.eval (by decide)).trans h5) ⟨J.agree.put (by decide) _, ?_, ?_, ?_, ?_, ?_, ?_, ?_, ?_, ?_⟩
      · simpa [eval_old] using J.bel
      · simpa [eval_old] using J.x0
      · simpa [eval_old] using J.x1
      · intro _; exact eval_new (hz _ (by decide)) _
      · simpa [eval_old] using J.x3
      · simpa [eval_old] using J.x4
      · simpa [eval_old] using J.s5
      · simpa [eval_old] using J.q9
      · simpa [eval_old] using J.qA
    · have hd := o3.needs ho hall
      refine o3.run fun _ _ => opF_idx (J.x1 (hd 1 (by simp))) (J.x2 (hd 2 (by simp))) hj ⟨J.agree.put (by decide) _, ?_, ?_, ?_, ?_, ?_, ?_, ?_, ?_, ?_⟩
      · simpa [eval_old] using J.bel
      · simpa [eval_old] using J.x0
      · simpa [eval_old] using J.x1
      · simpa [eval_old] using J.x2
      · intro _; exact eval_new (hz _ (by decide)) _
      · simpa [eval_old] using J.x4
      · simpa [eval_old] using J.s5
      · simpa [eval_old] using J.q9
      · simpa [eval_old] using J.qA
    · have hd := o4.needs ho hall
      refine o4.run fun _ _ => opF_loadA (J.x3 (hd 3 (by simp))) (akAt_of fun i hi => (J.bel.cell (p := ⟨b, off + j * 6 + i, none⟩) hbl).trans (hq.all i hi)) ⟨J.agree.put (by decide) _, ?_, ?_, ?_, ?_, ?_, ?_, ?_, ?_, ?_⟩
      · simpa [eval_old] using J.bel
      · simpa [eval_old] using J.x0
      · simpa [eval_old] using J.x1
      · simpa [eval_old] using J.x2
      · simpa [eval_old] using J.x3
      · intro _; exact eval_new (hz _ (by decide)) _
      · simpa [eval_old] using J.s5
      · simpa [eval_old] using J.q9
      · simpa [eval_old] using J.qA
    · have hd := o5.needs ho hall
      have n6 := o6.not hclo (j := 5) (by simp) hi
      have n7 := o7.not hclo (j := 6) (by simp) n6
      have n8 := o8.not hclo (j := 6) (by simp) n6
      have n11 := o11.not hclo (j := 5) (by simp) hi
      have n12 := o12.not hclo (j := 11) (by simp) n11
      refine o5.run fun _ _ => opF_do (J.x0 (hd 0 (by simp))) (J.x4 (hd 4 (by simp))) (hdo w J.bel) ?_
      rintro e w' ⟨A', c', rfl, r2, b2⟩
      refine ⟨_, rfl, J.agree.put (by decide) _, ?_, ?_, ?_, ?_, ?_, ?_, ?_, ?_, ?_⟩
      · exact J.bel.trans (b2.mono J.bel.size)
      · simpa [eval_old] using J.x0
      · simpa [eval_old] using J.x1
      · simpa [eval_old] using J.x2
      · simpa [eval_old] using J.x3
      · simpa [eval_old] using J.x4
      · intro _
        exact ⟨A', c', r2, eval_new (hz _ (by decide)) _, by simp [n6], by simp [n7], by simp [n8], by simp [n11]⟩
      · intro h9 h11
        obtain ⟨g, g1, g2, g3⟩ := J.q9 (by simpa using h9) (by simpa using h11)
        exact ⟨g, g1, by simpa [eval_old] using g2, g3.under b2⟩
      · intro hA
        obtain ⟨g, g1, g2, g3⟩ := J.qA (by simpa using hA)
        exact ⟨g, g1, by simpa [eval_old] using g2, by simpa using g3.under b2⟩
    · have hd := o6.needs ho hall
      have h5 : L 5 = true := hd 5 (by simp)
      obtain ⟨A', c', rd, e33, e27, e34, e35, e11⟩ := J.s5 h5
      refine o6.run fun _ _ => opF_move e33 ⟨J.agree.put (by decide) _, ?_, ?_, ?_, ?_, ?_, ?_, ?_, ?_, ?_⟩
      · simpa [eval_old] using J.bel
      · simpa [eval_old] using J.x0
      · simpa [eval_old] using J.x1
      · simpa [eval_old] using J.x2
      · simpa [eval_old] using J.x3
      · simpa [eval_old] using J.x4
      · intro _
        exact ⟨A', c', rd, by simpa [eval_old] using e33, fun _ => eval_new (hz _ (by decide)) _, by simpa [eval_old] using e34, by simpa [eval_old] using e35, by simpa [eval_old] using e11⟩
      · simpa [eval_old] using J.q9
      · simpa [eval_old] using J.qA
    · have hd := o7.needs ho hall
      have h5 : L 5 = true := by cases hv : L 5 with | true => rfl | false => have := o6.not hclo (j := 5) (by simp) hv; rw [hd 6 (by simp)] at this; cases this
      obtain ⟨A', c', rd, e33, e27, e34, e35, e11⟩ := J.s5 h5
      refine o7.run fun _ _ => opF_extract (e27 (hd 6 (by simp))) rfl ⟨J.agree.put (by decide) _, ?_, ?_, ?_, ?_, ?_, ?_, ?_, ?_, ?_⟩
      · simpa [eval_old] using J.bel
      · simpa [eval_old] using J.x0
      · simpa [eval_old] using J.x1
      · simpa [eval_old] using J.x2
      · simpa [eval_old] using J.x3
      · simpa [eval_old] using J.x4
      · intro _
        exact ⟨A', c', rd, by simpa [eval_old] using e33, by simpa [eval_old] using e27, fun _ => eval_new (hz _ (by decide)) _, by simpa [eval_old] using e35, by simpa [eval_old] using e11⟩
      · simpa [eval_old] using J.q9
      · simpa [eval_old] using J.qA
    · have hd := o8.needs ho hall
      have h5 : L 5 = true := by cases hv : L 5 with | true => rfl | false => have := o6.not hclo (j := 5) (by simp) hv; rw [hd 6 (by simp)] at this; cases this
      obtain ⟨A', c', rd, e33, e27, e34, e35, e11⟩ := J.s5 h5
      refine o8.run fun _ _ => opF_extract (e27 (hd 6 (by simp))) rfl ⟨J.agree.put (by decide) _, ?_, ?_, ?_, ?_, ?_, ?_, ?_, ?_, ?_⟩
      · simpa [eval_old] using J.bel
      · simpa [eval_old] using J.x0
      · simpa [eval_old] using J.x1
      · simpa [eval_old] using J.x2
      · simpa [eval_old] using J.x3
      · simpa [eval_old] using J.x4
      · intro _
        exact ⟨A', c', rd, by simpa [eval_old] using e33, by simpa [eval_old] using e27, by simpa [eval_old] using e34, fun _ => eval_new (hz _ (by decide)) _, by simpa [eval_old] using e11⟩
      · simpa [eval_old] using J.q9
      · simpa [eval_old] using J.qA
    · have n11 := o11.not hclo (j := 9) (by simp) hi
      have bA := (Below.refl w.heap.size w).alloc (Nat.le_refl _) (.cells #[.slice none 0 0, .int .i64 0, .int .i64 0, .int .i64 0, .bool false] 24)
      refine o9.run fun _ _ => opF_allocC ⟨J.agree.put (by decide) _, ?_, ?_, ?_, ?_, ?_, ?_, ?_, ?_, ?_⟩
      · exact J.bel.trans (bA.mono J.bel.size)
      · simpa [eval_old] using J.x0
      · simpa [eval_old] using J.x1
      · simpa [eval_old] using J.x2
      · simpa [eval_old] using J.x3
      · simpa [eval_old] using J.x4
      · intro h5
        obtain ⟨A', c', rd, e33, e27, e34, e35, e11⟩ := J.s5 (by simpa using h5)
        exact ⟨A', c', rd.up bA, by simpa [eval_old] using e33, by simpa [eval_old] using e27, by simpa [eval_old] using e34, by simpa [eval_old] using e35, by simp [n11]⟩
      · intro _ _
        exact ⟨w.heap.size, J.bel.size, eval_new (hz _ (by decide)) _, Whole.new w _ _⟩
      · intro hA
        obtain ⟨g, g1, g2, g3⟩ := J.qA (by simpa using hA)
        exact ⟨g, g1, by simpa [eval_old] using g2, by simpa using g3.alloc _⟩
    · have n12 := o12.not hclo (j := 10) (by simp) hi
      have bA := (Below.refl w.heap.size w).alloc (Nat.le_refl _) (.cells #[.int .i64 0, .int .u8 0, .int .u8 0, .int .i64 0, .slice none 0 0, .bool false] 30)
      refine o10.run fun _ _ => opF_allocT ⟨J.agree.put (by decide) _, ?_, ?_, ?_, ?_, ?_, ?_, ?_, ?_, ?_⟩
      · exact J.bel.trans (bA.mono J.bel.size)
      · simpa [eval_old] using J.x0
      · simpa [eval_old] using J.x1
      · simpa [eval_old] using J.x2
      · simpa [eval_old] using J.x3
      · simpa [eval_old] using J.x4
      · intro h5
        obtain ⟨A', c', rd, e33, e27, e34, e35, e11⟩ := J.s5 (by simpa using h5)
        exact ⟨A', c', rd.up bA, by simpa [eval_old] using e33, by simpa [eval_old] using e27, by simpa [eval_old] using e34, by simpa [eval_old] using e35, by
          intro h11
          obtain ⟨g, g1, g2, g3⟩ := e11 (by simpa using h11)
          exact ⟨g, g1, by simpa [eval_old] using g2, g3.alloc _⟩⟩
      · intro h9 h11
        obtain ⟨g, g1, g2, g3⟩ := J.q9 (by simpa using h9) (by simpa using h11)
        exact ⟨g, g1, by simpa [eval_old] using g2, g3.alloc _⟩
      · intro _
        refine ⟨w.heap.size, J.bel.size, eval_new (hz _ (by decide)) _, ?_⟩
        simpa [n12] using Whole.new w _ _
    · have hd := o11.needs ho hall
      obtain ⟨A', c', rd, e33, e27, e34, e35, e11⟩ := J.s5 (hd 5 (by simp))
      obtain ⟨g, g1, g3, g4⟩ := J.q9 (hd 9 (by simp)) hi
      have kp := kept5 g4 (.slice A' N c') (.int .i64 fl) (.int .i64 dr) (.int .i64 nw) (.bool tg)
      refine o11.run fun _ _ => opF_storeC g3 (e34 (hd 7 (by simp))) g4 ⟨J.agree, ?_, ?_, ?_, ?_, ?_, ?_, ?_, ?_, ?_⟩
      · exact kp.2.bel _ _ g1 J.bel
      · simpa using J.x0
      · simpa using J.x1
      · simpa using J.x2
      · simpa using J.x3
      · simpa using J.x4
      · intro _
        exact ⟨A', c', kp.2.rows _ _ _ rd, e33, by simpa using e27, by simpa using e34, by simpa using e35, fun _ => ⟨g, g1, g3, kp.1⟩⟩
      · intro _ h; simp at h
      · intro hA
        obtain ⟨g', k1, k2, k3⟩ := J.qA (by simpa using hA)
        refine ⟨g', k1, k2, ?_⟩
        have : g' ≠ g := k3.ne_size g4 (by split <;> simp)
        simpa using kp.2.far _ _ _ this k3
    · have hd := o12.needs ho hall
      have h5 : L 5 = true := o11.clo hclo (hd 11 (by simp)) 5 (by simp)
      obtain ⟨A', c', rd, e33, e27, e34, e35, e11⟩ := J.s5 h5
      obtain ⟨g', k1, k2, k3⟩ := J.qA (hd 10 (by simp))
      rw [hi] at k3
      simp only [Bool.false_eq_true, if_false] at k3
      have kp := kept6 k3 (.int .i64 q.call) (.int .u8 q.kind) (.int .u8 Kd) (.int .i64 I) (.slice none 0 0) (.bool false)
      refine o12.run fun _ _ => opF_storeT k2 (e35 (hd 8 (by simp))) k3 ⟨J.agree, ?_, ?_, ?_, ?_, ?_, ?_, ?_, ?_, ?_⟩
      · exact kp.2.bel _ _ k1 J.bel
      · simpa using J.x0
      · simpa using J.x1
      · simpa using J.x2
      · simpa using J.x3
      · simpa using J.x4
      · intro _
        refine ⟨A', c', kp.2.rows _ _ _ rd, e33, by simpa using e27, by simpa using e34, by simpa using e35, fun _ => ?_⟩
        obtain ⟨g, g1, g3, g4⟩ := e11 (hd 11 (by simp))
        exact ⟨g, g1, g3, kp.2.far _ _ _ (g4.ne_size k3 (by simp)) g4⟩
      · intro _ h
        rw [show (if (11 : Nat) = 12 then true else L 11) = L 11 by simp, hd 11 (by simp)] at h
        cases h
      · intro _
        exact ⟨g', k1, k2, by simpa using kp.1⟩
  · intro L a w hall J
    obtain ⟨A', c', rd, _, _, _, _, e11⟩ := J.s5 (hall 5 (by omega))
    obtain ⟨g, _, g3, g4⟩ := e11 (hall 11 (by omega))
    obtain ⟨g', _, k2, k3⟩ := J.qA (hall 10 (by omega))
    rw [hall 12 (by omega), if_pos rfl] at k3
    rw [J.agree.lay hds]
    exact fin (fun d => a.eval (.tmp d)) w A' c' g g' g3 k2 rd g4 k3 J.bel

end Go.Proofs.Ytphkleecodoplaa
