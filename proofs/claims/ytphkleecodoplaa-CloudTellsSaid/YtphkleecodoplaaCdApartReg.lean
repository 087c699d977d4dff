/-
  The region of CloudApart in which a box of each of two rows is laid into a box of its own: whatever the order. Conditions: those that each theorem names.
-/
import Derived.Test.YtphkleecodoplaaCdFloorReg
namespace Go.Proofs.Ytphkleecodoplaa
open Go.RowKit Go.Shelf

/-- What is kept when a block is written over. -/
structure KeptB (g : Nat) (w w' : World) : Prop where
  size : w'.heap.size = w.heap.size
  far : ∀ b t xs, b ≠ g → Whole w b t xs → Whole w' b t xs
  bel : ∀ B w0, B ≤ g → Below B w0 w → Below B w0 w'
theorem keptB_one {w : World} {g : Nat} (i : Nat) (v : Value) : KeptB g w (w.setCell ⟨g, i, none⟩ v) where
  size := World.size_setCell ..
  far := fun _ _ _ hne h => h.far hne v
  bel := fun _ _ hB h => h.setCell (p := ⟨g, i, none⟩) hB v
theorem KeptB.trans {w w' w'' : World} {g : Nat} (h : KeptB g w w') (h' : KeptB g w' w'') : KeptB g w w'' where
  size := h'.size.trans h.size
  far := fun b t xs hne hw => h'.far b t xs hne (h.far b t xs hne hw)
  bel := fun B w0 hB hb => h'.bel B w0 hB (h.bel B w0 hB hb)
theorem Whole.ltS {w : World} {b : Nat} {t : TypeId} {xs : Array Value} (h : Whole w b t xs) : b < w.heap.size := (Array.getElem?_eq_some_iff.1 h).1
theorem kept11 {w : World} {t : TypeId} {g : Nat} {x0 x1 x2 x3 x4 x5 x6 x7 x8 x9 x10 : Value} (hA : Whole w g t #[x0, x1, x2, x3, x4, x5, x6, x7, x8, x9, x10]) (v0 v1 v2 v3 v4 v5 v6 v7 v8 v9 v10 : Value) : Whole (((((((((((w.setCell ⟨g, 0, none⟩ v0).setCell ⟨g, 1, none⟩ v1).setCell ⟨g, 2, none⟩ v2).setCell ⟨g, 3, none⟩ v3).setCell ⟨g, 4, none⟩ v4).setCell ⟨g, 5, none⟩ v5).setCell ⟨g, 6, none⟩ v6).setCell ⟨g, 7, none⟩ v7).setCell ⟨g, 8, none⟩ v8).setCell ⟨g, 9, none⟩ v9).setCell ⟨g, 10, none⟩ v10) g t #[v0, v1, v2, v3, v4, v5, v6, v7, v8, v9, v10] ∧ KeptB g w (((((((((((w.setCell ⟨g, 0, none⟩ v0).setCell ⟨g, 1, none⟩ v1).setCell ⟨g, 2, none⟩ v2).setCell ⟨g, 3, none⟩ v3).setCell ⟨g, 4, none⟩ v4).setCell ⟨g, 5, none⟩ v5).setCell ⟨g, 6, none⟩ v6).setCell ⟨g, 7, none⟩ v7).setCell ⟨g, 8, none⟩ v8).setCell ⟨g, 9, none⟩ v9).setCell ⟨g, 10, none⟩ v10) := by
  have k0 := keptB_one (w := w) (g := g) 0 v0
  have h0 := hA.set 0 v0
  simp only [List.setIfInBounds_toArray, List.set_cons_zero] at h0
  have k1 := keptB_one (w := (w.setCell ⟨g, 0, none⟩ v0)) (g := g) 1 v1
  have h1 := h0.set 1 v1
  simp only [List.setIfInBounds_toArray, List.set_cons_zero, List.set_cons_succ] at h1
  have k2 := keptB_one (w := ((w.setCell ⟨g, 0, none⟩ v0).setCell ⟨g, 1, none⟩ v1)) (g := g) 2 v2
  have h2 := h1.set 2 v2
  simp only [List.setIfInBounds_toArray, List.set_cons_zero, List.set_cons_succ] at h2
  have k3 := keptB_one (w := (((w.setCell ⟨g, 0, none⟩ v0).setCell ⟨g, 1, none⟩ v1).setCell ⟨g, 2, none⟩ v2)) (g := g) 3 v3
  have h3 := h2.set 3 v3
  simp only [List.setIfInBounds_toArray, List.set_cons_zero, List.set_cons_succ] at h3
  have k4 := keptB_one (w := ((((w.setCell ⟨g, 0, none⟩ v0).setCell ⟨g, 1, none⟩ v1).setCell ⟨g, 2, none⟩ v2).setCell ⟨g, 3, none⟩ v3)) (g := g) 4 v4
  have h4 := h3.set 4 v4
  simp only [List.setIfInBounds_toArray, List.set_cons_zero, List.set_cons_succ] at h4
  have k5 := keptB_one (w := (((((w.setCell ⟨g, 0, none⟩ v0).setCell ⟨g, 1, none⟩ v1).setCell ⟨g, 2, none⟩ v2).setCell ⟨g, 3, none⟩ v3).setCell ⟨g, 4, none⟩ v4)) (g := g) 5 v5
  have h5 := h4.set 5 v5
  simp only [List.setIfInBounds_toArray, List.set_cons_zero, List.set_cons_succ] at h5
  have k6 := keptB_one (w := ((((((w.setCell ⟨g, 0, none⟩ v0).setCell ⟨g, 1, none⟩ v1).setCell ⟨g, 2, none⟩ v2).setCell ⟨g, 3, none⟩ v3).setCell ⟨g, 4, none⟩ v4).setCell ⟨g, 5, none⟩ v5)) (g := g) 6 v6
  have h6 := h5.set 6 v6
  simp only [List.setIfInBounds_toArray, List.set_cons_zero, List.set_cons_succ] at h6
  have k7 := keptB_one (w := (((((((w.setCell ⟨g, 0, none⟩ v0).setCell ⟨g, 1, none⟩ v1).setCell ⟨g, 2, none⟩ v2).setCell ⟨g, 3, none⟩ v3).setCell ⟨g, 4, none⟩ v4).setCell ⟨g, 5, none⟩ v5).setCell ⟨g, 6, none⟩ v6)) (g := g) 7 v7
  have h7 := h6.set 7 v7
  simp only [List.setIfInBounds_toArray, List.set_cons_zero, List.set_cons_succ] at h7
  have k8 := keptB_one (w := ((((((((w.setCell ⟨g, 0, none⟩ v0).setCell ⟨g, 1, none⟩ v1).setCell ⟨g, 2, none⟩ v2).setCell ⟨g, 3, none⟩ v3).setCell ⟨g, 4, none⟩ v4).setCell ⟨g, 5, none⟩ v5).setCell ⟨g, 6, none⟩ v6).setCell ⟨g, 7, none⟩ v7)) (g := g) 8 v8
  have h8 := h7.set 8 v8
  simp only [List.setIfInBounds_toArray, List.set_cons_zero, List.set_cons_succ] at h8
  have k9 := keptB_one (w := (((((((((w.setCell ⟨g, 0, none⟩ v0).setCell ⟨g, 1, none⟩ v1).setCell ⟨g, 2, none⟩ v2).setCell ⟨g, 3, none⟩ v3).setCell ⟨g, 4, none⟩ v4).setCell ⟨g, 5, none⟩ v5).setCell ⟨g, 6, none⟩ v6).setCell ⟨g, 7, none⟩ v7).setCell ⟨g, 8, none⟩ v8)) (g := g) 9 v9
  have h9 := h8.set 9 v9
  simp only [List.setIfInBounds_toArray, List.set_cons_zero, List.set_cons_succ] at h9
  have k10 := keptB_one (w := ((((((((((w.setCell ⟨g, 0, none⟩ v0).setCell ⟨g, 1, none⟩ v1).setCell ⟨g, 2, none⟩ v2).setCell ⟨g, 3, none⟩ v3).setCell ⟨g, 4, none⟩ v4).setCell ⟨g, 5, none⟩ v5).setCell ⟨g, 6, none⟩ v6).setCell ⟨g, 7, none⟩ v7).setCell ⟨g, 8, none⟩ v8).setCell ⟨g, 9, none⟩ v9)) (g := g) 10 v10
  have h10 := h9.set 10 v10
  simp only [List.setIfInBounds_toArray, List.set_cons_zero, List.set_cons_succ] at h10
  exact ⟨h10, ((((((((((k0.trans k1).trans k2).trans k3).trans k4).trans k5).trans k6).trans k7).trans k8).trans k9).trans k10)⟩

section
variable {K : Act → World → Prop} {Q : Exit → Act → World → Prop} {a : Act} {w : World} {dst : Option Tmp} {t : TypeId} {pos : String} {after : Array Edge} {b : Nat} {x y' : Operand} {A : Option Addr} {n c : Nat} {fl dr nw : Int} {tg : Bool} {y : Bx}
theorem opF_field0 (hx : a.eval x = .pointer (some ⟨b, 0, none⟩)) (h : K (a.put dst (.pointer (some ⟨b, 0, none⟩))) w) :
    ({ dst := dst, op := .fieldAddr 24 x 0, type := t, pos := pos, after := after, guard := none } : Oper).wp Try.prog a w K Q := by
  unfold Oper.wp execOp
  simp only [hx]
  go_simp
  exact h
theorem opF_loadS (hx : a.eval x = .pointer (some ⟨b, 0, none⟩)) (hw : Whole w b 24 #[.slice A n c, .int .i64 fl, .int .i64 dr, .int .i64 nw, .bool tg]) (h : K (a.put dst (.slice A n c)) w) :
    ({ dst := dst, op := .load 22 x, type := t, pos := pos, after := after, guard := none } : Oper).wp Try.prog a w K Q := by
  have c0 := hw.cell 0
  simp only [List.getElem?_toArray, List.getElem?_cons_zero] at c0
  unfold Oper.wp execOp
  simp only [hx]
  go_simp
  exact h
theorem opF_idxX {off m cl j : Nat} (hx : a.eval x = .slice (some ⟨b, off, none⟩) m cl) (hy : a.eval y' = .int .i64 (j : Int)) (hj : (j : Int) < (m : Int)) (h : K (a.put dst (.pointer (some ⟨b, off + j * 11, none⟩))) w) :
    ({ dst := dst, op := .indexAddr 22 x y', type := t, pos := pos, after := after, guard := none } : Oper).wp Try.prog a w K Q := by
  unfold Oper.wp execOp
  simp only [hx, hy]
  go_simp
  exact h
theorem opF_loadX {p : Nat} (hx : a.eval x = .pointer (some ⟨b, p, none⟩)) (hq : BxAt w b p y) (h : K (a.put dst (.agg #[.int .i64 y.id, .int .i64 y.tok, .int .i64 y.ver, .int .i64 y.zone, .bool y.tag, .bool y.on, .bool y.gone, .bool y.well, .int .u8 y.lb, .int .i64 y.unt, .int .i64 y.fen])) w) :
    ({ dst := dst, op := .load 40 x, type := t, pos := pos, after := after, guard := none } : Oper).wp Try.prog a w K Q := by
  obtain ⟨c0, c1, c2, c3, c4, c5, c6, c7, c8, c9, c10⟩ := hq
  unfold Oper.wp execOp
  simp only [hx]
  go_simp
  exact h
theorem opF_allocX (h : K (a.put dst (.pointer (some ⟨w.heap.size, 0, none⟩))) (w.alloc (.cells #[.int .i64 0, .int .i64 0, .int .i64 0, .int .i64 0, .bool false, .bool false, .bool false, .bool false, .int .u8 0, .int .i64 0, .int .i64 0] 40))) :
    ({ dst := dst, op := .alloc 40, type := t, pos := pos, after := after, guard := none } : Oper).wp Try.prog a w K Q := by
  unfold Oper.wp execOp
  go_simp
  exact h
theorem opF_storeX {u0 u1 u2 u3 u4 u5 u6 u7 u8 u9 u10 : Value} (hx : a.eval x = .pointer (some ⟨b, 0, none⟩)) (hy : a.eval y' = .agg #[.int .i64 y.id, .int .i64 y.tok, .int .i64 y.ver, .int .i64 y.zone, .bool y.tag, .bool y.on, .bool y.gone, .bool y.well, .int .u8 y.lb, .int .i64 y.unt, .int .i64 y.fen]) (hw : Whole w b 40 #[u0, u1, u2, u3, u4, u5, u6, u7, u8, u9, u10]) (h : K a (((((((((((w.setCell ⟨b, 0, none⟩ (.int .i64 y.id)).setCell ⟨b, 1, none⟩ (.int .i64 y.tok)).setCell ⟨b, 2, none⟩ (.int .i64 y.ver)).setCell ⟨b, 3, none⟩ (.int .i64 y.zone)).setCell ⟨b, 4, none⟩ (.bool y.tag)).setCell ⟨b, 5, none⟩ (.bool y.on)).setCell ⟨b, 6, none⟩ (.bool y.gone)).setCell ⟨b, 7, none⟩ (.bool y.well)).setCell ⟨b, 8, none⟩ (.int .u8 y.lb)).setCell ⟨b, 9, none⟩ (.int .i64 y.unt)).setCell ⟨b, 10, none⟩ (.int .i64 y.fen))) :
    ({ dst := none, op := .store 40 x y', type := t, pos := pos, after := after, guard := none } : Oper).wp Try.prog a w K Q := by
  have c0 := hw.cell 0
  have c1 := hw.cell 1
  have c2 := hw.cell 2
  have c3 := hw.cell 3
  have c4 := hw.cell 4
  have c5 := hw.cell 5
  have c6 := hw.cell 6
  have c7 := hw.cell 7
  have c8 := hw.cell 8
  have c9 := hw.cell 9
  have c10 := hw.cell 10
  have f0 := hw.frozen 0
  have f1 := hw.frozen 1
  have f2 := hw.frozen 2
  have f3 := hw.frozen 3
  have f4 := hw.frozen 4
  have f5 := hw.frozen 5
  have f6 := hw.frozen 6
  have f7 := hw.frozen 7
  have f8 := hw.frozen 8
  have f9 := hw.frozen 9
  have f10 := hw.frozen 10
  simp only [List.getElem?_toArray, List.getElem?_cons_zero, List.getElem?_cons_succ] at c0 c1 c2 c3 c4 c5 c6 c7 c8 c9 c10
  unfold Oper.wp execOp
  simp only [hx, hy]
  go_simp
  exact h
end

abbrev apDs : List Nat := [9, 10, 64, 65, 66, 67, 68, 69, 70, 71, 72, 73]

/-- What holds behind any operations of the region that have come up. -/
structure API (a0 : Act) (W0 : World) (b off n c b2 off2 N cN j g2 g5 : Nat) (u y : Bx) (L : Nat → Bool) (a : Act) (w : World) : Prop where
  agree : Agree apDs a0 a
  bel : Below W0.heap.size W0 w
  x0 : L 0 = true → a.eval (.tmp 64) = .pointer (some ⟨g2, 0, none⟩)
  x1 : L 1 = true → a.eval (.tmp 65) = .slice (some ⟨b, off, none⟩) n c
  x2 : L 2 = true → a.eval (.tmp 66) = .int .i64 (j : Int)
  x3 : L 3 = true → a.eval (.tmp 67) = .pointer (some ⟨b, off + j * 11, none⟩)
  x4 : L 4 = true → a.eval (.tmp 68) = .agg #[.int .i64 u.id, .int .i64 u.tok, .int .i64 u.ver, .int .i64 u.zone, .bool u.tag, .bool u.on, .bool u.gone, .bool u.well, .int .u8 u.lb, .int .i64 u.unt, .int .i64 u.fen]
  x5 : L 5 = true → a.eval (.tmp 69) = .pointer (some ⟨g5, 0, none⟩)
  x6 : L 6 = true → a.eval (.tmp 70) = .slice (some ⟨b2, off2, none⟩) N cN
  x7 : L 7 = true → a.eval (.tmp 71) = .int .i64 (j : Int)
  x8 : L 8 = true → a.eval (.tmp 72) = .pointer (some ⟨b2, off2 + j * 11, none⟩)
  x9 : L 9 = true → a.eval (.tmp 73) = .agg #[.int .i64 y.id, .int .i64 y.tok, .int .i64 y.ver, .int .i64 y.zone, .bool y.tag, .bool y.on, .bool y.gone, .bool y.well, .int .u8 y.lb, .int .i64 y.unt, .int .i64 y.fen]
  qA : L 10 = true → ∃ g, W0.heap.size ≤ g ∧ a.eval (.tmp 9) = .pointer (some ⟨g, 0, none⟩) ∧ Whole w g 40 (if L 12 = true then #[.int .i64 u.id, .int .i64 u.tok, .int .i64 u.ver, .int .i64 u.zone, .bool u.tag, .bool u.on, .bool u.gone, .bool u.well, .int .u8 u.lb, .int .i64 u.unt, .int .i64 u.fen] else #[.int .i64 0, .int .i64 0, .int .i64 0, .int .i64 0, .bool false, .bool false, .bool false, .bool false, .int .u8 0, .int .i64 0, .int .i64 0])
  qB : L 11 = true → ∃ g, W0.heap.size ≤ g ∧ a.eval (.tmp 10) = .pointer (some ⟨g, 0, none⟩) ∧ Whole w g 40 (if L 13 = true then #[.int .i64 y.id, .int .i64 y.tok, .int .i64 y.ver, .int .i64 y.zone, .bool y.tag, .bool y.on, .bool y.gone, .bool y.well, .int .u8 y.lb, .int .i64 y.unt, .int .i64 y.fen] else #[.int .i64 0, .int .i64 0, .int .i64 0, .int .i64 0, .bool false, .bool false, .bool false, .bool false, .int .u8 0, .int .i64 0, .int .i64 0])
  qq : L 10 = true → L 11 = true → ∀ g g', a.eval (.tmp 9) = .pointer (some ⟨g, 0, none⟩) → a.eval (.tmp 10) = .pointer (some ⟨g', 0, none⟩) → g ≠ g'

set_option maxHeartbeats 4000000 in
theorem ap_region {ops : Array Oper} {Q : Exit → Act → World → Prop} {id : Nat} (hsize : ops.size = 14) (hlow : lowOnly ops = true)
    {t0 : TypeId} {t1 : TypeId} {t2 : TypeId} {t3 : TypeId} {t4 : TypeId} {t5 : TypeId} {t6 : TypeId} {t7 : TypeId} {t8 : TypeId} {t9 : TypeId} {t10 : TypeId} {t11 : TypeId} {t12 : TypeId} {t13 : TypeId}
    (o0 : At ops 0 (some 64) (.fieldAddr 24 (.tmp 2) 0) t0 [])
    (o1 : At ops 1 (some 65) (.load 22 (.tmp 64)) t1 [0])
    (o2 : At ops 2 (some 66) (.move (.tmp 8)) t2 [])
    (o3 : At ops 3 (some 67) (.indexAddr 22 (.tmp 65) (.tmp 66)) t3 [1, 2])
    (o4 : At ops 4 (some 68) (.load 40 (.tmp 67)) t4 [3])
    (o5 : At ops 5 (some 69) (.fieldAddr 24 (.tmp 5) 0) t5 [])
    (o6 : At ops 6 (some 70) (.load 22 (.tmp 69)) t6 [5])
    (o7 : At ops 7 (some 71) (.move (.tmp 8)) t7 [])
    (o8 : At ops 8 (some 72) (.indexAddr 22 (.tmp 70) (.tmp 71)) t8 [6, 7])
    (o9 : At ops 9 (some 73) (.load 40 (.tmp 72)) t9 [8])
    (o10 : At ops 10 (some 9) (.alloc 40) t10 [])
    (o11 : At ops 11 (some 10) (.alloc 40) t11 [])
    (o12 : At ops 12 none (.store 40 (.tmp 9) (.tmp 68)) t12 [4, 10])
    (o13 : At ops 13 none (.store 40 (.tmp 10) (.tmp 73)) t13 [9, 11, 12])
    (a0 : Act) (W0 : World) (b off n c b2 off2 N cN j g2 g5 : Nat) (u y : Bx) (fl dr nw : Int) (tg : Bool) (hds : ∀ d ∈ apDs, d < a0.tmps.size)
    (h2 : a0.eval (.tmp 2) = .pointer (some ⟨g2, 0, none⟩)) (h5 : a0.eval (.tmp 5) = .pointer (some ⟨g5, 0, none⟩)) (h8 : a0.eval (.tmp 8) = .int .i64 (j : Int))
    (hC : Whole W0 g2 24 #[.slice (some ⟨b, off, none⟩) n c, .int .i64 fl, .int .i64 dr, .int .i64 nw, .bool tg]) (hD : Whole W0 g5 24 #[.slice (some ⟨b2, off2, none⟩) N cN, .int .i64 fl, .int .i64 dr, .int .i64 nw, .bool tg])
    (hu : BxAt W0 b (off + j * 11) u) (hy : BxAt W0 b2 (off2 + j * 11) y) (hbl : b < W0.heap.size) (hbl2 : b2 < W0.heap.size) (hj : (j : Int) < (n : Int)) (hjN : (j : Int) < (N : Int))
    (fin : ∀ (σ : Nat → Value) W g g', σ 9 = .pointer (some ⟨g, 0, none⟩) → σ 10 = .pointer (some ⟨g', 0, none⟩) → Whole W g 40 #[.int .i64 u.id, .int .i64 u.tok, .int .i64 u.ver, .int .i64 u.zone, .bool u.tag, .bool u.on, .bool u.gone, .bool u.well, .int .u8 u.lb, .int .i64 u.unt, .int .i64 u.fen] → Whole W g' 40 #[.int .i64 y.id, .int .i64 y.tok, .int .i64 y.ver, .int .i64 y.zone, .bool y.tag, .bool y.on, .bool y.gone, .bool y.well, .int .u8 y.lb, .int .i64 y.unt, .int .i64 y.fen] → Below W0.heap.size W0 W → Q .normal (lay σ apDs a0) W) :
    (Code.region id ops true).wp Try.prog Q a0 W0 := by
  refine region_clo (by kernel_rfl) hlow (fun L a w => API a0 W0 b off n c b2 off2 N cN j g2 g5 u y L a w) ?_ ?_ ?_
  · exact ⟨Agree.refl _ _, (Below.refl _ _).drew, by simp, by simp, by simp, by simp, by simp, by simp, by simp, by simp, by simp, by simp, by simp, by simp, by simp⟩
  · rintro i o L a w ho hi hclo hall J
    have hlt : i < 14 := by rw [← hsize]; exact (Array.getElem?_eq_some_iff.1 ho).1
    have hz : ∀ d ∈ apDs, d < a.tmps.size := fun d hd => by rw [J.agree.size]; exact hds d hd
    rcases (by omega : i = 0 ∨ i = 1 ∨ i = 2 ∨ i = 3 ∨ i = 4 ∨ i = 5 ∨ i = 6 ∨ i = 7 ∨ i = 8 ∨ i = 9 ∨ i = 10 ∨ i = 11 ∨ i = 12 ∨ i = 13) with rfl | rfl | rfl | rfl | rfl | rfl | rfl | rfl | rfl | rfl | rfl | rfl | rfl | rfl
    · have hd := o0.needs ho hall
      refine o0.run fun _ _ => opF_field0 ((J.agree.eval (by decide)).trans h2) ⟨J.agree.put (by decide) _, ?_, ?_, ?_, ?_, ?_, ?_, ?_, ?_, ?_, ?_, ?_, ?_, ?_, ?_⟩
      · simpa [eval_old] using J.bel
      · intro _; exact eval_new (hz _ (by decide)) _
      · simpa [eval_old] using J.x1
      · simpa [eval_old] using J.x2
      · simpa [eval_old] using J.x3
      · simpa [eval_old] using J.x4
      · simpa [eval_old] using J.x5
      · simpa [eval_old] using J.x6
      · simpa [eval_old] using J.x7
      · simpa [eval_old] using J.x8
      · simpa [eval_old] using J.x9
      · simpa [eval_old] using J.qA
      · simpa [eval_old] using J.qB
      · simpa [eval_old] using J.qq
    · have hd := o1.needs ho hall
      refine o1.run fun _ _ => opF_loadS (J.x0 (hd 0 (by simp))) (hC.under J.bel) ⟨J.agree.put (by decide) _, ?_, ?_, ?_, ?_, ?_, ?_, ?_, ?_, ?_, ?_, ?_, ?_, ?_, ?_⟩
      · simpa [eval_old] using J.bel
      · simpa [eval_old] using J.x0
      · intro _; exact eval_new (hz _ (by decide)) _
      · simpa [eval_old] using J.x2
      · simpa [eval_old] using J.x3
      · simpa [eval_old] using J.x4
      · simpa [eval_old] using J.x5
      · simpa [eval_old] using J.x6
      · simpa [eval_old] using J.x7
      · simpa [eval_old] using J.x8
      · simpa [eval_old] using J.x9
      · simpa [eval_old] using J.qA
      · simpa [eval_old] using J.qB
      · simpa [eval_old] using J.qq
    · have hd := o2.needs ho hall
      refine o2.run fun _ _ => opF_move ((J.agree.eval (by decide)).trans h8) ⟨J.agree.put (by decide) _, ?_, ?_, ?_, ?_, ?_, ?_, ?_, ?_, ?_, ?_, ?_, ?_, ?_, ?_⟩
      · simpa [eval_old] using J.bel
      · simpa [eval_old] using J.x0
      · simpa [eval_old] using J.x1
      · intro _; exact eval_new (hz _ (by decide)) _
      · simpa [eval_old] using J.x3
      · simpa [eval_old] using J.x4
      · simpa [eval_old] using J.x5
      · simpa [eval_old] using J.x6
      · simpa [eval_old] using J.x7
      · simpa [eval_old] using J.x8
      · simpa [eval_old] using J.x9
      · simpa [eval_old] using J.qA
      · simpa [eval_old] using J.qB
      · simpa [eval_old] using J.qq
    · have hd := o3.needs ho hall
      refine o3.run fun _ _ => opF_idxX (J.x1 (hd 1 (by simp))) (J.x2 (hd 2 (by simp))) hj ⟨J.agree.put (by decide) _, ?_, ?_, ?_, ?_, ?_, ?_, ?_, ?_, ?_, ?_, ?_, ?_, ?_, ?_⟩
      · simpa [eval_old] using J.bel
      · simpa [eval_old] using J.x0
      · simpa [eval_old] using J.x1
      · simpa [eval_old] using J.x2
      · intro _; exact eval_new (hz _ (by decide)) _
      · simpa [eval_old] using J.x4
      · simpa [eval_old] using J.x5
      · simpa [eval_old] using J.x6
      · simpa [eval_old] using J.x7
      · simpa [eval_old] using J.x8
      · simpa [eval_old] using J.x9
      · simpa [eval_old] using J.qA
      · simpa [eval_old] using J.qB
      · simpa [eval_old] using J.qq
    · have hd := o4.needs ho hall
      refine o4.run fun _ _ => opF_loadX (J.x3 (hd 3 (by simp))) (bxAt_of fun i hi => (J.bel.cell (p := ⟨b, off + j * 11 + i, none⟩) hbl).trans (hu.all i hi)) ⟨J.agree.put (by decide) _, ?_, ?_, ?_, ?_, ?_, ?_, ?_, ?_, ?_, ?_, ?_, ?_, ?_, ?_⟩
      · simpa [eval_old] using J.bel
      · simpa [eval_old] using J.x0
      · simpa [eval_old] using J.x1
      · simpa [eval_old] using J.x2
      · simpa [eval_old] using J.x3
      · intro _; exact eval_new (hz _ (by decide)) _
      · simpa [eval_old] using J.x5
      · simpa [eval_old] using J.x6
      · simpa [eval_old] using J.x7
      · simpa [eval_old] using J.x8
      · simpa [eval_old] using J.x9
      · simpa [eval_old] using J.qA
      · simpa [eval_old] using J.qB
      · simpa [eval_old] using J.qq
    · have hd := o5.needs ho hall
      refine o5.run fun _ _ => opF_field0 ((J.agree.eval (by decide)).trans h5) ⟨J.agree.put (by decide) _, ?_, ?_, ?_, ?_, ?_, ?_, ?_, ?_, ?_, ?_, ?_, ?_, ?_, ?_⟩
      · simpa [eval_old] using J.bel
      · simpa [eval_old] using J.x0
      · simpa [eval_old] using J.x1
      · simpa [eval_old] using J.x2
      · simpa [eval_old] using J.x3
      · simpa [eval_old] using J.x4
      · intro _; exact eval_new (hz _ (by decide)) _
      · simpa [eval_old] using J.x6
      · simpa [eval_old] using J.x7
      · simpa [eval_old] using J.x8
      · simpa [eval_old] using J.x9
      · simpa [eval_old] using J.qA
      · simpa [eval_old] using J.qB
      · simpa [eval_old] using J.qq
    · have hd := o6.needs ho hall
      refine o6.run fun _ _ => opF_loadS (J.x5 (hd 5 (by simp))) (hD.under J.bel) ⟨J.agree.put (by decide) _, ?_, ?_, ?_, ?_, ?_, ?_, ?_, ?_, ?_, ?_, ?_, ?_, ?_, ?_⟩
      · simpa [eval_old] using J.bel
      · simpa [eval_old] using J.x0
      · simpa [eval_old] using J.x1
      · simpa [eval_old] using J.x2
      · simpa [eval_old] using J.x3
      · simpa [eval_old] using J.x4
      · simpa [eval_old] using J.x5
      · intro _; exact eval_new (hz _ (by decide)) _
      · simpa [eval_old] using J.x7
      · simpa [eval_old] using J.x8
      · simpa [eval_old] using J.x9
      · simpa [eval_old] using J.qA
      · simpa [eval_old] using J.qB
      · simpa [eval_old] using J.qq
    · have hd := o7.needs ho hall
      refine o7.run fun _ _ => opF_move ((J.agree.eval (by decide)).trans h8) ⟨J.agree.put (by decide) _, ?_, ?_, ?_, ?_, ?_, ?_, ?_, ?_, ?_, ?_, ?_, ?_, ?_, ?_⟩
      · simpa [eval_old] using J.bel
      · simpa [eval_old] using J.x0
      · simpa [eval_old] using J.x1
      · simpa [eval_old] using J.x2
      · simpa [eval_old] using J.x3
      · simpa [eval_old] using J.x4
      · simpa [eval_old] using J.x5
      · simpa [eval_old] using J.x6
      · intro _; exact eval_new (hz _ (by decide)) _
      · simpa [eval_old] using J.x8
      · simpa [eval_old] using J.x9
      · simpa [eval_old] using J.qA
      · simpa [eval_old] using J.qB
      · simpa [eval_old] using J.qq
    · have hd := o8.needs ho hall
      refine o8.run fun _ _ => opF_idxX (J.x6 (hd 6 (by simp))) (J.x7 (hd 7 (by simp))) hjN ⟨J.agree.put (by decide) _, ?_, ?_, ?_, ?_, ?_, ?_, ?_, ?_, ?_, ?_, ?_, ?_, ?_, ?_⟩
      · simpa [eval_old] using J.bel
      · simpa [eval_old] using J.x0
      · simpa [eval_old] using J.x1
      · simpa [eval_old] using J.x2
      · simpa [eval_old] using J.x3
      · simpa [eval_old] using J.x4
      · simpa [eval_old] using J.x5
      · simpa [eval_old] using J.x6
      · simpa [eval_old] using J.x7
      · intro _; exact eval_new (hz _ (by decide)) _
      · simpa [eval_old] using J.x9
      · simpa [eval_old] using J.qA
      · simpa [eval_old] using J.qB
      · simpa [eval_old] using J.qq
    · have hd := o9.needs ho hall
      refine o9.run fun _ _ => opF_loadX (J.x8 (hd 8 (by simp))) (bxAt_of fun i hi => (J.bel.cell (p := ⟨b2, off2 + j * 11 + i, none⟩) hbl2).trans (hy.all i hi)) ⟨J.agree.put (by decide) _, ?_, ?_, ?_, ?_, ?_, ?_, ?_, ?_, ?_, ?_, ?_, ?_, ?_, ?_⟩
      · simpa [eval_old] using J.bel
      · simpa [eval_old] using J.x0
      · simpa [eval_old] using J.x1
      · simpa [eval_old] using J.x2
      · simpa [eval_old] using J.x3
      · simpa [eval_old] using J.x4
      · simpa [eval_old] using J.x5
      · simpa [eval_old] using J.x6
      · simpa [eval_old] using J.x7
      · simpa [eval_old] using J.x8
      · intro _; exact eval_new (hz _ (by decide)) _
      · simpa [eval_old] using J.qA
      · simpa [eval_old] using J.qB
      · simpa [eval_old] using J.qq
    · have n12 := o12.not hclo (j := 10) (by simp) hi
      have bA := (Below.refl w.heap.size w).alloc (Nat.le_refl _) (.cells #[.int .i64 0, .int .i64 0, .int .i64 0, .int .i64 0, .bool false, .bool false, .bool false, .bool false, .int .u8 0, .int .i64 0, .int .i64 0] 40)
      refine o10.run fun _ _ => opF_allocX ⟨J.agree.put (by decide) _, ?_, ?_, ?_, ?_, ?_, ?_, ?_, ?_, ?_, ?_, ?_, ?_, ?_, ?_⟩
      · exact J.bel.trans (bA.mono J.bel.size)
      · simpa [eval_old] using J.x0
      · simpa [eval_old] using J.x1
      · simpa [eval_old] using J.x2
      · simpa [eval_old] using J.x3
      · simpa [eval_old] using J.x4
      · simpa [eval_old] using J.x5
      · simpa [eval_old] using J.x6
      · simpa [eval_old] using J.x7
      · simpa [eval_old] using J.x8
      · simpa [eval_old] using J.x9
      · intro _
        refine ⟨w.heap.size, J.bel.size, eval_new (hz _ (by decide)) _, ?_⟩
        simpa [n12] using Whole.new w _ _
      · intro h
        obtain ⟨g, k1, k2, k3⟩ := J.qB (by simpa using h)
        exact ⟨g, k1, by simpa [eval_old] using k2, by simpa using k3.alloc _⟩
      · intro hA hB g g' e9 e10
        obtain ⟨gg, k1, k2, k3⟩ := J.qB (by simpa using hB)
        have hl := k3.ltS
        rw [eval_new (hz _ (by decide))] at e9
        have e10' : a.eval (.tmp 10) = .pointer (some ⟨g', 0, none⟩) := by simpa [eval_old] using e10
        rw [k2] at e10'
        simp only [Value.pointer.injEq, Option.some.injEq, Addr.mk.injEq, and_true] at e9 e10'
        omega
    · have n13 := o13.not hclo (j := 11) (by simp) hi
      have bA := (Below.refl w.heap.size w).alloc (Nat.le_refl _) (.cells #[.int .i64 0, .int .i64 0, .int .i64 0, .int .i64 0, .bool false, .bool false, .bool false, .bool false, .int .u8 0, .int .i64 0, .int .i64 0] 40)
      refine o11.run fun _ _ => opF_allocX ⟨J.agree.put (by decide) _, ?_, ?_, ?_, ?_, ?_, ?_, ?_, ?_, ?_, ?_, ?_, ?_, ?_, ?_⟩
      · exact J.bel.trans (bA.mono J.bel.size)
      · simpa [eval_old] using J.x0
      · simpa [eval_old] using J.x1
      · simpa [eval_old] using J.x2
      · simpa [eval_old] using J.x3
      · simpa [eval_old] using J.x4
      · simpa [eval_old] using J.x5
      · simpa [eval_old] using J.x6
      · simpa [eval_old] using J.x7
      · simpa [eval_old] using J.x8
      · simpa [eval_old] using J.x9
      · intro h
        obtain ⟨g, k1, k2, k3⟩ := J.qA (by simpa using h)
        exact ⟨g, k1, by simpa [eval_old] using k2, by simpa using k3.alloc _⟩
      · intro _
        refine ⟨w.heap.size, J.bel.size, eval_new (hz _ (by decide)) _, ?_⟩
        simpa [n13] using Whole.new w _ _
      · intro hA hB g g' e9 e10
        obtain ⟨gg, k1, k2, k3⟩ := J.qA (by simpa using hA)
        have hl := k3.ltS
        rw [eval_new (hz _ (by decide))] at e10
        have e9' : a.eval (.tmp 9) = .pointer (some ⟨g, 0, none⟩) := by simpa [eval_old] using e9
        rw [k2] at e9'
        simp only [Value.pointer.injEq, Option.some.injEq, Addr.mk.injEq, and_true] at e10 e9'
        omega
    · have hd := o12.needs ho hall
      obtain ⟨g, k1, k2, k3⟩ := J.qA (hd 10 (by simp))
      rw [hi] at k3
      simp only [Bool.false_eq_true, if_false] at k3
      have kp := kept11 k3 (.int .i64 u.id) (.int .i64 u.tok) (.int .i64 u.ver) (.int .i64 u.zone) (.bool u.tag) (.bool u.on) (.bool u.gone) (.bool u.well) (.int .u8 u.lb) (.int .i64 u.unt) (.int .i64 u.fen)
      refine o12.run fun _ _ => opF_storeX k2 (J.x4 (hd 4 (by simp))) k3 ⟨J.agree, ?_, ?_, ?_, ?_, ?_, ?_, ?_, ?_, ?_, ?_, ?_, ?_, ?_, ?_⟩
      · exact kp.2.bel _ _ k1 J.bel
      · simpa using J.x0
      · simpa using J.x1
      · simpa using J.x2
      · simpa using J.x3
      · simpa using J.x4
      · simpa using J.x5
      · simpa using J.x6
      · simpa using J.x7
      · simpa using J.x8
      · simpa using J.x9
      · intro _
        exact ⟨g, k1, k2, by simpa using kp.1⟩
      · intro h
        obtain ⟨g', m1, m2, m3⟩ := J.qB (by simpa using h)
        have hne := J.qq (hd 10 (by simp)) (by simpa using h) g g' k2 m2
        exact ⟨g', m1, m2, by simpa using kp.2.far _ _ _ (by omega) m3⟩
      · simpa using J.qq
    · have hd := o13.needs ho hall
      obtain ⟨g, k1, k2, k3⟩ := J.qB (hd 11 (by simp))
      rw [hi] at k3
      simp only [Bool.false_eq_true, if_false] at k3
      have kp := kept11 k3 (.int .i64 y.id) (.int .i64 y.tok) (.int .i64 y.ver) (.int .i64 y.zone) (.bool y.tag) (.bool y.on) (.bool y.gone) (.bool y.well) (.int .u8 y.lb) (.int .i64 y.unt) (.int .i64 y.fen)
      refine o13.run fun _ _ => opF_storeX k2 (J.x9 (hd 9 (by simp))) k3 ⟨J.agree, ?_, ?_, ?_, ?_, ?_, ?_, ?_, ?_, ?_, ?_, ?_, ?_, ?_, ?_⟩
      · exact kp.2.bel _ _ k1 J.bel
      · simpa using J.x0
      · simpa using J.x1
      · simpa using J.x2
      · simpa using J.x3
      · simpa using J.x4
      · simpa using J.x5
      · simpa using J.x6
      · simpa using J.x7
      · simpa using J.x8
      · simpa using J.x9
      · intro h
        obtain ⟨g', m1, m2, m3⟩ := J.qA (by simpa using h)
        have hne := J.qq (by simpa using h) (hd 11 (by simp)) g' g m2 k2
        exact ⟨g', m1, m2, by simpa using kp.2.far _ _ _ (by omega) m3⟩
      · intro _
        exact ⟨g, k1, k2, by simpa using kp.1⟩
      · simpa using J.qq
  · intro L a w hall J
    obtain ⟨g, _, g3, g4⟩ := J.qA (hall 10 (by omega))
    obtain ⟨g', _, k2, k3⟩ := J.qB (hall 11 (by omega))
    rw [hall 12 (by omega), if_pos rfl] at g4
    rw [hall 13 (by omega), if_pos rfl] at k3
    rw [J.agree.lay hds]
    exact fin (fun d => a.eval (.tmp d)) w g g' g3 k2 g4 k3 J.bel

end Go.Proofs.Ytphkleecodoplaa
