/-
  Stores into one block that is known whole: what stays. Conditions: those that each theorem names.
-/
import Derived.Test.YtgjipbhhdiacmaaDoorRdF
namespace Go.Proofs.YtgjipbhhdiacmaaDoor
open Go.RowKit Go.Shelf

/-- Nothing but block g has turned. -/
structure Only (g : Nat) (w w' : World) : Prop where
  grown : w.grownBy w' (some g)
  size : w'.heap.size = w.heap.size
  keeps : KeepsOthers w w'
section
variable {g : Nat} {w w' w'' : World} {t : TypeId}
set_option maxRecDepth 100000 in
theorem Only.set (w : World) (g i : Nat) (v : Value) : Only g w (w.setCell ⟨g, i, none⟩ v) := by
  have h := Below.refl 0 w
  refine ⟨⟨rfl, rfl, rfl, by simp, fun j _ hj => Below.heap_setCell w ⟨g, i, none⟩ v j (fun e => hj (by simp only at e; rw [e]))⟩, by simp, KeepsOthers.setCell _ _ _⟩
set_option maxRecDepth 100000 in
theorem Only.trans (h : Only g w w') (k : Only g w' w'') : Only g w w'' :=
  ⟨⟨k.grown.os.trans h.grown.os, k.grown.tape.trans h.grown.tape, k.grown.output.trans h.grown.output, by rw [k.size, h.size]; exact Nat.le_refl _, fun i hi hg => (k.grown.block i (by rw [h.size]; exact hi) hg).trans (h.grown.block i hi hg)⟩, by rw [k.size, h.size], h.keeps.trans k.keeps⟩
set_option maxRecDepth 100000 in
theorem Only.far (h : Only g w w') {b : Nat} {cs : Array Value} (hw : Whole w b t cs) (hne : b ≠ g) : Whole w' b t cs := hw.grown h.grown (by simpa using hne)
set_option maxRecDepth 100000 in
theorem Only.own {base size n : Nat} {e : TypeId} {v : Value} {xs : List Value} {cs : Array Value} (h : Only g w w') (ho : w.ownsRow base e size v n xs) (hw : Whole w g t cs) (hne : e ≠ t) : w'.ownsRow base e size v n xs :=
  ho.kept h.grown (by
    rcases ho.2 with ⟨rfl, _⟩ | ⟨g', cap, cur, rfl, _, hg, _⟩
    · exact .inl rfl
    · right
      simp only [Value.ownBlock, ne_eq, Option.some.injEq]
      intro e0
      have := own_apart_F hne ho hw
      simp [Value.ownBlock] at this
      omega)
set_option maxRecDepth 100000 in
theorem Only.ownB {base size n : Nat} {e : TypeId} {v : Value} {xs : List Value} (h : Only g w w') (ho : w.ownsRow base e size v n xs) (hg : g < base) : w'.ownsRow base e size v n xs :=
  ho.kept h.grown (by
    rcases ho.2 with ⟨rfl, _⟩ | ⟨g', cap, cur, rfl, hb, _⟩
    · exact .inl rfl
    · right
      simp only [Value.ownBlock, ne_eq, Option.some.injEq]
      omega)
set_option maxRecDepth 100000 in
theorem Only.bel {B : Nat} {w0 : World} (h : Only g w w') (hb : Below B w0 w) (hg : B ≤ g) : Below B w0 w' :=
  ⟨h.grown.os.trans hb.os, h.grown.tape.trans hb.tape, h.grown.output.trans hb.output, by rw [h.size]; exact hb.size, fun k hk => by
    rcases Nat.lt_or_ge k w.heap.size with hlt | hge
    · exact (h.grown.block k hlt (by simp; omega)).trans (hb.block k hk)
    · rw [← hb.block k hk, Array.getElem?_eq_none hge, Array.getElem?_eq_none (by rw [h.size]; exact hge)]⟩
set_option maxRecDepth 100000 in
theorem put2 {x0 x1 : Value} (hA : Whole w g t #[x0, x1]) (v0 v1 : Value) : Whole ((w.setCell ⟨g, 0, none⟩ v0).setCell ⟨g, 1, none⟩ v1) g t #[v0, v1] ∧ Only g w ((w.setCell ⟨g, 0, none⟩ v0).setCell ⟨g, 1, none⟩ v1) := by
  have h0 := hA.set 0 v0
  simp only [List.setIfInBounds_toArray, List.set_cons_zero] at h0
  have h1 := h0.set 1 v1
  simp only [List.setIfInBounds_toArray, List.set_cons_zero, List.set_cons_succ] at h1
  exact ⟨h1, (Only.set _ _ _ _).trans (Only.set _ _ _ _)⟩
set_option maxRecDepth 100000 in
theorem put6 {x0 x1 x2 x3 x4 x5 : Value} (hA : Whole w g t #[x0, x1, x2, x3, x4, x5]) (v0 v1 v2 v3 v4 v5 : Value) : Whole ((((((w.setCell ⟨g, 0, none⟩ v0).setCell ⟨g, 1, none⟩ v1).setCell ⟨g, 2, none⟩ v2).setCell ⟨g, 3, none⟩ v3).setCell ⟨g, 4, none⟩ v4).setCell ⟨g, 5, none⟩ v5) g t #[v0, v1, v2, v3, v4, v5] ∧ Only g w ((((((w.setCell ⟨g, 0, none⟩ v0).setCell ⟨g, 1, none⟩ v1).setCell ⟨g, 2, none⟩ v2).setCell ⟨g, 3, none⟩ v3).setCell ⟨g, 4, none⟩ v4).setCell ⟨g, 5, none⟩ v5) := by
  have h0 := hA.set 0 v0
  simp only [List.setIfInBounds_toArray, List.set_cons_zero] at h0
  have h1 := h0.set 1 v1
  simp only [List.setIfInBounds_toArray, List.set_cons_zero, List.set_cons_succ] at h1
  have h2 := h1.set 2 v2
  simp only [List.setIfInBounds_toArray, List.set_cons_zero, List.set_cons_succ] at h2
  have h3 := h2.set 3 v3
  simp only [List.setIfInBounds_toArray, List.set_cons_zero, List.set_cons_succ] at h3
  have h4 := h3.set 4 v4
  simp only [List.setIfInBounds_toArray, List.set_cons_zero, List.set_cons_succ] at h4
  have h5 := h4.set 5 v5
  simp only [List.setIfInBounds_toArray, List.set_cons_zero, List.set_cons_succ] at h5
  exact ⟨h5, (((((Only.set _ _ _ _).trans (Only.set _ _ _ _)).trans (Only.set _ _ _ _)).trans (Only.set _ _ _ _)).trans (Only.set _ _ _ _)).trans (Only.set _ _ _ _)⟩
set_option maxRecDepth 100000 in
theorem cells2 {v0 v1 : Value} (h : Whole w g t #[v0, v1]) : w.cell? ⟨g, 0, none⟩ = some v0 ∧ w.cell? ⟨g, 1, none⟩ = some v1 := ⟨h.cell 0, h.cell 1⟩
set_option maxRecDepth 100000 in
theorem cellsW6 {v0 v1 v2 v3 v4 v5 : Value} (h : Whole w g t #[v0, v1, v2, v3, v4, v5]) : w.cell? ⟨g, 0, none⟩ = some v0 ∧ w.cell? ⟨g, 1, none⟩ = some v1 ∧ w.cell? ⟨g, 2, none⟩ = some v2 ∧ w.cell? ⟨g, 3, none⟩ = some v3 ∧ w.cell? ⟨g, 4, none⟩ = some v4 ∧ w.cell? ⟨g, 5, none⟩ = some v5 := ⟨h.cell 0, h.cell 1, h.cell 2, h.cell 3, h.cell 4, h.cell 5⟩
end
set_option maxRecDepth 100000 in
/-- A store of what is there. -/
theorem Whole.same_set {w : World} {b : Nat} {t : TypeId} {cs : Array Value} (h : Whole w b t cs) (i : Nat) (v : Value) (hv : cs[i]? = some v) : w.setCell ⟨b, i, none⟩ v = w := by
  unfold Whole at h
  have e : (w.setCell ⟨b, i, none⟩ v).heap = w.heap := by
    refine Array.ext_getElem? fun j => ?_
    by_cases hj : j = b
    · subst hj
      have h1 : (w.setCell ⟨j, i, none⟩ v).heap[j]? = some (.cells (cs.setIfInBounds i v) t (0, 0)) := by simp [World.setCell, Array.getElem?_modify, h]
      rw [h1, h]
      congr 2
      refine Array.ext_getElem? fun k => ?_
      by_cases hk : i = k
      · subst hk
        have hlt : i < cs.size := (Array.getElem?_eq_some_iff.1 hv).1
        rw [Array.getElem?_setIfInBounds_self_of_lt hlt, hv]
      · rw [Array.getElem?_setIfInBounds_ne hk]
    · exact Below.heap_setCell w ⟨b, i, none⟩ v j hj
  cases w
  simp only [World.setCell] at e ⊢
  rw [e]
set_option maxRecDepth 100000 in
theorem same6 {w : World} {g : Nat} {t : TypeId} {x0 x1 x2 x3 x4 x5 : Value} (h : Whole w g t #[x0, x1, x2, x3, x4, x5]) : (((((w.setCell ⟨g, 0, none⟩ x0).setCell ⟨g, 1, none⟩ x1).setCell ⟨g, 2, none⟩ x2).setCell ⟨g, 3, none⟩ x3).setCell ⟨g, 4, none⟩ x4).setCell ⟨g, 5, none⟩ x5 = w := by
  rw [h.same_set 0 x0 rfl, h.same_set 1 x1 rfl, h.same_set 2 x2 rfl, h.same_set 3 x3 rfl, h.same_set 4 x4 rfl, h.same_set 5 x5 rfl]
set_option maxRecDepth 100000 in
theorem same2 {w : World} {g : Nat} {t : TypeId} {x0 x1 : Value} (h : Whole w g t #[x0, x1]) : (w.setCell ⟨g, 0, none⟩ x0).setCell ⟨g, 1, none⟩ x1 = w := by
  rw [h.same_set 0 x0 rfl, h.same_set 1 x1 rfl]
set_option maxRecDepth 100000 in
theorem same1 {w : World} {g : Nat} {t : TypeId} {x0 : Value} (h : Whole w g t #[x0]) : w.setCell ⟨g, 0, none⟩ x0 = w := h.same_set 0 x0 rfl
set_option maxRecDepth 100000 in
/-- Two allocs behind each other: both blocks, whole. -/
theorem two_new (w : World) (t u : TypeId) (xs ys : Array Value) : Below w.heap.size w ((w.alloc (.cells xs t)).alloc (.cells ys u)) ∧ Whole ((w.alloc (.cells xs t)).alloc (.cells ys u)) w.heap.size t xs ∧ Whole ((w.alloc (.cells xs t)).alloc (.cells ys u)) (w.heap.size + 1) u ys := by
  refine ⟨((Below.refl _ w).alloc (Nat.le_refl _) _).alloc (by simp) _, (Whole.new w _ _).alloc _, ?_⟩
  have := Whole.new (w.alloc (.cells xs t)) u ys
  rwa [World.size_alloc] at this
set_option maxRecDepth 100000 in
theorem three_new (w : World) (t u v : TypeId) (xs ys zs : Array Value) : Below w.heap.size w (((w.alloc (.cells xs t)).alloc (.cells ys u)).alloc (.cells zs v)) ∧ Whole (((w.alloc (.cells xs t)).alloc (.cells ys u)).alloc (.cells zs v)) w.heap.size t xs ∧ Whole (((w.alloc (.cells xs t)).alloc (.cells ys u)).alloc (.cells zs v)) (w.heap.size + 1) u ys ∧ Whole (((w.alloc (.cells xs t)).alloc (.cells ys u)).alloc (.cells zs v)) (w.heap.size + 1 + 1) v zs := by
  obtain ⟨h1, h2, h3⟩ := two_new w t u xs ys
  refine ⟨h1.alloc (by simp; omega) _, h2.alloc _, h3.alloc _, ?_⟩
  have := Whole.new ((w.alloc (.cells xs t)).alloc (.cells ys u)) v zs
  simpa using this

end Go.Proofs.YtgjipbhhdiacmaaDoor
