/-
  Rows of integers of the call's own: a number laid anew. Conditions: those that each theorem names.
-/
import Derived.Test.YtdjieigmncoooaaDoorCfLawTwo
namespace Go.Proofs.YtdjieigmncoooaaDoor
open Go.RowKit Go.Shelf

set_option maxRecDepth 100000 in
/-- A row of the call's own that is not empty: where it lies. -/
theorem own_fullI {w : World} {base n c : Nat} {A : Option Addr} {xs : List Value} (hp : 0 < n) (h : w.ownsRow base 3 1 (.slice A n c) n xs) : ∃ G, A = some ⟨G, 0, none⟩ ∧ base ≤ G ∧ n ≤ c := by
  rcases h.2 with ⟨_, h0⟩ | ⟨g, cap, cur, e, hb, hg, h1, h2, h3, h4⟩
  · omega
  · injection e with e1 e2 e3
    subst e1; subst e3
    exact ⟨g, rfl, hb, h1⟩
set_option maxRecDepth 100000 in
theorem own_setC {w : World} {base G n c j : Nat} {zs : List Int} (h : w.ownsRow base 3 1 (.slice (some ⟨G, 0, none⟩) n c) n (iv zs)) (z : Int) :
    (w.setCell ⟨G, j, none⟩ (.int .i64 z)).ownsRow base 3 1 (.slice (some ⟨G, 0, none⟩) n c) n (iv (zs.set j z)) := by
  obtain ⟨h1, h2⟩ := h
  refine ⟨by rw [iv_length, List.length_set, ← iv_length]; exact h1, ?_⟩
  rcases h2 with ⟨h2, _⟩ | ⟨g, cap, cur, e, hb, hg, h3, h4, h5, h6⟩
  · cases h2
  · injection e with e1 e2 e3
    injection e1 with e1
    injection e1 with e1
    subst e1; subst e3
    refine .inr ⟨G, c, cur.setIfInBounds j (.int .i64 z), rfl, hb, Whole.set (w := w) (cs := cur) hg j (.int .i64 z), h3, h4, by rw [Array.size_setIfInBounds]; exact h5, ?_⟩
    rw [Nat.mul_one] at h6 ⊢
    rw [Array.toList_setIfInBounds, List.take_set, h6]
    simp [iv, List.map_set]
set_option maxRecDepth 100000 in
theorem own_cellC {w : World} {base G n c j : Nat} {xs : List Value} (h : w.ownsRow base 3 1 (.slice (some ⟨G, 0, none⟩) n c) n xs) (hj : j < n) :
    (∃ u, w.cell? ⟨G, j, none⟩ = some u) ∧ w.frozen? ⟨G, j, none⟩ = false := by
  rcases h.2 with ⟨h2, _⟩ | ⟨g, cap, cur, e, hb, hg, h3, h4, h5, h6⟩
  · cases h2
  · injection e with e1 e2 e3
    injection e1 with e1
    injection e1 with e1
    subst e1; subst e3
    refine ⟨⟨cur[j]'(by omega), ?_⟩, by simp [World.frozen?, hg]⟩
    rw [cell_of_row w G j cur 3 (0, 0) hg, Array.getElem?_eq_getElem (by omega)]
set_option maxRecDepth 100000 in
theorem mod_atC (a : Int) (n : Nat) (h : 0 < n) : ∃ j : Nat, (a.tmod n + n).tmod n = (j : Int) ∧ j < n := by
  have h1 := Int.tmod_lt_of_pos a (show (0 : Int) < n by omega)
  have h2 := Int.lt_tmod_of_pos a (show (0 : Int) < n by omega)
  have h3 := Int.tmod_nonneg (n : Int) (show 0 ≤ a.tmod n + n by omega)
  have h4 := Int.tmod_lt_of_pos (a.tmod n + n) (show (0 : Int) < n by omega)
  exact ⟨((a.tmod n + n).tmod n).toNat, by omega, by omega⟩
set_option maxRecDepth 100000 in
theorem mod_wrapC (a : Int) (n : Nat) (h : 0 < n) (hn : n ≤ 100) : IntKind.i64.wrap (a.tmod n + n) = a.tmod n + n := by
  have h1 := Int.tmod_lt_of_pos a (show (0 : Int) < n by omega)
  have h2 := Int.lt_tmod_of_pos a (show (0 : Int) < n by omega)
  exact IntWalk.i64_in _ ⟨by omega, by omega⟩
set_option maxRecDepth 100000 in
/-- What is read at a place of an own row. -/
theorem own_at {w : World} {base G n c k : Nat} {zs : List Int} {v : Int} (h : w.ownsRow base 3 1 (.slice (some ⟨G, 0, none⟩) n c) n (iv zs)) (hk : k < n) (hv : zs.getD k 0 = v) : w.cell? ⟨G, k, none⟩ = some (.int .i64 v) := by
  obtain ⟨b, off, e, _, hc⟩ := at_of (Rd.of_own h) hk
  injection e with e
  injection e with e1 e2
  subst e1; subst e2
  rw [Nat.zero_add, hv] at hc
  exact hc
set_option maxRecDepth 100000 in
/-- A row copied to a row of the call's own, a number of it laid anew. -/
theorem rows_app {W : World} {base m c : Nat} {A : Option Addr} {zs : List Int} (h : W.ownsRow base 3 1 (.slice A m c) m (iv zs)) (hm : m ≤ 1000) (hp : 0 < m) {k : Nat} (hk : k < m) (z : Int) :
    ∃ G c3 W3 W4, (Builtin.append_ #[22, 22] 22 #[.slice (some ⟨W.heap.size, 0, none⟩) 0 0, .slice A m c]).run Tryd.prog (W.alloc (.cells #[] 3)) = .ok (.slice (some ⟨G, 0, none⟩) m c3) W3 ∧
      ∃ u, W3.cell? ⟨G, k, none⟩ = some u ∧ W3.frozen? ⟨G, k, none⟩ = false ∧ W3.setCell ⟨G, k, none⟩ (.int .i64 z) = W4 ∧ W4.ownsRow W.heap.size 3 1 (.slice (some ⟨G, 0, none⟩) m c3) m (iv (zs.set k z)) ∧ Below W.heap.size W W4 := by
  have ho : (W.alloc (.cells #[] 3)).ownsRow W.heap.size 3 1 (.slice (some ⟨W.heap.size, 0, none⟩) 0 0) 0 [] :=
    ⟨rfl, .inr ⟨W.heap.size, 0, #[], rfl, Nat.le_refl _, heap_alloc_new W _, Nat.le_refl _, by unfold maxLen; omega, rfl, rfl⟩⟩
  have hb := (Below.refl W.heap.size W).alloc (Nat.le_refl _) (.cells #[] 3)
  obtain ⟨v, W3, r, o3, g⟩ := run_appI _ W.heap.size _ 0 [] ho W.heap.size A m c zs ((Rd.of_own h).below hb) (by omega) hb.size
  rw [Nat.zero_add, List.nil_append] at o3
  obtain ⟨A3, c3, rfl⟩ := own_form o3
  obtain ⟨G, rfl, hG, _⟩ := own_fullI hp o3
  obtain ⟨⟨u, hu⟩, hf⟩ := own_cellC o3 hk
  have h3 : Below W.heap.size W W3 := hb.trans (below_row ho g hb.size)
  exact ⟨G, c3, W3, _, r, u, hu, hf, rfl, own_setC o3 z, h3.setCell (p := ⟨G, k, none⟩) hG _⟩
set_option maxRecDepth 100000 in
theorem rows_law {x u : Cf} {k : Nat} {z v : Int} (hu : u = ofRow ((rowOf x).set k z) u.A u.n u.c) (hi : isRow ((rowOf x).set k z) = true) (hk : k < (rowOf x).length) (hv : (rowOf x).getD k 0 = v) : sameC u x = decide (z = v) := by
  rw [sameC_row, (isRow_may hi hu).2]
  have h1 : (rowOf x)[k]? = some v := by rw [← hv, List.getD_eq_getElem?_getD, List.getElem?_eq_getElem hk]; rfl
  congr 1
  apply propext
  constructor
  · intro h
    have h2 := congrArg (fun l : List Int => l[k]?) h
    simp only [List.getElem?_set_self hk] at h2
    rw [h1] at h2
    exact Option.some.inj h2
  · intro h
    subst h
    apply List.ext_getElem?
    intro i
    by_cases he : k = i
    · subst he; rw [List.getElem?_set_self hk, h1]
    · rw [List.getElem?_set_ne he]

end Go.Proofs.YtdjieigmncoooaaDoor
