/-
  What the walks of the statements of package conf share: a group in its box; the calls, as they are met there. Conditions: those that each theorem names.
-/
import Derived.Test.YtdjieigmncoooaaDoorCfWakes
namespace Go.Proofs.YtdjieigmncoooaaDoor
open Go.RowKit Go.Shelf

/-- A group that is handed over, in its box. -/
structure In1 (x : Cf) (w W : World) : Prop where
  box : InBox x w W
  has : Has x W
set_option maxRecDepth 100000 in
theorem In1.new {x : Cf} {w : World} (h : Has x w) : In1 x w (w.alloc (.cells x.cells 24)) := ⟨InBox.new x w, h.under (InBox.new x w).2⟩
set_option maxRecDepth 100000 in
theorem In1.under {x : Cf} {w W W' : World} (h : In1 x w W) (hb : Below W.heap.size W W') : In1 x w W' := ⟨h.box.under hb, h.has.under hb⟩
set_option maxRecDepth 100000 in
theorem In1.drew {x : Cf} {w W : World} (h : In1 x w W) : In1 x w W.drew := h.under (Below.refl _ _).drew

set_option maxRecDepth 100000 in
theorem refCk {x : Cf} {w W : World} (h : In1 x w W) (hn : x.n ≤ 1000) : Calls Tryd.prog 16 #[x.v] W (IntPost (er (may x)) W) := refCheck_any x W.heap.size W h.has.lies (Nat.le_refl _) hn

set_option maxRecDepth 100000 in
theorem In1.tab {x : Cf} {w W : World} (h : In1 x w W) : Tab W := h.has.tab
set_option maxRecDepth 100000 in
/-- What lay there when the call began. -/
theorem In1.rd {x : Cf} {w W : World} (h : In1 x w W) {A : Option Addr} {n : Nat} {xs : List Value} (hr : Rd w w.heap.size A n xs) : Rd W W.heap.size A n xs := (hr.below h.box.2).more h.box.2.size

set_option maxRecDepth 100000 in
theorem rowC_no {x : Cf} {W : World} (h : Has x W) (hm : may x = false) : Calls Tryd.prog 9 #[x.v] W fun e w' => ∃ A c, e = .returned (.tuple #[.slice A 0 c, .int .i64 70]) ∧ Below W.heap.size W w' := by
  refine (row_any x W h).mono ?_
  rintro e w' ⟨A, n, c, rfl, ho, hb⟩
  rw [hm, if_neg (by simp)] at ho
  have hn : 0 = n := by have := ho.1; simpa [iv] using this
  subst hn
  exact ⟨A, c, by rw [hm]; rfl, hb⟩
set_option maxRecDepth 100000 in
theorem rowC_yes {x : Cf} {W : World} (h : Has x W) (hm : may x = true) {m : Nat} (hk : 14 + x.n = m) : Calls Tryd.prog 9 #[x.v] W fun e w' => ∃ A c, e = .returned (.tuple #[.slice A m c, .int .i64 0]) ∧ w'.ownsRow W.heap.size 3 1 (.slice A m c) m (iv (rowOf x)) ∧ Below W.heap.size W w' := by
  refine (row_any x W h).mono ?_
  rintro e w' ⟨A, n, c, rfl, ho, hb⟩
  rw [hm, if_pos rfl] at ho
  have hn : m = n := by have := ho.1; rw [iv_length, rowOf_len, h.lies.len] at this; omega
  subst hn
  exact ⟨A, c, by rw [hm]; rfl, ho, hb⟩
set_option maxRecDepth 100000 in
theorem of_yes {A : Option Addr} {n c : Nat} {l : List Int} {W : World} (hr : Rd W W.heap.size A n (iv l)) (hc : n ≤ c) (hm : c ≤ maxLen) (hn : n ≤ 1000) (hT : Tab W) (hi : isRow l = true) : Calls Tryd.prog 11 #[.slice A n c] W fun e w' => ∃ y : Cf, e = .returned (.tuple #[y.v, .int .i64 0]) ∧ y = ofRow l y.A y.n y.c ∧ Lies y w' w'.heap.size ∧ Below W.heap.size W w' := by
  refine (of_any A n c l W.heap.size W hr (Nat.le_refl _) hc hm hn hT).mono ?_
  rintro e w' ⟨y, rfl, hy, hb⟩
  obtain ⟨h1, h2⟩ := hy.1 hi
  exact ⟨y, by rw [hi]; rfl, h1, ⟨Rd.of_own h2, own_cap h2, own_maxC h2⟩, hb⟩
set_option maxRecDepth 100000 in
theorem of_no {A : Option Addr} {n c : Nat} {l : List Int} {W : World} (hr : Rd W W.heap.size A n (iv l)) (hc : n ≤ c) (hm : c ≤ maxLen) (hn : n ≤ 1000) (hT : Tab W) (hi : isRow l = false) : Calls Tryd.prog 11 #[.slice A n c] W fun e w' => ∃ y : Cf, e = .returned (.tuple #[y.v, .int .i64 70]) ∧ y = cf0 ∧ Below W.heap.size W w' := by
  refine (of_any A n c l W.heap.size W hr (Nat.le_refl _) hc hm hn hT).mono ?_
  rintro e w' ⟨y, rfl, hy, hb⟩
  exact ⟨y, by rw [hi]; rfl, hy.2 hi, hb⟩
set_option maxRecDepth 100000 in
theorem refSame_yes {x y : Cf} {W : World} (hx : Lies x W W.heap.size) (hy : Lies y W W.heap.size) (hn : x.n ≤ 1000) {b : Bool} (hb : sameC x y = b) : Calls Tryd.prog 14 #[x.v, y.v] W (BoolPost b W) := by
  have := refSameC_any x y W.heap.size W.heap.size W hx hy (Nat.le_refl _) (Nat.le_refl _) hn
  rwa [hb] at this
set_option maxRecDepth 100000 in
theorem same_yes {x y : Cf} {W : World} (hx : Lies x W W.heap.size) (hy : Lies y W W.heap.size) (hn : x.n ≤ 1000) {b : Bool} (hb : sameC x y = b) : Calls Tryd.prog 21 #[x.v, y.v] W (BoolPost b W) := by
  have := sameC_any x y W.heap.size W.heap.size W hx hy (Nat.le_refl _) (Nat.le_refl _) (by omega)
  rwa [hb] at this
set_option maxRecDepth 100000 in
theorem refCk_yes {x : Cf} {W : World} (h : Has x W) (hn : x.n ≤ 1000) {v : Int} (hv : er (may x) = v) : Calls Tryd.prog 16 #[x.v] W (IntPost v W) := by
  have := refCheck_any x W.heap.size W h.lies (Nat.le_refl _) hn
  rwa [hv] at this
set_option maxRecDepth 100000 in
theorem ck_yes {x : Cf} {W : World} (h : Has x W) {v : Int} (hv : er (may x) = v) : Calls Tryd.prog 15 #[x.v] W (IntPost v W) := by
  have := check_any x W h
  rwa [hv] at this
set_option maxRecDepth 100000 in
theorem ints_yes {A A' : Option Addr} {n c n' c' : Nat} {zs zs' : List Int} {W : World} (hr : Rd W W.heap.size A n (iv zs)) (hr' : Rd W W.heap.size A' n' (iv zs')) (hn : n ≤ 1000000) {b : Bool} (hb : decide (zs = zs') = b) :
    Calls Tryd.prog 13 #[.slice A n c, .slice A' n' c'] W (BoolPost b W) := by
  refine (ints_any A A' n c n' c' zs zs' W.heap.size W.heap.size W hr hr' hn).mono ?_
  rintro e w' ⟨rfl, k, rfl⟩
  rw [hb]
  exact ⟨rfl, below_drewN (Below.refl _ _) k⟩
set_option maxRecDepth 100000 in
theorem isRow_shape {l : List Int} (h : isRow l = true) : shapeB l = true ∧ 14 ≤ l.length := by
  have h1 : shapeB l = true := by unfold isRow at h; revert h; cases shapeB l <;> simp
  refine ⟨h1, ?_⟩
  simp only [shapeB, Bool.and_eq_true, decide_eq_true_eq] at h1
  exact h1.1
set_option maxRecDepth 100000 in
theorem isRow_may {l : List Int} (h : isRow l = true) {y : Cf} (hy : y = ofRow l y.A y.n y.c) : may y = true ∧ rowOf y = l := by
  have h1 : may (ofRow l none 0 0) = true := by unfold isRow at h; revert h; cases shapeB l <;> simp
  rw [hy]
  exact ⟨h1, row_of (isRow_shape h).1⟩
set_option maxRecDepth 100000 in
theorem isRow_of {x : Cf} (h : may x = true) : isRow (rowOf x) = true := by
  unfold isRow
  rw [(of_row x none 0 0).2, (of_row x none 0 0).1]
  exact h
set_option maxRecDepth 100000 in
theorem same_of {x y : Cf} (hy : y = ofRow (rowOf x) y.A y.n y.c) : sameC y x = true := by
  rw [hy, (of_row x y.A y.n y.c).1]
  exact sameC_refl x
set_option maxRecDepth 100000 in
theorem lies0 (W : World) : Lies cf0 W W.heap.size := lies_nil cf0 rfl rfl rfl _ _
set_option maxRecDepth 100000 in
/-- A group that was told, in its box. -/
theorem box_new (W : World) (y : Cf) : Whole (W.alloc (.cells y.cells 24)) W.heap.size 24 y.cells ∧ Below W.heap.size W (W.alloc (.cells y.cells 24)) := ⟨Whole.new W _ _, (Below.refl _ _).alloc (Nat.le_refl _) _⟩

end Go.Proofs.YtdjieigmncoooaaDoor
