/-
  What the walks of the statements over two groups share. Conditions: those that each theorem names.
-/
import Derived.Test.YtdjieigmncoooaaDoorCfLawKit
namespace Go.Proofs.YtdjieigmncoooaaDoor
open Go.RowKit Go.Shelf

/-- Two groups that are handed over, in their boxes. -/
structure In2 (x y : Cf) (w W : World) : Prop where
  two : Two x y w W
  hasx : Has x W
  liesy : Lies y W W.heap.size
set_option maxRecDepth 100000 in
theorem In2.under {x y : Cf} {w W W' : World} (h : In2 x y w W) (hb : Below W.heap.size W W') : In2 x y w W' := ⟨h.two.under hb, h.hasx.under hb, (h.liesy.below hb).more hb.size⟩
set_option maxRecDepth 100000 in
theorem In2.new {x y : Cf} {w : World} (h : Has x w) (h2 : Lies y w w.heap.size) : In2 x y w ((w.alloc (.cells x.cells 24)).alloc (.cells y.cells 24)) :=
  have t := Two.new x y w
  ⟨t, h.under t.2.2, (h2.below t.2.2).more t.2.2.size⟩
set_option maxRecDepth 100000 in
theorem In2.tab {x y : Cf} {w W : World} (h : In2 x y w W) : Tab W := h.hasx.tab
set_option maxRecDepth 100000 in
theorem In2.hasy {x y : Cf} {w W : World} (h : In2 x y w W) : Has y W := ⟨h.liesy, h.hasx.tab⟩
set_option maxRecDepth 100000 in
theorem In2.rd {x y : Cf} {w W : World} (h : In2 x y w W) {A : Option Addr} {n : Nat} {xs : List Value} (hr : Rd w w.heap.size A n xs) : Rd W W.heap.size A n xs := (hr.below h.two.2.2).more h.two.2.2.size

set_option maxRecDepth 100000 in
theorem rowIs_N {x : Cf} {W w' : World} {e : Ending} (h : RowIs x W e w') {R : List Int} (hR : (if may x = true then rowOf x else []) = R) {m : Nat} (hm : R.length = m) {v : Int} (hv : er (may x) = v) :
    ∃ A c, e = .returned (.tuple #[.slice A m c, .int .i64 v]) ∧ w'.ownsRow W.heap.size 3 1 (.slice A m c) m (iv R) ∧ Below W.heap.size W w' := by
  obtain ⟨A, n, c, rfl, ho, hb⟩ := h
  rw [hR] at ho
  have hn : m = n := by have := ho.1; rw [iv_length] at this; omega
  subst hn
  exact ⟨A, c, by rw [hv], ho, hb⟩
set_option maxRecDepth 100000 in
theorem rowN {x : Cf} {W : World} (h : Has x W) {R : List Int} (hR : (if may x = true then rowOf x else []) = R) {m : Nat} (hm : R.length = m) {v : Int} (hv : er (may x) = v) :
    Calls Tryd.prog 9 #[x.v] W fun e w' => ∃ A c, e = .returned (.tuple #[.slice A m c, .int .i64 v]) ∧ w'.ownsRow W.heap.size 3 1 (.slice A m c) m (iv R) ∧ Below W.heap.size W w' :=
  (row_any x W h).mono fun _ _ h => rowIs_N h hR hm hv
set_option maxRecDepth 100000 in
theorem refRowN {x : Cf} {W : World} (h : Has x W) (hn : x.n ≤ 1000) {R : List Int} (hR : (if may x = true then rowOf x else []) = R) {m : Nat} (hm : R.length = m) {v : Int} (hv : er (may x) = v) :
    Calls Tryd.prog 10 #[x.v] W fun e w' => ∃ A c, e = .returned (.tuple #[.slice A m c, .int .i64 v]) ∧ w'.ownsRow W.heap.size 3 1 (.slice A m c) m (iv R) ∧ Below W.heap.size W w' :=
  (refRow_any x W h.lies hn).mono fun _ _ h => rowIs_N h hR hm hv

/-- A group that was told of the row l, or the group of noughts. -/
structure Told (l : List Int) (y : Cf) (W : World) : Prop where
  lies : Lies y W W.heap.size
  row : rowOf y = if isRow l = true then l else rowOf cf0
  few : y.n ≤ 1000
set_option maxRecDepth 100000 in
theorem Told.under {l : List Int} {y : Cf} {W W' : World} (h : Told l y W) (hb : Below W.heap.size W W') : Told l y W' := ⟨(h.lies.below hb).more hb.size, h.row, h.few⟩
set_option maxRecDepth 100000 in
theorem Told.same {l : List Int} {y z : Cf} {W W' : World} (h : Told l y W) (h2 : Told l z W') : sameC y z = true := by
  rw [sameC_row, h.row, h2.row]
  simp
set_option maxRecDepth 100000 in
theorem ofIs_N {l : List Int} {W w' : World} {e : Ending} (h : OfIs l W e w') (hl : l.length ≤ 1000) {v : Int} (hv : er (isRow l) = v) : ∃ y : Cf, e = .returned (.tuple #[y.v, .int .i64 v]) ∧ Told l y w' ∧ Below W.heap.size W w' := by
  obtain ⟨y, rfl, hy, hb⟩ := h
  refine ⟨y, by rw [hv], ?_, hb⟩
  cases hi : isRow l with
  | true =>
    obtain ⟨h1, h2⟩ := hy.1 hi
    have hl2 : Lies y w' w'.heap.size := ⟨Rd.of_own h2, own_cap h2, own_maxC h2⟩
    have hro := (isRow_may hi h1).2
    refine ⟨hl2, by rw [hro, if_pos hi], ?_⟩
    have h3 := hl2.len
    have h4 := congrArg List.length hro
    rw [rowOf_len] at h4
    omega
  | false =>
    have h1 := hy.2 hi
    rw [h1]
    exact ⟨lies0 _, by rw [hi]; rfl, by show 0 ≤ 1000; omega⟩
set_option maxRecDepth 100000 in
theorem ofN {A : Option Addr} {n c : Nat} {l : List Int} {W : World} (hr : Rd W W.heap.size A n (iv l)) (hc : n ≤ c) (hm : c ≤ maxLen) (hn : n ≤ 1000) (hT : Tab W) {v : Int} (hv : er (isRow l) = v) :
    Calls Tryd.prog 11 #[.slice A n c] W fun e w' => ∃ y : Cf, e = .returned (.tuple #[y.v, .int .i64 v]) ∧ Told l y w' ∧ Below W.heap.size W w' :=
  (of_any A n c l W.heap.size W hr (Nat.le_refl _) hc hm hn hT).mono fun _ _ h => ofIs_N h (by have := hr.1; rw [iv_length] at this; omega) hv
set_option maxRecDepth 100000 in
theorem refOfN {A : Option Addr} {n c : Nat} {l : List Int} {W : World} (hr : Rd W W.heap.size A n (iv l)) (hc : n ≤ c) (hm : c ≤ maxLen) (hn : n ≤ 1000) {v : Int} (hv : er (isRow l) = v) :
    Calls Tryd.prog 12 #[.slice A n c] W fun e w' => ∃ y : Cf, e = .returned (.tuple #[y.v, .int .i64 v]) ∧ Told l y w' ∧ Below W.heap.size W w' :=
  (refOf_any A n c l W.heap.size W hr (Nat.le_refl _) hc hm hn).mono fun _ _ h => ofIs_N h (by have := hr.1; rw [iv_length] at this; omega) hv
set_option maxRecDepth 100000 in
theorem floorN {x : Cf} {W : World} (h : Has x W) {v : Int} (hv : floorOf x = v) : Calls Tryd.prog 17 #[x.v] W (IntPost v W) := hv ▸ floorC_any x W h
set_option maxRecDepth 100000 in
theorem boundN {x : Cf} {W : World} (h : Has x W) {v : Int} (hv : boundOf x = v) : Calls Tryd.prog 19 #[x.v] W (IntPost v W) := hv ▸ boundC_any x W h
set_option maxRecDepth 100000 in
theorem refFloorN {x : Cf} {W : World} (h : Has x W) (hn : x.n ≤ 1000) {v : Int} (hv : floorOf x = v) : Calls Tryd.prog 18 #[x.v] W (IntPost v W) := hv ▸ refFloorC_any x W h.lies hn
set_option maxRecDepth 100000 in
theorem refBoundN {x : Cf} {W : World} (h : Has x W) (hn : x.n ≤ 1000) {v : Int} (hv : boundOf x = v) : Calls Tryd.prog 20 #[x.v] W (IntPost v W) := hv ▸ refBoundC_any x W h.lies hn

end Go.Proofs.YtdjieigmncoooaaDoor
