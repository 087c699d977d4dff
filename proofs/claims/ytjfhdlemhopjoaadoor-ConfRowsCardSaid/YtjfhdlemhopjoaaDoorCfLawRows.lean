/-
  The walk of the statement ConfRows: groups of the same row are the same; a row with another number is another group's. Conditions: those that the theorem names.
-/
import Derived.Test.YtjfhdlemhopjoaaDoorCfLawRows1
import Derived.Test.YtjfhdlemhopjoaaDoorCfLawRows2
import Derived.Test.YtjfhdlemhopjoaaDoorCfLawRows3
import Derived.Test.YtjfhdlemhopjoaaDoorCfLawRows4
namespace Go.Proofs.YtjfhdlemhopjoaaDoor
open Go.RowKit Go.Shelf

theorem confRows_any (x y : Cf) (a z : Int) (w : World) (h : Has x w) (h2 : Lies y w w.heap.size)  : Calls Tryd.prog 7 #[x.v, y.v, .int .i64 a, .int .i64 z] w (TruePost w) := by
  by_cases hx : x.n ≤ 60
  · by_cases hy : y.n ≤ 60
    · cases hm : may x with
      | false => exact confRows_noX x y a z w h h2 hx hy hm
      | true =>
        cases hm2 : may y with
        | false => exact confRows_noY x y a z w h h2 hx hy hm hm2
        | true =>
          have hx4 : x.n ≤ 4 := by have := (may_marks hm).2; rw [h.lies.len] at this; exact this
          have hy4 : y.n ≤ 4 := by have := (may_marks hm2).2; rw [h2.len] at this; exact this
          obtain ⟨k, hj, hkm⟩ := mod_atC a (14 + x.n) (by omega)
          cases hi : isRow ((rowOf x).set k z) with
          | false => exact confRows_none x y a z (14 + x.n) k _ w h h2 hx4 hy4 hm hm2 rfl hj hkm rfl hi
          | true =>
            by_cases hz : z = (rowOf x).getD k 0
            · exact confRows_eq x y a z (14 + x.n) k _ w h h2 hx4 hy4 hm hm2 rfl hj hkm rfl hi hz
            · exact confRows_ne x y a z (14 + x.n) k _ w h h2 hx4 hy4 hm hm2 rfl hj hkm rfl hi hz
    · exact confRows_more2 x y a z w h h2 hx hy
  · exact confRows_more1 x y a z w h h2 hx

end Go.Proofs.YtjfhdlemhopjoaaDoor
