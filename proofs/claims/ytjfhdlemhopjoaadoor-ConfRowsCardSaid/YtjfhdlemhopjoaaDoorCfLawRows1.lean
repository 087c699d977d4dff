/-
  A case of the walk of the statement ConfRows. Conditions: those that the theorem names.
-/
import Derived.Test.YtjfhdlemhopjoaaDoorCfLawSet
namespace Go.Proofs.YtjfhdlemhopjoaaDoor
open Go.RowKit Go.Shelf

set_option maxRecDepth 100000 in
set_option maxHeartbeats 8000000 in
theorem confRows_more1 (x y : Cf) (a z : Int) (w : World) (h : Has x w) (h2 : Lies y w w.heap.size) (hn : ¬ x.n ≤ 60) : Calls Tryd.prog 7 #[x.v, y.v, .int .i64 a, .int .i64 z] w (TruePost w) := by
  have HI := Lib.hid (In2.new h h2)
  have d1 : decide ((60 : Int) < (x.n : Int)) = true := by simp; omega
  clear h h2 hn
  go_enter Tryd.func7, Tryd.ntmps7
  obtain ⟨c0, c1, c2, c3, c4, c5, c6, c7, c8, c9, c10, c11, c12, c13, c14⟩ := HI.out.two.1.conf
  obtain ⟨d0, d1, d2, d3, d4, d5, d6, d7, d8, d9, d10, d11, d12, d13, d14⟩ := HI.out.two.2.1.conf
  go_wp2_with fail
  refine (wakes_any _ HI.out.tab).mono ?_
  as_aux_lemma =>
    rintro e w1 ⟨rfl, b⟩
    clear c0 c1 c2 c3 c4 c5 c6 c7 c8 c9 c10 c11 c12 c13 c14
    clear d0 d1 d2 d3 d4 d5 d6 d7 d8 d9 d10 d11 d12 d13 d14
    have HI_1 := Lib.hid (HI.out.under b)
    clear HI
    clear b
    go_wp2_with fail
    go_ret
    exact ⟨rfl, HI_1.out.two.2.2⟩

set_option maxRecDepth 100000 in
set_option maxHeartbeats 8000000 in
theorem confRows_more2 (x y : Cf) (a z : Int) (w : World) (h : Has x w) (h2 : Lies y w w.heap.size) (hx : x.n ≤ 60) (hn : ¬ y.n ≤ 60) : Calls Tryd.prog 7 #[x.v, y.v, .int .i64 a, .int .i64 z] w (TruePost w) := by
  have HI := Lib.hid (In2.new h h2)
  have d1 : decide ((60 : Int) < (x.n : Int)) = false := by simp; omega
  have d2 : decide ((60 : Int) < (y.n : Int)) = true := by simp; omega
  clear h h2 hn hx
  go_enter Tryd.func7, Tryd.ntmps7
  obtain ⟨c0, c1, c2, c3, c4, c5, c6, c7, c8, c9, c10, c11, c12, c13, c14⟩ := HI.out.two.1.conf
  obtain ⟨d0, d1, d2, d3, d4, d5, d6, d7, d8, d9, d10, d11, d12, d13, d14⟩ := HI.out.two.2.1.conf
  go_wp2_with fail
  refine (wakes_any _ HI.out.tab).mono ?_
  as_aux_lemma =>
    rintro e w1 ⟨rfl, b⟩
    clear c0 c1 c2 c3 c4 c5 c6 c7 c8 c9 c10 c11 c12 c13 c14
    clear d0 d1 d2 d3 d4 d5 d6 d7 d8 d9 d10 d11 d12 d13 d14
    have HI_1 := Lib.hid (HI.out.under b)
    clear HI
    clear b
    go_wp2_with fail
    go_ret
    exact ⟨rfl, HI_1.out.two.2.2⟩

set_option maxRecDepth 100000 in
set_option maxHeartbeats 8000000 in
theorem confRows_noX (x y : Cf) (a z : Int) (w : World) (h : Has x w) (h2 : Lies y w w.heap.size) (hx : x.n ≤ 60) (hy : y.n ≤ 60) (hm : may x = false) : Calls Tryd.prog 7 #[x.v, y.v, .int .i64 a, .int .i64 z] w (TruePost w) := by
  have HI := Lib.hid (In2.new h h2)
  have d1 : decide ((60 : Int) < (x.n : Int)) = false := by simp; omega
  have d2 : decide ((60 : Int) < (y.n : Int)) = false := by simp; omega
  have HM := Lib.hid hm
  have HX := Lib.hid hx
  have HY := Lib.hid hy
  clear h h2 hm hx hy
  go_enter Tryd.func7, Tryd.ntmps7
  obtain ⟨c0, c1, c2, c3, c4, c5, c6, c7, c8, c9, c10, c11, c12, c13, c14⟩ := HI.out.two.1.conf
  obtain ⟨d0, d1, d2, d3, d4, d5, d6, d7, d8, d9, d10, d11, d12, d13, d14⟩ := HI.out.two.2.1.conf
  go_wp2_with fail
  refine (refCk_yes HI.out.hasx (by have := HX.out; omega) (v := 70) (by rw [HM.out]; rfl)).mono ?_
  as_aux_lemma =>
    rintro e w1 ⟨rfl, b⟩
    clear c0 c1 c2 c3 c4 c5 c6 c7 c8 c9 c10 c11 c12 c13 c14
    clear d0 d1 d2 d3 d4 d5 d6 d7 d8 d9 d10 d11 d12 d13 d14
    have HI_1 := Lib.hid (HI.out.under b)
    clear HI
    clear b
    obtain ⟨c0, c1, c2, c3, c4, c5, c6, c7, c8, c9, c10, c11, c12, c13, c14⟩ := HI_1.out.two.1.conf
    obtain ⟨d0, d1, d2, d3, d4, d5, d6, d7, d8, d9, d10, d11, d12, d13, d14⟩ := HI_1.out.two.2.1.conf
    go_wp2_with fail
    refine (wakes_any _ HI_1.out.tab).mono ?_
    as_aux_lemma =>
      rintro e w2 ⟨rfl, b⟩
      clear c0 c1 c2 c3 c4 c5 c6 c7 c8 c9 c10 c11 c12 c13 c14
      clear d0 d1 d2 d3 d4 d5 d6 d7 d8 d9 d10 d11 d12 d13 d14
      have HI_2 := Lib.hid (HI_1.out.under b)
      clear HI_1
      clear b
      go_wp2_with fail
      go_ret
      exact ⟨rfl, HI_2.out.two.2.2⟩

set_option maxRecDepth 100000 in
set_option maxHeartbeats 8000000 in
theorem confRows_noY (x y : Cf) (a z : Int) (w : World) (h : Has x w) (h2 : Lies y w w.heap.size) (hx : x.n ≤ 60) (hy : y.n ≤ 60) (hm : may x = true) (hm2 : may y = false) : Calls Tryd.prog 7 #[x.v, y.v, .int .i64 a, .int .i64 z] w (TruePost w) := by
  have HI := Lib.hid (In2.new h h2)
  have d1 : decide ((60 : Int) < (x.n : Int)) = false := by simp; omega
  have d2 : decide ((60 : Int) < (y.n : Int)) = false := by simp; omega
  have HM := Lib.hid hm
  have HX := Lib.hid hx
  have HY := Lib.hid hy
  have HM2 := Lib.hid hm2
  clear h h2 hm hm2 hx hy
  go_enter Tryd.func7, Tryd.ntmps7
  obtain ⟨c0, c1, c2, c3, c4, c5, c6, c7, c8, c9, c10, c11, c12, c13, c14⟩ := HI.out.two.1.conf
  obtain ⟨d0, d1, d2, d3, d4, d5, d6, d7, d8, d9, d10, d11, d12, d13, d14⟩ := HI.out.two.2.1.conf
  go_wp2_with fail
  refine (refCk_yes HI.out.hasx (by have := HX.out; omega) (v := 0) (by rw [HM.out]; rfl)).mono ?_
  as_aux_lemma =>
    rintro e w1 ⟨rfl, b⟩
    clear c0 c1 c2 c3 c4 c5 c6 c7 c8 c9 c10 c11 c12 c13 c14
    clear d0 d1 d2 d3 d4 d5 d6 d7 d8 d9 d10 d11 d12 d13 d14
    have HI_1 := Lib.hid (HI.out.under b)
    clear HI
    clear b
    obtain ⟨c0, c1, c2, c3, c4, c5, c6, c7, c8, c9, c10, c11, c12, c13, c14⟩ := HI_1.out.two.1.conf
    obtain ⟨d0, d1, d2, d3, d4, d5, d6, d7, d8, d9, d10, d11, d12, d13, d14⟩ := HI_1.out.two.2.1.conf
    go_wp2_with fail
    refine (refCk_yes HI_1.out.hasy (by have := HY.out; omega) (v := 70) (by rw [HM2.out]; rfl)).mono ?_
    as_aux_lemma =>
      rintro e w2 ⟨rfl, b⟩
      clear c0 c1 c2 c3 c4 c5 c6 c7 c8 c9 c10 c11 c12 c13 c14
      clear d0 d1 d2 d3 d4 d5 d6 d7 d8 d9 d10 d11 d12 d13 d14
      have HI_2 := Lib.hid (HI_1.out.under b)
      clear HI_1
      clear b
      obtain ⟨c0, c1, c2, c3, c4, c5, c6, c7, c8, c9, c10, c11, c12, c13, c14⟩ := HI_2.out.two.1.conf
      obtain ⟨d0, d1, d2, d3, d4, d5, d6, d7, d8, d9, d10, d11, d12, d13, d14⟩ := HI_2.out.two.2.1.conf
      go_wp2_with fail
      refine (wakes_any _ HI_2.out.tab).mono ?_
      as_aux_lemma =>
        rintro e w3 ⟨rfl, b⟩
        clear c0 c1 c2 c3 c4 c5 c6 c7 c8 c9 c10 c11 c12 c13 c14
        clear d0 d1 d2 d3 d4 d5 d6 d7 d8 d9 d10 d11 d12 d13 d14
        have HI_3 := Lib.hid (HI_2.out.under b)
        clear HI_2
        clear b
        go_wp2_with fail
        go_ret
        exact ⟨rfl, HI_3.out.two.2.2⟩


end Go.Proofs.YtjfhdlemhopjoaaDoor
