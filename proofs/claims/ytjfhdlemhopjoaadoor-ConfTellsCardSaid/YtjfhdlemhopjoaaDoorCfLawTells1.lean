/-
  A case of the walk of the statement ConfTells. Conditions: those that the theorem names.
-/
import Derived.Test.YtjfhdlemhopjoaaDoorCfLawTwo
namespace Go.Proofs.YtjfhdlemhopjoaaDoor
open Go.RowKit Go.Shelf

set_option maxRecDepth 100000 in
set_option maxHeartbeats 8000000 in
theorem confTells_more1 (x y : Cf) (A : Option Addr) (n c : Nat) (w : World) (h : Has x w) (h2 : Lies y w w.heap.size) (hn : ¬ x.n ≤ 60) : Calls Tryd.prog 3 #[x.v, y.v, .slice A n c] w (TruePost w) := by
  have HI := Lib.hid (In2.new h h2)
  have d1 : decide ((60 : Int) < (x.n : Int)) = true := by simp; omega
  clear h h2 hn
  go_enter Tryd.func3, Tryd.ntmps3
  obtain ⟨c0, c1, c2, c3, c4, c5, c6, c7, c8, c9, c10, c11, c12, c13, c14⟩ := HI.out.two.1.conf
  obtain ⟨d0, d1, d2, d3, d4, d5, d6, d7, d8, d9, d10, d11, d12, d13, d14⟩ := HI.out.two.2.1.conf
  go_wp2_with fail
  refine (wakes_any _ HI.out.tab).mono ?_
  as_aux_lemma =>
    rintro e w1 ⟨rfl, b⟩
    clear c0 c1 c2 c3 c4 c5 c6 c7 c8 c9 c10 c11 c12 c13 c14
    clear d0 d1 d2 d3 d4 d5 d6 d7 d8 d9 d10 d11 d12 d13 d14
    have HI_1 := Lib.hid (HI.out.under b)
    clear HI
    clear b
    go_wp2_with fail
    go_ret
    exact ⟨rfl, HI_1.out.two.2.2⟩

set_option maxRecDepth 100000 in
set_option maxHeartbeats 8000000 in
theorem confTells_more2 (x y : Cf) (A : Option Addr) (n c : Nat) (w : World) (h : Has x w) (h2 : Lies y w w.heap.size) (hx : x.n ≤ 60) (hn : ¬ y.n ≤ 60) : Calls Tryd.prog 3 #[x.v, y.v, .slice A n c] w (TruePost w) := by
  have HI := Lib.hid (In2.new h h2)
  have d1 : decide ((60 : Int) < (x.n : Int)) = false := by simp; omega
  have d2 : decide ((60 : Int) < (y.n : Int)) = true := by simp; omega
  clear h h2 hn hx
  go_enter Tryd.func3, Tryd.ntmps3
  obtain ⟨c0, c1, c2, c3, c4, c5, c6, c7, c8, c9, c10, c11, c12, c13, c14⟩ := HI.out.two.1.conf
  obtain ⟨d0, d1, d2, d3, d4, d5, d6, d7, d8, d9, d10, d11, d12, d13, d14⟩ := HI.out.two.2.1.conf
  go_wp2_with fail
  refine (wakes_any _ HI.out.tab).mono ?_
  as_aux_lemma =>
    rintro e w1 ⟨rfl, b⟩
    clear c0 c1 c2 c3 c4 c5 c6 c7 c8 c9 c10 c11 c12 c13 c14
    clear d0 d1 d2 d3 d4 d5 d6 d7 d8 d9 d10 d11 d12 d13 d14
    have HI_1 := Lib.hid (HI.out.under b)
    clear HI
    clear b
    go_wp2_with fail
    go_ret
    exact ⟨rfl, HI_1.out.two.2.2⟩

set_option maxRecDepth 100000 in
set_option maxHeartbeats 8000000 in
theorem confTells_more3 (x y : Cf) (A : Option Addr) (n c : Nat) (w : World) (h : Has x w) (h2 : Lies y w w.heap.size) (hx : x.n ≤ 60) (hy : y.n ≤ 60) (hn : ¬ n ≤ 60) : Calls Tryd.prog 3 #[x.v, y.v, .slice A n c] w (TruePost w) := by
  have HI := Lib.hid (In2.new h h2)
  have d1 : decide ((60 : Int) < (x.n : Int)) = false := by simp; omega
  have d2 : decide ((60 : Int) < (y.n : Int)) = false := by simp; omega
  have d3 : decide ((60 : Int) < (n : Int)) = true := by simp; omega
  clear h h2 hn hx hy
  go_enter Tryd.func3, Tryd.ntmps3
  obtain ⟨c0, c1, c2, c3, c4, c5, c6, c7, c8, c9, c10, c11, c12, c13, c14⟩ := HI.out.two.1.conf
  obtain ⟨d0, d1, d2, d3, d4, d5, d6, d7, d8, d9, d10, d11, d12, d13, d14⟩ := HI.out.two.2.1.conf
  go_wp2_with fail
  refine (wakes_any _ HI.out.tab).mono ?_
  as_aux_lemma =>
    rintro e w1 ⟨rfl, b⟩
    clear c0 c1 c2 c3 c4 c5 c6 c7 c8 c9 c10 c11 c12 c13 c14
    clear d0 d1 d2 d3 d4 d5 d6 d7 d8 d9 d10 d11 d12 d13 d14
    have HI_1 := Lib.hid (HI.out.under b)
    clear HI
    clear b
    go_wp2_with fail
    go_ret
    exact ⟨rfl, HI_1.out.two.2.2⟩


end Go.Proofs.YtjfhdlemhopjoaaDoor
