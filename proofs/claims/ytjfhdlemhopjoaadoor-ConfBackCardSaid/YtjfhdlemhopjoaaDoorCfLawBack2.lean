/-
  A case of the walk of the statement ConfBack. Conditions: those that the theorem names.
-/
import Derived.Test.YtjfhdlemhopjoaaDoorCfLawKit
namespace Go.Proofs.YtjfhdlemhopjoaaDoor
open Go.RowKit Go.Shelf

set_option maxRecDepth 100000 in
set_option maxHeartbeats 8000000 in
theorem confBack_more2 (x : Cf) (A : Option Addr) (n c : Nat) (w : World) (h : Has x w) (hx : x.n ≤ 60) (hn : ¬ n ≤ 60) : Calls Tryd.prog 4 #[x.v, .slice A n c] w (TruePost w) := by
  have HI := Lib.hid (In1.new h)
  have d1 : decide ((60 : Int) < (x.n : Int)) = false := by simp; omega
  have d2 : decide ((60 : Int) < (n : Int)) = true := by simp; omega
  clear h hn hx
  go_enter Tryd.func4, Tryd.ntmps4
  obtain ⟨c0, c1, c2, c3, c4, c5, c6, c7, c8, c9, c10, c11, c12, c13, c14⟩ := HI.out.box.1.conf
  go_wp2_with fail
  refine (wakes_any _ HI.out.tab).mono ?_
  as_aux_lemma =>
    rintro e w1 ⟨rfl, b⟩
    clear c0 c1 c2 c3 c4 c5 c6 c7 c8 c9 c10 c11 c12 c13 c14
    have HI_1 := Lib.hid (HI.out.under b)
    clear HI
    clear b
    go_wp2_with fail
    go_ret
    exact ⟨rfl, HI_1.out.box.2⟩


end Go.Proofs.YtjfhdlemhopjoaaDoor
