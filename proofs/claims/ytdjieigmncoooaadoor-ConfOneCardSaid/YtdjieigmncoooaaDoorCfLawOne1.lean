/-
  A case of the walk of the statement ConfOne. Conditions: those that the theorem names.
-/
import Derived.Test.YtdjieigmncoooaaDoorCfOneKit
import Derived.Deep.DeepCutAuto
namespace Go.Proofs.YtdjieigmncoooaaDoor
open Go.RowKit Go.Shelf

set_option maxRecDepth 100000 in
set_option maxHeartbeats 16000000 in
theorem confOne_more (x : Cf) (n m : Int) (w : World) (h : Has x w) (hx : ¬ x.n ≤ 60) : Calls Tryd.prog 6 #[x.v, .int .i64 n, .int .i64 m] w (TruePost w) := by
  have HI := Lib.hid (In1.new h)
  have d1 : decide ((60 : Int) < (x.n : Int)) = true := by simp; omega
  clear h hx
  go_enter Tryd.func6, Tryd.ntmps6
  obtain ⟨c0, c1, c2, c3, c4, c5, c6, c7, c8, c9, c10, c11, c12, c13, c14⟩ := HI.out.box.1.conf
  go_wp2_with fail
  refine (wakes_any _ HI.out.tab).mono ?_
  as_aux_lemma =>
    rintro e w1 ⟨rfl, b⟩
    clear c0 c1 c2 c3 c4 c5 c6 c7 c8 c9 c10 c11 c12 c13 c14
    have HI_1 := Lib.hid (HI.out.under b)
    clear HI
    clear b
    go_wp2_with fail
    go_ret
    exact ⟨rfl, HI_1.out.box.2⟩

set_option maxRecDepth 100000 in
set_option maxHeartbeats 16000000 in
theorem confOne_no (x : Cf) (n m : Int) (w : World) (h : Has x w) (hx : x.n ≤ 60) (hm : may x = false) : Calls Tryd.prog 6 #[x.v, .int .i64 n, .int .i64 m] w (TruePost w) := by
  have HI := Lib.hid (In1.new h)
  have HX := Lib.hid hx
  have HM := Lib.hid hm
  have d1 : decide ((60 : Int) < (x.n : Int)) = false := by simp; omega
  clear h hx hm
  go_enter Tryd.func6, Tryd.ntmps6
  obtain ⟨c0, c1, c2, c3, c4, c5, c6, c7, c8, c9, c10, c11, c12, c13, c14⟩ := HI.out.box.1.conf
  go_wp2_with fail
  refine (refCk_yes HI.out.has (by have := HX.out; omega) (v := 70) (by rw [HM.out]; rfl)).mono ?_
  as_aux_lemma =>
    rintro e w1 ⟨rfl, b⟩
    clear c0 c1 c2 c3 c4 c5 c6 c7 c8 c9 c10 c11 c12 c13 c14
    have HI_1 := Lib.hid (HI.out.under b)
    clear HI
    clear b
    go_wp2_with fail
    refine (wakes_any _ HI_1.out.tab).mono ?_
    as_aux_lemma =>
      rintro e w2 ⟨rfl, b⟩
      have HI_2 := Lib.hid (HI_1.out.under b)
      clear HI_1
      clear b
      go_wp2_with fail
      go_ret
      exact ⟨rfl, HI_2.out.box.2⟩

set_option maxRecDepth 100000 in
set_option maxHeartbeats 16000000 in
theorem confOne_low (x : Cf) (n m : Int) (w : World) (h : Has x w) (hx : x.n ≤ 60) (hm : may x = true) (hn : ¬ 1 ≤ n) : Calls Tryd.prog 6 #[x.v, .int .i64 n, .int .i64 m] w (TruePost w) := by
  have HI := Lib.hid (In1.new h)
  have HX := Lib.hid hx
  have HM := Lib.hid hm
  have d1 : decide ((60 : Int) < (x.n : Int)) = false := by simp; omega
  have d2 : decide (n < 1) = true := by simp; omega
  clear h hx hm hn
  go_enter Tryd.func6, Tryd.ntmps6
  obtain ⟨c0, c1, c2, c3, c4, c5, c6, c7, c8, c9, c10, c11, c12, c13, c14⟩ := HI.out.box.1.conf
  go_wp2_with fail
  refine (refCk_yes HI.out.has (by have := HX.out; omega) (v := 0) (by rw [HM.out]; rfl)).mono ?_
  as_aux_lemma =>
    rintro e w1 ⟨rfl, b⟩
    clear c0 c1 c2 c3 c4 c5 c6 c7 c8 c9 c10 c11 c12 c13 c14
    have HI_1 := Lib.hid (HI.out.under b)
    clear HI
    clear b
    go_wp2_with fail
    refine (wakes_any _ HI_1.out.tab).mono ?_
    as_aux_lemma =>
      rintro e w2 ⟨rfl, b⟩
      have HI_2 := Lib.hid (HI_1.out.under b)
      clear HI_1
      clear b
      go_wp2_with fail
      go_ret
      exact ⟨rfl, HI_2.out.box.2⟩

set_option maxRecDepth 100000 in
set_option maxHeartbeats 16000000 in
theorem confOne_high (x : Cf) (n m : Int) (w : World) (h : Has x w) (hx : x.n ≤ 60) (hm : may x = true) (hn1 : 1 ≤ n) (hn : ¬ n ≤ 1073741824) : Calls Tryd.prog 6 #[x.v, .int .i64 n, .int .i64 m] w (TruePost w) := by
  have HI := Lib.hid (In1.new h)
  have HX := Lib.hid hx
  have HM := Lib.hid hm
  have d1 : decide ((60 : Int) < (x.n : Int)) = false := by simp; omega
  have d2 : decide (n < 1) = false := by simp; omega
  have d3 : decide ((1073741824 : Int) < n) = true := by simp; omega
  clear h hx hm hn1 hn
  go_enter Tryd.func6, Tryd.ntmps6
  obtain ⟨c0, c1, c2, c3, c4, c5, c6, c7, c8, c9, c10, c11, c12, c13, c14⟩ := HI.out.box.1.conf
  go_wp2_with fail
  refine (refCk_yes HI.out.has (by have := HX.out; omega) (v := 0) (by rw [HM.out]; rfl)).mono ?_
  as_aux_lemma =>
    rintro e w1 ⟨rfl, b⟩
    clear c0 c1 c2 c3 c4 c5 c6 c7 c8 c9 c10 c11 c12 c13 c14
    have HI_1 := Lib.hid (HI.out.under b)
    clear HI
    clear b
    go_wp2_with fail
    refine (wakes_any _ HI_1.out.tab).mono ?_
    as_aux_lemma =>
      rintro e w2 ⟨rfl, b⟩
      have HI_2 := Lib.hid (HI_1.out.under b)
      clear HI_1
      clear b
      go_wp2_with fail
      go_ret
      exact ⟨rfl, HI_2.out.box.2⟩


end Go.Proofs.YtdjieigmncoooaaDoor
