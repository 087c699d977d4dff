/-
  Texts that the walk of a statement over brains leans on, joined (RefCheck, CfRow, RefCf, RegGrow, RowEdit, BrStep, BrDel, BrMean, BrChange, BrPtr). Conditions: those that each theorem names.
-/
import Derived.Test.YtplejbgecihnpaaDoorK0
import Derived.Test.YtplejbgecihnpaaDoorK1
import Derived.Test.YtplejbgecihnpaaDoorK2
import Derived.Test.YtplejbgecihnpaaDoorK3
import Derived.Test.YtplejbgecihnpaaDoorK4
import Derived.Laws.MakeOwn
import Derived.Laws.CopyRow
import Derived.Lib.AppendZerosOnto
import Derived.Deep.DeepCutAuto

namespace Go.Proofs.YtplejbgecihnpaaDoor
open Go.RowKit Go.Shelf

/-- The five waits that may be nought. -/
def wt (x : Cf) (j : Nat) : Int := [x.f4, x.f5, x.f6, x.f7, x.f11].getD j 0
set_option maxRecDepth 100000 in
theorem within_is {n a b : Int} {v : Bool} (h : (decide (a ≤ n) && decide (n ≤ b)) = v) (w : World) : Calls Tryd.prog 61 #[.int .i64 n, .int .i64 a, .int .i64 b] w fun e w' => e = .returned (.bool v) ∧ w' = w := by
  subst h; exact within_any n a b w
set_option maxRecDepth 100000 in
theorem in_no {n a b : Int} (h : (decide (a ≤ n) && decide (n ≤ b)) = false) : n < a ∨ b < n := by
  by_cases h1 : a ≤ n
  · by_cases h2 : n ≤ b
    · simp [h1, h2] at h
    · omega
  · omega
set_option maxRecDepth 100000 in
theorem in_yes {n a b : Int} (h : (decide (a ≤ n) && decide (n ≤ b)) = true) : a ≤ n ∧ n ≤ b := by simpa using h
set_option maxRecDepth 100000 in
theorem not_wt {x : Cf} {j : Nat} (hj : j < 5) (h : wt x j < 0 ∨ 20 < wt x j) : may x = false := by
  rcases (by omega : j = 0 ∨ j = 1 ∨ j = 2 ∨ j = 3 ∨ j = 4) with rfl | rfl | rfl | rfl | rfl
  · exact not_inB (k := 4) (by omega) h
  · exact not_inB (k := 5) (by omega) h
  · exact not_inB (k := 6) (by omega) h
  · exact not_inB (k := 7) (by omega) h
  · exact not_inB (k := 11) (by omega) h
set_option maxRecDepth 100000 in
theorem may_no_marks {x : Cf} (h : marksB x.ms = false) : may x = false := by unfold may; rw [h]; simp
/-- What holds in the loops: the group in its box, the waits in their array. -/
structure ChkAt (x : Cf) (w W : World) : Prop where
  box : InBox x w W
  row : Whole W (w.heap.size + 1) 53 #[.int .i64 x.f4, .int .i64 x.f5, .int .i64 x.f6, .int .i64 x.f7, .int .i64 x.f11]
set_option maxRecDepth 100000 in
theorem ChkAt.drewN {x : Cf} {w W : World} (h : ChkAt x w W) (k : Nat) : ChkAt x w (W.drewN k) := ⟨⟨h.box.1, below_drewN h.box.2 k⟩, h.row⟩
set_option maxRecDepth 100000 in
theorem wt_cell {x : Cf} {w W : World} (h : ChkAt x w W) {j : Nat} (hj : j < 5) : W.cell? ⟨w.heap.size + 1, j, none⟩ = some (.int .i64 (wt x j)) := by
  rcases (by omega : j = 0 ∨ j = 1 ∨ j = 2 ∨ j = 3 ∨ j = 4) with rfl | rfl | rfl | rfl | rfl
  all_goals exact h.row.cell _

set_option maxRecDepth 100000 in
set_option maxHeartbeats 1000000 in
theorem refCheck_no0 (x : Cf) (w : World) (b0 : (decide ((0 : Int) ≤ x.f0) && decide (x.f0 ≤ 6)) = false) : Calls Tryd.prog 38 #[x.v] w (IntPost 70 w) := by
  have HB0 := Lib.hid (InBox.new x w)
  have hw0 := within_is b0
  clear b0
  go_enter Tryd.func38, Tryd.ntmps38
  go_wp2_with fail
  refine (hw0 _).mono ?_
  rintro e w' ⟨rfl, rfl⟩
  clear hw0
  go_wp2_with fail
  go_ret
  exact ⟨rfl, HB0.out.2⟩

set_option maxRecDepth 100000 in
set_option maxHeartbeats 1000000 in
theorem refCheck_no1 (x : Cf) (w : World) (b0 : (decide ((0 : Int) ≤ x.f0) && decide (x.f0 ≤ 6)) = true) (b1 : (decide ((0 : Int) ≤ x.f1) && decide (x.f1 ≤ 100)) = false) : Calls Tryd.prog 38 #[x.v] w (IntPost 70 w) := by
  have HB0 := Lib.hid (InBox.new x w)
  have hw0 := within_is b0
  have hw1 := within_is b1
  clear b0 b1
  go_enter Tryd.func38, Tryd.ntmps38
  go_wp2_with fail
  refine (hw0 _).mono ?_
  rintro e w' ⟨rfl, rfl⟩
  clear hw0
  go_wp2_with fail
  refine (hw1 _).mono ?_
  rintro e w' ⟨rfl, rfl⟩
  clear hw1
  go_wp2_with fail
  go_ret
  exact ⟨rfl, HB0.out.2⟩

set_option maxRecDepth 100000 in
set_option maxHeartbeats 1000000 in
theorem refCheck_no2 (x : Cf) (w : World) (b0 : (decide ((0 : Int) ≤ x.f0) && decide (x.f0 ≤ 6)) = true)  (b1 : (decide ((0 : Int) ≤ x.f1) && decide (x.f1 ≤ 100)) = true) (b2 : (decide ((0 : Int) ≤ x.f2) && decide (x.f2 ≤ 3)) = false) : Calls Tryd.prog 38 #[x.v] w (IntPost 70 w) := by
  have HB0 := Lib.hid (InBox.new x w)
  have hw0 := within_is b0
  have hw1 := within_is b1
  have hw2 := within_is b2
  clear b0 b1 b2
  go_enter Tryd.func38, Tryd.ntmps38
  go_wp2_with fail
  refine (hw0 _).mono ?_
  rintro e w' ⟨rfl, rfl⟩
  clear hw0
  go_wp2_with fail
  refine (hw1 _).mono ?_
  rintro e w' ⟨rfl, rfl⟩
  clear hw1
  go_wp2_with fail
  refine (hw2 _).mono ?_
  rintro e w' ⟨rfl, rfl⟩
  clear hw2
  go_wp2_with fail
  go_ret
  exact ⟨rfl, HB0.out.2⟩

set_option maxRecDepth 100000 in
set_option maxHeartbeats 1000000 in
theorem refCheck_no3 (x : Cf) (w : World) (b0 : (decide ((0 : Int) ≤ x.f0) && decide (x.f0 ≤ 6)) = true)  (b1 : (decide ((0 : Int) ≤ x.f1) && decide (x.f1 ≤ 100)) = true)  (b2 : (decide ((0 : Int) ≤ x.f2) && decide (x.f2 ≤ 3)) = true) (b3 : (decide ((0 : Int) ≤ x.f3) && decide (x.f3 ≤ 3)) = false) : Calls Tryd.prog 38 #[x.v] w (IntPost 70 w) := by
  have HB0 := Lib.hid (InBox.new x w)
  have hw0 := within_is b0
  have hw1 := within_is b1
  have hw2 := within_is b2
  have hw3 := within_is b3
  clear b0 b1 b2 b3
  go_enter Tryd.func38, Tryd.ntmps38
  go_wp2_with fail
  refine (hw0 _).mono ?_
  rintro e w' ⟨rfl, rfl⟩
  clear hw0
  go_wp2_with fail
  refine (hw1 _).mono ?_
  rintro e w' ⟨rfl, rfl⟩
  clear hw1
  go_wp2_with fail
  refine (hw2 _).mono ?_
  rintro e w' ⟨rfl, rfl⟩
  clear hw2
  go_wp2_with fail
  refine (hw3 _).mono ?_
  rintro e w' ⟨rfl, rfl⟩
  clear hw3
  go_wp2_with fail
  go_ret
  exact ⟨rfl, HB0.out.2⟩

set_option maxRecDepth 100000 in
set_option maxHeartbeats 4000000 in
theorem refCheck_on (x : Cf) (w : World) (hx : Lies x w w.heap.size) (hn : x.n ≤ 1000) (b0 : (decide ((0 : Int) ≤ x.f0) && decide (x.f0 ≤ 6)) = true)  (b1 : (decide ((0 : Int) ≤ x.f1) && decide (x.f1 ≤ 100)) = true)  (b2 : (decide ((0 : Int) ≤ x.f2) && decide (x.f2 ≤ 3)) = true)  (b3 : (decide ((0 : Int) ≤ x.f3) && decide (x.f3 ≤ 3)) = true) : Calls Tryd.prog 38 #[x.v] w (IntPost (er (may x)) w) := by
  have HX := Lib.hid hx
  have HB0 := Lib.hid (InBox.new x w)
  have hw0 := within_is b0
  have hw1 := within_is b1
  have hw2 := within_is b2
  have hw3 := within_is b3
  clear hx
  have HY0 := Lib.hid (in_yes b0)
  have HY1 := Lib.hid (in_yes b1)
  have HY2 := Lib.hid (in_yes b2)
  have HY3 := Lib.hid (in_yes b3)
  clear b0 b1 b2 b3
  go_enter Tryd.func38, Tryd.ntmps38
  go_wp2_with fail
  refine (hw0 _).mono ?_
  rintro e w' ⟨rfl, rfl⟩
  clear hw0
  go_wp2_with fail
  refine (hw1 _).mono ?_
  rintro e w' ⟨rfl, rfl⟩
  clear hw1
  go_wp2_with fail
  refine (hw2 _).mono ?_
  rintro e w' ⟨rfl, rfl⟩
  clear hw2
  go_wp2_with fail
  refine (hw3 _).mono ?_
  rintro e w' ⟨rfl, rfl⟩
  clear hw3
  go_wp2_with fail
  have hC0 : ChkAt x w ((w.alloc (.cells x.cells 24)).alloc (.cells #[.int .i64 x.f4, .int .i64 x.f5, .int .i64 x.f6, .int .i64 x.f7, .int .i64 x.f11] 53)) := by
    refine ⟨HB0.out.under ((Below.refl _ _).alloc (Nat.le_refl _) _), ?_⟩
    have := Whole.new (w.alloc (.cells x.cells 24)) 53 #[.int .i64 x.f4, .int .i64 x.f5, .int .i64 x.f6, .int .i64 x.f7, .int .i64 x.f11]
    rwa [World.size_alloc] at this
  have HC0 := Lib.hid hC0
  clear hC0 HB0
  go_loopw [4] (fun i wr => ∃ j : Nat, i = .int .i64 (j : Int) ∧ j ≤ 5 ∧ (∀ q, q < j → 0 ≤ wt x q ∧ wt x q ≤ 20) ∧ ChkAt x w wr) (fun i _ => 5 - (intOf i).toNat)
  case atStart => exact ⟨0, rfl, by omega, fun q h => absurd h (by omega), HC0.out⟩
  case round =>
    obtain ⟨j, rfl, hj, hall, hC⟩ := hrel
    clear HC0
    have HAll := Lib.hid hall
    have HC := Lib.hid hC
    clear hall hC
    by_cases hlt : j < 5
    · have hcell := wt_cell HC.out hlt
      have hji : (j : Int) < 5 := by omega
      have HN := Lib.hid (not_wt (x := x) hlt)
      obtain ⟨z, hz⟩ : ∃ z, wt x j = z := ⟨_, rfl⟩
      rw [hz] at hcell HN
      have HZ := Lib.hid hz
      clear hz
      by_cases bz : (decide ((0 : Int) ≤ z) && decide (z ≤ 20)) = true
      · have hwz := within_is bz
        have HBz := Lib.hid (in_yes bz)
        clear bz
        go_wp2_with fail
        refine (hwz _).mono ?_
        rintro e w' ⟨rfl, rfl⟩
        go_wp2_with fail
        go_roundw
        case rel =>
          refine ⟨j + 1, by go_num, by omega, fun q hq => ?_, HC.out⟩
          rcases (by omega : q < j ∨ q = j) with h | rfl
          · exact HAll.out q h
          · rw [HZ.out]; exact HBz.out
        case measure => simp [intOf]; omega
      · have bz' : (decide ((0 : Int) ≤ z) && decide (z ≤ 20)) = false := by simpa using bz
        have hwz := within_is bz'
        have HM := Lib.hid (HN.out (in_no bz'))
        clear bz bz'
        go_wp2_with fail
        refine (hwz _).mono ?_
        rintro e w' ⟨rfl, rfl⟩
        go_wp2_with fail
        go_ret
        exact ⟨by rw [HM.out]; rfl, HC.out.box.2⟩
    · obtain rfl : j = 5 := by omega
      clear hlt hj
      obtain ⟨c0, c1, c2, c3, c4, c5, c6, c7, c8, c9, c10, c11, c12, c13, c14⟩ := HC.out.box.1.conf
      by_cases b8 : (decide ((1 : Int) ≤ x.f8) && decide (x.f8 ≤ 20)) = true
      rotate_left
      · have b8' : (decide ((1 : Int) ≤ x.f8) && decide (x.f8 ≤ 20)) = false := by simpa using b8
        have HM := Lib.hid (not_inB (x := x) (k := 8) (by omega) (in_no b8'))
        have hw8 := within_is b8'
        clear b8 b8'
        go_wp2_with fail
        refine (hw8 _).mono ?_
        rintro e w' ⟨rfl, rfl⟩
        clear hw8
        go_wp2_with fail
        go_ret
        exact ⟨by rw [HM.out]; rfl, HC.out.box.2⟩
      by_cases b9 : (decide ((1 : Int) ≤ x.f9) && decide (x.f9 ≤ 20)) = true
      rotate_left
      · have b9' : (decide ((1 : Int) ≤ x.f9) && decide (x.f9 ≤ 20)) = false := by simpa using b9
        have HM := Lib.hid (not_inB (x := x) (k := 9) (by omega) (in_no b9'))
        have hw8 := within_is b8
        have hw9 := within_is b9'
        clear b8 b9 b9'
        go_wp2_with fail
        refine (hw8 _).mono ?_
        rintro e w' ⟨rfl, rfl⟩
        clear hw8
        go_wp2_with fail
        refine (hw9 _).mono ?_
        rintro e w' ⟨rfl, rfl⟩
        clear hw9
        go_wp2_with fail
        go_ret
        exact ⟨by rw [HM.out]; rfl, HC.out.box.2⟩
      by_cases b10 : (decide ((1 : Int) ≤ x.f10) && decide (x.f10 ≤ 20)) = true
      rotate_left
      · have b10' : (decide ((1 : Int) ≤ x.f10) && decide (x.f10 ≤ 20)) = false := by simpa using b10
        have HM := Lib.hid (not_inB (x := x) (k := 10) (by omega) (in_no b10'))
        have hw8 := within_is b8
        have hw9 := within_is b9
        have hw10 := within_is b10'
        clear b8 b9 b10 b10'
        go_wp2_with fail
        refine (hw8 _).mono ?_
        rintro e w' ⟨rfl, rfl⟩
        clear hw8
        go_wp2_with fail
        refine (hw9 _).mono ?_
        rintro e w' ⟨rfl, rfl⟩
        clear hw9
        go_wp2_with fail
        refine (hw10 _).mono ?_
        rintro e w' ⟨rfl, rfl⟩
        clear hw10
        go_wp2_with fail
        go_ret
        exact ⟨by rw [HM.out]; rfl, HC.out.box.2⟩
      by_cases b12 : (decide ((1 : Int) ≤ x.f12) && decide (x.f12 ≤ 1099511627776)) = true
      rotate_left
      · have b12' : (decide ((1 : Int) ≤ x.f12) && decide (x.f12 ≤ 1099511627776)) = false := by simpa using b12
        have HM := Lib.hid (not_inB (x := x) (k := 12) (by omega) (in_no b12'))
        have hw8 := within_is b8
        have hw9 := within_is b9
        have hw10 := within_is b10
        have hw12 := within_is b12'
        clear b8 b9 b10 b12 b12'
        go_wp2_with fail
        refine (hw8 _).mono ?_
        rintro e w' ⟨rfl, rfl⟩
        clear hw8
        go_wp2_with fail
        refine (hw9 _).mono ?_
        rintro e w' ⟨rfl, rfl⟩
        clear hw9
        go_wp2_with fail
        refine (hw10 _).mono ?_
        rintro e w' ⟨rfl, rfl⟩
        clear hw10
        go_wp2_with fail
        refine (hw12 _).mono ?_
        rintro e w' ⟨rfl, rfl⟩
        clear hw12
        go_wp2_with fail
        go_ret
        exact ⟨by rw [HM.out]; rfl, HC.out.box.2⟩
      have hw8 := within_is b8
      have hw9 := within_is b9
      have hw10 := within_is b10
      have hw12 := within_is b12
      have HY8 := Lib.hid (in_yes b8)
      have HY9 := Lib.hid (in_yes b9)
      have HY10 := Lib.hid (in_yes b10)
      have HY12 := Lib.hid (in_yes b12)
      clear b8 b9 b10 b12
      have hall := HAll.out
      have HIn := Lib.hid (show inB x = true from inB_iff.2 ⟨⟨HY0.out, HY1.out, HY2.out, HY3.out⟩, ⟨hall 0 (by omega), hall 1 (by omega), hall 2 (by omega), hall 3 (by omega)⟩, HY8.out, HY9.out, HY10.out, hall 4 (by omega), HY12.out⟩)
      clear hall HAll HY0 HY1 HY2 HY3 HY8 HY9 HY10 HY12
      by_cases h4 : x.n ≤ 4
      rotate_left
      · have h4i : (4 : Int) < (x.n : Int) := by omega
        have HM : Hid (may x = false) := Lib.hid (may_no_marks (by unfold marksB; rw [decide_eq_false (by rw [HX.out.len]; exact h4)]; rfl))
        go_wp2_with fail
        refine (hw8 _).mono ?_
        rintro e w' ⟨rfl, rfl⟩
        clear hw8
        go_wp2_with fail
        refine (hw9 _).mono ?_
        rintro e w' ⟨rfl, rfl⟩
        clear hw9
        go_wp2_with fail
        refine (hw10 _).mono ?_
        rintro e w' ⟨rfl, rfl⟩
        clear hw10
        go_wp2_with fail
        refine (hw12 _).mono ?_
        rintro e w' ⟨rfl, rfl⟩
        clear hw12
        go_wp2_with fail
        go_ret
        exact ⟨by rw [HM.out]; rfl, HC.out.box.2⟩
      have h4i : ¬ (4 : Int) < (x.n : Int) := by omega
      go_wp2_with fail
      refine (hw8 _).mono ?_
      rintro e w' ⟨rfl, rfl⟩
      clear hw8
      go_wp2_with fail
      refine (hw9 _).mono ?_
      rintro e w' ⟨rfl, rfl⟩
      clear hw9
      go_wp2_with fail
      refine (hw10 _).mono ?_
      rintro e w' ⟨rfl, rfl⟩
      clear hw10
      go_wp2_with fail
      refine (hw12 _).mono ?_
      rintro e w' ⟨rfl, rfl⟩
      clear hw12
      go_wp2_with fail
      clear c0 c1 c2 c3 c4 c5 c6 c7 c8 c9 c10 c11 c12 c13 c14
      have HC1 := Lib.hid HC.out.box
      clear HC
      go_loopw [5] (fun i wr => ∃ (j : Nat) (last : Int) (rest : List Int), i = .int .i64 (j : Int) ∧ j ≤ x.n ∧ rest = x.ms.drop j ∧ upB 0 x.ms = upB last rest ∧ 0 ≤ last ∧ (j = 0 → last = 0) ∧ (∀ q, j = q + 1 → x.ms[q]? = some last) ∧ InBox x w wr) (fun i _ => x.n - (intOf i).toNat)
      case atStart => exact ⟨0, 0, x.ms, rfl, Nat.zero_le _, rfl, rfl, Int.le_refl _, fun _ => rfl, fun q h => absurd h (by omega), HC1.out⟩
      case round =>
        obtain ⟨j, last, rest, rfl, hj, hrest, hup, hl0, hlz, hlast, hbx⟩ := hrel
        clear HC1
        have HRs := Lib.hid hrest
        have HU := Lib.hid hup
        have HLz := Lib.hid hlz
        have HLa := Lib.hid hlast
        have HBx := Lib.hid hbx
        have HMk : Hid (marksB x.ms = upB 0 x.ms) := Lib.hid (by unfold marksB; rw [decide_eq_true (by rw [HX.out.len]; exact h4)]; rfl)
        have k14 := HBx.out.1.cell 14
        simp only [List.getElem?_toArray, List.getElem?_cons_zero, List.getElem?_cons_succ] at k14
        clear hrest hup hlz hlast hbx
        by_cases hlt : j < x.n
        · have hji : (j : Int) < (x.n : Int) := by omega
          have hjl : j < x.ms.length := by rw [HX.out.len]; exact hlt
          obtain ⟨m, hm⟩ : ∃ m, x.ms[j]? = some m := ⟨_, List.getElem?_eq_getElem hjl⟩
          have hrd := (HX.out.below HBx.out.2).rd
          obtain ⟨b, off, hA, _, hc⟩ := hrd.2 (by omega)
          have hcell := hc j hlt
          rw [show (iv x.ms)[j]? = some (.int .i64 m) by simp [iv, hm]] at hcell
          have hd : x.ms.drop j = m :: x.ms.drop (j + 1) := by
            rw [List.drop_eq_getElem_cons hjl]
            rw [List.getElem?_eq_getElem hjl] at hm
            rw [Option.some.inj hm]
          have HD := Lib.hid (HRs.out.trans hd)
          have HM0 := Lib.hid hm
          have HRd := Lib.hid hc
          rw [hA] at k14
          clear hm hd hrd hc hjl hA
          by_cases bz : (decide ((1 : Int) ≤ m) && decide (m ≤ 100)) = true
          rotate_left
          · have bz' : (decide ((1 : Int) ≤ m) && decide (m ≤ 100)) = false := by simpa using bz
            have hwz := within_is bz'
            have HMay : Hid (may x = false) := Lib.hid (may_no_marks (by
              rw [HMk.out, HU.out, HD.out]
              rcases in_no bz' with h | h
              · exact upB_last (by omega)
              · exact upB_big h))
            clear bz bz'
            go_wp2_with fail
            go_quiet ((go_at_call 61; exact (hwz _).mono (by rintro e w1 ⟨rfl, rfl⟩; exact ⟨rfl, _, rfl⟩)))
            go_wp2_with fail
            go_ret
            exact ⟨by rw [HMay.out]; rfl, below_drewN HBx.out.2 _⟩
          have hwz := within_is bz
          have HBz := Lib.hid (in_yes bz)
          clear bz
          cases j with
          | zero =>
            have hlast0 : last = 0 := HLz.out rfl
            have HQ : Hid (∀ q, 0 + 1 = q + 1 → x.ms[q]? = some m) := Lib.hid (fun q hq => by
              have e : q = 0 := by omega
              rw [e]; exact HM0.out)
            rw [Nat.add_zero] at hcell
            have h0n : (0 : Int) < (x.n : Int) := by omega
            have HUn := Lib.hid (HU.out.trans ((congrArg (upB last) HD.out).trans (upB_next (r := x.ms.drop (0 + 1)) (by have := HBz.out.1; omega) HBz.out.2)))
            go_wp2_with fail
            go_quiet ((go_at_call 61; exact (hwz _).mono (by rintro e w1 ⟨rfl, rfl⟩; exact ⟨rfl, _, rfl⟩)))
            go_wp2_with fail
            go_roundw
            case rel => exact ⟨1, m, _, by go_num, by omega, rfl, HUn.out, by have := HBz.out.1; omega, fun h => absurd h (by omega), HQ.out, ⟨HBx.out.1, below_drewN HBx.out.2 _⟩⟩
            case measure => simp [intOf]; omega
          | succ i =>
            have hli := HLa.out i rfl
            have HQ : Hid (∀ q, i + 1 + 1 = q + 1 → x.ms[q]? = some m) := Lib.hid (fun q hq => by
              have e : q = i + 1 := by omega
              rw [e]; exact HM0.out)
            have hcell2 := HRd.out i (by omega)
            rw [show (iv x.ms)[i]? = some (.int .i64 last) by simp [iv, hli]] at hcell2
            have hii : (i : Int) < (x.n : Int) := by omega
            have hwr : IntKind.i64.wrap (i : Int) = (i : Int) := by rw [IntKind.wrap_i64]; omega
            have hpos : (0 : Int) < (i : Int) + 1 := by omega
            have hI1 : (i : Int) + 1 < (x.n : Int) := by omega
            have hI0 : (0 : Int) ≤ (i : Int) + 1 := by omega
            clear hli
            by_cases hge : m ≤ last
            · have HMay : Hid (may x = false) := Lib.hid (may_no_marks (by rw [HMk.out, HU.out, HD.out]; exact upB_last hge))
              have hgd : decide (m ≤ last) = true := decide_eq_true hge
              go_wp2_with fail
              go_quiet ((go_at_call 61; exact (hwz _).mono (by rintro e w1 ⟨rfl, rfl⟩; exact ⟨rfl, _, rfl⟩)))
              go_wp2_with fail
              go_ret
              exact ⟨by rw [HMay.out]; rfl, below_drewN HBx.out.2 _⟩
            · have HUn := Lib.hid (HU.out.trans ((congrArg (upB last) HD.out).trans (upB_next (r := x.ms.drop (i + 1 + 1)) (by omega) HBz.out.2)))
              have hgd : decide (m ≤ last) = false := decide_eq_false hge
              go_wp2_with fail
              go_quiet ((go_at_call 61; exact (hwz _).mono (by rintro e w1 ⟨rfl, rfl⟩; exact ⟨rfl, _, rfl⟩)))
              go_wp2_with fail
              go_roundw
              case rel => exact ⟨i + 1 + 1, m, _, by go_num, by omega, rfl, HUn.out, by have := HBz.out.1; omega, fun h => absurd h (by omega), HQ.out, ⟨HBx.out.1, below_drewN HBx.out.2 _⟩⟩
              case measure => simp [intOf]; omega
        · have hji : ¬ (j : Int) < (x.n : Int) := by omega
          have HMy : Hid (may x = roomB x) := Lib.hid (by
            unfold may
            rw [HIn.out, HMk.out, HU.out, HRs.out, List.drop_of_length_le (by rw [HX.out.len]; omega)]
            rfl)
          obtain ⟨p0, p1, p2, p3⟩ := fl_bd HIn.out
          obtain ⟨⟨⟨a0, a1⟩, _, ⟨g0, g1⟩, _⟩, _⟩ := inB_iff.1 HIn.out
          clear p0 p1
          have HF := Lib.hid (refFloor_any x HIn.out)
          obtain ⟨c0, c1, c2, c3, c4, c5, c6, c7, c8, c9, c10, c11, c12, c13, c14⟩ := HBx.out.1.conf
          by_cases h0 : x.f0 = 0
          · have h0i : ¬ (0 : Int) < x.f0 := by omega
            have h0d : decide ((0 : Int) < x.f0) = false := decide_eq_false h0i
            have HR : Hid (may x = true) := Lib.hid (by rw [HMy.out]; unfold roomB; rw [decide_eq_true h0]; rfl)
            go_wp2_with fail
            go_quiet (fail)
            go_wp2_with fail
            go_ret
            exact ⟨by rw [HR.out]; rfl, below_drewN HBx.out.2 _⟩
          · have h0i : (0 : Int) < x.f0 := by omega
            have h0d : decide ((0 : Int) < x.f0) = true := decide_eq_true h0i
            have HR : Hid (may x = decide (1 ≤ x.f2 + x.f0 - fl x)) := Lib.hid (by rw [HMy.out]; unfold roomB; rw [decide_eq_false h0]; rfl)
            have hw1 : IntKind.i64.wrap (x.f2 + x.f0) = x.f2 + x.f0 := by rw [IntKind.wrap_i64]; omega
            have hw2 : IntKind.i64.wrap (x.f2 + x.f0 - fl x) = x.f2 + x.f0 - fl x := by rw [IntKind.wrap_i64]; omega
            have HCd : Hid (InBox x w wr.drew) := Lib.hid HBx.out.drew
            clear k14 c0 c1 c2 c3 c4 c5 c6 c7 c8 c9 c10 c11 c12 c13 c14
            by_cases hr : 1 ≤ x.f2 + x.f0 - fl x
            · have hrd : decide (x.f2 + x.f0 - fl x < 1) = false := decide_eq_false (by omega)
              have HRt := Lib.hid (HR.out.trans (decide_eq_true hr))
              obtain ⟨c0, c1, c2, c3, c4, c5, c6, c7, c8, c9, c10, c11, c12, c13, c14⟩ := HBx.out.1.conf
              go_wp2_with fail
              clear c0 c1 c2 c3 c4 c5 c6 c7 c8 c9 c10 c11 c12 c13 c14
              have HC := HCd
              have HL := Lib.hid (fun W' (hW : InBox x w W') => hW.1.conf)
              refine wp_region_held_drew (S := InBox x w) (by kernel_rfl) HC.out (fun _ => ?_)
              refine takeH (i := 0) (v := ?_) rfl (by kernel_rfl) (by kernel_rfl) (by kernel_rfl) (fun _ _ _ h => by first | exact h | exact h.elim | exact nomatch h.1) (by rfl) ?_ HC.out ?_
              rotate_left
              · intro W' hW; obtain ⟨c0, c1, c2, c3, c4, c5, c6, c7, c8, c9, c10, c11, c12, c13, c14⟩ := HL.out W' hW; go_simp <;> with_reducible rfl
              simp only [Act.put, List.setIfInBounds_toArray, List.set_cons_zero, List.set_cons_succ]
              refine takeH (i := 1) (v := ?_) rfl (by kernel_rfl) (by kernel_rfl) (by kernel_rfl) (fun _ _ _ h => by first | exact h | exact h.elim | exact nomatch h.1) (by rfl) ?_ HC.out ?_
              rotate_left
              · intro W' hW; obtain ⟨c0, c1, c2, c3, c4, c5, c6, c7, c8, c9, c10, c11, c12, c13, c14⟩ := HL.out W' hW; go_simp <;> with_reducible rfl
              simp only [Act.put, List.setIfInBounds_toArray, List.set_cons_zero, List.set_cons_succ]
              refine takeH (i := 2) (v := ?_) rfl (by kernel_rfl) (by kernel_rfl) (by kernel_rfl) (fun _ _ _ h => by first | exact h | exact h.elim | exact nomatch h.1) (by rfl) ?_ HC.out ?_
              rotate_left
              · intro W' hW; obtain ⟨c0, c1, c2, c3, c4, c5, c6, c7, c8, c9, c10, c11, c12, c13, c14⟩ := HL.out W' hW; go_simp <;> with_reducible rfl
              simp only [Act.put, List.setIfInBounds_toArray, List.set_cons_zero, List.set_cons_succ]
              refine takeH (i := 3) (v := ?_) rfl (by kernel_rfl) (by kernel_rfl) (by kernel_rfl) (fun _ _ _ h => by first | exact h | exact h.elim | exact nomatch h.1) (by rfl) ?_ HC.out ?_
              rotate_left
              · intro W' hW; obtain ⟨c0, c1, c2, c3, c4, c5, c6, c7, c8, c9, c10, c11, c12, c13, c14⟩ := HL.out W' hW; go_simp <;> with_reducible rfl
              simp only [Act.put, List.setIfInBounds_toArray, List.set_cons_zero, List.set_cons_succ]
              refine takeH (i := 4) (v := ?_) rfl (by kernel_rfl) (by kernel_rfl) (by kernel_rfl) (fun _ _ _ h => by first | exact h | exact h.elim | exact nomatch h.1) (by rfl) ?_ HC.out ?_
              rotate_left
              · intro W' hW; obtain ⟨c0, c1, c2, c3, c4, c5, c6, c7, c8, c9, c10, c11, c12, c13, c14⟩ := HL.out W' hW; go_simp <;> with_reducible rfl
              simp only [Act.put, List.setIfInBounds_toArray, List.set_cons_zero, List.set_cons_succ]
              refine takeH (i := 5) (v := ?_) rfl (by kernel_rfl) (by kernel_rfl) (by kernel_rfl) (fun _ _ _ h => by first | exact h | exact h.elim | exact nomatch h.1) (by rfl) ?_ HC.out ?_
              rotate_left
              · intro W' hW; obtain ⟨c0, c1, c2, c3, c4, c5, c6, c7, c8, c9, c10, c11, c12, c13, c14⟩ := HL.out W' hW; go_simp <;> with_reducible rfl
              simp only [Act.put, List.setIfInBounds_toArray, List.set_cons_zero, List.set_cons_succ]
              refine takeH (i := 6) (v := ?_) rfl (by kernel_rfl) (by kernel_rfl) (by kernel_rfl) (fun _ _ _ h => by first | exact h | exact h.elim | exact nomatch h.1) (by rfl) ?_ HC.out ?_
              rotate_left
              · intro W' hW; obtain ⟨c0, c1, c2, c3, c4, c5, c6, c7, c8, c9, c10, c11, c12, c13, c14⟩ := HL.out W' hW; go_simp <;> with_reducible rfl
              simp only [Act.put, List.setIfInBounds_toArray, List.set_cons_zero, List.set_cons_succ]
              refine takeH (i := 7) (v := ?_) rfl (by kernel_rfl) (by kernel_rfl) (by kernel_rfl) (fun _ _ _ h => by first | exact h | exact h.elim | exact nomatch h.1) (by rfl) ?_ HC.out ?_
              rotate_left
              · intro W' hW; obtain ⟨c0, c1, c2, c3, c4, c5, c6, c7, c8, c9, c10, c11, c12, c13, c14⟩ := HL.out W' hW; go_simp <;> with_reducible rfl
              simp only [Act.put, List.setIfInBounds_toArray, List.set_cons_zero, List.set_cons_succ]
              refine takeH (i := 8) (v := ?_) rfl (by kernel_rfl) (by kernel_rfl) (by kernel_rfl) (fun _ _ _ h => by first | exact h | exact h.elim | exact nomatch h.1) (by rfl) ?_ HC.out ?_
              rotate_left
              · intro W' hW; obtain ⟨c0, c1, c2, c3, c4, c5, c6, c7, c8, c9, c10, c11, c12, c13, c14⟩ := HL.out W' hW; go_simp <;> with_reducible rfl
              simp only [Act.put, List.setIfInBounds_toArray, List.set_cons_zero, List.set_cons_succ]
              refine takeH (i := 9) (v := ?_) rfl (by kernel_rfl) (by kernel_rfl) (by kernel_rfl) (fun _ _ _ h => by first | exact h | exact h.elim | exact nomatch h.1) (by rfl) ?_ HC.out ?_
              rotate_left
              · intro W' hW; obtain ⟨c0, c1, c2, c3, c4, c5, c6, c7, c8, c9, c10, c11, c12, c13, c14⟩ := HL.out W' hW; go_simp <;> with_reducible rfl
              simp only [Act.put, List.setIfInBounds_toArray, List.set_cons_zero, List.set_cons_succ]
              refine oneH (i := 10) rfl (by kernel_rfl) (by rfl) (fun K hK => ?_)
              go_simp
              go_at_call 47
              refine (HF.out _).mono ?_
              rintro e w1 ⟨rfl, b1⟩
              have HC2 := Lib.hid (HC.out.under b1)
              clear HC
              have HC := HC2
              clear HC2 b1
              refine hK.out _ _ HC.out (fun _ => ?_)
              clear hK K
              refine takeH (i := 11) (v := ?_) rfl (by kernel_rfl) (by kernel_rfl) (by kernel_rfl) (fun _ _ _ h => by first | exact h | exact h.elim | exact nomatch h.1) (by rfl) ?_ HC.out ?_
              rotate_left
              · intro W' hW; obtain ⟨c0, c1, c2, c3, c4, c5, c6, c7, c8, c9, c10, c11, c12, c13, c14⟩ := HL.out W' hW; go_simp <;> with_reducible rfl
              simp only [Act.put, List.setIfInBounds_toArray, List.set_cons_zero, List.set_cons_succ]
              refine takeH (i := 12) (v := ?_) rfl (by kernel_rfl) (by kernel_rfl) (by kernel_rfl) (fun _ _ _ h => by first | exact h | exact h.elim | exact nomatch h.1) (by rfl) ?_ HC.out ?_
              rotate_left
              · intro W' hW; obtain ⟨c0, c1, c2, c3, c4, c5, c6, c7, c8, c9, c10, c11, c12, c13, c14⟩ := HL.out W' hW; go_simp <;> with_reducible rfl
              simp only [Act.put, List.setIfInBounds_toArray, List.set_cons_zero, List.set_cons_succ]
              refine takeH (i := 13) (v := ?_) rfl (by kernel_rfl) (by kernel_rfl) (by kernel_rfl) (fun _ _ _ h => by first | exact h | exact h.elim | exact nomatch h.1) (by rfl) ?_ HC.out ?_
              rotate_left
              · intro W' hW; obtain ⟨c0, c1, c2, c3, c4, c5, c6, c7, c8, c9, c10, c11, c12, c13, c14⟩ := HL.out W' hW; go_simp <;> with_reducible rfl
              simp only [Act.put, List.setIfInBounds_toArray, List.set_cons_zero, List.set_cons_succ]
              refine wpAnyH_done (by kernel_rfl) ?_ _
              go_wp2_with fail
              go_ret
              exact ⟨by rw [HRt.out]; rfl, HC.out.2⟩
            · have hrd : decide (x.f2 + x.f0 - fl x < 1) = true := decide_eq_true (by omega)
              have HRt := Lib.hid (HR.out.trans (decide_eq_false hr))
              obtain ⟨c0, c1, c2, c3, c4, c5, c6, c7, c8, c9, c10, c11, c12, c13, c14⟩ := HBx.out.1.conf
              go_wp2_with fail
              clear c0 c1 c2 c3 c4 c5 c6 c7 c8 c9 c10 c11 c12 c13 c14
              have HC := HCd
              have HL := Lib.hid (fun W' (hW : InBox x w W') => hW.1.conf)
              refine wp_region_held_drew (S := InBox x w) (by kernel_rfl) HC.out (fun _ => ?_)
              refine takeH (i := 0) (v := ?_) rfl (by kernel_rfl) (by kernel_rfl) (by kernel_rfl) (fun _ _ _ h => by first | exact h | exact h.elim | exact nomatch h.1) (by rfl) ?_ HC.out ?_
              rotate_left
              · intro W' hW; obtain ⟨c0, c1, c2, c3, c4, c5, c6, c7, c8, c9, c10, c11, c12, c13, c14⟩ := HL.out W' hW; go_simp <;> with_reducible rfl
              simp only [Act.put, List.setIfInBounds_toArray, List.set_cons_zero, List.set_cons_succ]
              refine takeH (i := 1) (v := ?_) rfl (by kernel_rfl) (by kernel_rfl) (by kernel_rfl) (fun _ _ _ h => by first | exact h | exact h.elim | exact nomatch h.1) (by rfl) ?_ HC.out ?_
              rotate_left
              · intro W' hW; obtain ⟨c0, c1, c2, c3, c4, c5, c6, c7, c8, c9, c10, c11, c12, c13, c14⟩ := HL.out W' hW; go_simp <;> with_reducible rfl
              simp only [Act.put, List.setIfInBounds_toArray, List.set_cons_zero, List.set_cons_succ]
              refine takeH (i := 2) (v := ?_) rfl (by kernel_rfl) (by kernel_rfl) (by kernel_rfl) (fun _ _ _ h => by first | exact h | exact h.elim | exact nomatch h.1) (by rfl) ?_ HC.out ?_
              rotate_left
              · intro W' hW; obtain ⟨c0, c1, c2, c3, c4, c5, c6, c7, c8, c9, c10, c11, c12, c13, c14⟩ := HL.out W' hW; go_simp <;> with_reducible rfl
              simp only [Act.put, List.setIfInBounds_toArray, List.set_cons_zero, List.set_cons_succ]
              refine takeH (i := 3) (v := ?_) rfl (by kernel_rfl) (by kernel_rfl) (by kernel_rfl) (fun _ _ _ h => by first | exact h | exact h.elim | exact nomatch h.1) (by rfl) ?_ HC.out ?_
              rotate_left
              · intro W' hW; obtain ⟨c0, c1, c2, c3, c4, c5, c6, c7, c8, c9, c10, c11, c12, c13, c14⟩ := HL.out W' hW; go_simp <;> with_reducible rfl
              simp only [Act.put, List.setIfInBounds_toArray, List.set_cons_zero, List.set_cons_succ]
              refine takeH (i := 4) (v := ?_) rfl (by kernel_rfl) (by kernel_rfl) (by kernel_rfl) (fun _ _ _ h => by first | exact h | exact h.elim | exact nomatch h.1) (by rfl) ?_ HC.out ?_
              rotate_left
              · intro W' hW; obtain ⟨c0, c1, c2, c3, c4, c5, c6, c7, c8, c9, c10, c11, c12, c13, c14⟩ := HL.out W' hW; go_simp <;> with_reducible rfl
              simp only [Act.put, List.setIfInBounds_toArray, List.set_cons_zero, List.set_cons_succ]
              refine takeH (i := 5) (v := ?_) rfl (by kernel_rfl) (by kernel_rfl) (by kernel_rfl) (fun _ _ _ h => by first | exact h | exact h.elim | exact nomatch h.1) (by rfl) ?_ HC.out ?_
              rotate_left
              · intro W' hW; obtain ⟨c0, c1, c2, c3, c4, c5, c6, c7, c8, c9, c10, c11, c12, c13, c14⟩ := HL.out W' hW; go_simp <;> with_reducible rfl
              simp only [Act.put, List.setIfInBounds_toArray, List.set_cons_zero, List.set_cons_succ]
              refine takeH (i := 6) (v := ?_) rfl (by kernel_rfl) (by kernel_rfl) (by kernel_rfl) (fun _ _ _ h => by first | exact h | exact h.elim | exact nomatch h.1) (by rfl) ?_ HC.out ?_
              rotate_left
              · intro W' hW; obtain ⟨c0, c1, c2, c3, c4, c5, c6, c7, c8, c9, c10, c11, c12, c13, c14⟩ := HL.out W' hW; go_simp <;> with_reducible rfl
              simp only [Act.put, List.setIfInBounds_toArray, List.set_cons_zero, List.set_cons_succ]
              refine takeH (i := 7) (v := ?_) rfl (by kernel_rfl) (by kernel_rfl) (by kernel_rfl) (fun _ _ _ h => by first | exact h | exact h.elim | exact nomatch h.1) (by rfl) ?_ HC.out ?_
              rotate_left
              · intro W' hW; obtain ⟨c0, c1, c2, c3, c4, c5, c6, c7, c8, c9, c10, c11, c12, c13, c14⟩ := HL.out W' hW; go_simp <;> with_reducible rfl
              simp only [Act.put, List.setIfInBounds_toArray, List.set_cons_zero, List.set_cons_succ]
              refine takeH (i := 8) (v := ?_) rfl (by kernel_rfl) (by kernel_rfl) (by kernel_rfl) (fun _ _ _ h => by first | exact h | exact h.elim | exact nomatch h.1) (by rfl) ?_ HC.out ?_
              rotate_left
              · intro W' hW; obtain ⟨c0, c1, c2, c3, c4, c5, c6, c7, c8, c9, c10, c11, c12, c13, c14⟩ := HL.out W' hW; go_simp <;> with_reducible rfl
              simp only [Act.put, List.setIfInBounds_toArray, List.set_cons_zero, List.set_cons_succ]
              refine takeH (i := 9) (v := ?_) rfl (by kernel_rfl) (by kernel_rfl) (by kernel_rfl) (fun _ _ _ h => by first | exact h | exact h.elim | exact nomatch h.1) (by rfl) ?_ HC.out ?_
              rotate_left
              · intro W' hW; obtain ⟨c0, c1, c2, c3, c4, c5, c6, c7, c8, c9, c10, c11, c12, c13, c14⟩ := HL.out W' hW; go_simp <;> with_reducible rfl
              simp only [Act.put, List.setIfInBounds_toArray, List.set_cons_zero, List.set_cons_succ]
              refine oneH (i := 10) rfl (by kernel_rfl) (by rfl) (fun K hK => ?_)
              go_simp
              go_at_call 47
              refine (HF.out _).mono ?_
              rintro e w1 ⟨rfl, b1⟩
              have HC2 := Lib.hid (HC.out.under b1)
              clear HC
              have HC := HC2
              clear HC2 b1
              refine hK.out _ _ HC.out (fun _ => ?_)
              clear hK K
              refine takeH (i := 11) (v := ?_) rfl (by kernel_rfl) (by kernel_rfl) (by kernel_rfl) (fun _ _ _ h => by first | exact h | exact h.elim | exact nomatch h.1) (by rfl) ?_ HC.out ?_
              rotate_left
              · intro W' hW; obtain ⟨c0, c1, c2, c3, c4, c5, c6, c7, c8, c9, c10, c11, c12, c13, c14⟩ := HL.out W' hW; go_simp <;> with_reducible rfl
              simp only [Act.put, List.setIfInBounds_toArray, List.set_cons_zero, List.set_cons_succ]
              refine takeH (i := 12) (v := ?_) rfl (by kernel_rfl) (by kernel_rfl) (by kernel_rfl) (fun _ _ _ h => by first | exact h | exact h.elim | exact nomatch h.1) (by rfl) ?_ HC.out ?_
              rotate_left
              · intro W' hW; obtain ⟨c0, c1, c2, c3, c4, c5, c6, c7, c8, c9, c10, c11, c12, c13, c14⟩ := HL.out W' hW; go_simp <;> with_reducible rfl
              simp only [Act.put, List.setIfInBounds_toArray, List.set_cons_zero, List.set_cons_succ]
              refine takeH (i := 13) (v := ?_) rfl (by kernel_rfl) (by kernel_rfl) (by kernel_rfl) (fun _ _ _ h => by first | exact h | exact h.elim | exact nomatch h.1) (by rfl) ?_ HC.out ?_
              rotate_left
              · intro W' hW; obtain ⟨c0, c1, c2, c3, c4, c5, c6, c7, c8, c9, c10, c11, c12, c13, c14⟩ := HL.out W' hW; go_simp <;> with_reducible rfl
              simp only [Act.put, List.setIfInBounds_toArray, List.set_cons_zero, List.set_cons_succ]
              refine wpAnyH_done (by kernel_rfl) ?_ _
              go_wp2_with fail
              go_ret
              exact ⟨by rw [HRt.out]; rfl, HC.out.2⟩

set_option maxRecDepth 100000 in
/-- Which groups may be. -/
theorem refCheck_any (x : Cf) (B : Nat) (w : World) (hx : Lies x w B) (hB : B ≤ w.heap.size) (hn : x.n ≤ 1000) : Calls Tryd.prog 38 #[x.v] w (IntPost (er (may x)) w) := by
  have no : ∀ k, k < 13 → (decide (loB k ≤ x.at k) && decide (x.at k ≤ hiB k)) = false → may x = false := fun k hk h => not_inB hk (in_no h)
  by_cases b0 : (decide ((0 : Int) ≤ x.f0) && decide (x.f0 ≤ 6)) = true
  · by_cases b1 : (decide ((0 : Int) ≤ x.f1) && decide (x.f1 ≤ 100)) = true
    · by_cases b2 : (decide ((0 : Int) ≤ x.f2) && decide (x.f2 ≤ 3)) = true
      · by_cases b3 : (decide ((0 : Int) ≤ x.f3) && decide (x.f3 ≤ 3)) = true
        · exact refCheck_on x w (hx.more hB) hn b0 b1 b2 b3
        · have b := Bool.eq_false_iff.2 b3
          rw [no 3 (by omega) b]
          exact refCheck_no3 x w b0 b1 b2 b
      · have b := Bool.eq_false_iff.2 b2
        rw [no 2 (by omega) b]
        exact refCheck_no2 x w b0 b1 b
    · have b := Bool.eq_false_iff.2 b1
      rw [no 1 (by omega) b]
      exact refCheck_no1 x w b0 b
  · have b := Bool.eq_false_iff.2 b0
    rw [no 0 (by omega) b]
    exact refCheck_no0 x w b

end Go.Proofs.YtplejbgecihnpaaDoor

namespace Go.Proofs.YtplejbgecihnpaaDoor
open Go.RowKit Go.Shelf
attribute [local go_sem] Oper.semAt_some

end Go.Proofs.YtplejbgecihnpaaDoor

namespace Go.Proofs.YtplejbgecihnpaaDoor
open Go.RowKit Go.Shelf

set_option maxRecDepth 100000 in
set_option maxHeartbeats 1000000 in
theorem refBoundC_any (x : Cf) (w : World) (h : Lies x w w.heap.size) (hn : x.n ≤ 1000) : Calls Tryd.prog 28 #[x.v] w (IntPost (boundOf x) w) := by
  have hb : Below w.heap.size w (w.alloc (.cells x.cells 24)) := (Below.refl _ w).alloc (Nat.le_refl _) _
  have HR := Lib.hid (refCheck_any x w.heap.size _ (h.below hb) hb.size hn)
  have HB := Lib.hid hb
  have HX := Lib.hid (InBox.new x w)
  clear h hb
  by_cases hm : may x = true
  · rw [hm] at HR
    have HF := Lib.hid (show boundOf x = x.f0 + x.f2 + x.f3 by unfold boundOf; rw [if_pos hm])
    obtain ⟨⟨⟨a0, a1⟩, _, ⟨e0, e1⟩, ⟨g0, g1⟩⟩, _⟩ := inB_iff.1 (may_inB hm)
    have he : er true = 0 := rfl
    rw [he] at HR
    clear hm he
    go_enter Tryd.func28, Tryd.ntmps28
    go_wp2_with fail
    refine (HR.out).mono ?_
    rintro e w1 ⟨rfl, b1⟩
    have HX1 := Lib.hid (HX.out.under b1)
    clear b1 HR HX HB
    obtain ⟨c0, c1, c2, c3, c4, c5, c6, c7, c8, c9, c10, c11, c12, c13, c14⟩ := HX1.out.1.conf
    go_wp2_with fail
    go_ret
    exact ⟨by rw [HF.out]; rfl, HX1.out.2⟩
  · have hm : may x = false := by simpa using hm
    rw [hm] at HR
    have HF := Lib.hid (show boundOf x = 0 by unfold boundOf; rw [hm]; rfl)
    have he : er false = 70 := rfl
    rw [he] at HR
    clear hm he
    go_enter Tryd.func28, Tryd.ntmps28
    go_wp2_with fail
    refine (HR.out).mono ?_
    rintro e w1 ⟨rfl, b1⟩
    have HB1 := Lib.hid (HB.out.trans (b1.mono HB.out.size))
    clear b1 HR
    go_wp2_with fail
    go_ret
    exact ⟨by rw [HF.out]; rfl, HB1.out⟩

end Go.Proofs.YtplejbgecihnpaaDoor

namespace Go.Proofs.YtplejbgecihnpaaDoor
open Go.RowKit Go.Shelf

section
variable {P : Program} {ops : Array Oper} {Q : Exit → Act → World → Prop}
def dstAt (ops : Array Oper) (i : Nat) : Option Tmp := (ops[i]?).bind (·.dst)
/-- Each but the last one has no guard and yields into a slot of its own, one of ds. -/
def growOk (ops : Array Oper) (n : Nat) (ds : List Nat) : Bool :=
  ((List.range n).all fun i => match dstAt ops i with
    | some d => ds.contains d && (List.range n).all fun j => i == j || dstAt ops j != some d
    | none => false) &&
  (((List.range (n + 1)).all fun i => match ops[i]? with
    | some o => o.guard.isNone
    | none => false) &&
  ((match ops[n]? with
    | some o => o.dst.isNone && (List.range n).all fun j => o.after.any fun e => Region.binds .any e && e.on == j
    | none => false) && ops.size == n + 1))
def waits (o : Oper) (j : Nat) : Bool := o.after.any fun e => Region.binds .any e && e.on == j

set_option maxRecDepth 100000 in
theorem region_grow {id : Nat} {a0 : Act} {W : World} (hm : P.follows .mixedOrders = true) (hl : lowOnly ops = true) (n : Nat) (ds : List Nat) (hk : growOk ops n ds = true) (hds : ∀ d ∈ ds, d < a0.tmps.size)
    (R : Nat → Value → World → Prop) (hR : ∀ i v w w', Below w.heap.size w w' → R i v w → R i v w')
    (step : ∀ i o d a w, i < n → ops[i]? = some o → o.dst = some d → Agree ds a0 a → Below W.heap.size W w → (∀ j d', waits o j = true → dstAt ops j = some d' → R j (a.eval (.tmp d')) w) → ∀ K : Act → World → Prop, (∀ v w', Below w.heap.size w w' → R i v w' → K (a.put (some d) v) w') → o.wp P a w K Q)
    (last : ∀ o a w, ops[n]? = some o → Agree ds a0 a → Below W.heap.size W w → (∀ i d, i < n → dstAt ops i = some d → R i (a.eval (.tmp d)) w) → ∀ K : Act → World → Prop, (∀ a' w', Q .normal a' w' → K a' w') → o.wp P a w K Q) : (Code.region id ops true).wp P Q a0 W := by
  unfold growOk at hk
  simp only [Bool.and_eq_true, List.all_eq_true, List.mem_range, beq_iff_eq] at hk
  obtain ⟨h1, h2, h3, hsz⟩ := hk
  have hd : ∀ i, i < n → ∃ d, dstAt ops i = some d ∧ d ∈ ds ∧ ∀ j, j < n → j ≠ i → dstAt ops j ≠ some d := by
    intro i hi
    have := h1 i hi
    split at this
    · rename_i d e
      simp only [Bool.and_eq_true, List.all_eq_true, List.mem_range, Bool.or_eq_true, beq_iff_eq, bne_iff_ne] at this
      refine ⟨d, e, by simpa using this.1, fun j hj hne => ?_⟩
      rcases this.2 j hj with h | h
      · exact absurd h.symm hne
      · exact h
    · cases this
  have hgd : ∀ (i : Nat) (o : Oper), ops[i]? = some o → o.guard = none := by
    intro i o ho
    have hlt := (Array.getElem?_eq_some_iff.1 ho).1
    have := h2 i (by omega)
    rw [ho] at this
    simpa using this
  obtain ⟨ol, hol⟩ : ∃ o : Oper, ops[n]? = some o := ⟨_, Array.getElem?_eq_getElem (by omega)⟩
  rw [hol] at h3
  simp only [Bool.and_eq_true, List.all_eq_true, List.mem_range] at h3
  have run : ∀ {i : Nat} {o : Oper} {K : Act → World → Prop} {a : Act} {w : World}, ops[i]? = some o → o.wp P a w K Q → wpOp P ops Q i K a w := by
    intro i o K a w ho h
    unfold wpOp
    rw [ho]
    dsimp only
    rw [if_pos (by unfold Region.wanted; rw [hgd i o ho])]
    exact .inl h
  refine region_clo hm hl (fun L a w => (L n = true → Q .normal a w) ∧ (L n = false → Agree ds a0 a ∧ Below W.heap.size W w ∧ ∀ i d, i < n → L i = true → dstAt ops i = some d → R i (a.eval (.tmp d)) w)) ⟨fun h => (by cases h), fun _ => ⟨Agree.refl _ _, ⟨rfl, rfl, rfl, Nat.le_refl _, fun _ _ => rfl⟩, fun _ _ _ h => (by cases h)⟩⟩ ?_ (fun L a w hall h => h.1 (hall n (by omega)))
  intro i o L a w ho hi hclo hall h
  have hlt : i < n + 1 := by have := (Array.getElem?_eq_some_iff.1 ho).1; omega
  have hLn : L n = false ∨ L n = true := by cases L n <;> simp
  rcases Nat.lt_or_ge i n with hin | hin
  · have hn0 : L n = false := by
      rcases hLn with h0 | h0
      · exact h0
      · have h4 := h3.2 i hin
        rw [Array.any_eq_true'] at h4
        obtain ⟨e, he, h5⟩ := h4
        simp only [Bool.and_eq_true, beq_iff_eq] at h5
        have := hclo n ol hol h0 e he h5.1
        rw [h5.2, hi] at this
        cases this
    obtain ⟨hag, hbel, hgot⟩ := h.2 hn0
    obtain ⟨d, hdi, hdm, hdne⟩ := hd i hin
    have hdo : o.dst = some d := by unfold dstAt at hdi; rw [ho] at hdi; exact hdi
    refine run ho (step i o d a w hin ho hdo hag hbel (fun j d' hw hj => ?_) _ (fun v w' hb hv => ⟨fun h0 => ?_, fun _ => ⟨hag.put hdm v, hbel.trans (hb.mono hbel.size), fun j d' hj hLj hdj => ?_⟩⟩))
    · unfold waits at hw
      rw [Array.any_eq_true'] at hw
      obtain ⟨e, he, h5⟩ := hw
      simp only [Bool.and_eq_true, beq_iff_eq] at h5
      have h6 := hall e he h5.1
      rw [h5.2] at h6
      have h7 := lowOnly_at hl ho e he h5.1
      exact hgot j d' (by omega) h6 hj
    · replace h0 : (if n = i then true else L n) = true := h0
      rw [if_neg (by omega)] at h0
      rw [hn0] at h0; cases h0
    · by_cases hji : j = i
      · subst hji
        rw [hdi] at hdj
        cases hdj
        rw [eval_new (by rw [hag.size]; exact hds d hdm)]
        exact hv
      · replace hLj : (if j = i then true else L j) = true := hLj
        rw [if_neg hji] at hLj
        rw [eval_old (fun e => hdne j hj hji (by rw [hdj, e]))]
        exact hR j _ _ _ hb (hgot j d' hj hLj hdj)
  · have hin' : i = n := by omega
    subst hin'
    obtain ⟨hag, hbel, hgot⟩ := h.2 hi
    rw [hol] at ho
    cases ho
    refine run hol (last ol a w hol hag hbel (fun j d hj hdj => hgot j d hj ?_ hdj) _ (fun a' w' hq => ⟨fun _ => hq, fun h0 => (by simp at h0)⟩))
    have h4 := h3.2 j hj
    rw [Array.any_eq_true'] at h4
    obtain ⟨e, he, h5⟩ := h4
    simp only [Bool.and_eq_true, beq_iff_eq] at h5
    have := hall e he h5.1
    rw [h5.2] at this
    exact this
end

end Go.Proofs.YtplejbgecihnpaaDoor

namespace Go.Proofs.YtplejbgecihnpaaDoor
open Go.RowKit Go.Shelf

/-- A block of cells of a row with room for cap elements. -/
structure RowIn (w : World) (g : Nat) (e : TypeId) (size cap : Nat) (cs : List Value) : Prop where
  hg : w.heap[g]? = some (.cells cs.toArray e (0, 0))
  len : cs.length = cap * size
  capm : cap ≤ maxLen
/-- One row's block has been edited, and nothing else. -/
structure Edit (g : Nat) (w w' : World) : Prop where
  grown : w.grownBy w' (some g)
  size : w'.heap.size = w.heap.size
set_option maxRecDepth 100000 in
theorem Edit.refl (g : Nat) (w : World) : Edit g w w := ⟨World.grownBy.refl w _, rfl⟩
set_option maxRecDepth 100000 in
theorem Edit.trans {g : Nat} {a b c : World} (h : Edit g a b) (k : Edit g b c) : Edit g a c :=
  ⟨⟨k.grown.os.trans h.grown.os, k.grown.tape.trans h.grown.tape, k.grown.output.trans h.grown.output, by rw [k.size, h.size]; exact Nat.le_refl _, fun i hi hg => (k.grown.block i (by rw [h.size]; exact hi) hg).trans (h.grown.block i hi hg)⟩, by rw [k.size, h.size]⟩
set_option maxRecDepth 100000 in
theorem Edit.drewN (g : Nat) (w : World) (k : Nat) : Edit g w (w.drewN k) := ⟨⟨rfl, rfl, rfl, Nat.le_refl _, fun _ _ _ => rfl⟩, rfl⟩
set_option maxRecDepth 100000 in
theorem RowIn.drewN {w : World} {g : Nat} {e : TypeId} {size cap : Nat} {cs : List Value} (h : RowIn w g e size cap cs) (k : Nat) : RowIn (w.drewN k) g e size cap cs := ⟨h.hg, h.len, h.capm⟩
set_option maxRecDepth 100000 in
theorem RowIn.of_own {w : World} {base n c : Nat} {e : TypeId} {size : Nat} {A : Option Addr} {xs : List Value} (h : w.ownsRow base e size (.slice A n c) n xs) (hn : 0 < n) :
    ∃ g cs, A = some ⟨g, 0, none⟩ ∧ base ≤ g ∧ RowIn w g e size c cs ∧ n ≤ c ∧ cs.take (n * size) = xs := by
  rcases h.2 with ⟨_, rfl⟩ | ⟨g, cap, cur, hv, hb, hg, hnc, hcm, hcs, ht⟩
  · omega
  · injection hv with h1 h2 h3
    subst h1; subst h3
    exact ⟨g, cur.toList, rfl, hb, ⟨by simpa using hg, by simpa using hcs, hcm⟩, hnc, ht⟩
set_option maxRecDepth 100000 in
theorem RowIn.own {w : World} {g cap n base : Nat} {e : TypeId} {size : Nat} {cs xs : List Value} (h : RowIn w g e size cap cs) (hb : base ≤ g) (hn : n ≤ cap) (hl : xs.length = n * size) (ht : cs.take (n * size) = xs) :
    w.ownsRow base e size (.slice (some ⟨g, 0, none⟩) n cap) n xs :=
  ⟨hl, .inr ⟨g, cap, cs.toArray, rfl, hb, h.hg, hn, h.capm, by simpa using h.len, by simpa using ht⟩⟩
set_option maxRecDepth 100000 in
theorem RowIn.put {w : World} {g : Nat} {e : TypeId} {size cap o : Nat} {cs vs : List Value} (h : RowIn w g e size cap cs) (hf : o + vs.length ≤ cs.length) :
    RowIn (w.setRow g (cs.take o ++ vs ++ cs.drop (o + vs.length)).toArray) g e size cap (cs.take o ++ vs ++ cs.drop (o + vs.length)) := by
  refine ⟨setRow_heap w g cs.toArray _ e _ h.hg, ?_, h.capm⟩
  rw [← h.len]
  simp only [List.length_append, List.length_take, List.length_drop]
  omega

section
variable {α : Type} {f : α → List Value} {size : Nat} {P : Program}
end

section
variable {P : Program} {K : Act → World → Prop} {Q : Exit → Act → World → Prop} {a : Act} {w w' : World} {dst : Option Tmp} {u u' t : TypeId} {pos : String} {after : Array Edge} {g : Option (Nat × Bool)} {x y : Operand} {vs vx v' : Value}
end

end Go.Proofs.YtplejbgecihnpaaDoor

namespace Go.Proofs.YtplejbgecihnpaaDoor
open Go.RowKit Go.Shelf

/-- The types of cells that a deed turns. -/
def mutT (t : TypeId) : Bool := t == 30 || (t == 34 || t == 32)
def stayO (o : Obj) : Bool := match o with
  | .cells _ t _ => !mutT t
  | _ => true
/-- What a deed leaves. -/
structure Stp (base : Nat) (w w' : World) : Prop where
  below : Below base w w'
  keeps : ∀ (i : Nat) (o : Obj), w.heap[i]? = some o → stayO o = true → w'.heap[i]? = some o
  brn : ∀ (i : Nat) (cs : Array Value), Whole w i 30 cs → ∃ cs' : Array Value, Whole w' i 30 cs' ∧ cs'.size = cs.size
section
variable {base : Nat} {w w' w'' : World}
set_option maxRecDepth 100000 in
theorem Stp.refl (base : Nat) (w : World) : Stp base w w := ⟨Below.refl _ _, fun _ _ h _ => h, fun _ cs h => ⟨cs, h, rfl⟩⟩
set_option maxRecDepth 100000 in
theorem Stp.trans (h : Stp base w w') (k : Stp base w' w'') : Stp base w w'' := ⟨h.below.trans k.below, fun i o ho hs => k.keeps i o (h.keeps i o ho hs) hs, fun i cs hi => let ⟨cs1, h1, e1⟩ := h.brn i cs hi; let ⟨cs2, h2, e2⟩ := k.brn i cs1 h1; ⟨cs2, h2, e2.trans e1⟩⟩
set_option maxRecDepth 100000 in
theorem Stp.of_below (hb : Below w.heap.size w w') (h : base ≤ w.heap.size) : Stp base w w' :=
  ⟨hb.mono h, fun i _ ho _ => (hb.block i (Array.getElem?_eq_some_iff.1 ho).1).trans ho, fun _ cs hi => ⟨cs, hi.under hb, rfl⟩⟩
set_option maxRecDepth 100000 in
theorem Stp.size (h : Stp base w w') : w.heap.size ≤ w'.heap.size := h.below.size
set_option maxRecDepth 100000 in
theorem Stp.whole (h : Stp base w w') {b : Nat} {t : TypeId} {cs : Array Value} (hw : Whole w b t cs) (ht : mutT t = false) : Whole w' b t cs := h.keeps b _ hw (by simp [stayO, ht])
set_option maxRecDepth 100000 in
/-- A store into a box that holds a brain. -/
theorem Stp.set {g : Nat} {t : TypeId} {cs : Array Value} (hw : Whole w g t cs) (ht : mutT t = true) (hg : base ≤ g) (i : Nat) (v : Value) : Stp base w (w.setCell ⟨g, i, none⟩ v) := by
  refine ⟨(Below.refl base w).setCell (p := ⟨g, i, none⟩) hg v, fun j o ho hs => ?_, fun j cs1 hj => ?_⟩
  rotate_left
  · by_cases e : j = g
    · subst e
      have e1 : cs1 = cs ∧ t = 30 := by
        unfold Whole at hj hw
        rw [hw] at hj
        cases hj
        exact ⟨rfl, rfl⟩
      obtain ⟨rfl, rfl⟩ := e1
      exact ⟨_, hw.set i v, by simp⟩
    · exact ⟨cs1, (Below.heap_setCell w ⟨g, i, none⟩ v j e).trans hj, rfl⟩
  by_cases e : j = g
  · subst e
    unfold Whole at hw
    rw [hw] at ho
    cases ho
    simp [stayO, ht] at hs
  · exact (Below.heap_setCell w ⟨g, i, none⟩ v j e).trans ho
def rowT (t : TypeId) : Bool := t == 34 || t == 32
set_option maxRecDepth 100000 in
/-- A row of one's own, of what is meant or of what is kept, has been edited. -/
theorem Stp.own {e : TypeId} {size n : Nat} {v : Value} {xs : List Value} (ho : w.ownsRow base e size v n xs) (her : rowT e = true) (hB : base ≤ w.heap.size) (hg : w.grownBy w' v.ownBlock) : Stp base w w' := by
  have he : mutT e = true := by
    unfold rowT at her
    unfold mutT
    rw [her, Bool.or_true]
  refine ⟨(Below.refl base w).grown hg hB (fun k e => (ho.lt k e).1), fun j o hj hs => ?_, fun j cs1 hj => ⟨cs1, hj.grown hg (fun e0 => ?_), rfl⟩⟩
  rotate_left
  · rcases ho.2 with ⟨rfl, _⟩ | ⟨g, cap, cur, rfl, hb, hc, _⟩
    · simp [Value.ownBlock] at e0
    · simp only [Value.ownBlock, Option.some.injEq] at e0
      subst e0
      unfold Whole at hj
      rw [hc] at hj
      cases hj
      revert her
      decide
  refine (hg.block j (Array.getElem?_eq_some_iff.1 hj).1 ?_).trans hj
  rcases ho.2 with ⟨rfl, _⟩ | ⟨g, cap, cur, rfl, hb, hc, _⟩
  · simp [Value.ownBlock]
  · intro e0
    simp only [Value.ownBlock, Option.some.injEq] at e0
    subst e0
    rw [hc] at hj
    cases hj
    simp [stayO, he] at hs
end

/-- A brain in its box, its rows one's own from base on. -/
structure BrIn (base g : Nat) (w : World) (p : Br) (a : Ad) : Prop where
  box : Whole w g 30 (brC p a)
  own : OwB base w p a
  ge : base ≤ g
section
variable {base g : Nat} {w w' : World} {p : Br} {a : Ad}
set_option maxRecDepth 100000 in
theorem BrIn.under (h : BrIn base g w p a) (hb : Below w.heap.size w w') : BrIn base g w' p a := ⟨h.box.under hb, h.own.under hb, h.ge⟩
set_option maxRecDepth 100000 in
theorem BrIn.lt (h : BrIn base g w p a) : g < w.heap.size := h.box.lt
set_option maxRecDepth 100000 in
theorem OwB.cap {w : World} {p : Br} {a : Ad} (h : OwB base w p a) : p.cf.ms.length ≤ a.e ∧ a.e ≤ maxLen ∧ p.its.length ≤ a.c ∧ p.kps.length ≤ a.d := by
  have cap : ∀ {e : TypeId} {size n c : Nat} {A : Option Addr} {xs : List Value}, w.ownsRow base e size (.slice A n c) n xs → n ≤ c ∧ c ≤ maxLen := by
    intro e size n c A xs h
    rcases h.2 with ⟨h1, h2⟩ | ⟨g, cap, cur, h1, _, _, h2, h3, _⟩
    · injection h1 with _ h4 h5
      subst h5
      exact ⟨by omega, Nat.zero_le _⟩
    · injection h1 with _ _ h4
      subst h4
      exact ⟨h2, h3⟩
  exact ⟨(cap h.ms).1, (cap h.ms).2, (cap h.its).1, (cap h.kps).1⟩
set_option maxRecDepth 100000 in
/-- What reads. -/
theorem OwB.reads {w : World} {p : Br} {a : Ad} (h : OwB base w p a) : RdB_ w w.heap.size p a := by
  obtain ⟨h1, h2, h3, h4⟩ := h.cap
  exact ⟨Rd.of_own h.ms, ItsAt.read h.its, KpsAt.read h.kps, h1, h2, h3, h4⟩
set_option maxRecDepth 100000 in
/-- One number of the brain's is laid anew. -/
theorem BrIn.set (h : BrIn base g w p a) {p' : Br} (i : Nat) (v : Value) (he : (brC p a).setIfInBounds i v = brC p' a) (h1 : p'.cf.ms = p.cf.ms) (h2 : p'.its = p.its) (h3 : p'.kps = p.kps) : BrIn base g (w.setCell ⟨g, i, none⟩ v) p' a := by
  have k := Only.set w g i v
  refine ⟨?_, ?_, h.ge⟩
  · rw [← he]; exact h.box.set i v
  · have := h.own.only k h.box (by decide) (by decide) (by decide)
    exact ⟨by rw [h1]; exact this.ms, by rw [h2]; exact this.its, by rw [h3]; exact this.kps⟩
end
end Go.Proofs.YtplejbgecihnpaaDoor

namespace Go.Proofs.YtplejbgecihnpaaDoor
open Go.RowKit Go.Shelf

end Go.Proofs.YtplejbgecihnpaaDoor

namespace Go.Proofs.YtplejbgecihnpaaDoor
open Go.RowKit Go.Shelf

set_option maxRecDepth 100000 in
/-- A store into a block of no row of the brain's, and not into the brain. -/
theorem BrIn.far {base g b : Nat} {w : World} {p : Br} {a : Ad} (h : BrIn base g w p a) (hg : g ≠ b) (h1 : (Value.slice a.C p.cf.ms.length a.e).ownBlock ≠ some b) (h2 : (Value.slice a.A p.its.length a.c).ownBlock ≠ some b) (h3 : (Value.slice a.B p.kps.length a.d).ownBlock ≠ some b) (i : Nat) (v : Value) : BrIn base g (w.setCell ⟨b, i, none⟩ v) p a :=
  ⟨(Only.set w b i v).far h.box hg, ⟨ownsRow_setCell_other (a := ⟨b, i, none⟩) h.own.ms h1 v, ownsRow_setCell_other (a := ⟨b, i, none⟩) h.own.its h2 v, ownsRow_setCell_other (a := ⟨b, i, none⟩) h.own.kps h3 v⟩, h.ge⟩
set_option maxRecDepth 100000 in
/-- What is meant has grown, and the brain's box tells it. -/
theorem BrIn.its {base g : Nat} {w w' : World} {p : Br} {a : Ad} (h : BrIn base g w p a) (hg : w.grownBy w' (Value.slice a.A p.its.length a.c).ownBlock) {A' : Option Addr} {c' : Nat} {l : List It} (ho : ItsAt base w' (.slice A' l.length c') l) :
    BrIn base g (w'.setCell ⟨g, 18, none⟩ (.slice A' l.length c')) { p with its := l } ⟨a.C, a.e, A', c', a.B, a.d⟩ := by
  have hb := h.box.grown hg (Ne.symm (own_apart_F (by decide) h.own.its h.box))
  have k := Only.set w' g 18 (.slice A' l.length c')
  refine ⟨?_, ⟨k.own (own_kept_F (by decide) h.own.its h.own.ms hg) hb (by decide), ho.only k hb (by decide), k.own (own_kept_F (by decide) h.own.its h.own.kps hg) hb (by decide)⟩, h.ge⟩
  have h1 := hb.set 18 (.slice A' l.length c')
  simp only [List.setIfInBounds_toArray, List.set_cons_zero, List.set_cons_succ] at h1
  exact h1
set_option maxRecDepth 100000 in
theorem BrIn.kps {base g : Nat} {w w' : World} {p : Br} {a : Ad} (h : BrIn base g w p a) (hg : w.grownBy w' (Value.slice a.B p.kps.length a.d).ownBlock) {A' : Option Addr} {c' : Nat} {l : List Kp} (ho : KpsAt base w' (.slice A' l.length c') l) :
    BrIn base g (w'.setCell ⟨g, 19, none⟩ (.slice A' l.length c')) { p with kps := l } ⟨a.C, a.e, a.A, a.c, A', c'⟩ := by
  have hb := h.box.grown hg (Ne.symm (own_apart_F (by decide) h.own.kps h.box))
  have k := Only.set w' g 19 (.slice A' l.length c')
  refine ⟨?_, ⟨k.own (own_kept_F (by decide) h.own.kps h.own.ms hg) hb (by decide), k.own (own_kept_F (by decide) h.own.kps h.own.its hg) hb (by decide), ho.only k hb (by decide)⟩, h.ge⟩
  have h1 := hb.set 19 (.slice A' l.length c')
  simp only [List.setIfInBounds_toArray, List.set_cons_zero, List.set_cons_succ] at h1
  exact h1

end Go.Proofs.YtplejbgecihnpaaDoor

namespace Go.Proofs.YtplejbgecihnpaaDoor
open Go.RowKit Go.Shelf

set_option maxRecDepth 100000 in
theorem Tab.bel {w w' : World} {B : Nat} (h : Tab w) (hB : 0 < B) (hb : Below B w w') : Tab w' :=
  ⟨Nat.lt_of_lt_of_le h.1 hb.size, fun k hk => ⟨(hb.cell (p := ⟨0, k * 2, none⟩) hB).trans (h.2 k hk).1, (hb.cell (p := ⟨0, k * 2 + 1, none⟩) hB).trans (h.2 k hk).2⟩⟩

set_option maxRecDepth 100000 in
theorem beq_dec (b v : Int) : (b == v) = decide (b = v) := by by_cases h : b = v <;> simp [h]
end Go.Proofs.YtplejbgecihnpaaDoor

namespace Go.Proofs.YtplejbgecihnpaaDoor
open Go.RowKit Go.Shelf

set_option maxRecDepth 100000 in
/-- One number of one that is kept is laid anew. -/
theorem BrIn.cell {base g b : Nat} {w : World} {p : Br} {a : Ad} (h : BrIn base g w p a) (hB : a.B = some ⟨b, 0, none⟩) {i j : Nat} {x y : Kp} {u : Value} (hx : p.kps[i]? = some x) (hj : j < 8) (hy : y.vs = x.vs.set j u) :
    w.cell? ⟨b, i * 8 + j, none⟩ = x.vs[j]? ∧ w.frozen? ⟨b, i * 8 + j, none⟩ = false ∧ BrIn base g (w.setCell ⟨b, i * 8 + j, none⟩ u) { p with kps := p.kps.set i y } a ∧ Stp base w (w.setCell ⟨b, i * 8 + j, none⟩ u) := by
  have hi : i < p.kps.length := (List.getElem?_eq_some_iff.1 hx).1
  have ho := h.own.kps
  unfold KpsAt at ho
  obtain ⟨b', cs, hb', hge, hin, hnc, htk⟩ := RowIn.of_own ho (by omega)
  rw [hB] at hb'
  injection hb' with hb'
  injection hb' with hb' _ _
  subst hb'
  have hlt : i * 8 + j < p.kps.length * 8 := by omega
  have hlc : i * 8 + j < cs.length := by rw [hin.len]; omega
  have hcell : cs[i * 8 + j]? = x.vs[j]? := by
    rw [← flatF_at Kp.vs_len hx hj, ← htk, List.getElem?_take, if_pos hlt]
  have hne : g ≠ b := by
    intro e
    subst e
    have := own_apart_F (by decide) h.own.kps h.box
    rw [hB] at this
    exact this rfl
  have hset : w.setCell ⟨b, i * 8 + j, none⟩ u = w.setRow b (cs.set (i * 8 + j) u).toArray := by
    rw [setCell_eq_setRow w b (i * 8 + j) cs.toArray _ _ u hin.hg]
    simp
  have hin2 : RowIn (w.setCell ⟨b, i * 8 + j, none⟩ u) b 32 8 a.d (cs.set (i * 8 + j) u) := by
    rw [hset]
    exact ⟨setRow_heap w b cs.toArray _ _ _ hin.hg, by rw [List.length_set]; exact hin.len, hin.capm⟩
  have hk := Only.set w b (i * 8 + j) u
  have hwb : Whole w b 32 cs.toArray := hin.hg
  refine ⟨?_, ?_, ⟨?_, ⟨hk.own h.own.ms hwb (by decide), hk.own h.own.its hwb (by decide), ?_⟩, h.ge⟩, Stp.set hwb (by decide) hge _ _⟩
  · simp [World.cell?, hin.hg, hcell]
  · simp [World.frozen?, hin.hg]
  · have := hk.far h.box hne
    simp only [brC, List.length_set] at this ⊢
    exact this
  · unfold KpsAt
    simp only [List.length_set]
    rw [hB]
    refine hin2.own hge hnc (by rw [flatF_length Kp.vs_len, List.length_set]) ?_
    rw [List.take_set, htk, flatF_set Kp.vs_len hx hj hy]

end Go.Proofs.YtplejbgecihnpaaDoor
