/-
  Texts that the walks of the statements over logs lean on, joined (RefCheck, CfRow, RefCf, RegGrow). Conditions: those that each theorem names.
-/
import Derived.Test.YtplejbgecihnpaaDoorJ1
import Derived.Test.YtplejbgecihnpaaDoorJ4
import Derived.Test.YtplejbgecihnpaaDoorJ5
import Derived.Test.YtplejbgecihnpaaDoorJ6
import Derived.Laws.MakeOwn

/-
  The walk of 'Check' of the document's own answer (layer 7): which groups may be. Conditions: those that each theorem names.
-/
namespace Go.Proofs.YtplejbgecihnpaaDoor
open Go.RowKit Go.Shelf

/-- The five waits that may be nought. -/
def wt (x : Cf) (j : Nat) : Int := [x.f4, x.f5, x.f6, x.f7, x.f11].getD j 0
set_option maxRecDepth 100000 in
theorem within_is {n a b : Int} {v : Bool} (h : (decide (a ≤ n) && decide (n ≤ b)) = v) (w : World) : Calls Tryd.prog 61 #[.int .i64 n, .int .i64 a, .int .i64 b] w fun e w' => e = .returned (.bool v) ∧ w' = w := by
  subst h; exact within_any n a b w
set_option maxRecDepth 100000 in
theorem in_no {n a b : Int} (h : (decide (a ≤ n) && decide (n ≤ b)) = false) : n < a ∨ b < n := by
  by_cases h1 : a ≤ n
  · by_cases h2 : n ≤ b
    · simp [h1, h2] at h
    · omega
  · omega
set_option maxRecDepth 100000 in
theorem in_yes {n a b : Int} (h : (decide (a ≤ n) && decide (n ≤ b)) = true) : a ≤ n ∧ n ≤ b := by simpa using h
set_option maxRecDepth 100000 in
theorem not_wt {x : Cf} {j : Nat} (hj : j < 5) (h : wt x j < 0 ∨ 20 < wt x j) : may x = false := by
  rcases (by omega : j = 0 ∨ j = 1 ∨ j = 2 ∨ j = 3 ∨ j = 4) with rfl | rfl | rfl | rfl | rfl
  · exact not_inB (k := 4) (by omega) h
  · exact not_inB (k := 5) (by omega) h
  · exact not_inB (k := 6) (by omega) h
  · exact not_inB (k := 7) (by omega) h
  · exact not_inB (k := 11) (by omega) h
set_option maxRecDepth 100000 in
theorem may_no_marks {x : Cf} (h : marksB x.ms = false) : may x = false := by unfold may; rw [h]; simp
set_option maxRecDepth 100000 in
theorem may_no_room {x : Cf} (h : roomB x = false) : may x = false := by unfold may; rw [h]; simp

/-- What holds in the loops: the group in its box, the waits in their array. -/
structure ChkAt (x : Cf) (w W : World) : Prop where
  box : InBox x w W
  row : Whole W (w.heap.size + 1) 53 #[.int .i64 x.f4, .int .i64 x.f5, .int .i64 x.f6, .int .i64 x.f7, .int .i64 x.f11]
set_option maxRecDepth 100000 in
theorem ChkAt.drewN {x : Cf} {w W : World} (h : ChkAt x w W) (k : Nat) : ChkAt x w (W.drewN k) := ⟨⟨h.box.1, below_drewN h.box.2 k⟩, h.row⟩
set_option maxRecDepth 100000 in
theorem wt_cell {x : Cf} {w W : World} (h : ChkAt x w W) {j : Nat} (hj : j < 5) : W.cell? ⟨w.heap.size + 1, j, none⟩ = some (.int .i64 (wt x j)) := by
  rcases (by omega : j = 0 ∨ j = 1 ∨ j = 2 ∨ j = 3 ∨ j = 4) with rfl | rfl | rfl | rfl | rfl
  all_goals exact h.row.cell _

set_option maxRecDepth 100000 in
set_option maxHeartbeats 1000000 in
theorem refCheck_no0 (x : Cf) (w : World) (b0 : (decide ((0 : Int) ≤ x.f0) && decide (x.f0 ≤ 6)) = false) : Calls Tryd.prog 38 #[x.v] w (IntPost 70 w) := by
  have HB0 := Lib.hid (InBox.new x w)
  have hw0 := within_is b0
  clear b0
  go_enter Tryd.func38, Tryd.ntmps38
  go_wp2_with fail
  refine (hw0 _).mono ?_
  rintro e w' ⟨rfl, rfl⟩
  clear hw0
  go_wp2_with fail
  go_ret
  exact ⟨rfl, HB0.out.2⟩

set_option maxRecDepth 100000 in
set_option maxHeartbeats 1000000 in
theorem refCheck_no1 (x : Cf) (w : World) (b0 : (decide ((0 : Int) ≤ x.f0) && decide (x.f0 ≤ 6)) = true) (b1 : (decide ((0 : Int) ≤ x.f1) && decide (x.f1 ≤ 100)) = false) : Calls Tryd.prog 38 #[x.v] w (IntPost 70 w) := by
  have HB0 := Lib.hid (InBox.new x w)
  have hw0 := within_is b0
  have hw1 := within_is b1
  clear b0 b1
  go_enter Tryd.func38, Tryd.ntmps38
  go_wp2_with fail
  refine (hw0 _).mono ?_
  rintro e w' ⟨rfl, rfl⟩
  clear hw0
  go_wp2_with fail
  refine (hw1 _).mono ?_
  rintro e w' ⟨rfl, rfl⟩
  clear hw1
  go_wp2_with fail
  go_ret
  exact ⟨rfl, HB0.out.2⟩

set_option maxRecDepth 100000 in
set_option maxHeartbeats 1000000 in
theorem refCheck_no2 (x : Cf) (w : World) (b0 : (decide ((0 : Int) ≤ x.f0) && decide (x.f0 ≤ 6)) = true)  (b1 : (decide ((0 : Int) ≤ x.f1) && decide (x.f1 ≤ 100)) = true) (b2 : (decide ((0 : Int) ≤ x.f2) && decide (x.f2 ≤ 3)) = false) : Calls Tryd.prog 38 #[x.v] w (IntPost 70 w) := by
  have HB0 := Lib.hid (InBox.new x w)
  have hw0 := within_is b0
  have hw1 := within_is b1
  have hw2 := within_is b2
  clear b0 b1 b2
  go_enter Tryd.func38, Tryd.ntmps38
  go_wp2_with fail
  refine (hw0 _).mono ?_
  rintro e w' ⟨rfl, rfl⟩
  clear hw0
  go_wp2_with fail
  refine (hw1 _).mono ?_
  rintro e w' ⟨rfl, rfl⟩
  clear hw1
  go_wp2_with fail
  refine (hw2 _).mono ?_
  rintro e w' ⟨rfl, rfl⟩
  clear hw2
  go_wp2_with fail
  go_ret
  exact ⟨rfl, HB0.out.2⟩

set_option maxRecDepth 100000 in
set_option maxHeartbeats 1000000 in
theorem refCheck_no3 (x : Cf) (w : World) (b0 : (decide ((0 : Int) ≤ x.f0) && decide (x.f0 ≤ 6)) = true)  (b1 : (decide ((0 : Int) ≤ x.f1) && decide (x.f1 ≤ 100)) = true)  (b2 : (decide ((0 : Int) ≤ x.f2) && decide (x.f2 ≤ 3)) = true) (b3 : (decide ((0 : Int) ≤ x.f3) && decide (x.f3 ≤ 3)) = false) : Calls Tryd.prog 38 #[x.v] w (IntPost 70 w) := by
  have HB0 := Lib.hid (InBox.new x w)
  have hw0 := within_is b0
  have hw1 := within_is b1
  have hw2 := within_is b2
  have hw3 := within_is b3
  clear b0 b1 b2 b3
  go_enter Tryd.func38, Tryd.ntmps38
  go_wp2_with fail
  refine (hw0 _).mono ?_
  rintro e w' ⟨rfl, rfl⟩
  clear hw0
  go_wp2_with fail
  refine (hw1 _).mono ?_
  rintro e w' ⟨rfl, rfl⟩
  clear hw1
  go_wp2_with fail
  refine (hw2 _).mono ?_
  rintro e w' ⟨rfl, rfl⟩
  clear hw2
  go_wp2_with fail
  refine (hw3 _).mono ?_
  rintro e w' ⟨rfl, rfl⟩
  clear hw3
  go_wp2_with fail
  go_ret
  exact ⟨rfl, HB0.out.2⟩

set_option maxRecDepth 100000 in
set_option maxHeartbeats 4000000 in
theorem refCheck_on (x : Cf) (w : World) (hx : Lies x w w.heap.size) (hn : x.n ≤ 1000) (b0 : (decide ((0 : Int) ≤ x.f0) && decide (x.f0 ≤ 6)) = true)  (b1 : (decide ((0 : Int) ≤ x.f1) && decide (x.f1 ≤ 100)) = true)  (b2 : (decide ((0 : Int) ≤ x.f2) && decide (x.f2 ≤ 3)) = true)  (b3 : (decide ((0 : Int) ≤ x.f3) && decide (x.f3 ≤ 3)) = true) : Calls Tryd.prog 38 #[x.v] w (IntPost (er (may x)) w) := by
  have HX := Lib.hid hx
  have HB0 := Lib.hid (InBox.new x w)
  have hw0 := within_is b0
  have hw1 := within_is b1
  have hw2 := within_is b2
  have hw3 := within_is b3
  clear hx
  have HY0 := Lib.hid (in_yes b0)
  have HY1 := Lib.hid (in_yes b1)
  have HY2 := Lib.hid (in_yes b2)
  have HY3 := Lib.hid (in_yes b3)
  clear b0 b1 b2 b3
  go_enter Tryd.func38, Tryd.ntmps38
  go_wp2_with fail
  refine (hw0 _).mono ?_
  rintro e w' ⟨rfl, rfl⟩
  clear hw0
  go_wp2_with fail
  refine (hw1 _).mono ?_
  rintro e w' ⟨rfl, rfl⟩
  clear hw1
  go_wp2_with fail
  refine (hw2 _).mono ?_
  rintro e w' ⟨rfl, rfl⟩
  clear hw2
  go_wp2_with fail
  refine (hw3 _).mono ?_
  rintro e w' ⟨rfl, rfl⟩
  clear hw3
  go_wp2_with fail
  have hC0 : ChkAt x w ((w.alloc (.cells x.cells 24)).alloc (.cells #[.int .i64 x.f4, .int .i64 x.f5, .int .i64 x.f6, .int .i64 x.f7, .int .i64 x.f11] 53)) := by
    refine ⟨HB0.out.under ((Below.refl _ _).alloc (Nat.le_refl _) _), ?_⟩
    have := Whole.new (w.alloc (.cells x.cells 24)) 53 #[.int .i64 x.f4, .int .i64 x.f5, .int .i64 x.f6, .int .i64 x.f7, .int .i64 x.f11]
    rwa [World.size_alloc] at this
  have HC0 := Lib.hid hC0
  clear hC0 HB0
  go_loopw [4] (fun i wr => ∃ j : Nat, i = .int .i64 (j : Int) ∧ j ≤ 5 ∧ (∀ q, q < j → 0 ≤ wt x q ∧ wt x q ≤ 20) ∧ ChkAt x w wr) (fun i _ => 5 - (intOf i).toNat)
  case atStart => exact ⟨0, rfl, by omega, fun q h => absurd h (by omega), HC0.out⟩
  case round =>
    obtain ⟨j, rfl, hj, hall, hC⟩ := hrel
    clear HC0
    have HAll := Lib.hid hall
    have HC := Lib.hid hC
    clear hall hC
    by_cases hlt : j < 5
    · have hcell := wt_cell HC.out hlt
      have hji : (j : Int) < 5 := by omega
      have HN := Lib.hid (not_wt (x := x) hlt)
      obtain ⟨z, hz⟩ : ∃ z, wt x j = z := ⟨_, rfl⟩
      rw [hz] at hcell HN
      have HZ := Lib.hid hz
      clear hz
      by_cases bz : (decide ((0 : Int) ≤ z) && decide (z ≤ 20)) = true
      · have hwz := within_is bz
        have HBz := Lib.hid (in_yes bz)
        clear bz
        go_wp2_with fail
        refine (hwz _).mono ?_
        rintro e w' ⟨rfl, rfl⟩
        go_wp2_with fail
        go_roundw
        case rel =>
          refine ⟨j + 1, by go_num, by omega, fun q hq => ?_, HC.out⟩
          rcases (by omega : q < j ∨ q = j) with h | rfl
          · exact HAll.out q h
          · rw [HZ.out]; exact HBz.out
        case measure => simp [intOf]; omega
      · have bz' : (decide ((0 : Int) ≤ z) && decide (z ≤ 20)) = false := by simpa using bz
        have hwz := within_is bz'
        have HM := Lib.hid (HN.out (in_no bz'))
        clear bz bz'
        go_wp2_with fail
        refine (hwz _).mono ?_
        rintro e w' ⟨rfl, rfl⟩
        go_wp2_with fail
        go_ret
        exact ⟨by rw [HM.out]; rfl, HC.out.box.2⟩
    · obtain rfl : j = 5 := by omega
      clear hlt hj
      obtain ⟨c0, c1, c2, c3, c4, c5, c6, c7, c8, c9, c10, c11, c12, c13, c14⟩ := HC.out.box.1.conf
      by_cases b8 : (decide ((1 : Int) ≤ x.f8) && decide (x.f8 ≤ 20)) = true
      rotate_left
      · have b8' : (decide ((1 : Int) ≤ x.f8) && decide (x.f8 ≤ 20)) = false := by simpa using b8
        have HM := Lib.hid (not_inB (x := x) (k := 8) (by omega) (in_no b8'))
        have hw8 := within_is b8'
        clear b8 b8'
        go_wp2_with fail
        refine (hw8 _).mono ?_
        rintro e w' ⟨rfl, rfl⟩
        clear hw8
        go_wp2_with fail
        go_ret
        exact ⟨by rw [HM.out]; rfl, HC.out.box.2⟩
      by_cases b9 : (decide ((1 : Int) ≤ x.f9) && decide (x.f9 ≤ 20)) = true
      rotate_left
      · have b9' : (decide ((1 : Int) ≤ x.f9) && decide (x.f9 ≤ 20)) = false := by simpa using b9
        have HM := Lib.hid (not_inB (x := x) (k := 9) (by omega) (in_no b9'))
        have hw8 := within_is b8
        have hw9 := within_is b9'
        clear b8 b9 b9'
        go_wp2_with fail
        refine (hw8 _).mono ?_
        rintro e w' ⟨rfl, rfl⟩
        clear hw8
        go_wp2_with fail
        refine (hw9 _).mono ?_
        rintro e w' ⟨rfl, rfl⟩
        clear hw9
        go_wp2_with fail
        go_ret
        exact ⟨by rw [HM.out]; rfl, HC.out.box.2⟩
      by_cases b10 : (decide ((1 : Int) ≤ x.f10) && decide (x.f10 ≤ 20)) = true
      rotate_left
      · have b10' : (decide ((1 : Int) ≤ x.f10) && decide (x.f10 ≤ 20)) = false := by simpa using b10
        have HM := Lib.hid (not_inB (x := x) (k := 10) (by omega) (in_no b10'))
        have hw8 := within_is b8
        have hw9 := within_is b9
        have hw10 := within_is b10'
        clear b8 b9 b10 b10'
        go_wp2_with fail
        refine (hw8 _).mono ?_
        rintro e w' ⟨rfl, rfl⟩
        clear hw8
        go_wp2_with fail
        refine (hw9 _).mono ?_
        rintro e w' ⟨rfl, rfl⟩
        clear hw9
        go_wp2_with fail
        refine (hw10 _).mono ?_
        rintro e w' ⟨rfl, rfl⟩
        clear hw10
        go_wp2_with fail
        go_ret
        exact ⟨by rw [HM.out]; rfl, HC.out.box.2⟩
      by_cases b12 : (decide ((1 : Int) ≤ x.f12) && decide (x.f12 ≤ 1099511627776)) = true
      rotate_left
      · have b12' : (decide ((1 : Int) ≤ x.f12) && decide (x.f12 ≤ 1099511627776)) = false := by simpa using b12
        have HM := Lib.hid (not_inB (x := x) (k := 12) (by omega) (in_no b12'))
        have hw8 := within_is b8
        have hw9 := within_is b9
        have hw10 := within_is b10
        have hw12 := within_is b12'
        clear b8 b9 b10 b12 b12'
        go_wp2_with fail
        refine (hw8 _).mono ?_
        rintro e w' ⟨rfl, rfl⟩
        clear hw8
        go_wp2_with fail
        refine (hw9 _).mono ?_
        rintro e w' ⟨rfl, rfl⟩
        clear hw9
        go_wp2_with fail
        refine (hw10 _).mono ?_
        rintro e w' ⟨rfl, rfl⟩
        clear hw10
        go_wp2_with fail
        refine (hw12 _).mono ?_
        rintro e w' ⟨rfl, rfl⟩
        clear hw12
        go_wp2_with fail
        go_ret
        exact ⟨by rw [HM.out]; rfl, HC.out.box.2⟩
      have hw8 := within_is b8
      have hw9 := within_is b9
      have hw10 := within_is b10
      have hw12 := within_is b12
      have HY8 := Lib.hid (in_yes b8)
      have HY9 := Lib.hid (in_yes b9)
      have HY10 := Lib.hid (in_yes b10)
      have HY12 := Lib.hid (in_yes b12)
      clear b8 b9 b10 b12
      have hall := HAll.out
      have HIn := Lib.hid (show inB x = true from inB_iff.2 ⟨⟨HY0.out, HY1.out, HY2.out, HY3.out⟩, ⟨hall 0 (by omega), hall 1 (by omega), hall 2 (by omega), hall 3 (by omega)⟩, HY8.out, HY9.out, HY10.out, hall 4 (by omega), HY12.out⟩)
      clear hall HAll HY0 HY1 HY2 HY3 HY8 HY9 HY10 HY12
      by_cases h4 : x.n ≤ 4
      rotate_left
      · have h4i : (4 : Int) < (x.n : Int) := by omega
        have HM : Hid (may x = false) := Lib.hid (may_no_marks (by unfold marksB; rw [decide_eq_false (by rw [HX.out.len]; exact h4)]; rfl))
        go_wp2_with fail
        refine (hw8 _).mono ?_
        rintro e w' ⟨rfl, rfl⟩
        clear hw8
        go_wp2_with fail
        refine (hw9 _).mono ?_
        rintro e w' ⟨rfl, rfl⟩
        clear hw9
        go_wp2_with fail
        refine (hw10 _).mono ?_
        rintro e w' ⟨rfl, rfl⟩
        clear hw10
        go_wp2_with fail
        refine (hw12 _).mono ?_
        rintro e w' ⟨rfl, rfl⟩
        clear hw12
        go_wp2_with fail
        go_ret
        exact ⟨by rw [HM.out]; rfl, HC.out.box.2⟩
      have h4i : ¬ (4 : Int) < (x.n : Int) := by omega
      go_wp2_with fail
      refine (hw8 _).mono ?_
      rintro e w' ⟨rfl, rfl⟩
      clear hw8
      go_wp2_with fail
      refine (hw9 _).mono ?_
      rintro e w' ⟨rfl, rfl⟩
      clear hw9
      go_wp2_with fail
      refine (hw10 _).mono ?_
      rintro e w' ⟨rfl, rfl⟩
      clear hw10
      go_wp2_with fail
      refine (hw12 _).mono ?_
      rintro e w' ⟨rfl, rfl⟩
      clear hw12
      go_wp2_with fail
      clear c0 c1 c2 c3 c4 c5 c6 c7 c8 c9 c10 c11 c12 c13 c14
      have HC1 := Lib.hid HC.out.box
      clear HC
      go_loopw [5] (fun i wr => ∃ (j : Nat) (last : Int) (rest : List Int), i = .int .i64 (j : Int) ∧ j ≤ x.n ∧ rest = x.ms.drop j ∧ upB 0 x.ms = upB last rest ∧ 0 ≤ last ∧ (j = 0 → last = 0) ∧ (∀ q, j = q + 1 → x.ms[q]? = some last) ∧ InBox x w wr) (fun i _ => x.n - (intOf i).toNat)
      case atStart => exact ⟨0, 0, x.ms, rfl, Nat.zero_le _, rfl, rfl, Int.le_refl _, fun _ => rfl, fun q h => absurd h (by omega), HC1.out⟩
      case round =>
        obtain ⟨j, last, rest, rfl, hj, hrest, hup, hl0, hlz, hlast, hbx⟩ := hrel
        clear HC1
        have HRs := Lib.hid hrest
        have HU := Lib.hid hup
        have HLz := Lib.hid hlz
        have HLa := Lib.hid hlast
        have HBx := Lib.hid hbx
        have HMk : Hid (marksB x.ms = upB 0 x.ms) := Lib.hid (by unfold marksB; rw [decide_eq_true (by rw [HX.out.len]; exact h4)]; rfl)
        have k14 := HBx.out.1.cell 14
        simp only [List.getElem?_toArray, List.getElem?_cons_zero, List.getElem?_cons_succ] at k14
        clear hrest hup hlz hlast hbx
        by_cases hlt : j < x.n
        · have hji : (j : Int) < (x.n : Int) := by omega
          have hjl : j < x.ms.length := by rw [HX.out.len]; exact hlt
          obtain ⟨m, hm⟩ : ∃ m, x.ms[j]? = some m := ⟨_, List.getElem?_eq_getElem hjl⟩
          have hrd := (HX.out.below HBx.out.2).rd
          obtain ⟨b, off, hA, _, hc⟩ := hrd.2 (by omega)
          have hcell := hc j hlt
          rw [show (iv x.ms)[j]? = some (.int .i64 m) by simp [iv, hm]] at hcell
          have hd : x.ms.drop j = m :: x.ms.drop (j + 1) := by
            rw [List.drop_eq_getElem_cons hjl]
            rw [List.getElem?_eq_getElem hjl] at hm
            rw [Option.some.inj hm]
          have HD := Lib.hid (HRs.out.trans hd)
          have HM0 := Lib.hid hm
          have HRd := Lib.hid hc
          rw [hA] at k14
          clear hm hd hrd hc hjl hA
          by_cases bz : (decide ((1 : Int) ≤ m) && decide (m ≤ 100)) = true
          rotate_left
          · have bz' : (decide ((1 : Int) ≤ m) && decide (m ≤ 100)) = false := by simpa using bz
            have hwz := within_is bz'
            have HMay : Hid (may x = false) := Lib.hid (may_no_marks (by
              rw [HMk.out, HU.out, HD.out]
              rcases in_no bz' with h | h
              · exact upB_last (by omega)
              · exact upB_big h))
            clear bz bz'
            go_wp2_with fail
            go_quiet ((go_at_call 61; exact (hwz _).mono (by rintro e w1 ⟨rfl, rfl⟩; exact ⟨rfl, _, rfl⟩)))
            go_wp2_with fail
            go_ret
            exact ⟨by rw [HMay.out]; rfl, below_drewN HBx.out.2 _⟩
          have hwz := within_is bz
          have HBz := Lib.hid (in_yes bz)
          clear bz
          cases j with
          | zero =>
            have hlast0 : last = 0 := HLz.out rfl
            have HQ : Hid (∀ q, 0 + 1 = q + 1 → x.ms[q]? = some m) := Lib.hid (fun q hq => by
              have e : q = 0 := by omega
              rw [e]; exact HM0.out)
            rw [Nat.add_zero] at hcell
            have h0n : (0 : Int) < (x.n : Int) := by omega
            have HUn := Lib.hid (HU.out.trans ((congrArg (upB last) HD.out).trans (upB_next (r := x.ms.drop (0 + 1)) (by have := HBz.out.1; omega) HBz.out.2)))
            go_wp2_with fail
            go_quiet ((go_at_call 61; exact (hwz _).mono (by rintro e w1 ⟨rfl, rfl⟩; exact ⟨rfl, _, rfl⟩)))
            go_wp2_with fail
            go_roundw
            case rel => exact ⟨1, m, _, by go_num, by omega, rfl, HUn.out, by have := HBz.out.1; omega, fun h => absurd h (by omega), HQ.out, ⟨HBx.out.1, below_drewN HBx.out.2 _⟩⟩
            case measure => simp [intOf]; omega
          | succ i =>
            have hli := HLa.out i rfl
            have HQ : Hid (∀ q, i + 1 + 1 = q + 1 → x.ms[q]? = some m) := Lib.hid (fun q hq => by
              have e : q = i + 1 := by omega
              rw [e]; exact HM0.out)
            have hcell2 := HRd.out i (by omega)
            rw [show (iv x.ms)[i]? = some (.int .i64 last) by simp [iv, hli]] at hcell2
            have hii : (i : Int) < (x.n : Int) := by omega
            have hwr : IntKind.i64.wrap (i : Int) = (i : Int) := by rw [IntKind.wrap_i64]; omega
            have hpos : (0 : Int) < (i : Int) + 1 := by omega
            have hI1 : (i : Int) + 1 < (x.n : Int) := by omega
            have hI0 : (0 : Int) ≤ (i : Int) + 1 := by omega
            clear hli
            by_cases hge : m ≤ last
            · have HMay : Hid (may x = false) := Lib.hid (may_no_marks (by rw [HMk.out, HU.out, HD.out]; exact upB_last hge))
              have hgd : decide (m ≤ last) = true := decide_eq_true hge
              go_wp2_with fail
              go_quiet ((go_at_call 61; exact (hwz _).mono (by rintro e w1 ⟨rfl, rfl⟩; exact ⟨rfl, _, rfl⟩)))
              go_wp2_with fail
              go_ret
              exact ⟨by rw [HMay.out]; rfl, below_drewN HBx.out.2 _⟩
            · have HUn := Lib.hid (HU.out.trans ((congrArg (upB last) HD.out).trans (upB_next (r := x.ms.drop (i + 1 + 1)) (by omega) HBz.out.2)))
              have hgd : decide (m ≤ last) = false := decide_eq_false hge
              go_wp2_with fail
              go_quiet ((go_at_call 61; exact (hwz _).mono (by rintro e w1 ⟨rfl, rfl⟩; exact ⟨rfl, _, rfl⟩)))
              go_wp2_with fail
              go_roundw
              case rel => exact ⟨i + 1 + 1, m, _, by go_num, by omega, rfl, HUn.out, by have := HBz.out.1; omega, fun h => absurd h (by omega), HQ.out, ⟨HBx.out.1, below_drewN HBx.out.2 _⟩⟩
              case measure => simp [intOf]; omega
        · have hji : ¬ (j : Int) < (x.n : Int) := by omega
          have HMy : Hid (may x = roomB x) := Lib.hid (by
            unfold may
            rw [HIn.out, HMk.out, HU.out, HRs.out, List.drop_of_length_le (by rw [HX.out.len]; omega)]
            rfl)
          obtain ⟨p0, p1, p2, p3⟩ := fl_bd HIn.out
          obtain ⟨⟨⟨a0, a1⟩, _, ⟨g0, g1⟩, _⟩, _⟩ := inB_iff.1 HIn.out
          clear p0 p1
          have HF := Lib.hid (refFloor_any x HIn.out)
          obtain ⟨c0, c1, c2, c3, c4, c5, c6, c7, c8, c9, c10, c11, c12, c13, c14⟩ := HBx.out.1.conf
          by_cases h0 : x.f0 = 0
          · have h0i : ¬ (0 : Int) < x.f0 := by omega
            have h0d : decide ((0 : Int) < x.f0) = false := decide_eq_false h0i
            have HR : Hid (may x = true) := Lib.hid (by rw [HMy.out]; unfold roomB; rw [decide_eq_true h0]; rfl)
            go_wp2_with fail
            go_quiet (fail)
            go_wp2_with fail
            go_ret
            exact ⟨by rw [HR.out]; rfl, below_drewN HBx.out.2 _⟩
          · have h0i : (0 : Int) < x.f0 := by omega
            have h0d : decide ((0 : Int) < x.f0) = true := decide_eq_true h0i
            have HR : Hid (may x = decide (1 ≤ x.f2 + x.f0 - fl x)) := Lib.hid (by rw [HMy.out]; unfold roomB; rw [decide_eq_false h0]; rfl)
            have hw1 : IntKind.i64.wrap (x.f2 + x.f0) = x.f2 + x.f0 := by rw [IntKind.wrap_i64]; omega
            have hw2 : IntKind.i64.wrap (x.f2 + x.f0 - fl x) = x.f2 + x.f0 - fl x := by rw [IntKind.wrap_i64]; omega
            have HCd : Hid (InBox x w wr.drew) := Lib.hid HBx.out.drew
            clear k14 c0 c1 c2 c3 c4 c5 c6 c7 c8 c9 c10 c11 c12 c13 c14
            by_cases hr : 1 ≤ x.f2 + x.f0 - fl x
            · have hrd : decide (x.f2 + x.f0 - fl x < 1) = false := decide_eq_false (by omega)
              have HRt := Lib.hid (HR.out.trans (decide_eq_true hr))
              obtain ⟨c0, c1, c2, c3, c4, c5, c6, c7, c8, c9, c10, c11, c12, c13, c14⟩ := HBx.out.1.conf
              go_wp2_with fail
              clear c0 c1 c2 c3 c4 c5 c6 c7 c8 c9 c10 c11 c12 c13 c14
              have HC := HCd
              have HL := Lib.hid (fun W' (hW : InBox x w W') => hW.1.conf)
              refine wp_region_held_drew (S := InBox x w) (by kernel_rfl) HC.out (fun _ => ?_)
              refine takeH (i := 0) (v := ?_) rfl (by kernel_rfl) (by kernel_rfl) (by kernel_rfl) (fun _ _ _ h => by first | exact h | exact h.elim | exact nomatch h.1) (by rfl) ?_ HC.out ?_
              rotate_left
              · intro W' hW; obtain ⟨c0, c1, c2, c3, c4, c5, c6, c7, c8, c9, c10, c11, c12, c13, c14⟩ := HL.out W' hW; go_simp <;> with_reducible rfl
              simp only [Act.put, List.setIfInBounds_toArray, List.set_cons_zero, List.set_cons_succ]
              refine takeH (i := 1) (v := ?_) rfl (by kernel_rfl) (by kernel_rfl) (by kernel_rfl) (fun _ _ _ h => by first | exact h | exact h.elim | exact nomatch h.1) (by rfl) ?_ HC.out ?_
              rotate_left
              · intro W' hW; obtain ⟨c0, c1, c2, c3, c4, c5, c6, c7, c8, c9, c10, c11, c12, c13, c14⟩ := HL.out W' hW; go_simp <;> with_reducible rfl
              simp only [Act.put, List.setIfInBounds_toArray, List.set_cons_zero, List.set_cons_succ]
              refine takeH (i := 2) (v := ?_) rfl (by kernel_rfl) (by kernel_rfl) (by kernel_rfl) (fun _ _ _ h => by first | exact h | exact h.elim | exact nomatch h.1) (by rfl) ?_ HC.out ?_
              rotate_left
              · intro W' hW; obtain ⟨c0, c1, c2, c3, c4, c5, c6, c7, c8, c9, c10, c11, c12, c13, c14⟩ := HL.out W' hW; go_simp <;> with_reducible rfl
              simp only [Act.put, List.setIfInBounds_toArray, List.set_cons_zero, List.set_cons_succ]
              refine takeH (i := 3) (v := ?_) rfl (by kernel_rfl) (by kernel_rfl) (by kernel_rfl) (fun _ _ _ h => by first | exact h | exact h.elim | exact nomatch h.1) (by rfl) ?_ HC.out ?_
              rotate_left
              · intro W' hW; obtain ⟨c0, c1, c2, c3, c4, c5, c6, c7, c8, c9, c10, c11, c12, c13, c14⟩ := HL.out W' hW; go_simp <;> with_reducible rfl
              simp only [Act.put, List.setIfInBounds_toArray, List.set_cons_zero, List.set_cons_succ]
              refine takeH (i := 4) (v := ?_) rfl (by kernel_rfl) (by kernel_rfl) (by kernel_rfl) (fun _ _ _ h => by first | exact h | exact h.elim | exact nomatch h.1) (by rfl) ?_ HC.out ?_
              rotate_left
              · intro W' hW; obtain ⟨c0, c1, c2, c3, c4, c5, c6, c7, c8, c9, c10, c11, c12, c13, c14⟩ := HL.out W' hW; go_simp <;> with_reducible rfl
              simp only [Act.put, List.setIfInBounds_toArray, List.set_cons_zero, List.set_cons_succ]
              refine takeH (i := 5) (v := ?_) rfl (by kernel_rfl) (by kernel_rfl) (by kernel_rfl) (fun _ _ _ h => by first | exact h | exact h.elim | exact nomatch h.1) (by rfl) ?_ HC.out ?_
              rotate_left
              · intro W' hW; obtain ⟨c0, c1, c2, c3, c4, c5, c6, c7, c8, c9, c10, c11, c12, c13, c14⟩ := HL.out W' hW; go_simp <;> with_reducible rfl
              simp only [Act.put, List.setIfInBounds_toArray, List.set_cons_zero, List.set_cons_succ]
              refine takeH (i := 6) (v := ?_) rfl (by kernel_rfl) (by kernel_rfl) (by kernel_rfl) (fun _ _ _ h => by first | exact h | exact h.elim | exact nomatch h.1) (by rfl) ?_ HC.out ?_
              rotate_left
              · intro W' hW; obtain ⟨c0, c1, c2, c3, c4, c5, c6, c7, c8, c9, c10, c11, c12, c13, c14⟩ := HL.out W' hW; go_simp <;> with_reducible rfl
              simp only [Act.put, List.setIfInBounds_toArray, List.set_cons_zero, List.set_cons_succ]
              refine takeH (i := 7) (v := ?_) rfl (by kernel_rfl) (by kernel_rfl) (by kernel_rfl) (fun _ _ _ h => by first | exact h | exact h.elim | exact nomatch h.1) (by rfl) ?_ HC.out ?_
              rotate_left
              · intro W' hW; obtain ⟨c0, c1, c2, c3, c4, c5, c6, c7, c8, c9, c10, c11, c12, c13, c14⟩ := HL.out W' hW; go_simp <;> with_reducible rfl
              simp only [Act.put, List.setIfInBounds_toArray, List.set_cons_zero, List.set_cons_succ]
              refine takeH (i := 8) (v := ?_) rfl (by kernel_rfl) (by kernel_rfl) (by kernel_rfl) (fun _ _ _ h => by first | exact h | exact h.elim | exact nomatch h.1) (by rfl) ?_ HC.out ?_
              rotate_left
              · intro W' hW; obtain ⟨c0, c1, c2, c3, c4, c5, c6, c7, c8, c9, c10, c11, c12, c13, c14⟩ := HL.out W' hW; go_simp <;> with_reducible rfl
              simp only [Act.put, List.setIfInBounds_toArray, List.set_cons_zero, List.set_cons_succ]
              refine takeH (i := 9) (v := ?_) rfl (by kernel_rfl) (by kernel_rfl) (by kernel_rfl) (fun _ _ _ h => by first | exact h | exact h.elim | exact nomatch h.1) (by rfl) ?_ HC.out ?_
              rotate_left
              · intro W' hW; obtain ⟨c0, c1, c2, c3, c4, c5, c6, c7, c8, c9, c10, c11, c12, c13, c14⟩ := HL.out W' hW; go_simp <;> with_reducible rfl
              simp only [Act.put, List.setIfInBounds_toArray, List.set_cons_zero, List.set_cons_succ]
              refine oneH (i := 10) rfl (by kernel_rfl) (by rfl) (fun K hK => ?_)
              go_simp
              go_at_call 47
              refine (HF.out _).mono ?_
              rintro e w1 ⟨rfl, b1⟩
              have HC2 := Lib.hid (HC.out.under b1)
              clear HC
              have HC := HC2
              clear HC2 b1
              refine hK.out _ _ HC.out (fun _ => ?_)
              clear hK K
              refine takeH (i := 11) (v := ?_) rfl (by kernel_rfl) (by kernel_rfl) (by kernel_rfl) (fun _ _ _ h => by first | exact h | exact h.elim | exact nomatch h.1) (by rfl) ?_ HC.out ?_
              rotate_left
              · intro W' hW; obtain ⟨c0, c1, c2, c3, c4, c5, c6, c7, c8, c9, c10, c11, c12, c13, c14⟩ := HL.out W' hW; go_simp <;> with_reducible rfl
              simp only [Act.put, List.setIfInBounds_toArray, List.set_cons_zero, List.set_cons_succ]
              refine takeH (i := 12) (v := ?_) rfl (by kernel_rfl) (by kernel_rfl) (by kernel_rfl) (fun _ _ _ h => by first | exact h | exact h.elim | exact nomatch h.1) (by rfl) ?_ HC.out ?_
              rotate_left
              · intro W' hW; obtain ⟨c0, c1, c2, c3, c4, c5, c6, c7, c8, c9, c10, c11, c12, c13, c14⟩ := HL.out W' hW; go_simp <;> with_reducible rfl
              simp only [Act.put, List.setIfInBounds_toArray, List.set_cons_zero, List.set_cons_succ]
              refine takeH (i := 13) (v := ?_) rfl (by kernel_rfl) (by kernel_rfl) (by kernel_rfl) (fun _ _ _ h => by first | exact h | exact h.elim | exact nomatch h.1) (by rfl) ?_ HC.out ?_
              rotate_left
              · intro W' hW; obtain ⟨c0, c1, c2, c3, c4, c5, c6, c7, c8, c9, c10, c11, c12, c13, c14⟩ := HL.out W' hW; go_simp <;> with_reducible rfl
              simp only [Act.put, List.setIfInBounds_toArray, List.set_cons_zero, List.set_cons_succ]
              refine wpAnyH_done (by kernel_rfl) ?_ _
              go_wp2_with fail
              go_ret
              exact ⟨by rw [HRt.out]; rfl, HC.out.2⟩
            · have hrd : decide (x.f2 + x.f0 - fl x < 1) = true := decide_eq_true (by omega)
              have HRt := Lib.hid (HR.out.trans (decide_eq_false hr))
              obtain ⟨c0, c1, c2, c3, c4, c5, c6, c7, c8, c9, c10, c11, c12, c13, c14⟩ := HBx.out.1.conf
              go_wp2_with fail
              clear c0 c1 c2 c3 c4 c5 c6 c7 c8 c9 c10 c11 c12 c13 c14
              have HC := HCd
              have HL := Lib.hid (fun W' (hW : InBox x w W') => hW.1.conf)
              refine wp_region_held_drew (S := InBox x w) (by kernel_rfl) HC.out (fun _ => ?_)
              refine takeH (i := 0) (v := ?_) rfl (by kernel_rfl) (by kernel_rfl) (by kernel_rfl) (fun _ _ _ h => by first | exact h | exact h.elim | exact nomatch h.1) (by rfl) ?_ HC.out ?_
              rotate_left
              · intro W' hW; obtain ⟨c0, c1, c2, c3, c4, c5, c6, c7, c8, c9, c10, c11, c12, c13, c14⟩ := HL.out W' hW; go_simp <;> with_reducible rfl
              simp only [Act.put, List.setIfInBounds_toArray, List.set_cons_zero, List.set_cons_succ]
              refine takeH (i := 1) (v := ?_) rfl (by kernel_rfl) (by kernel_rfl) (by kernel_rfl) (fun _ _ _ h => by first | exact h | exact h.elim | exact nomatch h.1) (by rfl) ?_ HC.out ?_
              rotate_left
              · intro W' hW; obtain ⟨c0, c1, c2, c3, c4, c5, c6, c7, c8, c9, c10, c11, c12, c13, c14⟩ := HL.out W' hW; go_simp <;> with_reducible rfl
              simp only [Act.put, List.setIfInBounds_toArray, List.set_cons_zero, List.set_cons_succ]
              refine takeH (i := 2) (v := ?_) rfl (by kernel_rfl) (by kernel_rfl) (by kernel_rfl) (fun _ _ _ h => by first | exact h | exact h.elim | exact nomatch h.1) (by rfl) ?_ HC.out ?_
              rotate_left
              · intro W' hW; obtain ⟨c0, c1, c2, c3, c4, c5, c6, c7, c8, c9, c10, c11, c12, c13, c14⟩ := HL.out W' hW; go_simp <;> with_reducible rfl
              simp only [Act.put, List.setIfInBounds_toArray, List.set_cons_zero, List.set_cons_succ]
              refine takeH (i := 3) (v := ?_) rfl (by kernel_rfl) (by kernel_rfl) (by kernel_rfl) (fun _ _ _ h => by first | exact h | exact h.elim | exact nomatch h.1) (by rfl) ?_ HC.out ?_
              rotate_left
              · intro W' hW; obtain ⟨c0, c1, c2, c3, c4, c5, c6, c7, c8, c9, c10, c11, c12, c13, c14⟩ := HL.out W' hW; go_simp <;> with_reducible rfl
              simp only [Act.put, List.setIfInBounds_toArray, List.set_cons_zero, List.set_cons_succ]
              refine takeH (i := 4) (v := ?_) rfl (by kernel_rfl) (by kernel_rfl) (by kernel_rfl) (fun _ _ _ h => by first | exact h | exact h.elim | exact nomatch h.1) (by rfl) ?_ HC.out ?_
              rotate_left
              · intro W' hW; obtain ⟨c0, c1, c2, c3, c4, c5, c6, c7, c8, c9, c10, c11, c12, c13, c14⟩ := HL.out W' hW; go_simp <;> with_reducible rfl
              simp only [Act.put, List.setIfInBounds_toArray, List.set_cons_zero, List.set_cons_succ]
              refine takeH (i := 5) (v := ?_) rfl (by kernel_rfl) (by kernel_rfl) (by kernel_rfl) (fun _ _ _ h => by first | exact h | exact h.elim | exact nomatch h.1) (by rfl) ?_ HC.out ?_
              rotate_left
              · intro W' hW; obtain ⟨c0, c1, c2, c3, c4, c5, c6, c7, c8, c9, c10, c11, c12, c13, c14⟩ := HL.out W' hW; go_simp <;> with_reducible rfl
              simp only [Act.put, List.setIfInBounds_toArray, List.set_cons_zero, List.set_cons_succ]
              refine takeH (i := 6) (v := ?_) rfl (by kernel_rfl) (by kernel_rfl) (by kernel_rfl) (fun _ _ _ h => by first | exact h | exact h.elim | exact nomatch h.1) (by rfl) ?_ HC.out ?_
              rotate_left
              · intro W' hW; obtain ⟨c0, c1, c2, c3, c4, c5, c6, c7, c8, c9, c10, c11, c12, c13, c14⟩ := HL.out W' hW; go_simp <;> with_reducible rfl
              simp only [Act.put, List.setIfInBounds_toArray, List.set_cons_zero, List.set_cons_succ]
              refine takeH (i := 7) (v := ?_) rfl (by kernel_rfl) (by kernel_rfl) (by kernel_rfl) (fun _ _ _ h => by first | exact h | exact h.elim | exact nomatch h.1) (by rfl) ?_ HC.out ?_
              rotate_left
              · intro W' hW; obtain ⟨c0, c1, c2, c3, c4, c5, c6, c7, c8, c9, c10, c11, c12, c13, c14⟩ := HL.out W' hW; go_simp <;> with_reducible rfl
              simp only [Act.put, List.setIfInBounds_toArray, List.set_cons_zero, List.set_cons_succ]
              refine takeH (i := 8) (v := ?_) rfl (by kernel_rfl) (by kernel_rfl) (by kernel_rfl) (fun _ _ _ h => by first | exact h | exact h.elim | exact nomatch h.1) (by rfl) ?_ HC.out ?_
              rotate_left
              · intro W' hW; obtain ⟨c0, c1, c2, c3, c4, c5, c6, c7, c8, c9, c10, c11, c12, c13, c14⟩ := HL.out W' hW; go_simp <;> with_reducible rfl
              simp only [Act.put, List.setIfInBounds_toArray, List.set_cons_zero, List.set_cons_succ]
              refine takeH (i := 9) (v := ?_) rfl (by kernel_rfl) (by kernel_rfl) (by kernel_rfl) (fun _ _ _ h => by first | exact h | exact h.elim | exact nomatch h.1) (by rfl) ?_ HC.out ?_
              rotate_left
              · intro W' hW; obtain ⟨c0, c1, c2, c3, c4, c5, c6, c7, c8, c9, c10, c11, c12, c13, c14⟩ := HL.out W' hW; go_simp <;> with_reducible rfl
              simp only [Act.put, List.setIfInBounds_toArray, List.set_cons_zero, List.set_cons_succ]
              refine oneH (i := 10) rfl (by kernel_rfl) (by rfl) (fun K hK => ?_)
              go_simp
              go_at_call 47
              refine (HF.out _).mono ?_
              rintro e w1 ⟨rfl, b1⟩
              have HC2 := Lib.hid (HC.out.under b1)
              clear HC
              have HC := HC2
              clear HC2 b1
              refine hK.out _ _ HC.out (fun _ => ?_)
              clear hK K
              refine takeH (i := 11) (v := ?_) rfl (by kernel_rfl) (by kernel_rfl) (by kernel_rfl) (fun _ _ _ h => by first | exact h | exact h.elim | exact nomatch h.1) (by rfl) ?_ HC.out ?_
              rotate_left
              · intro W' hW; obtain ⟨c0, c1, c2, c3, c4, c5, c6, c7, c8, c9, c10, c11, c12, c13, c14⟩ := HL.out W' hW; go_simp <;> with_reducible rfl
              simp only [Act.put, List.setIfInBounds_toArray, List.set_cons_zero, List.set_cons_succ]
              refine takeH (i := 12) (v := ?_) rfl (by kernel_rfl) (by kernel_rfl) (by kernel_rfl) (fun _ _ _ h => by first | exact h | exact h.elim | exact nomatch h.1) (by rfl) ?_ HC.out ?_
              rotate_left
              · intro W' hW; obtain ⟨c0, c1, c2, c3, c4, c5, c6, c7, c8, c9, c10, c11, c12, c13, c14⟩ := HL.out W' hW; go_simp <;> with_reducible rfl
              simp only [Act.put, List.setIfInBounds_toArray, List.set_cons_zero, List.set_cons_succ]
              refine takeH (i := 13) (v := ?_) rfl (by kernel_rfl) (by kernel_rfl) (by kernel_rfl) (fun _ _ _ h => by first | exact h | exact h.elim | exact nomatch h.1) (by rfl) ?_ HC.out ?_
              rotate_left
              · intro W' hW; obtain ⟨c0, c1, c2, c3, c4, c5, c6, c7, c8, c9, c10, c11, c12, c13, c14⟩ := HL.out W' hW; go_simp <;> with_reducible rfl
              simp only [Act.put, List.setIfInBounds_toArray, List.set_cons_zero, List.set_cons_succ]
              refine wpAnyH_done (by kernel_rfl) ?_ _
              go_wp2_with fail
              go_ret
              exact ⟨by rw [HRt.out]; rfl, HC.out.2⟩

set_option maxRecDepth 100000 in
/-- Which groups may be. -/
theorem refCheck_any (x : Cf) (B : Nat) (w : World) (hx : Lies x w B) (hB : B ≤ w.heap.size) (hn : x.n ≤ 1000) : Calls Tryd.prog 38 #[x.v] w (IntPost (er (may x)) w) := by
  have no : ∀ k, k < 13 → (decide (loB k ≤ x.at k) && decide (x.at k ≤ hiB k)) = false → may x = false := fun k hk h => not_inB hk (in_no h)
  by_cases b0 : (decide ((0 : Int) ≤ x.f0) && decide (x.f0 ≤ 6)) = true
  · by_cases b1 : (decide ((0 : Int) ≤ x.f1) && decide (x.f1 ≤ 100)) = true
    · by_cases b2 : (decide ((0 : Int) ≤ x.f2) && decide (x.f2 ≤ 3)) = true
      · by_cases b3 : (decide ((0 : Int) ≤ x.f3) && decide (x.f3 ≤ 3)) = true
        · exact refCheck_on x w (hx.more hB) hn b0 b1 b2 b3
        · have b := Bool.eq_false_iff.2 b3
          rw [no 3 (by omega) b]
          exact refCheck_no3 x w b0 b1 b2 b
      · have b := Bool.eq_false_iff.2 b2
        rw [no 2 (by omega) b]
        exact refCheck_no2 x w b0 b1 b
    · have b := Bool.eq_false_iff.2 b1
      rw [no 1 (by omega) b]
      exact refCheck_no1 x w b0 b
  · have b := Bool.eq_false_iff.2 b0
    rw [no 0 (by omega) b]
    exact refCheck_no0 x w b

end Go.Proofs.YtplejbgecihnpaaDoor

/-
  The walk of 'Row' of package conf. Conditions: those that each theorem names.
-/
namespace Go.Proofs.YtplejbgecihnpaaDoor
open Go.RowKit Go.Shelf
attribute [local go_sem] Oper.semAt_some

/-- The first k numbers, noughts behind. -/
def rowTo (x : Cf) (cap k : Nat) : Array Value := ((x.fs.take k ++ List.replicate (cap - k) 0).map (Value.int .i64)).toArray
set_option maxRecDepth 100000 in
theorem rowTo_step (x : Cf) {cap k : Nat} (hk : k < 13) (hc : 13 ≤ cap) : (rowTo x cap k).setIfInBounds k (.int .i64 (x.at k)) = rowTo x cap (k + 1) := by
  have h1 : (x.fs.take k).length = k := by rw [List.length_take, Cf.fs_len]; omega
  have h2 : cap - k = (cap - (k + 1)) + 1 := by omega
  have h3 : x.fs.take (k + 1) = x.fs.take k ++ [x.at k] := by
    have hl : k < x.fs.length := by rw [Cf.fs_len]; exact hk
    rw [List.take_succ_eq_append_getElem hl]
    unfold Cf.at
    rw [List.getD_eq_getElem?_getD, List.getElem?_eq_getElem hl]
    rfl
  unfold rowTo
  rw [h2, List.replicate_succ, h3]
  simp only [List.setIfInBounds_toArray, List.map_append, List.map_cons, List.append_assoc, List.map_nil]
  rw [List.set_append_right _ _ (by rw [List.length_map, h1]; exact Nat.le_refl _), List.length_map, h1, Nat.sub_self, List.set_cons_zero]
  rfl
set_option maxRecDepth 100000 in
theorem rowTo_cell (x : Cf) {cap k : Nat} (hk : k < 13) (hc : 13 ≤ cap) : (rowTo x cap k)[k]? = some (.int .i64 0) := by
  have h1 : (x.fs.take k).length = k := by rw [List.length_take, Cf.fs_len]; omega
  have h2 : cap - k = (cap - (k + 1)) + 1 := by omega
  unfold rowTo
  rw [h2, List.replicate_succ, List.getElem?_toArray, List.getElem?_map, List.getElem?_append_right (by omega), h1, Nat.sub_self]
  rfl
set_option maxRecDepth 100000 in
theorem rowTo_size (x : Cf) {cap k : Nat} (hk : k ≤ 13) (hc : 13 ≤ cap) : (rowTo x cap k).size = cap := by
  unfold rowTo
  simp [Cf.fs]
  omega
set_option maxRecDepth 100000 in
theorem rowTo_none (x : Cf) (cap : Nat) : rowTo x cap 0 = Array.replicate cap (.int .i64 0) := by
  unfold rowTo
  simp
set_option maxRecDepth 100000 in
/-- With Skip stored behind them. -/
theorem rowTo_skip (x : Cf) (n : Nat) : ((rowTo x (14 + n) 13).setIfInBounds 13 (.int .i64 1)).toList.take 14 = iv (x.fs ++ [1]) ∧ (rowTo x (14 + n) 13).toList.take 14 = iv (x.fs ++ [0]) ∧ (rowTo x (14 + n) 13)[13]? = some (.int .i64 0) := by
  have h2 : 14 + n - 13 = n + 1 := by omega
  unfold rowTo
  rw [h2, List.replicate_succ]
  simp [Cf.fs, iv]

set_option maxRecDepth 100000 in
theorem run_make14 (w : World) (n : Nat) (hn : n ≤ 1000) : (Instr.makeSlice 22 (.int .i64 14) (.int .i64 (14 + (n : Int)))).run Tryd.prog w = .ok (.slice (some ⟨w.heap.size, 0, none⟩) 14 (14 + n)) (w.alloc (.cells (Array.replicate (14 + n) (.int .i64 0)) 3)) := by
  obtain ⟨i0, hi, hz0, hz1, hz2⟩ := info_parts info_int
  have h := run_make (P := Tryd.prog) w 22 3 i0 _ Tryd.underlying22 hi hz0 .i64 .i64 14 (14 + (n : Int)) (by omega) (by omega) (by rw [hz2]; omega) (by omega)
  have e1 : (14 + (n : Int)).toNat * i0.size = 14 + n := by rw [hz1]; omega
  have e2 : (14 + (n : Int)).toNat = 14 + n := by omega
  rw [h, e1, e2]
  have e3 : ∀ m, madeCells (Value.int .i64 0).cells m = Array.replicate m (.int .i64 0) := fun m => by
    unfold madeCells
    refine Array.ext (by simp) fun i h1 h2 => ?_
    simp [Value.cells, Nat.mod_one]
  rw [e3]
  rfl

/-- What holds between two rounds. -/
structure RowAt (x : Cf) (w : World) (L : Nat) (pre : List Nat) (W : World) : Prop where
  box : Whole W w.heap.size 24 x.cells
  lbox : Whole W (L + 1) 22 #[.slice (some ⟨L, 0, none⟩) 14 (14 + x.n)]
  row : Whole W L 3 (rowTo x (14 + x.n) pre.length)
  below : Below w.heap.size w W

set_option maxRecDepth 100000 in
theorem rowAt_own (x : Cf) (w : World) (L B : Nat) (hB : w.heap.size ≤ B) : OwnFrom B (RowAt x w L) := by
  intro pre W1 W2 row h hg hr
  have hr' : ∀ r, row = some r → ∃ o : Obj, W1.heap[r]? = some o ∧ o.isCells = false := fun r e => (hr r e).2
  exact ⟨h.box.turn hg hr', h.lbox.turn hg hr', h.row.turn hg hr', h.below.grown hg h.below.size (fun k e => by have := (hr k e).1; omega)⟩

set_option maxRecDepth 100000 in
/-- The marks put behind the numbers and Skip. -/
theorem row_app (x : Cf) (w W : World) (L : Nat) (cells : Array Value) (s : Int) (hw : Whole W L 3 cells) (hsz : cells.size = 14 + x.n) (ht : cells.toList.take 14 = iv (x.fs ++ [s])) (hL : w.heap.size ≤ L) (hn : x.n ≤ 1000) (hx : Lies x W w.heap.size) (hb : Below w.heap.size w W) :
    ∃ A c W3, (Builtin.append_ #[22, 22] 22 #[.slice (some ⟨L, 0, none⟩) 14 (14 + x.n), .slice x.A x.n x.c]).run Tryd.prog W = .ok (.slice A (14 + x.n) c) W3 ∧
      W3.ownsRow w.heap.size 3 1 (.slice A (14 + x.n) c) (14 + x.n) (iv (x.fs ++ s :: x.ms)) ∧ Below w.heap.size w W3 ∧ KeepsOthers W W3 := by
  have hown : W.ownsRow w.heap.size 3 1 (.slice (some ⟨L, 0, none⟩) 14 (14 + x.n)) 14 (iv (x.fs ++ [s])) :=
    ⟨by simp [iv, Cf.fs], .inr ⟨L, 14 + x.n, cells, rfl, hL, hw, by omega, by unfold maxLen; omega, by omega, by rw [Nat.mul_one]; exact ht⟩⟩
  obtain ⟨v, W3, r, o3, g⟩ := run_appI W w.heap.size _ 14 _ hown w.heap.size x.A x.n x.c x.ms hx.rd (by omega) hb.size
  obtain ⟨A, c, rfl⟩ := own_form o3
  refine ⟨A, c, W3, r, ?_, hb.trans (below_row hown g hb.size), keeps_row hown g⟩
  have e : iv (x.fs ++ [s]) ++ iv x.ms = iv (x.fs ++ s :: x.ms) := by simp [iv]
  rw [← e]
  exact o3

def RowIs (x : Cf) (w : World) (e : Ending) (w' : World) : Prop :=
  ∃ A n c, e = .returned (.tuple #[.slice A n c, .int .i64 (er (may x))]) ∧ w'.ownsRow w.heap.size 3 1 (.slice A n c) n (iv (if may x = true then rowOf x else [])) ∧ Below w.heap.size w w'

end Go.Proofs.YtplejbgecihnpaaDoor

/-
  The walks of 'Floor', 'Bound', 'Row', 'Same' of the document's own answer (layer 7). Conditions: those that each theorem names.
-/
namespace Go.Proofs.YtplejbgecihnpaaDoor
open Go.RowKit Go.Shelf

set_option maxRecDepth 100000 in
set_option maxHeartbeats 1000000 in
theorem refFloorC_any (x : Cf) (w : World) (h : Lies x w w.heap.size) (hn : x.n ≤ 1000) : Calls Tryd.prog 33 #[x.v] w (IntPost (floorOf x) w) := by
  have hb : Below w.heap.size w (w.alloc (.cells x.cells 24)) := (Below.refl _ w).alloc (Nat.le_refl _) _
  have HR := Lib.hid (refCheck_any x w.heap.size _ (h.below hb) hb.size hn)
  have HB := Lib.hid hb
  have HX := Lib.hid (InBox.new x w)
  clear h hb
  by_cases hm : may x = true
  · rw [hm] at HR
    have HF := Lib.hid (show floorOf x = fl x by unfold floorOf; rw [if_pos hm])
    have HC := Lib.hid (refFloor_any x (may_inB hm))
    have he : er true = 0 := rfl
    rw [he] at HR
    clear hm he
    go_enter Tryd.func33, Tryd.ntmps33
    go_wp2_with fail
    refine (HR.out).mono ?_
    rintro e w1 ⟨rfl, b1⟩
    have HX1 := Lib.hid (HX.out.under b1)
    clear b1 HR HX HB
    obtain ⟨c0, c1, c2, c3, c4, c5, c6, c7, c8, c9, c10, c11, c12, c13, c14⟩ := HX1.out.1.conf
    go_wp2_with fail
    refine (HC.out _).mono ?_
    rintro e w2 ⟨rfl, b2⟩
    have HX2 := Lib.hid (HX1.out.under b2)
    clear b2 HX1 HC
    go_wp2_with fail
    go_ret
    exact ⟨by rw [HF.out]; rfl, HX2.out.2⟩
  · have hm : may x = false := by simpa using hm
    rw [hm] at HR
    have HF := Lib.hid (show floorOf x = 0 by unfold floorOf; rw [hm]; rfl)
    have he : er false = 70 := rfl
    rw [he] at HR
    clear hm he
    go_enter Tryd.func33, Tryd.ntmps33
    go_wp2_with fail
    refine (HR.out).mono ?_
    rintro e w1 ⟨rfl, b1⟩
    have HB1 := Lib.hid (HB.out.trans (b1.mono HB.out.size))
    clear b1 HR
    go_wp2_with fail
    go_ret
    exact ⟨by rw [HF.out]; rfl, HB1.out⟩

set_option maxRecDepth 100000 in
set_option maxHeartbeats 1000000 in
theorem refBoundC_any (x : Cf) (w : World) (h : Lies x w w.heap.size) (hn : x.n ≤ 1000) : Calls Tryd.prog 28 #[x.v] w (IntPost (boundOf x) w) := by
  have hb : Below w.heap.size w (w.alloc (.cells x.cells 24)) := (Below.refl _ w).alloc (Nat.le_refl _) _
  have HR := Lib.hid (refCheck_any x w.heap.size _ (h.below hb) hb.size hn)
  have HB := Lib.hid hb
  have HX := Lib.hid (InBox.new x w)
  clear h hb
  by_cases hm : may x = true
  · rw [hm] at HR
    have HF := Lib.hid (show boundOf x = x.f0 + x.f2 + x.f3 by unfold boundOf; rw [if_pos hm])
    obtain ⟨⟨⟨a0, a1⟩, _, ⟨e0, e1⟩, ⟨g0, g1⟩⟩, _⟩ := inB_iff.1 (may_inB hm)
    have he : er true = 0 := rfl
    rw [he] at HR
    clear hm he
    go_enter Tryd.func28, Tryd.ntmps28
    go_wp2_with fail
    refine (HR.out).mono ?_
    rintro e w1 ⟨rfl, b1⟩
    have HX1 := Lib.hid (HX.out.under b1)
    clear b1 HR HX HB
    obtain ⟨c0, c1, c2, c3, c4, c5, c6, c7, c8, c9, c10, c11, c12, c13, c14⟩ := HX1.out.1.conf
    go_wp2_with fail
    go_ret
    exact ⟨by rw [HF.out]; rfl, HX1.out.2⟩
  · have hm : may x = false := by simpa using hm
    rw [hm] at HR
    have HF := Lib.hid (show boundOf x = 0 by unfold boundOf; rw [hm]; rfl)
    have he : er false = 70 := rfl
    rw [he] at HR
    clear hm he
    go_enter Tryd.func28, Tryd.ntmps28
    go_wp2_with fail
    refine (HR.out).mono ?_
    rintro e w1 ⟨rfl, b1⟩
    have HB1 := Lib.hid (HB.out.trans (b1.mono HB.out.size))
    clear b1 HR
    go_wp2_with fail
    go_ret
    exact ⟨by rw [HF.out]; rfl, HB1.out⟩

/-- The literal of the numbers and Skip. -/
def row14 (x : Cf) (s : Int) : Array Value := #[.int .i64 x.f0, .int .i64 x.f1, .int .i64 x.f2, .int .i64 x.f3, .int .i64 x.f4, .int .i64 x.f5, .int .i64 x.f6, .int .i64 x.f7, .int .i64 x.f8, .int .i64 x.f9, .int .i64 x.f10, .int .i64 x.f11, .int .i64 x.f12, .int .i64 s]
set_option maxRecDepth 100000 in
theorem row14_app (x : Cf) (w W : World) (s : Int) (hn : x.n ≤ 1000) (hx : Lies x W w.heap.size) (hb : Below w.heap.size w W) :
    ∃ A c W3, (Builtin.append_ #[22, 22] 22 #[.slice (some ⟨W.heap.size, 0, none⟩) 14 14, .slice x.A x.n x.c]).run Tryd.prog (W.alloc (.cells (row14 x s) 3)) = .ok (.slice A (14 + x.n) c) W3 ∧
      W3.ownsRow w.heap.size 3 1 (.slice A (14 + x.n) c) (14 + x.n) (iv (x.fs ++ s :: x.ms)) ∧ Below w.heap.size w W3 := by
  have hb1 : Below w.heap.size w (W.alloc (.cells (row14 x s) 3)) := hb.alloc hb.size _
  have hown : (W.alloc (.cells (row14 x s) 3)).ownsRow w.heap.size 3 1 (.slice (some ⟨W.heap.size, 0, none⟩) 14 14) 14 (iv (x.fs ++ [s])) :=
    ⟨by simp [iv, Cf.fs], .inr ⟨W.heap.size, 14, row14 x s, rfl, hb.size, heap_alloc_new W _, by omega, by unfold maxLen; omega, rfl, rfl⟩⟩
  obtain ⟨v, W3, r, o3, g⟩ := run_appI _ w.heap.size _ 14 _ hown w.heap.size x.A x.n x.c x.ms (hx.on hb.size ((Below.refl _ W).alloc (Nat.le_refl _) _)).rd (by omega) hb1.size
  obtain ⟨A, c, rfl⟩ := own_form o3
  refine ⟨A, c, W3, r, ?_, hb1.trans (below_row hown g hb1.size)⟩
  have e : iv (x.fs ++ [s]) ++ iv x.ms = iv (x.fs ++ s :: x.ms) := by simp [iv]
  rw [← e]
  exact o3

end Go.Proofs.YtplejbgecihnpaaDoor

/-
  A region that draws its order, whose operations but the last one lay new memory at most: what each yields stands, whatever the order; the last one waits for all. Conditions: those that each theorem names.
-/
namespace Go.Proofs.YtplejbgecihnpaaDoor
open Go.RowKit Go.Shelf

section
variable {P : Program} {ops : Array Oper} {Q : Exit → Act → World → Prop}
def dstAt (ops : Array Oper) (i : Nat) : Option Tmp := (ops[i]?).bind (·.dst)
/-- Each but the last one has no guard and yields into a slot of its own, one of ds. -/
def growOk (ops : Array Oper) (n : Nat) (ds : List Nat) : Bool :=
  ((List.range n).all fun i => match dstAt ops i with
    | some d => ds.contains d && (List.range n).all fun j => i == j || dstAt ops j != some d
    | none => false) &&
  (((List.range (n + 1)).all fun i => match ops[i]? with
    | some o => o.guard.isNone
    | none => false) &&
  ((match ops[n]? with
    | some o => o.dst.isNone && (List.range n).all fun j => o.after.any fun e => Region.binds .any e && e.on == j
    | none => false) && ops.size == n + 1))
def waits (o : Oper) (j : Nat) : Bool := o.after.any fun e => Region.binds .any e && e.on == j

set_option maxRecDepth 100000 in
theorem region_grow {id : Nat} {a0 : Act} {W : World} (hm : P.follows .mixedOrders = true) (hl : lowOnly ops = true) (n : Nat) (ds : List Nat) (hk : growOk ops n ds = true) (hds : ∀ d ∈ ds, d < a0.tmps.size)
    (R : Nat → Value → World → Prop) (hR : ∀ i v w w', Below w.heap.size w w' → R i v w → R i v w')
    (step : ∀ i o d a w, i < n → ops[i]? = some o → o.dst = some d → Agree ds a0 a → Below W.heap.size W w → (∀ j d', waits o j = true → dstAt ops j = some d' → R j (a.eval (.tmp d')) w) → ∀ K : Act → World → Prop, (∀ v w', Below w.heap.size w w' → R i v w' → K (a.put (some d) v) w') → o.wp P a w K Q)
    (last : ∀ o a w, ops[n]? = some o → Agree ds a0 a → Below W.heap.size W w → (∀ i d, i < n → dstAt ops i = some d → R i (a.eval (.tmp d)) w) → ∀ K : Act → World → Prop, (∀ a' w', Q .normal a' w' → K a' w') → o.wp P a w K Q) : (Code.region id ops true).wp P Q a0 W := by
  unfold growOk at hk
  simp only [Bool.and_eq_true, List.all_eq_true, List.mem_range, beq_iff_eq] at hk
  obtain ⟨h1, h2, h3, hsz⟩ := hk
  have hd : ∀ i, i < n → ∃ d, dstAt ops i = some d ∧ d ∈ ds ∧ ∀ j, j < n → j ≠ i → dstAt ops j ≠ some d := by
    intro i hi
    have := h1 i hi
    split at this
    · rename_i d e
      simp only [Bool.and_eq_true, List.all_eq_true, List.mem_range, Bool.or_eq_true, beq_iff_eq, bne_iff_ne] at this
      refine ⟨d, e, by simpa using this.1, fun j hj hne => ?_⟩
      rcases this.2 j hj with h | h
      · exact absurd h.symm hne
      · exact h
    · cases this
  have hgd : ∀ (i : Nat) (o : Oper), ops[i]? = some o → o.guard = none := by
    intro i o ho
    have hlt := (Array.getElem?_eq_some_iff.1 ho).1
    have := h2 i (by omega)
    rw [ho] at this
    simpa using this
  obtain ⟨ol, hol⟩ : ∃ o : Oper, ops[n]? = some o := ⟨_, Array.getElem?_eq_getElem (by omega)⟩
  rw [hol] at h3
  simp only [Bool.and_eq_true, List.all_eq_true, List.mem_range] at h3
  have run : ∀ {i : Nat} {o : Oper} {K : Act → World → Prop} {a : Act} {w : World}, ops[i]? = some o → o.wp P a w K Q → wpOp P ops Q i K a w := by
    intro i o K a w ho h
    unfold wpOp
    rw [ho]
    dsimp only
    rw [if_pos (by unfold Region.wanted; rw [hgd i o ho])]
    exact .inl h
  refine region_clo hm hl (fun L a w => (L n = true → Q .normal a w) ∧ (L n = false → Agree ds a0 a ∧ Below W.heap.size W w ∧ ∀ i d, i < n → L i = true → dstAt ops i = some d → R i (a.eval (.tmp d)) w)) ⟨fun h => (by cases h), fun _ => ⟨Agree.refl _ _, ⟨rfl, rfl, rfl, Nat.le_refl _, fun _ _ => rfl⟩, fun _ _ _ h => (by cases h)⟩⟩ ?_ (fun L a w hall h => h.1 (hall n (by omega)))
  intro i o L a w ho hi hclo hall h
  have hlt : i < n + 1 := by have := (Array.getElem?_eq_some_iff.1 ho).1; omega
  have hLn : L n = false ∨ L n = true := by cases L n <;> simp
  rcases Nat.lt_or_ge i n with hin | hin
  · have hn0 : L n = false := by
      rcases hLn with h0 | h0
      · exact h0
      · have h4 := h3.2 i hin
        rw [Array.any_eq_true'] at h4
        obtain ⟨e, he, h5⟩ := h4
        simp only [Bool.and_eq_true, beq_iff_eq] at h5
        have := hclo n ol hol h0 e he h5.1
        rw [h5.2, hi] at this
        cases this
    obtain ⟨hag, hbel, hgot⟩ := h.2 hn0
    obtain ⟨d, hdi, hdm, hdne⟩ := hd i hin
    have hdo : o.dst = some d := by unfold dstAt at hdi; rw [ho] at hdi; exact hdi
    refine run ho (step i o d a w hin ho hdo hag hbel (fun j d' hw hj => ?_) _ (fun v w' hb hv => ⟨fun h0 => ?_, fun _ => ⟨hag.put hdm v, hbel.trans (hb.mono hbel.size), fun j d' hj hLj hdj => ?_⟩⟩))
    · unfold waits at hw
      rw [Array.any_eq_true'] at hw
      obtain ⟨e, he, h5⟩ := hw
      simp only [Bool.and_eq_true, beq_iff_eq] at h5
      have h6 := hall e he h5.1
      rw [h5.2] at h6
      have h7 := lowOnly_at hl ho e he h5.1
      exact hgot j d' (by omega) h6 hj
    · replace h0 : (if n = i then true else L n) = true := h0
      rw [if_neg (by omega)] at h0
      rw [hn0] at h0; cases h0
    · by_cases hji : j = i
      · subst hji
        rw [hdi] at hdj
        cases hdj
        rw [eval_new (by rw [hag.size]; exact hds d hdm)]
        exact hv
      · replace hLj : (if j = i then true else L j) = true := hLj
        rw [if_neg hji] at hLj
        rw [eval_old (fun e => hdne j hj hji (by rw [hdj, e]))]
        exact hR j _ _ _ hb (hgot j d' hj hLj hdj)
  · have hin' : i = n := by omega
    subst hin'
    obtain ⟨hag, hbel, hgot⟩ := h.2 hi
    rw [hol] at ho
    cases ho
    refine run hol (last ol a w hol hag hbel (fun j d hj hdj => hgot j d hj ?_ hdj) _ (fun a' w' hq => ⟨fun _ => hq, fun h0 => (by simp at h0)⟩))
    have h4 := h3.2 j hj
    rw [Array.any_eq_true'] at h4
    obtain ⟨e, he, h5⟩ := h4
    simp only [Bool.and_eq_true, beq_iff_eq] at h5
    have := hall e he h5.1
    rw [h5.2] at this
    exact this
end

end Go.Proofs.YtplejbgecihnpaaDoor
