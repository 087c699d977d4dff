/-
  The walk of 'Check' of the document's own answer (layer 7): which groups may be. Conditions: those that each theorem names.
-/
import Derived.Test.YtdjieigmncoooaaDoorCfFloor
import Derived.Test.YtdjieigmncoooaaDoorCfMarked
namespace Go.Proofs.YtdjieigmncoooaaDoor
open Go.RowKit Go.Shelf

/-- The five waits that may be nought. -/
def wt (x : Cf) (j : Nat) : Int := [x.f4, x.f5, x.f6, x.f7, x.f11].getD j 0
set_option maxRecDepth 100000 in
theorem within_is {n a b : Int} {v : Bool} (h : (decide (a ≤ n) && decide (n ≤ b)) = v) (w : World) : Calls Tryd.prog 25 #[.int .i64 n, .int .i64 a, .int .i64 b] w fun e w' => e = .returned (.bool v) ∧ w' = w := by
  subst h; exact within_any n a b w
set_option maxRecDepth 100000 in
theorem in_no {n a b : Int} (h : (decide (a ≤ n) && decide (n ≤ b)) = false) : n < a ∨ b < n := by
  by_cases h1 : a ≤ n
  · by_cases h2 : n ≤ b
    · simp [h1, h2] at h
    · omega
  · omega
set_option maxRecDepth 100000 in
theorem in_yes {n a b : Int} (h : (decide (a ≤ n) && decide (n ≤ b)) = true) : a ≤ n ∧ n ≤ b := by simpa using h
set_option maxRecDepth 100000 in
theorem not_wt {x : Cf} {j : Nat} (hj : j < 5) (h : wt x j < 0 ∨ 20 < wt x j) : may x = false := by
  rcases (by omega : j = 0 ∨ j = 1 ∨ j = 2 ∨ j = 3 ∨ j = 4) with rfl | rfl | rfl | rfl | rfl
  · exact not_inB (k := 4) (by omega) h
  · exact not_inB (k := 5) (by omega) h
  · exact not_inB (k := 6) (by omega) h
  · exact not_inB (k := 7) (by omega) h
  · exact not_inB (k := 11) (by omega) h
set_option maxRecDepth 100000 in
theorem may_no_marks {x : Cf} (h : marksB x.ms = false) : may x = false := by unfold may; rw [h]; simp
set_option maxRecDepth 100000 in
theorem may_no_room {x : Cf} (h : roomB x = false) : may x = false := by unfold may; rw [h]; simp

/-- What holds in the loops: the group in its box, the waits in their array. -/
structure ChkAt (x : Cf) (w W : World) : Prop where
  box : InBox x w W
  row : Whole W (w.heap.size + 1) 49 #[.int .i64 x.f4, .int .i64 x.f5, .int .i64 x.f6, .int .i64 x.f7, .int .i64 x.f11]
set_option maxRecDepth 100000 in
theorem ChkAt.drewN {x : Cf} {w W : World} (h : ChkAt x w W) (k : Nat) : ChkAt x w (W.drewN k) := ⟨⟨h.box.1, below_drewN h.box.2 k⟩, h.row⟩
set_option maxRecDepth 100000 in
theorem wt_cell {x : Cf} {w W : World} (h : ChkAt x w W) {j : Nat} (hj : j < 5) : W.cell? ⟨w.heap.size + 1, j, none⟩ = some (.int .i64 (wt x j)) := by
  rcases (by omega : j = 0 ∨ j = 1 ∨ j = 2 ∨ j = 3 ∨ j = 4) with rfl | rfl | rfl | rfl | rfl
  all_goals exact h.row.cell _

set_option maxRecDepth 100000 in
set_option maxHeartbeats 1000000 in
theorem refCheck_no0 (x : Cf) (w : World) (b0 : (decide ((0 : Int) ≤ x.f0) && decide (x.f0 ≤ 6)) = false) : Calls Tryd.prog 16 #[x.v] w (IntPost 70 w) := by
  have HB0 := Lib.hid (InBox.new x w)
  have hw0 := within_is b0
  clear b0
  go_enter Tryd.func16, Tryd.ntmps16
  go_wp2_with fail
  refine (hw0 _).mono ?_
  rintro e w' ⟨rfl, rfl⟩
  clear hw0
  go_wp2_with fail
  go_ret
  exact ⟨rfl, HB0.out.2⟩

set_option maxRecDepth 100000 in
set_option maxHeartbeats 1000000 in
theorem refCheck_no1 (x : Cf) (w : World) (b0 : (decide ((0 : Int) ≤ x.f0) && decide (x.f0 ≤ 6)) = true) (b1 : (decide ((0 : Int) ≤ x.f1) && decide (x.f1 ≤ 100)) = false) : Calls Tryd.prog 16 #[x.v] w (IntPost 70 w) := by
  have HB0 := Lib.hid (InBox.new x w)
  have hw0 := within_is b0
  have hw1 := within_is b1
  clear b0 b1
  go_enter Tryd.func16, Tryd.ntmps16
  go_wp2_with fail
  refine (hw0 _).mono ?_
  rintro e w' ⟨rfl, rfl⟩
  clear hw0
  go_wp2_with fail
  refine (hw1 _).mono ?_
  rintro e w' ⟨rfl, rfl⟩
  clear hw1
  go_wp2_with fail
  go_ret
  exact ⟨rfl, HB0.out.2⟩

set_option maxRecDepth 100000 in
set_option maxHeartbeats 1000000 in
theorem refCheck_no2 (x : Cf) (w : World) (b0 : (decide ((0 : Int) ≤ x.f0) && decide (x.f0 ≤ 6)) = true)  (b1 : (decide ((0 : Int) ≤ x.f1) && decide (x.f1 ≤ 100)) = true) (b2 : (decide ((0 : Int) ≤ x.f2) && decide (x.f2 ≤ 3)) = false) : Calls Tryd.prog 16 #[x.v] w (IntPost 70 w) := by
  have HB0 := Lib.hid (InBox.new x w)
  have hw0 := within_is b0
  have hw1 := within_is b1
  have hw2 := within_is b2
  clear b0 b1 b2
  go_enter Tryd.func16, Tryd.ntmps16
  go_wp2_with fail
  refine (hw0 _).mono ?_
  rintro e w' ⟨rfl, rfl⟩
  clear hw0
  go_wp2_with fail
  refine (hw1 _).mono ?_
  rintro e w' ⟨rfl, rfl⟩
  clear hw1
  go_wp2_with fail
  refine (hw2 _).mono ?_
  rintro e w' ⟨rfl, rfl⟩
  clear hw2
  go_wp2_with fail
  go_ret
  exact ⟨rfl, HB0.out.2⟩

set_option maxRecDepth 100000 in
set_option maxHeartbeats 1000000 in
theorem refCheck_no3 (x : Cf) (w : World) (b0 : (decide ((0 : Int) ≤ x.f0) && decide (x.f0 ≤ 6)) = true)  (b1 : (decide ((0 : Int) ≤ x.f1) && decide (x.f1 ≤ 100)) = true)  (b2 : (decide ((0 : Int) ≤ x.f2) && decide (x.f2 ≤ 3)) = true) (b3 : (decide ((0 : Int) ≤ x.f3) && decide (x.f3 ≤ 3)) = false) : Calls Tryd.prog 16 #[x.v] w (IntPost 70 w) := by
  have HB0 := Lib.hid (InBox.new x w)
  have hw0 := within_is b0
  have hw1 := within_is b1
  have hw2 := within_is b2
  have hw3 := within_is b3
  clear b0 b1 b2 b3
  go_enter Tryd.func16, Tryd.ntmps16
  go_wp2_with fail
  refine (hw0 _).mono ?_
  rintro e w' ⟨rfl, rfl⟩
  clear hw0
  go_wp2_with fail
  refine (hw1 _).mono ?_
  rintro e w' ⟨rfl, rfl⟩
  clear hw1
  go_wp2_with fail
  refine (hw2 _).mono ?_
  rintro e w' ⟨rfl, rfl⟩
  clear hw2
  go_wp2_with fail
  refine (hw3 _).mono ?_
  rintro e w' ⟨rfl, rfl⟩
  clear hw3
  go_wp2_with fail
  go_ret
  exact ⟨rfl, HB0.out.2⟩

set_option maxRecDepth 100000 in
set_option maxHeartbeats 4000000 in
theorem refCheck_on (x : Cf) (w : World) (hx : Lies x w w.heap.size) (hn : x.n ≤ 1000) (b0 : (decide ((0 : Int) ≤ x.f0) && decide (x.f0 ≤ 6)) = true)  (b1 : (decide ((0 : Int) ≤ x.f1) && decide (x.f1 ≤ 100)) = true)  (b2 : (decide ((0 : Int) ≤ x.f2) && decide (x.f2 ≤ 3)) = true)  (b3 : (decide ((0 : Int) ≤ x.f3) && decide (x.f3 ≤ 3)) = true) : Calls Tryd.prog 16 #[x.v] w (IntPost (er (may x)) w) := by
  have HX := Lib.hid hx
  have HB0 := Lib.hid (InBox.new x w)
  have hw0 := within_is b0
  have hw1 := within_is b1
  have hw2 := within_is b2
  have hw3 := within_is b3
  clear hx
  have HY0 := Lib.hid (in_yes b0)
  have HY1 := Lib.hid (in_yes b1)
  have HY2 := Lib.hid (in_yes b2)
  have HY3 := Lib.hid (in_yes b3)
  clear b0 b1 b2 b3
  go_enter Tryd.func16, Tryd.ntmps16
  go_wp2_with fail
  refine (hw0 _).mono ?_
  rintro e w' ⟨rfl, rfl⟩
  clear hw0
  go_wp2_with fail
  refine (hw1 _).mono ?_
  rintro e w' ⟨rfl, rfl⟩
  clear hw1
  go_wp2_with fail
  refine (hw2 _).mono ?_
  rintro e w' ⟨rfl, rfl⟩
  clear hw2
  go_wp2_with fail
  refine (hw3 _).mono ?_
  rintro e w' ⟨rfl, rfl⟩
  clear hw3
  go_wp2_with fail
  have hC0 : ChkAt x w ((w.alloc (.cells x.cells 24)).alloc (.cells #[.int .i64 x.f4, .int .i64 x.f5, .int .i64 x.f6, .int .i64 x.f7, .int .i64 x.f11] 49)) := by
    refine ⟨HB0.out.under ((Below.refl _ _).alloc (Nat.le_refl _) _), ?_⟩
    have := Whole.new (w.alloc (.cells x.cells 24)) 49 #[.int .i64 x.f4, .int .i64 x.f5, .int .i64 x.f6, .int .i64 x.f7, .int .i64 x.f11]
    rwa [World.size_alloc] at this
  have HC0 := Lib.hid hC0
  clear hC0 HB0
  go_loopw [4] (fun i wr => ∃ j : Nat, i = .int .i64 (j : Int) ∧ j ≤ 5 ∧ (∀ q, q < j → 0 ≤ wt x q ∧ wt x q ≤ 20) ∧ ChkAt x w wr) (fun i _ => 5 - (intOf i).toNat)
  case atStart => exact ⟨0, rfl, by omega, fun q h => absurd h (by omega), HC0.out⟩
  case round =>
    obtain ⟨j, rfl, hj, hall, hC⟩ := hrel
    clear HC0
    have HAll := Lib.hid hall
    have HC := Lib.hid hC
    clear hall hC
    by_cases hlt : j < 5
    · have hcell := wt_cell HC.out hlt
      have hji : (j : Int) < 5 := by omega
      have HN := Lib.hid (not_wt (x := x) hlt)
      obtain ⟨z, hz⟩ : ∃ z, wt x j = z := ⟨_, rfl⟩
      rw [hz] at hcell HN
      have HZ := Lib.hid hz
      clear hz
      by_cases bz : (decide ((0 : Int) ≤ z) && decide (z ≤ 20)) = true
      · have hwz := within_is bz
        have HBz := Lib.hid (in_yes bz)
        clear bz
        go_wp2_with fail
        refine (hwz _).mono ?_
        rintro e w' ⟨rfl, rfl⟩
        go_wp2_with fail
        go_roundw
        case rel =>
          refine ⟨j + 1, by go_num, by omega, fun q hq => ?_, HC.out⟩
          rcases (by omega : q < j ∨ q = j) with h | rfl
          · exact HAll.out q h
          · rw [HZ.out]; exact HBz.out
        case measure => simp [intOf]; omega
      · have bz' : (decide ((0 : Int) ≤ z) && decide (z ≤ 20)) = false := by simpa using bz
        have hwz := within_is bz'
        have HM := Lib.hid (HN.out (in_no bz'))
        clear bz bz'
        go_wp2_with fail
        refine (hwz _).mono ?_
        rintro e w' ⟨rfl, rfl⟩
        go_wp2_with fail
        go_ret
        exact ⟨by rw [HM.out]; rfl, HC.out.box.2⟩
    · obtain rfl : j = 5 := by omega
      clear hlt hj
      obtain ⟨c0, c1, c2, c3, c4, c5, c6, c7, c8, c9, c10, c11, c12, c13, c14⟩ := HC.out.box.1.conf
      by_cases b8 : (decide ((1 : Int) ≤ x.f8) && decide (x.f8 ≤ 20)) = true
      rotate_left
      · have b8' : (decide ((1 : Int) ≤ x.f8) && decide (x.f8 ≤ 20)) = false := by simpa using b8
        have HM := Lib.hid (not_inB (x := x) (k := 8) (by omega) (in_no b8'))
        have hw8 := within_is b8'
        clear b8 b8'
        go_wp2_with fail
        refine (hw8 _).mono ?_
        rintro e w' ⟨rfl, rfl⟩
        clear hw8
        go_wp2_with fail
        go_ret
        exact ⟨by rw [HM.out]; rfl, HC.out.box.2⟩
      by_cases b9 : (decide ((1 : Int) ≤ x.f9) && decide (x.f9 ≤ 20)) = true
      rotate_left
      · have b9' : (decide ((1 : Int) ≤ x.f9) && decide (x.f9 ≤ 20)) = false := by simpa using b9
        have HM := Lib.hid (not_inB (x := x) (k := 9) (by omega) (in_no b9'))
        have hw8 := within_is b8
        have hw9 := within_is b9'
        clear b8 b9 b9'
        go_wp2_with fail
        refine (hw8 _).mono ?_
        rintro e w' ⟨rfl, rfl⟩
        clear hw8
        go_wp2_with fail
        refine (hw9 _).mono ?_
        rintro e w' ⟨rfl, rfl⟩
        clear hw9
        go_wp2_with fail
        go_ret
        exact ⟨by rw [HM.out]; rfl, HC.out.box.2⟩
      by_cases b10 : (decide ((1 : Int) ≤ x.f10) && decide (x.f10 ≤ 20)) = true
      rotate_left
      · have b10' : (decide ((1 : Int) ≤ x.f10) && decide (x.f10 ≤ 20)) = false := by simpa using b10
        have HM := Lib.hid (not_inB (x := x) (k := 10) (by omega) (in_no b10'))
        have hw8 := within_is b8
        have hw9 := within_is b9
        have hw10 := within_is b10'
        clear b8 b9 b10 b10'
        go_wp2_with fail
        refine (hw8 _).mono ?_
        rintro e w' ⟨rfl, rfl⟩
        clear hw8
        go_wp2_with fail
        refine (hw9 _).mono ?_
        rintro e w' ⟨rfl, rfl⟩
        clear hw9
        go_wp2_with fail
        refine (hw10 _).mono ?_
        rintro e w' ⟨rfl, rfl⟩
        clear hw10
        go_wp2_with fail
        go_ret
        exact ⟨by rw [HM.out]; rfl, HC.out.box.2⟩
      by_cases b12 : (decide ((1 : Int) ≤ x.f12) && decide (x.f12 ≤ 1099511627776)) = true
      rotate_left
      · have b12' : (decide ((1 : Int) ≤ x.f12) && decide (x.f12 ≤ 1099511627776)) = false := by simpa using b12
        have HM := Lib.hid (not_inB (x := x) (k := 12) (by omega) (in_no b12'))
        have hw8 := within_is b8
        have hw9 := within_is b9
        have hw10 := within_is b10
        have hw12 := within_is b12'
        clear b8 b9 b10 b12 b12'
        go_wp2_with fail
        refine (hw8 _).mono ?_
        rintro e w' ⟨rfl, rfl⟩
        clear hw8
        go_wp2_with fail
        refine (hw9 _).mono ?_
        rintro e w' ⟨rfl, rfl⟩
        clear hw9
        go_wp2_with fail
        refine (hw10 _).mono ?_
        rintro e w' ⟨rfl, rfl⟩
        clear hw10
        go_wp2_with fail
        refine (hw12 _).mono ?_
        rintro e w' ⟨rfl, rfl⟩
        clear hw12
        go_wp2_with fail
        go_ret
        exact ⟨by rw [HM.out]; rfl, HC.out.box.2⟩
      have hw8 := within_is b8
      have hw9 := within_is b9
      have hw10 := within_is b10
      have hw12 := within_is b12
      have HY8 := Lib.hid (in_yes b8)
      have HY9 := Lib.hid (in_yes b9)
      have HY10 := Lib.hid (in_yes b10)
      have HY12 := Lib.hid (in_yes b12)
      clear b8 b9 b10 b12
      have hall := HAll.out
      have HIn := Lib.hid (show inB x = true from inB_iff.2 ⟨⟨HY0.out, HY1.out, HY2.out, HY3.out⟩, ⟨hall 0 (by omega), hall 1 (by omega), hall 2 (by omega), hall 3 (by omega)⟩, HY8.out, HY9.out, HY10.out, hall 4 (by omega), HY12.out⟩)
      clear hall HAll HY0 HY1 HY2 HY3 HY8 HY9 HY10 HY12
      by_cases h4 : x.n ≤ 4
      rotate_left
      · have h4i : (4 : Int) < (x.n : Int) := by omega
        have HM : Hid (may x = false) := Lib.hid (may_no_marks (by unfold marksB; rw [decide_eq_false (by rw [HX.out.len]; exact h4)]; rfl))
        go_wp2_with fail
        refine (hw8 _).mono ?_
        rintro e w' ⟨rfl, rfl⟩
        clear hw8
        go_wp2_with fail
        refine (hw9 _).mono ?_
        rintro e w' ⟨rfl, rfl⟩
        clear hw9
        go_wp2_with fail
        refine (hw10 _).mono ?_
        rintro e w' ⟨rfl, rfl⟩
        clear hw10
        go_wp2_with fail
        refine (hw12 _).mono ?_
        rintro e w' ⟨rfl, rfl⟩
        clear hw12
        go_wp2_with fail
        go_ret
        exact ⟨by rw [HM.out]; rfl, HC.out.box.2⟩
      have h4i : ¬ (4 : Int) < (x.n : Int) := by omega
      go_wp2_with fail
      refine (hw8 _).mono ?_
      rintro e w' ⟨rfl, rfl⟩
      clear hw8
      go_wp2_with fail
      refine (hw9 _).mono ?_
      rintro e w' ⟨rfl, rfl⟩
      clear hw9
      go_wp2_with fail
      refine (hw10 _).mono ?_
      rintro e w' ⟨rfl, rfl⟩
      clear hw10
      go_wp2_with fail
      refine (hw12 _).mono ?_
      rintro e w' ⟨rfl, rfl⟩
      clear hw12
      go_wp2_with fail
      clear c0 c1 c2 c3 c4 c5 c6 c7 c8 c9 c10 c11 c12 c13 c14
      have HC1 := Lib.hid HC.out.box
      clear HC
      go_loopw [5] (fun i wr => ∃ (j : Nat) (last : Int) (rest : List Int), i = .int .i64 (j : Int) ∧ j ≤ x.n ∧ rest = x.ms.drop j ∧ upB 0 x.ms = upB last rest ∧ 0 ≤ last ∧ (j = 0 → last = 0) ∧ (∀ q, j = q + 1 → x.ms[q]? = some last) ∧ InBox x w wr) (fun i _ => x.n - (intOf i).toNat)
      case atStart => exact ⟨0, 0, x.ms, rfl, Nat.zero_le _, rfl, rfl, Int.le_refl _, fun _ => rfl, fun q h => absurd h (by omega), HC1.out⟩
      case round =>
        obtain ⟨j, last, rest, rfl, hj, hrest, hup, hl0, hlz, hlast, hbx⟩ := hrel
        clear HC1
        have HRs := Lib.hid hrest
        have HU := Lib.hid hup
        have HLz := Lib.hid hlz
        have HLa := Lib.hid hlast
        have HBx := Lib.hid hbx
        have HMk : Hid (marksB x.ms = upB 0 x.ms) := Lib.hid (by unfold marksB; rw [decide_eq_true (by rw [HX.out.len]; exact h4)]; rfl)
        have k14 := HBx.out.1.cell 14
        simp only [List.getElem?_toArray, List.getElem?_cons_zero, List.getElem?_cons_succ] at k14
        clear hrest hup hlz hlast hbx
        by_cases hlt : j < x.n
        · have hji : (j : Int) < (x.n : Int) := by omega
          have hjl : j < x.ms.length := by rw [HX.out.len]; exact hlt
          obtain ⟨m, hm⟩ : ∃ m, x.ms[j]? = some m := ⟨_, List.getElem?_eq_getElem hjl⟩
          have hrd := (HX.out.below HBx.out.2).rd
          obtain ⟨b, off, hA, _, hc⟩ := hrd.2 (by omega)
          have hcell := hc j hlt
          rw [show (iv x.ms)[j]? = some (.int .i64 m) by simp [iv, hm]] at hcell
          have hd : x.ms.drop j = m :: x.ms.drop (j + 1) := by
            rw [List.drop_eq_getElem_cons hjl]
            rw [List.getElem?_eq_getElem hjl] at hm
            rw [Option.some.inj hm]
          have HD := Lib.hid (HRs.out.trans hd)
          have HM0 := Lib.hid hm
          have HRd := Lib.hid hc
          rw [hA] at k14
          clear hm hd hrd hc hjl hA
          by_cases bz : (decide ((1 : Int) ≤ m) && decide (m ≤ 100)) = true
          rotate_left
          · have bz' : (decide ((1 : Int) ≤ m) && decide (m ≤ 100)) = false := by simpa using bz
            have hwz := within_is bz'
            have HMay : Hid (may x = false) := Lib.hid (may_no_marks (by
              rw [HMk.out, HU.out, HD.out]
              rcases in_no bz' with h | h
              · exact upB_last (by omega)
              · exact upB_big h))
            clear bz bz'
            go_wp2_with fail
            go_quiet ((go_at_call 25; exact (hwz _).mono (by rintro e w1 ⟨rfl, rfl⟩; exact ⟨rfl, _, rfl⟩)))
            go_wp2_with fail
            go_ret
            exact ⟨by rw [HMay.out]; rfl, below_drewN HBx.out.2 _⟩
          have hwz := within_is bz
          have HBz := Lib.hid (in_yes bz)
          clear bz
          cases j with
          | zero =>
            have hlast0 : last = 0 := HLz.out rfl
            have HQ : Hid (∀ q, 0 + 1 = q + 1 → x.ms[q]? = some m) := Lib.hid (fun q hq => by
              have e : q = 0 := by omega
              rw [e]; exact HM0.out)
            rw [Nat.add_zero] at hcell
            have h0n : (0 : Int) < (x.n : Int) := by omega
            have HUn := Lib.hid (HU.out.trans ((congrArg (upB last) HD.out).trans (upB_next (r := x.ms.drop (0 + 1)) (by have := HBz.out.1; omega) HBz.out.2)))
            go_wp2_with fail
            go_quiet ((go_at_call 25; exact (hwz _).mono (by rintro e w1 ⟨rfl, rfl⟩; exact ⟨rfl, _, rfl⟩)))
            go_wp2_with fail
            go_roundw
            case rel => exact ⟨1, m, _, by go_num, by omega, rfl, HUn.out, by have := HBz.out.1; omega, fun h => absurd h (by omega), HQ.out, ⟨HBx.out.1, below_drewN HBx.out.2 _⟩⟩
            case measure => simp [intOf]; omega
          | succ i =>
            have hli := HLa.out i rfl
            have HQ : Hid (∀ q, i + 1 + 1 = q + 1 → x.ms[q]? = some m) := Lib.hid (fun q hq => by
              have e : q = i + 1 := by omega
              rw [e]; exact HM0.out)
            have hcell2 := HRd.out i (by omega)
            rw [show (iv x.ms)[i]? = some (.int .i64 last) by simp [iv, hli]] at hcell2
            have hii : (i : Int) < (x.n : Int) := by omega
            have hwr : IntKind.i64.wrap (i : Int) = (i : Int) := by rw [IntKind.wrap_i64]; omega
            have hpos : (0 : Int) < (i : Int) + 1 := by omega
            have hI1 : (i : Int) + 1 < (x.n : Int) := by omega
            have hI0 : (0 : Int) ≤ (i : Int) + 1 := by omega
            clear hli
            by_cases hge : m ≤ last
            · have HMay : Hid (may x = false) := Lib.hid (may_no_marks (by rw [HMk.out, HU.out, HD.out]; exact upB_last hge))
              have hgd : decide (m ≤ last) = true := decide_eq_true hge
              go_wp2_with fail
              go_quiet ((go_at_call 25; exact (hwz _).mono (by rintro e w1 ⟨rfl, rfl⟩; exact ⟨rfl, _, rfl⟩)))
              go_wp2_with fail
              go_ret
              exact ⟨by rw [HMay.out]; rfl, below_drewN HBx.out.2 _⟩
            · have HUn := Lib.hid (HU.out.trans ((congrArg (upB last) HD.out).trans (upB_next (r := x.ms.drop (i + 1 + 1)) (by omega) HBz.out.2)))
              have hgd : decide (m ≤ last) = false := decide_eq_false hge
              go_wp2_with fail
              go_quiet ((go_at_call 25; exact (hwz _).mono (by rintro e w1 ⟨rfl, rfl⟩; exact ⟨rfl, _, rfl⟩)))
              go_wp2_with fail
              go_roundw
              case rel => exact ⟨i + 1 + 1, m, _, by go_num, by omega, rfl, HUn.out, by have := HBz.out.1; omega, fun h => absurd h (by omega), HQ.out, ⟨HBx.out.1, below_drewN HBx.out.2 _⟩⟩
              case measure => simp [intOf]; omega
        · have hji : ¬ (j : Int) < (x.n : Int) := by omega
          have HMy : Hid (may x = roomB x) := Lib.hid (by
            unfold may
            rw [HIn.out, HMk.out, HU.out, HRs.out, List.drop_of_length_le (by rw [HX.out.len]; omega)]
            rfl)
          obtain ⟨p0, p1, p2, p3⟩ := fl_bd HIn.out
          obtain ⟨⟨⟨a0, a1⟩, _, ⟨g0, g1⟩, _⟩, _⟩ := inB_iff.1 HIn.out
          clear p0 p1
          have HF := Lib.hid (refFloor_any x HIn.out)
          obtain ⟨c0, c1, c2, c3, c4, c5, c6, c7, c8, c9, c10, c11, c12, c13, c14⟩ := HBx.out.1.conf
          by_cases h0 : x.f0 = 0
          · have h0i : ¬ (0 : Int) < x.f0 := by omega
            have h0d : decide ((0 : Int) < x.f0) = false := decide_eq_false h0i
            have HR : Hid (may x = true) := Lib.hid (by rw [HMy.out]; unfold roomB; rw [decide_eq_true h0]; rfl)
            go_wp2_with fail
            go_quiet (fail)
            go_wp2_with fail
            go_ret
            exact ⟨by rw [HR.out]; rfl, below_drewN HBx.out.2 _⟩
          · have h0i : (0 : Int) < x.f0 := by omega
            have h0d : decide ((0 : Int) < x.f0) = true := decide_eq_true h0i
            have HR : Hid (may x = decide (1 ≤ x.f2 + x.f0 - fl x)) := Lib.hid (by rw [HMy.out]; unfold roomB; rw [decide_eq_false h0]; rfl)
            have hw1 : IntKind.i64.wrap (x.f2 + x.f0) = x.f2 + x.f0 := by rw [IntKind.wrap_i64]; omega
            have hw2 : IntKind.i64.wrap (x.f2 + x.f0 - fl x) = x.f2 + x.f0 - fl x := by rw [IntKind.wrap_i64]; omega
            have HCd : Hid (InBox x w wr.drew) := Lib.hid HBx.out.drew
            clear k14 c0 c1 c2 c3 c4 c5 c6 c7 c8 c9 c10 c11 c12 c13 c14
            by_cases hr : 1 ≤ x.f2 + x.f0 - fl x
            · have hrd : decide (x.f2 + x.f0 - fl x < 1) = false := decide_eq_false (by omega)
              have HRt := Lib.hid (HR.out.trans (decide_eq_true hr))
              obtain ⟨c0, c1, c2, c3, c4, c5, c6, c7, c8, c9, c10, c11, c12, c13, c14⟩ := HBx.out.1.conf
              go_wp2_with fail
              clear c0 c1 c2 c3 c4 c5 c6 c7 c8 c9 c10 c11 c12 c13 c14
              have HC := HCd
              have HL := Lib.hid (fun W' (hW : InBox x w W') => hW.1.conf)
              refine wp_region_held_drew (S := InBox x w) (by kernel_rfl) HC.out (fun _ => ?_)
              refine takeH (i := 0) (v := ?_) rfl (by kernel_rfl) (by kernel_rfl) (by kernel_rfl) (fun _ _ _ h => by first | exact h | exact h.elim | exact nomatch h.1) (by rfl) ?_ HC.out ?_
              rotate_left
              · intro W' hW; obtain ⟨c0, c1, c2, c3, c4, c5, c6, c7, c8, c9, c10, c11, c12, c13, c14⟩ := HL.out W' hW; go_simp <;> with_reducible rfl
              simp only [Act.put, List.setIfInBounds_toArray, List.set_cons_zero, List.set_cons_succ]
              refine takeH (i := 1) (v := ?_) rfl (by kernel_rfl) (by kernel_rfl) (by kernel_rfl) (fun _ _ _ h => by first | exact h | exact h.elim | exact nomatch h.1) (by rfl) ?_ HC.out ?_
              rotate_left
              · intro W' hW; obtain ⟨c0, c1, c2, c3, c4, c5, c6, c7, c8, c9, c10, c11, c12, c13, c14⟩ := HL.out W' hW; go_simp <;> with_reducible rfl
              simp only [Act.put, List.setIfInBounds_toArray, List.set_cons_zero, List.set_cons_succ]
              refine takeH (i := 2) (v := ?_) rfl (by kernel_rfl) (by kernel_rfl) (by kernel_rfl) (fun _ _ _ h => by first | exact h | exact h.elim | exact nomatch h.1) (by rfl) ?_ HC.out ?_
              rotate_left
              · intro W' hW; obtain ⟨c0, c1, c2, c3, c4, c5, c6, c7, c8, c9, c10, c11, c12, c13, c14⟩ := HL.out W' hW; go_simp <;> with_reducible rfl
              simp only [Act.put, List.setIfInBounds_toArray, List.set_cons_zero, List.set_cons_succ]
              refine takeH (i := 3) (v := ?_) rfl (by kernel_rfl) (by kernel_rfl) (by kernel_rfl) (fun _ _ _ h => by first | exact h | exact h.elim | exact nomatch h.1) (by rfl) ?_ HC.out ?_
              rotate_left
              · intro W' hW; obtain ⟨c0, c1, c2, c3, c4, c5, c6, c7, c8, c9, c10, c11, c12, c13, c14⟩ := HL.out W' hW; go_simp <;> with_reducible rfl
              simp only [Act.put, List.setIfInBounds_toArray, List.set_cons_zero, List.set_cons_succ]
              refine takeH (i := 4) (v := ?_) rfl (by kernel_rfl) (by kernel_rfl) (by kernel_rfl) (fun _ _ _ h => by first | exact h | exact h.elim | exact nomatch h.1) (by rfl) ?_ HC.out ?_
              rotate_left
              · intro W' hW; obtain ⟨c0, c1, c2, c3, c4, c5, c6, c7, c8, c9, c10, c11, c12, c13, c14⟩ := HL.out W' hW; go_simp <;> with_reducible rfl
              simp only [Act.put, List.setIfInBounds_toArray, List.set_cons_zero, List.set_cons_succ]
              refine takeH (i := 5) (v := ?_) rfl (by kernel_rfl) (by kernel_rfl) (by kernel_rfl) (fun _ _ _ h => by first | exact h | exact h.elim | exact nomatch h.1) (by rfl) ?_ HC.out ?_
              rotate_left
              · intro W' hW; obtain ⟨c0, c1, c2, c3, c4, c5, c6, c7, c8, c9, c10, c11, c12, c13, c14⟩ := HL.out W' hW; go_simp <;> with_reducible rfl
              simp only [Act.put, List.setIfInBounds_toArray, List.set_cons_zero, List.set_cons_succ]
              refine takeH (i := 6) (v := ?_) rfl (by kernel_rfl) (by kernel_rfl) (by kernel_rfl) (fun _ _ _ h => by first | exact h | exact h.elim | exact nomatch h.1) (by rfl) ?_ HC.out ?_
              rotate_left
              · intro W' hW; obtain ⟨c0, c1, c2, c3, c4, c5, c6, c7, c8, c9, c10, c11, c12, c13, c14⟩ := HL.out W' hW; go_simp <;> with_reducible rfl
              simp only [Act.put, List.setIfInBounds_toArray, List.set_cons_zero, List.set_cons_succ]
              refine takeH (i := 7) (v := ?_) rfl (by kernel_rfl) (by kernel_rfl) (by kernel_rfl) (fun _ _ _ h => by first | exact h | exact h.elim | exact nomatch h.1) (by rfl) ?_ HC.out ?_
              rotate_left
              · intro W' hW; obtain ⟨c0, c1, c2, c3, c4, c5, c6, c7, c8, c9, c10, c11, c12, c13, c14⟩ := HL.out W' hW; go_simp <;> with_reducible rfl
              simp only [Act.put, List.setIfInBounds_toArray, List.set_cons_zero, List.set_cons_succ]
              refine takeH (i := 8) (v := ?_) rfl (by kernel_rfl) (by kernel_rfl) (by kernel_rfl) (fun _ _ _ h => by first | exact h | exact h.elim | exact nomatch h.1) (by rfl) ?_ HC.out ?_
              rotate_left
              · intro W' hW; obtain ⟨c0, c1, c2, c3, c4, c5, c6, c7, c8, c9, c10, c11, c12, c13, c14⟩ := HL.out W' hW; go_simp <;> with_reducible rfl
              simp only [Act.put, List.setIfInBounds_toArray, List.set_cons_zero, List.set_cons_succ]
              refine takeH (i := 9) (v := ?_) rfl (by kernel_rfl) (by kernel_rfl) (by kernel_rfl) (fun _ _ _ h => by first | exact h | exact h.elim | exact nomatch h.1) (by rfl) ?_ HC.out ?_
              rotate_left
              · intro W' hW; obtain ⟨c0, c1, c2, c3, c4, c5, c6, c7, c8, c9, c10, c11, c12, c13, c14⟩ := HL.out W' hW; go_simp <;> with_reducible rfl
              simp only [Act.put, List.setIfInBounds_toArray, List.set_cons_zero, List.set_cons_succ]
              refine oneH (i := 10) rfl (by kernel_rfl) (by rfl) (fun K hK => ?_)
              go_simp
              go_at_call 26
              refine (HF.out _).mono ?_
              rintro e w1 ⟨rfl, b1⟩
              have HC2 := Lib.hid (HC.out.under b1)
              clear HC
              have HC := HC2
              clear HC2 b1
              refine hK.out _ _ HC.out (fun _ => ?_)
              clear hK K
              refine takeH (i := 11) (v := ?_) rfl (by kernel_rfl) (by kernel_rfl) (by kernel_rfl) (fun _ _ _ h => by first | exact h | exact h.elim | exact nomatch h.1) (by rfl) ?_ HC.out ?_
              rotate_left
              · intro W' hW; obtain ⟨c0, c1, c2, c3, c4, c5, c6, c7, c8, c9, c10, c11, c12, c13, c14⟩ := HL.out W' hW; go_simp <;> with_reducible rfl
              simp only [Act.put, List.setIfInBounds_toArray, List.set_cons_zero, List.set_cons_succ]
              refine takeH (i := 12) (v := ?_) rfl (by kernel_rfl) (by kernel_rfl) (by kernel_rfl) (fun _ _ _ h => by first | exact h | exact h.elim | exact nomatch h.1) (by rfl) ?_ HC.out ?_
              rotate_left
              · intro W' hW; obtain ⟨c0, c1, c2, c3, c4, c5, c6, c7, c8, c9, c10, c11, c12, c13, c14⟩ := HL.out W' hW; go_simp <;> with_reducible rfl
              simp only [Act.put, List.setIfInBounds_toArray, List.set_cons_zero, List.set_cons_succ]
              refine takeH (i := 13) (v := ?_) rfl (by kernel_rfl) (by kernel_rfl) (by kernel_rfl) (fun _ _ _ h => by first | exact h | exact h.elim | exact nomatch h.1) (by rfl) ?_ HC.out ?_
              rotate_left
              · intro W' hW; obtain ⟨c0, c1, c2, c3, c4, c5, c6, c7, c8, c9, c10, c11, c12, c13, c14⟩ := HL.out W' hW; go_simp <;> with_reducible rfl
              simp only [Act.put, List.setIfInBounds_toArray, List.set_cons_zero, List.set_cons_succ]
              refine wpAnyH_done (by kernel_rfl) ?_ _
              go_wp2_with fail
              go_ret
              exact ⟨by rw [HRt.out]; rfl, HC.out.2⟩
            · have hrd : decide (x.f2 + x.f0 - fl x < 1) = true := decide_eq_true (by omega)
              have HRt := Lib.hid (HR.out.trans (decide_eq_false hr))
              obtain ⟨c0, c1, c2, c3, c4, c5, c6, c7, c8, c9, c10, c11, c12, c13, c14⟩ := HBx.out.1.conf
              go_wp2_with fail
              clear c0 c1 c2 c3 c4 c5 c6 c7 c8 c9 c10 c11 c12 c13 c14
              have HC := HCd
              have HL := Lib.hid (fun W' (hW : InBox x w W') => hW.1.conf)
              refine wp_region_held_drew (S := InBox x w) (by kernel_rfl) HC.out (fun _ => ?_)
              refine takeH (i := 0) (v := ?_) rfl (by kernel_rfl) (by kernel_rfl) (by kernel_rfl) (fun _ _ _ h => by first | exact h | exact h.elim | exact nomatch h.1) (by rfl) ?_ HC.out ?_
              rotate_left
              · intro W' hW; obtain ⟨c0, c1, c2, c3, c4, c5, c6, c7, c8, c9, c10, c11, c12, c13, c14⟩ := HL.out W' hW; go_simp <;> with_reducible rfl
              simp only [Act.put, List.setIfInBounds_toArray, List.set_cons_zero, List.set_cons_succ]
              refine takeH (i := 1) (v := ?_) rfl (by kernel_rfl) (by kernel_rfl) (by kernel_rfl) (fun _ _ _ h => by first | exact h | exact h.elim | exact nomatch h.1) (by rfl) ?_ HC.out ?_
              rotate_left
              · intro W' hW; obtain ⟨c0, c1, c2, c3, c4, c5, c6, c7, c8, c9, c10, c11, c12, c13, c14⟩ := HL.out W' hW; go_simp <;> with_reducible rfl
              simp only [Act.put, List.setIfInBounds_toArray, List.set_cons_zero, List.set_cons_succ]
              refine takeH (i := 2) (v := ?_) rfl (by kernel_rfl) (by kernel_rfl) (by kernel_rfl) (fun _ _ _ h => by first | exact h | exact h.elim | exact nomatch h.1) (by rfl) ?_ HC.out ?_
              rotate_left
              · intro W' hW; obtain ⟨c0, c1, c2, c3, c4, c5, c6, c7, c8, c9, c10, c11, c12, c13, c14⟩ := HL.out W' hW; go_simp <;> with_reducible rfl
              simp only [Act.put, List.setIfInBounds_toArray, List.set_cons_zero, List.set_cons_succ]
              refine takeH (i := 3) (v := ?_) rfl (by kernel_rfl) (by kernel_rfl) (by kernel_rfl) (fun _ _ _ h => by first | exact h | exact h.elim | exact nomatch h.1) (by rfl) ?_ HC.out ?_
              rotate_left
              · intro W' hW; obtain ⟨c0, c1, c2, c3, c4, c5, c6, c7, c8, c9, c10, c11, c12, c13, c14⟩ := HL.out W' hW; go_simp <;> with_reducible rfl
              simp only [Act.put, List.setIfInBounds_toArray, List.set_cons_zero, List.set_cons_succ]
              refine takeH (i := 4) (v := ?_) rfl (by kernel_rfl) (by kernel_rfl) (by kernel_rfl) (fun _ _ _ h => by first | exact h | exact h.elim | exact nomatch h.1) (by rfl) ?_ HC.out ?_
              rotate_left
              · intro W' hW; obtain ⟨c0, c1, c2, c3, c4, c5, c6, c7, c8, c9, c10, c11, c12, c13, c14⟩ := HL.out W' hW; go_simp <;> with_reducible rfl
              simp only [Act.put, List.setIfInBounds_toArray, List.set_cons_zero, List.set_cons_succ]
              refine takeH (i := 5) (v := ?_) rfl (by kernel_rfl) (by kernel_rfl) (by kernel_rfl) (fun _ _ _ h => by first | exact h | exact h.elim | exact nomatch h.1) (by rfl) ?_ HC.out ?_
              rotate_left
              · intro W' hW; obtain ⟨c0, c1, c2, c3, c4, c5, c6, c7, c8, c9, c10, c11, c12, c13, c14⟩ := HL.out W' hW; go_simp <;> with_reducible rfl
              simp only [Act.put, List.setIfInBounds_toArray, List.set_cons_zero, List.set_cons_succ]
              refine takeH (i := 6) (v := ?_) rfl (by kernel_rfl) (by kernel_rfl) (by kernel_rfl) (fun _ _ _ h => by first | exact h | exact h.elim | exact nomatch h.1) (by rfl) ?_ HC.out ?_
              rotate_left
              · intro W' hW; obtain ⟨c0, c1, c2, c3, c4, c5, c6, c7, c8, c9, c10, c11, c12, c13, c14⟩ := HL.out W' hW; go_simp <;> with_reducible rfl
              simp only [Act.put, List.setIfInBounds_toArray, List.set_cons_zero, List.set_cons_succ]
              refine takeH (i := 7) (v := ?_) rfl (by kernel_rfl) (by kernel_rfl) (by kernel_rfl) (fun _ _ _ h => by first | exact h | exact h.elim | exact nomatch h.1) (by rfl) ?_ HC.out ?_
              rotate_left
              · intro W' hW; obtain ⟨c0, c1, c2, c3, c4, c5, c6, c7, c8, c9, c10, c11, c12, c13, c14⟩ := HL.out W' hW; go_simp <;> with_reducible rfl
              simp only [Act.put, List.setIfInBounds_toArray, List.set_cons_zero, List.set_cons_succ]
              refine takeH (i := 8) (v := ?_) rfl (by kernel_rfl) (by kernel_rfl) (by kernel_rfl) (fun _ _ _ h => by first | exact h | exact h.elim | exact nomatch h.1) (by rfl) ?_ HC.out ?_
              rotate_left
              · intro W' hW; obtain ⟨c0, c1, c2, c3, c4, c5, c6, c7, c8, c9, c10, c11, c12, c13, c14⟩ := HL.out W' hW; go_simp <;> with_reducible rfl
              simp only [Act.put, List.setIfInBounds_toArray, List.set_cons_zero, List.set_cons_succ]
              refine takeH (i := 9) (v := ?_) rfl (by kernel_rfl) (by kernel_rfl) (by kernel_rfl) (fun _ _ _ h => by first | exact h | exact h.elim | exact nomatch h.1) (by rfl) ?_ HC.out ?_
              rotate_left
              · intro W' hW; obtain ⟨c0, c1, c2, c3, c4, c5, c6, c7, c8, c9, c10, c11, c12, c13, c14⟩ := HL.out W' hW; go_simp <;> with_reducible rfl
              simp only [Act.put, List.setIfInBounds_toArray, List.set_cons_zero, List.set_cons_succ]
              refine oneH (i := 10) rfl (by kernel_rfl) (by rfl) (fun K hK => ?_)
              go_simp
              go_at_call 26
              refine (HF.out _).mono ?_
              rintro e w1 ⟨rfl, b1⟩
              have HC2 := Lib.hid (HC.out.under b1)
              clear HC
              have HC := HC2
              clear HC2 b1
              refine hK.out _ _ HC.out (fun _ => ?_)
              clear hK K
              refine takeH (i := 11) (v := ?_) rfl (by kernel_rfl) (by kernel_rfl) (by kernel_rfl) (fun _ _ _ h => by first | exact h | exact h.elim | exact nomatch h.1) (by rfl) ?_ HC.out ?_
              rotate_left
              · intro W' hW; obtain ⟨c0, c1, c2, c3, c4, c5, c6, c7, c8, c9, c10, c11, c12, c13, c14⟩ := HL.out W' hW; go_simp <;> with_reducible rfl
              simp only [Act.put, List.setIfInBounds_toArray, List.set_cons_zero, List.set_cons_succ]
              refine takeH (i := 12) (v := ?_) rfl (by kernel_rfl) (by kernel_rfl) (by kernel_rfl) (fun _ _ _ h => by first | exact h | exact h.elim | exact nomatch h.1) (by rfl) ?_ HC.out ?_
              rotate_left
              · intro W' hW; obtain ⟨c0, c1, c2, c3, c4, c5, c6, c7, c8, c9, c10, c11, c12, c13, c14⟩ := HL.out W' hW; go_simp <;> with_reducible rfl
              simp only [Act.put, List.setIfInBounds_toArray, List.set_cons_zero, List.set_cons_succ]
              refine takeH (i := 13) (v := ?_) rfl (by kernel_rfl) (by kernel_rfl) (by kernel_rfl) (fun _ _ _ h => by first | exact h | exact h.elim | exact nomatch h.1) (by rfl) ?_ HC.out ?_
              rotate_left
              · intro W' hW; obtain ⟨c0, c1, c2, c3, c4, c5, c6, c7, c8, c9, c10, c11, c12, c13, c14⟩ := HL.out W' hW; go_simp <;> with_reducible rfl
              simp only [Act.put, List.setIfInBounds_toArray, List.set_cons_zero, List.set_cons_succ]
              refine wpAnyH_done (by kernel_rfl) ?_ _
              go_wp2_with fail
              go_ret
              exact ⟨by rw [HRt.out]; rfl, HC.out.2⟩

set_option maxRecDepth 100000 in
/-- Which groups may be. -/
theorem refCheck_any (x : Cf) (B : Nat) (w : World) (hx : Lies x w B) (hB : B ≤ w.heap.size) (hn : x.n ≤ 1000) : Calls Tryd.prog 16 #[x.v] w (IntPost (er (may x)) w) := by
  have no : ∀ k, k < 13 → (decide (loB k ≤ x.at k) && decide (x.at k ≤ hiB k)) = false → may x = false := fun k hk h => not_inB hk (in_no h)
  by_cases b0 : (decide ((0 : Int) ≤ x.f0) && decide (x.f0 ≤ 6)) = true
  · by_cases b1 : (decide ((0 : Int) ≤ x.f1) && decide (x.f1 ≤ 100)) = true
    · by_cases b2 : (decide ((0 : Int) ≤ x.f2) && decide (x.f2 ≤ 3)) = true
      · by_cases b3 : (decide ((0 : Int) ≤ x.f3) && decide (x.f3 ≤ 3)) = true
        · exact refCheck_on x w (hx.more hB) hn b0 b1 b2 b3
        · have b := Bool.eq_false_iff.2 b3
          rw [no 3 (by omega) b]
          exact refCheck_no3 x w b0 b1 b2 b
      · have b := Bool.eq_false_iff.2 b2
        rw [no 2 (by omega) b]
        exact refCheck_no2 x w b0 b1 b
    · have b := Bool.eq_false_iff.2 b1
      rw [no 1 (by omega) b]
      exact refCheck_no1 x w b0 b
  · have b := Bool.eq_false_iff.2 b0
    rw [no 0 (by omega) b]
    exact refCheck_no0 x w b

end Go.Proofs.YtdjieigmncoooaaDoor
