/-
  The walk of the statement EventTicks: ticks one behind the other let what drains be out, just when its time is reached. Conditions: those that each theorem names.
-/
import Derived.Test.YtoiegffnmjlkdaaEvWakes
import Derived.Test.YtoiegffnmjlkdaaEvPlain
import Derived.Test.YtoiegffnmjlkdaaCdKit2
import Derived.Test.YtoiegffnmjlkdaaCdRegKit
import Derived.Test.YtoiegffnmjlkdaaCdNeq
import Derived.BigQuiet
namespace Go.Proofs.Ytoiegffnmjlkdaa
open Go.RowKit Go.Shelf

set_option maxRecDepth 100000 in
set_option maxHeartbeats 8000000 in
theorem ticks_neg (x : Cw) (many : Int) (A : Option Addr) (n c : Nat) (w : World) (hr : RdX w w.heap.size A n x.l) (hm : many < 0) :
    Calls Try.prog 5 #[.agg #[.slice A n c, .int .i64 x.fl, .int .i64 x.dr, .int .i64 x.nw, .bool x.tg], .int .i64 many] w (TruePost w) := by
  have one := whole_one (W := w) (t := 24) (x := #[.slice A n c, .int .i64 x.fl, .int .i64 x.dr, .int .i64 x.nw, .bool x.tg])
  have C := Lib.hid one.1
  have R := Lib.hid (hr.up one.2)
  have B := Lib.hid one.2
  clear one hr
  have d0 : decide (many < 0) = true := decide_eq_true hm
  clear hm
  go_enter Try.func5, Try.ntmps5
  go_wp2_with fail
  refine (evWakes_any _).mono ?_
  rintro e y1 ⟨rfl, b⟩
  have C_ := Lib.hid (C.out.under b)
  have R_ := Lib.hid (R.out.up b)
  have B_ := Lib.hid (B.out.trans (b.mono B.out.size))
  clear C R B
  have C := C_
  have R := R_
  have B := B_
  clear C_ R_ B_
  clear b
  go_wp2_with fail
  go_ret
  exact ⟨rfl, B.out⟩

set_option maxRecDepth 100000 in
set_option maxHeartbeats 8000000 in
theorem ticks_many (x : Cw) (many : Int) (A : Option Addr) (n c : Nat) (w : World) (hr : RdX w w.heap.size A n x.l) (hm : ¬ many < 0) (h4 : (40 : Int) < many) :
    Calls Try.prog 5 #[.agg #[.slice A n c, .int .i64 x.fl, .int .i64 x.dr, .int .i64 x.nw, .bool x.tg], .int .i64 many] w (TruePost w) := by
  have one := whole_one (W := w) (t := 24) (x := #[.slice A n c, .int .i64 x.fl, .int .i64 x.dr, .int .i64 x.nw, .bool x.tg])
  have C := Lib.hid one.1
  have R := Lib.hid (hr.up one.2)
  have B := Lib.hid one.2
  clear one hr
  have d0 : decide (many < 0) = false := decide_eq_false hm
  have d1 : decide ((40 : Int) < many) = true := decide_eq_true h4
  clear hm h4
  go_enter Try.func5, Try.ntmps5
  go_wp2_with fail
  refine (evWakes_any _).mono ?_
  rintro e y1 ⟨rfl, b⟩
  have C_ := Lib.hid (C.out.under b)
  have R_ := Lib.hid (R.out.up b)
  have B_ := Lib.hid (B.out.trans (b.mono B.out.size))
  clear C R B
  have C := C_
  have R := R_
  have B := B_
  clear C_ R_ B_
  clear b
  go_wp2_with fail
  go_ret
  exact ⟨rfl, B.out⟩

set_option maxRecDepth 100000 in
set_option maxHeartbeats 8000000 in
theorem ticks_wrong (x : Cw) (many : Int) (A : Option Addr) (n c : Nat) (w : World) (hr : RdX w w.heap.size A n x.l) (hm : ¬ many < 0) (h4 : ¬ (40 : Int) < many) (h : right x = false) :
    Calls Try.prog 5 #[.agg #[.slice A n c, .int .i64 x.fl, .int .i64 x.dr, .int .i64 x.nw, .bool x.tg], .int .i64 many] w (TruePost w) := by
  have one := whole_one (W := w) (t := 24) (x := #[.slice A n c, .int .i64 x.fl, .int .i64 x.dr, .int .i64 x.nw, .bool x.tg])
  have C := Lib.hid one.1
  have R := Lib.hid (hr.up one.2)
  have B := Lib.hid one.2
  clear one hr
  have d0 : decide (many < 0) = false := decide_eq_false hm
  have d1 : decide ((40 : Int) < many) = false := decide_eq_false h4
  clear hm h4
  have HRt := Lib.hid (rightL (l := x.l) (fl := x.fl) (dr := x.dr) (nw := x.nw) (tg := x.tg) (n := n) h)
  clear h
  go_enter Try.func5, Try.ntmps5
  have vC_0 := C.out.cell 0
  have vC_1 := C.out.cell 1
  have vC_2 := C.out.cell 2
  have vC_3 := C.out.cell 3
  have vC_4 := C.out.cell 4
  simp only [List.getElem?_toArray, List.getElem?_cons_zero, List.getElem?_cons_succ] at vC_0 vC_1 vC_2 vC_3 vC_4
  go_wp2_with fail
  refine (HRt.out _ _ _ R.out).mono ?_
  rintro e y1 ⟨rfl, b⟩
  clear vC_0 vC_1 vC_2 vC_3 vC_4
  have C_ := Lib.hid (C.out.under b)
  have R_ := Lib.hid (R.out.up b)
  have B_ := Lib.hid (B.out.trans (b.mono B.out.size))
  clear C R B
  have C := C_
  have R := R_
  have B := B_
  clear C_ R_ B_
  clear b HRt
  go_wp2_with fail
  refine (evWakes_any _).mono ?_
  rintro e y2 ⟨rfl, b⟩
  have C_ := Lib.hid (C.out.under b)
  have R_ := Lib.hid (R.out.up b)
  have B_ := Lib.hid (B.out.trans (b.mono B.out.size))
  clear C R B
  have C := C_
  have R := R_
  have B := B_
  clear C_ R_ B_
  clear b
  go_wp2_with fail
  go_ret
  exact ⟨rfl, B.out⟩

set_option maxRecDepth 100000 in
set_option maxHeartbeats 8000000 in
theorem ticks_late (x : Cw) (many : Int) (A : Option Addr) (n c : Nat) (w : World) (hr : RdX w w.heap.size A n x.l) (hm : ¬ many < 0) (h4 : ¬ (40 : Int) < many) (h : right x = true) (h5 : (1099511627676 : Int) < x.nw) :
    Calls Try.prog 5 #[.agg #[.slice A n c, .int .i64 x.fl, .int .i64 x.dr, .int .i64 x.nw, .bool x.tg], .int .i64 many] w (TruePost w) := by
  have one := whole_one (W := w) (t := 24) (x := #[.slice A n c, .int .i64 x.fl, .int .i64 x.dr, .int .i64 x.nw, .bool x.tg])
  have C := Lib.hid one.1
  have R := Lib.hid (hr.up one.2)
  have B := Lib.hid one.2
  clear one hr
  have d0 : decide (many < 0) = false := decide_eq_false hm
  have d1 : decide ((40 : Int) < many) = false := decide_eq_false h4
  clear hm h4
  have HRt := Lib.hid (rightL (l := x.l) (fl := x.fl) (dr := x.dr) (nw := x.nw) (tg := x.tg) (n := n) h)
  have d2 : decide ((1099511627676 : Int) < x.nw) = true := decide_eq_true h5
  clear h h5
  go_enter Try.func5, Try.ntmps5
  have vC_0 := C.out.cell 0
  have vC_1 := C.out.cell 1
  have vC_2 := C.out.cell 2
  have vC_3 := C.out.cell 3
  have vC_4 := C.out.cell 4
  simp only [List.getElem?_toArray, List.getElem?_cons_zero, List.getElem?_cons_succ] at vC_0 vC_1 vC_2 vC_3 vC_4
  go_wp2_with fail
  refine (HRt.out _ _ _ R.out).mono ?_
  rintro e y1 ⟨rfl, b⟩
  clear vC_0 vC_1 vC_2 vC_3 vC_4
  have C_ := Lib.hid (C.out.under b)
  have R_ := Lib.hid (R.out.up b)
  have B_ := Lib.hid (B.out.trans (b.mono B.out.size))
  clear C R B
  have C := C_
  have R := R_
  have B := B_
  clear C_ R_ B_
  clear b HRt
  have vC_0 := C.out.cell 0
  have vC_1 := C.out.cell 1
  have vC_2 := C.out.cell 2
  have vC_3 := C.out.cell 3
  have vC_4 := C.out.cell 4
  simp only [List.getElem?_toArray, List.getElem?_cons_zero, List.getElem?_cons_succ] at vC_0 vC_1 vC_2 vC_3 vC_4
  go_wp2_with fail
  refine (evWakes_any _).mono ?_
  rintro e y2 ⟨rfl, b⟩
  clear vC_0 vC_1 vC_2 vC_3 vC_4
  have C_ := Lib.hid (C.out.under b)
  have R_ := Lib.hid (R.out.up b)
  have B_ := Lib.hid (B.out.trans (b.mono B.out.size))
  clear C R B
  have C := C_
  have R := R_
  have B := B_
  clear C_ R_ B_
  clear b
  go_wp2_with fail
  go_ret
  exact ⟨rfl, B.out⟩

set_option maxRecDepth 100000 in
set_option maxHeartbeats 8000000 in
theorem ticks_on (x : Cw) (m : Nat) (A : Option Addr) (n c : Nat) (w : World) (hr : RdX w w.heap.size A n x.l) (h4 : m ≤ 40) (h : right x = true) (h5 : ¬ (1099511627676 : Int) < x.nw) :
    Calls Try.prog 5 #[.agg #[.slice A n c, .int .i64 x.fl, .int .i64 x.dr, .int .i64 x.nw, .bool x.tg], .int .i64 (m : Int)] w (TruePost w) := by
  have one := whole_one (W := w) (t := 24) (x := #[.slice A n c, .int .i64 x.fl, .int .i64 x.dr, .int .i64 x.nw, .bool x.tg])
  have C := Lib.hid one.1
  have R := Lib.hid (hr.up one.2)
  have B := Lib.hid one.2
  clear one hr
  have d0 : decide ((m : Int) < 0) = false := decide_eq_false (by omega)
  have d1 : decide ((40 : Int) < (m : Int)) = false := decide_eq_false (by omega)
  have d2 : decide ((1099511627676 : Int) < x.nw) = false := decide_eq_false h5
  have hl := R.out.len
  have hn : n ≤ 60 := by have := right_few h; omega
  have hnw := (isNum_iff.1 (right_nums h).2.2).1
  have HT := Lib.hid (fun (j : Nat) (hj : j < m) => ticked_succ (right_ticked h j (by omega)) (by omega) 0 0)
  have HTl := Lib.hid (fun j : Nat => show (ticked x j).l.length = n by simp [ticked]; exact hl)
  have ew : IntKind.i64.wrap (x.nw + (m : Int)) = x.nw + (m : Int) := IntWalk.i64_in _ ⟨by omega, by omega⟩
  have HX := Lib.hid (And.intro hl (And.intro hn h4))
  have HO := Lib.hid (fun W A c hr => ownL (l := x.l) (fl := x.fl) (dr := x.dr) (nw := x.nw) (tg := x.tg) (n := n) (by omega) W A c hr)
  have HRt := Lib.hid (rightL (l := x.l) (fl := x.fl) (dr := x.dr) (nw := x.nw) (tg := x.tg) (n := n) (b := true) h)
  clear h h5 hl hn h4
  go_enter Try.func5, Try.ntmps5
  have vC_0 := C.out.cell 0
  have vC_1 := C.out.cell 1
  have vC_2 := C.out.cell 2
  have vC_3 := C.out.cell 3
  have vC_4 := C.out.cell 4
  simp only [List.getElem?_toArray, List.getElem?_cons_zero, List.getElem?_cons_succ] at vC_0 vC_1 vC_2 vC_3 vC_4
  go_wp2_with fail
  refine (HRt.out _ _ _ R.out).mono ?_
  rintro e y1 ⟨rfl, b⟩
  clear vC_0 vC_1 vC_2 vC_3 vC_4
  have C_ := Lib.hid (C.out.under b)
  have R_ := Lib.hid (R.out.up b)
  have B_ := Lib.hid (B.out.trans (b.mono B.out.size))
  clear C R B
  have C := C_
  have R := R_
  have B := B_
  clear C_ R_ B_
  clear b HRt
  have vC_0 := C.out.cell 0
  have vC_1 := C.out.cell 1
  have vC_2 := C.out.cell 2
  have vC_3 := C.out.cell 3
  have vC_4 := C.out.cell 4
  simp only [List.getElem?_toArray, List.getElem?_cons_zero, List.getElem?_cons_succ] at vC_0 vC_1 vC_2 vC_3 vC_4
  go_wp2_with fail
  refine (HO.out _ _ _ R.out).mono ?_
  rintro e y2 ⟨A3, c3, rfl, r3, b⟩
  clear vC_0 vC_1 vC_2 vC_3 vC_4
  have C_ := Lib.hid (C.out.under b)
  have R_ := Lib.hid (R.out.up b)
  have B_ := Lib.hid (B.out.trans (b.mono B.out.size))
  clear C R B
  have C := C_
  have R := R_
  have B := B_
  clear C_ R_ B_
  clear b HO
  have r3_ := Lib.hid r3
  clear r3
  have r3 := r3_
  clear r3_
  have hgt := Lib.hid C.out.lt
  have one := whole_one (W := y2) (t := 24) (x := #[.slice A3 n c3, .int .i64 x.fl, .int .i64 x.dr, .int .i64 x.nw, .bool x.tg])
  have C_ := Lib.hid (C.out.under one.2)
  have R_ := Lib.hid (R.out.up one.2)
  have B_ := Lib.hid (B.out.trans (one.2.mono B.out.size))
  have r3_ := Lib.hid (r3.out.up one.2)
  clear C R B r3
  have C := C_
  have R := R_
  have B := B_
  have r3 := r3_
  clear C_ R_ B_ r3_
  have D := Lib.hid one.1
  clear one
  obtain ⟨g, hg⟩ : ∃ g, y2.heap.size = g := ⟨_, rfl⟩
  rw [hg] at hgt D
  go_wp2_with fail
  go_loopw [6] (fun i wr => ∃ (j : Nat) (A' : Option Addr) (c' : Nat), i = .int .i64 (j : Int) ∧ j ≤ m ∧ Whole wr w.heap.size 24 #[.slice A n c, .int .i64 x.fl, .int .i64 x.dr, .int .i64 x.nw, .bool x.tg] ∧ Whole wr g 24 #[.slice A' n c', .int .i64 x.fl, .int .i64 x.dr, .int .i64 (x.nw + (j : Int)), .bool x.tg] ∧ RdX wr wr.heap.size A n x.l ∧ RdX wr wr.heap.size A' n (ticked x j).l ∧ Below w.heap.size w wr) (fun i _ => m - (intOf i).toNat)
  case atStart => exact ⟨0, A3, c3, rfl, Nat.zero_le _, C.out, by rw [show x.nw + ((0 : Nat) : Int) = x.nw by simp]; exact D.out, R.out, by rw [ticked_zero]; exact r3.out, B.out⟩
  case round =>
    clear C D R r3 B hg
    obtain ⟨j, A', c', rfl, hj, C, D, R, RD, B⟩ := hrel
    have C_ := Lib.hid C
    clear C
    have C := C_
    clear C_
    have D_ := Lib.hid D
    clear D
    have D := D_
    clear D_
    have R_ := Lib.hid R
    clear R
    have R := R_
    clear R_
    have RD_ := Lib.hid RD
    clear RD
    have RD := RD_
    clear RD_
    have B_ := Lib.hid B
    clear B
    have B := B_
    clear B_
    rcases Nat.lt_or_eq_of_le hj with hlt | hjm
    ·
      have hji : (j : Int) < (m : Int) := by omega
      have hj40 : (j : Int) ≤ 40 := by have := HX.out; omega
      have HD1 := Lib.hid (fun W A c hr => evDoL (l := (ticked x j).l) (fl := x.fl) (dr := x.dr) (nw := x.nw + (j : Int)) (tg := x.tg) (n := n) (N := n) (HT.out j hlt) (HTl.out (j + 1)) (by decide) (by have := HX.out; omega) W A c hr)
      have HLt := Lib.hid hlt
      clear hj hlt
      have vD_0 := D.out.cell 0
      have vD_1 := D.out.cell 1
      have vD_2 := D.out.cell 2
      have vD_3 := D.out.cell 3
      have vD_4 := D.out.cell 4
      simp only [List.getElem?_toArray, List.getElem?_cons_zero, List.getElem?_cons_succ] at vD_0 vD_1 vD_2 vD_3 vD_4
      go_wp2_with fail
      refine (HD1.out _ _ _ RD.out).mono ?_
      rintro e y3 ⟨A4, c4, rfl, r4, b⟩
      clear vD_0 vD_1 vD_2 vD_3 vD_4
      have C_ := Lib.hid (C.out.under b)
      have D_ := Lib.hid (D.out.under b)
      have R_ := Lib.hid (R.out.up b)
      have RD_ := Lib.hid (RD.out.up b)
      have B_ := Lib.hid (B.out.trans (b.mono B.out.size))
      clear C D R RD B
      have C := C_
      have D := D_
      have R := R_
      have RD := RD_
      have B := B_
      clear C_ D_ R_ RD_ B_
      clear b HD1
      have r4_ := Lib.hid r4
      clear r4
      have r4 := r4_
      clear r4_
      have vD_0 := D.out.cell 0
      have vD_1 := D.out.cell 1
      have vD_2 := D.out.cell 2
      have vD_3 := D.out.cell 3
      have vD_4 := D.out.cell 4
      simp only [List.getElem?_toArray, List.getElem?_cons_zero, List.getElem?_cons_succ] at vD_0 vD_1 vD_2 vD_3 vD_4
      have g0 := D.out.frozen 0
      have g1 := D.out.frozen 1
      have g2 := D.out.frozen 2
      have g3 := D.out.frozen 3
      have g4 := D.out.frozen 4
      go_wp2_with fail
      go_roundw
      case rel =>
        have kp := kept5 D.out (.slice A4 n c4) (.int .i64 x.fl) (.int .i64 x.dr) (.int .i64 (x.nw + ((j + 1 : Nat) : Int))) (.bool x.tg)
        exact ⟨j + 1, A4, c4, by go_num, HLt.out, kp.2.far _ _ _ (by have := hgt.out; omega) C.out, kp.1, kp.2.rows _ _ _ R.out, kp.2.rows _ _ _ r4.out, kp.2.bel _ _ (Nat.le_of_lt hgt.out) B.out⟩
      case measure => have := HLt.out; simp [intOf]; omega
    ·
      subst hjm
      clear hj HT
      have HT2 := Lib.hid (HTl.out j)
      clear HTl
      have q1 : (x.nw + (j : Int) != x.nw + (j : Int)) = false := by simp
      have q2 : ((n : Int) != (n : Int)) = false := by simp
      have q3 : (x.fl != x.fl) = false := by simp
      have q4 : (x.tg == x.tg) = true := by simp
      have q5 : (x.tg != x.tg) = false := by simp
      have vC_0 := C.out.cell 0
      have vC_1 := C.out.cell 1
      have vC_2 := C.out.cell 2
      have vC_3 := C.out.cell 3
      have vC_4 := C.out.cell 4
      simp only [List.getElem?_toArray, List.getElem?_cons_zero, List.getElem?_cons_succ] at vC_0 vC_1 vC_2 vC_3 vC_4
      have vD_0 := D.out.cell 0
      have vD_1 := D.out.cell 1
      have vD_2 := D.out.cell 2
      have vD_3 := D.out.cell 3
      have vD_4 := D.out.cell 4
      simp only [List.getElem?_toArray, List.getElem?_cons_zero, List.getElem?_cons_succ] at vD_0 vD_1 vD_2 vD_3 vD_4
      go_wp2_with fail
      clear vC_0 vC_1 vC_2 vC_3 vC_4 vD_0 vD_1 vD_2 vD_3 vD_4
      clear q1 q2 q3 q4 q5
      go_loopw [7] (fun i wr => ∃ k : Nat, i = .int .i64 (k : Int) ∧ k ≤ n ∧ Whole wr w.heap.size 24 #[.slice A n c, .int .i64 x.fl, .int .i64 x.dr, .int .i64 x.nw, .bool x.tg] ∧ Whole wr g 24 #[.slice A' n c', .int .i64 x.fl, .int .i64 x.dr, .int .i64 (x.nw + (j : Int)), .bool x.tg] ∧ RdX wr wr.heap.size A n x.l ∧ RdX wr wr.heap.size A' n (ticked x j).l ∧ Below w.heap.size w wr) (fun i _ => n - (intOf i).toNat)
      case atStart => exact ⟨0, rfl, Nat.zero_le _, C.out, D.out, R.out, RD.out, B.out⟩
      case round =>
        clear C D R RD B
        obtain ⟨k, rfl, hk, C, D, R, RD, B⟩ := hrel
        have C_ := Lib.hid C
        clear C
        have C := C_
        clear C_
        have D_ := Lib.hid D
        clear D
        have D := D_
        clear D_
        have R_ := Lib.hid R
        clear R
        have R := R_
        clear R_
        have RD_ := Lib.hid RD
        clear RD
        have RD := RD_
        clear RD_
        have B_ := Lib.hid B
        clear B
        have B := B_
        clear B_
        rcases Nat.lt_or_eq_of_le hk with hlt | hkn
        ·
          have hki : (k : Int) < (n : Int) := by omega
          obtain ⟨u, hu⟩ : ∃ u, x.l[k]? = some u := ⟨_, List.getElem?_eq_getElem (by have := HX.out; omega)⟩
          obtain ⟨z, hz0⟩ : ∃ z, outB (decide (0 < j)) (x.nw + (j : Int)) u = z := ⟨_, rfl⟩
          have hz : (ticked x j).l[k]? = some z := by rw [← hz0]; simp [ticked, hu]
          have hk60 : (k : Int) ≤ 60 := by have := HX.out; omega
          obtain ⟨bb, off, rfl, hbl, hc⟩ := R.out.2 (by omega)
          obtain ⟨bb2, off2, rfl, hbl2, hc2⟩ := RD.out.2 (by omega)
          have hu11 := Lib.hid (hc k u hu)
          have hz11 := Lib.hid (hc2 k z hz)
          have HLt := Lib.hid hlt
          have HBl := Lib.hid (And.intro hbl hbl2)
          clear hu hz hc hc2 hlt hk hbl hbl2
          obtain ⟨b0, b1, b2, b3, b4, b5, b6, b7, b8, b9, b10⟩ := hu11.out
          have vC_0 := C.out.cell 0
          simp only [List.getElem?_toArray, List.getElem?_cons_zero] at vC_0
          go_upto_region 14 with fail
          clear vC_0
          clear b0 b1 b2 b3 b4 b5 b6 b7 b8 b9 b10 hu11
          have one := whole_one (W := wr) (t := 36) (x := #[.int .i64 u.id, .int .i64 u.tok, .int .i64 u.ver, .int .i64 u.zone, .bool u.tag, .bool u.on, .bool u.gone, .bool u.well, .int .u8 u.lb, .int .i64 u.unt, .int .i64 u.fen])
          have RG := Lib.hid (R.out.below one.2)
          have RDG := Lib.hid (RD.out.below one.2)
          have HLs := Lib.hid (And.intro C.out.lt (And.intro D.out.lt HBl.out.2))
          have C_ := Lib.hid (C.out.under one.2)
          have D_ := Lib.hid (D.out.under one.2)
          have R_ := Lib.hid (R.out.up one.2)
          have RD_ := Lib.hid (RD.out.up one.2)
          have B_ := Lib.hid (B.out.trans (one.2.mono B.out.size))
          clear C D R RD B
          have C := C_
          have D := D_
          have R := R_
          have RD := RD_
          have B := B_
          clear C_ D_ R_ RD_ B_
          have X := Lib.hid one.1
          have hz_ := Lib.hid (BxAt.below hz11.out HBl.out.2 one.2)
          clear hz11 HBl
          have hz11 := hz_
          clear hz_ one
          obtain ⟨V, hV⟩ : ∃ V, wr.alloc (.cells #[.int .i64 u.id, .int .i64 u.tok, .int .i64 u.ver, .int .i64 u.zone, .bool u.tag, .bool u.on, .bool u.gone, .bool u.well, .int .u8 u.lb, .int .i64 u.unt, .int .i64 u.fen] 36) = V := ⟨_, rfl⟩
          obtain ⟨gx, hgx⟩ : ∃ gx, wr.heap.size = gx := ⟨_, rfl⟩
          rw [hV] at C D R RD B X hz11 RG RDG ⊢
          rw [hgx] at X RG RDG HLs ⊢
          have HZ0 := Lib.hid hz0
          clear hV hgx hz0
          cases hl2 : (u.lb == 2) with
          | false =>
            skip
            have hzu : z = u := by rw [← HZ0.out]; unfold outB; rw [hl2]; rfl
            subst hzu
            have vX_8 := X.out.cell 8
            have vX_9 := X.out.cell 9
            simp only [List.getElem?_toArray, List.getElem?_cons_zero, List.getElem?_cons_succ] at vX_8 vX_9
            have vD_3 := D.out.cell 3
            simp only [List.getElem?_toArray, List.getElem?_cons_zero, List.getElem?_cons_succ] at vD_3
            go_wp2_with fail
            clear vX_8 vX_9 vD_3
            have HC := Lib.hid (show (V.drew.cell? ⟨g, 0, none⟩ = some (.slice (some ⟨bb2, off2, none⟩) n c') ∧ BxAt V.drew bb2 (off2 + k * 11) z ∧ BxAt V.drew gx 0 z) from ⟨D.out.cell 0, hz11.out.drew, (BoxIn.at_ (x := z) X.out).drew⟩)
            refine wp_region_held_drew (S := fun V => V.cell? ⟨g, 0, none⟩ = some (.slice (some ⟨bb2, off2, none⟩) n c') ∧ BxAt V bb2 (off2 + k * 11) z ∧ BxAt V gx 0 z) (by kernel_rfl) HC.out (fun _ => ?_)
            refine takeH (i := 0) (v := ?_) rfl (by kernel_rfl) (by kernel_rfl) (by kernel_rfl) (fun _ _ _ h => h) (by rfl) ?_ HC.out ?_
            rotate_left
            · rintro V ⟨d0, ⟨b0, b1, b2, b3, b4, b5, b6, b7, b8, b9, b10⟩, k0, k1, k2, k3, k4, k5, k6, k7, k8, k9, k10⟩; go_simp <;> with_reducible rfl
            simp only [Act.put, List.setIfInBounds_toArray, List.set_cons_zero, List.set_cons_succ]
            refine takeH (i := 1) (v := ?_) rfl (by kernel_rfl) (by kernel_rfl) (by kernel_rfl) (fun _ _ _ h => h) (by rfl) ?_ HC.out ?_
            rotate_left
            · rintro V ⟨d0, ⟨b0, b1, b2, b3, b4, b5, b6, b7, b8, b9, b10⟩, k0, k1, k2, k3, k4, k5, k6, k7, k8, k9, k10⟩; go_simp <;> with_reducible rfl
            simp only [Act.put, List.setIfInBounds_toArray, List.set_cons_zero, List.set_cons_succ]
            refine takeH (i := 2) (v := ?_) rfl (by kernel_rfl) (by kernel_rfl) (by kernel_rfl) (fun _ _ _ h => h) (by rfl) ?_ HC.out ?_
            rotate_left
            · rintro V ⟨d0, ⟨b0, b1, b2, b3, b4, b5, b6, b7, b8, b9, b10⟩, k0, k1, k2, k3, k4, k5, k6, k7, k8, k9, k10⟩; go_simp <;> with_reducible rfl
            simp only [Act.put, List.setIfInBounds_toArray, List.set_cons_zero, List.set_cons_succ]
            refine takeH (i := 3) (v := ?_) rfl (by kernel_rfl) (by kernel_rfl) (by kernel_rfl) (fun _ _ _ h => h) (by rfl) ?_ HC.out ?_
            rotate_left
            · rintro V ⟨d0, ⟨b0, b1, b2, b3, b4, b5, b6, b7, b8, b9, b10⟩, k0, k1, k2, k3, k4, k5, k6, k7, k8, k9, k10⟩; go_simp <;> with_reducible rfl
            simp only [Act.put, List.setIfInBounds_toArray, List.set_cons_zero, List.set_cons_succ]
            refine takeH (i := 4) (v := ?_) rfl (by kernel_rfl) (by kernel_rfl) (by kernel_rfl) (fun _ _ _ h => h) (by rfl) ?_ HC.out ?_
            rotate_left
            · rintro V ⟨d0, ⟨b0, b1, b2, b3, b4, b5, b6, b7, b8, b9, b10⟩, k0, k1, k2, k3, k4, k5, k6, k7, k8, k9, k10⟩; go_simp <;> with_reducible rfl
            simp only [Act.put, List.setIfInBounds_toArray, List.set_cons_zero, List.set_cons_succ]
            refine takeH (i := 5) (v := ?_) rfl (by kernel_rfl) (by kernel_rfl) (by kernel_rfl) (fun _ _ _ h => h) (by rfl) ?_ HC.out ?_
            rotate_left
            · rintro V ⟨d0, ⟨b0, b1, b2, b3, b4, b5, b6, b7, b8, b9, b10⟩, k0, k1, k2, k3, k4, k5, k6, k7, k8, k9, k10⟩; go_simp <;> with_reducible rfl
            simp only [Act.put, List.setIfInBounds_toArray, List.set_cons_zero, List.set_cons_succ]
            refine takeH (i := 6) (v := .bool false) rfl (by kernel_rfl) (by kernel_rfl) (by kernel_rfl) (fun _ _ _ h => h) (by rfl) ?_ HC.out ?_
            · rintro V _; exact exec_neqBx z z false (by rfl) (by rfl) (by simp)
            simp only [Act.put, List.setIfInBounds_toArray, List.set_cons_zero, List.set_cons_succ]
            refine wpAnyH_done (by kernel_rfl) ?_ _
            clear HC
            go_wp2_with fail
            go_roundw
            case rel => exact ⟨k + 1, by go_num, HLt.out, C.out.under (Below.refl _ _).drew, D.out.under (Below.refl _ _).drew, R.out.up (Below.refl _ _).drew, RD.out.up (Below.refl _ _).drew, B.out.drew⟩
            case measure => have := HLt.out; simp [intOf]; omega
          | true =>
            cases hp : decide (0 < j) with
            | false =>
              have hp2 : decide ((0 : Int) < (j : Int)) = false := by rw [decide_eq_false_iff_not] at hp ⊢; omega
              have hzu : z = u := by rw [← HZ0.out]; unfold outB; rw [hl2, hp]; rfl
              subst hzu
              have vX_8 := X.out.cell 8
              have vX_9 := X.out.cell 9
              simp only [List.getElem?_toArray, List.getElem?_cons_zero, List.getElem?_cons_succ] at vX_8 vX_9
              have vD_3 := D.out.cell 3
              simp only [List.getElem?_toArray, List.getElem?_cons_zero, List.getElem?_cons_succ] at vD_3
              go_wp2_with fail
              clear vX_8 vX_9 vD_3
              have HC := Lib.hid (show (V.drew.cell? ⟨g, 0, none⟩ = some (.slice (some ⟨bb2, off2, none⟩) n c') ∧ BxAt V.drew bb2 (off2 + k * 11) z ∧ BxAt V.drew gx 0 z) from ⟨D.out.cell 0, hz11.out.drew, (BoxIn.at_ (x := z) X.out).drew⟩)
              refine wp_region_held_drew (S := fun V => V.cell? ⟨g, 0, none⟩ = some (.slice (some ⟨bb2, off2, none⟩) n c') ∧ BxAt V bb2 (off2 + k * 11) z ∧ BxAt V gx 0 z) (by kernel_rfl) HC.out (fun _ => ?_)
              refine takeH (i := 0) (v := ?_) rfl (by kernel_rfl) (by kernel_rfl) (by kernel_rfl) (fun _ _ _ h => h) (by rfl) ?_ HC.out ?_
              rotate_left
              · rintro V ⟨d0, ⟨b0, b1, b2, b3, b4, b5, b6, b7, b8, b9, b10⟩, k0, k1, k2, k3, k4, k5, k6, k7, k8, k9, k10⟩; go_simp <;> with_reducible rfl
              simp only [Act.put, List.setIfInBounds_toArray, List.set_cons_zero, List.set_cons_succ]
              refine takeH (i := 1) (v := ?_) rfl (by kernel_rfl) (by kernel_rfl) (by kernel_rfl) (fun _ _ _ h => h) (by rfl) ?_ HC.out ?_
              rotate_left
              · rintro V ⟨d0, ⟨b0, b1, b2, b3, b4, b5, b6, b7, b8, b9, b10⟩, k0, k1, k2, k3, k4, k5, k6, k7, k8, k9, k10⟩; go_simp <;> with_reducible rfl
              simp only [Act.put, List.setIfInBounds_toArray, List.set_cons_zero, List.set_cons_succ]
              refine takeH (i := 2) (v := ?_) rfl (by kernel_rfl) (by kernel_rfl) (by kernel_rfl) (fun _ _ _ h => h) (by rfl) ?_ HC.out ?_
              rotate_left
              · rintro V ⟨d0, ⟨b0, b1, b2, b3, b4, b5, b6, b7, b8, b9, b10⟩, k0, k1, k2, k3, k4, k5, k6, k7, k8, k9, k10⟩; go_simp <;> with_reducible rfl
              simp only [Act.put, List.setIfInBounds_toArray, List.set_cons_zero, List.set_cons_succ]
              refine takeH (i := 3) (v := ?_) rfl (by kernel_rfl) (by kernel_rfl) (by kernel_rfl) (fun _ _ _ h => h) (by rfl) ?_ HC.out ?_
              rotate_left
              · rintro V ⟨d0, ⟨b0, b1, b2, b3, b4, b5, b6, b7, b8, b9, b10⟩, k0, k1, k2, k3, k4, k5, k6, k7, k8, k9, k10⟩; go_simp <;> with_reducible rfl
              simp only [Act.put, List.setIfInBounds_toArray, List.set_cons_zero, List.set_cons_succ]
              refine takeH (i := 4) (v := ?_) rfl (by kernel_rfl) (by kernel_rfl) (by kernel_rfl) (fun _ _ _ h => h) (by rfl) ?_ HC.out ?_
              rotate_left
              · rintro V ⟨d0, ⟨b0, b1, b2, b3, b4, b5, b6, b7, b8, b9, b10⟩, k0, k1, k2, k3, k4, k5, k6, k7, k8, k9, k10⟩; go_simp <;> with_reducible rfl
              simp only [Act.put, List.setIfInBounds_toArray, List.set_cons_zero, List.set_cons_succ]
              refine takeH (i := 5) (v := ?_) rfl (by kernel_rfl) (by kernel_rfl) (by kernel_rfl) (fun _ _ _ h => h) (by rfl) ?_ HC.out ?_
              rotate_left
              · rintro V ⟨d0, ⟨b0, b1, b2, b3, b4, b5, b6, b7, b8, b9, b10⟩, k0, k1, k2, k3, k4, k5, k6, k7, k8, k9, k10⟩; go_simp <;> with_reducible rfl
              simp only [Act.put, List.setIfInBounds_toArray, List.set_cons_zero, List.set_cons_succ]
              refine takeH (i := 6) (v := .bool false) rfl (by kernel_rfl) (by kernel_rfl) (by kernel_rfl) (fun _ _ _ h => h) (by rfl) ?_ HC.out ?_
              · rintro V _; exact exec_neqBx z z false (by rfl) (by rfl) (by simp)
              simp only [Act.put, List.setIfInBounds_toArray, List.set_cons_zero, List.set_cons_succ]
              refine wpAnyH_done (by kernel_rfl) ?_ _
              clear HC
              go_wp2_with fail
              go_roundw
              case rel => exact ⟨k + 1, by go_num, HLt.out, C.out.under (Below.refl _ _).drew, D.out.under (Below.refl _ _).drew, R.out.up (Below.refl _ _).drew, RD.out.up (Below.refl _ _).drew, B.out.drew⟩
              case measure => have := HLt.out; simp [intOf]; omega
            | true =>
              have hp2 : decide ((0 : Int) < (j : Int)) = true := by rw [decide_eq_true_eq] at hp ⊢; omega
              cases hu2 : decide (u.unt ≤ x.nw + (j : Int)) with
              | false =>
                skip
                have hzu : z = u := by rw [← HZ0.out]; unfold outB; rw [hl2, hp, hu2]; rfl
                subst hzu
                have vX_8 := X.out.cell 8
                have vX_9 := X.out.cell 9
                simp only [List.getElem?_toArray, List.getElem?_cons_zero, List.getElem?_cons_succ] at vX_8 vX_9
                have vD_3 := D.out.cell 3
                simp only [List.getElem?_toArray, List.getElem?_cons_zero, List.getElem?_cons_succ] at vD_3
                go_wp2_with fail
                clear vX_8 vX_9 vD_3
                have HC := Lib.hid (show (V.drew.cell? ⟨g, 0, none⟩ = some (.slice (some ⟨bb2, off2, none⟩) n c') ∧ BxAt V.drew bb2 (off2 + k * 11) z ∧ BxAt V.drew gx 0 z) from ⟨D.out.cell 0, hz11.out.drew, (BoxIn.at_ (x := z) X.out).drew⟩)
                refine wp_region_held_drew (S := fun V => V.cell? ⟨g, 0, none⟩ = some (.slice (some ⟨bb2, off2, none⟩) n c') ∧ BxAt V bb2 (off2 + k * 11) z ∧ BxAt V gx 0 z) (by kernel_rfl) HC.out (fun _ => ?_)
                refine takeH (i := 0) (v := ?_) rfl (by kernel_rfl) (by kernel_rfl) (by kernel_rfl) (fun _ _ _ h => h) (by rfl) ?_ HC.out ?_
                rotate_left
                · rintro V ⟨d0, ⟨b0, b1, b2, b3, b4, b5, b6, b7, b8, b9, b10⟩, k0, k1, k2, k3, k4, k5, k6, k7, k8, k9, k10⟩; go_simp <;> with_reducible rfl
                simp only [Act.put, List.setIfInBounds_toArray, List.set_cons_zero, List.set_cons_succ]
                refine takeH (i := 1) (v := ?_) rfl (by kernel_rfl) (by kernel_rfl) (by kernel_rfl) (fun _ _ _ h => h) (by rfl) ?_ HC.out ?_
                rotate_left
                · rintro V ⟨d0, ⟨b0, b1, b2, b3, b4, b5, b6, b7, b8, b9, b10⟩, k0, k1, k2, k3, k4, k5, k6, k7, k8, k9, k10⟩; go_simp <;> with_reducible rfl
                simp only [Act.put, List.setIfInBounds_toArray, List.set_cons_zero, List.set_cons_succ]
                refine takeH (i := 2) (v := ?_) rfl (by kernel_rfl) (by kernel_rfl) (by kernel_rfl) (fun _ _ _ h => h) (by rfl) ?_ HC.out ?_
                rotate_left
                · rintro V ⟨d0, ⟨b0, b1, b2, b3, b4, b5, b6, b7, b8, b9, b10⟩, k0, k1, k2, k3, k4, k5, k6, k7, k8, k9, k10⟩; go_simp <;> with_reducible rfl
                simp only [Act.put, List.setIfInBounds_toArray, List.set_cons_zero, List.set_cons_succ]
                refine takeH (i := 3) (v := ?_) rfl (by kernel_rfl) (by kernel_rfl) (by kernel_rfl) (fun _ _ _ h => h) (by rfl) ?_ HC.out ?_
                rotate_left
                · rintro V ⟨d0, ⟨b0, b1, b2, b3, b4, b5, b6, b7, b8, b9, b10⟩, k0, k1, k2, k3, k4, k5, k6, k7, k8, k9, k10⟩; go_simp <;> with_reducible rfl
                simp only [Act.put, List.setIfInBounds_toArray, List.set_cons_zero, List.set_cons_succ]
                refine takeH (i := 4) (v := ?_) rfl (by kernel_rfl) (by kernel_rfl) (by kernel_rfl) (fun _ _ _ h => h) (by rfl) ?_ HC.out ?_
                rotate_left
                · rintro V ⟨d0, ⟨b0, b1, b2, b3, b4, b5, b6, b7, b8, b9, b10⟩, k0, k1, k2, k3, k4, k5, k6, k7, k8, k9, k10⟩; go_simp <;> with_reducible rfl
                simp only [Act.put, List.setIfInBounds_toArray, List.set_cons_zero, List.set_cons_succ]
                refine takeH (i := 5) (v := ?_) rfl (by kernel_rfl) (by kernel_rfl) (by kernel_rfl) (fun _ _ _ h => h) (by rfl) ?_ HC.out ?_
                rotate_left
                · rintro V ⟨d0, ⟨b0, b1, b2, b3, b4, b5, b6, b7, b8, b9, b10⟩, k0, k1, k2, k3, k4, k5, k6, k7, k8, k9, k10⟩; go_simp <;> with_reducible rfl
                simp only [Act.put, List.setIfInBounds_toArray, List.set_cons_zero, List.set_cons_succ]
                refine takeH (i := 6) (v := .bool false) rfl (by kernel_rfl) (by kernel_rfl) (by kernel_rfl) (fun _ _ _ h => h) (by rfl) ?_ HC.out ?_
                · rintro V _; exact exec_neqBx z z false (by rfl) (by rfl) (by simp)
                simp only [Act.put, List.setIfInBounds_toArray, List.set_cons_zero, List.set_cons_succ]
                refine wpAnyH_done (by kernel_rfl) ?_ _
                clear HC
                go_wp2_with fail
                go_roundw
                case rel => exact ⟨k + 1, by go_num, HLt.out, C.out.under (Below.refl _ _).drew, D.out.under (Below.refl _ _).drew, R.out.up (Below.refl _ _).drew, RD.out.up (Below.refl _ _).drew, B.out.drew⟩
                case measure => have := HLt.out; simp [intOf]; omega
              | true =>
                have hzu : z = { u with lb := 0 } := by rw [← HZ0.out]; unfold outB; rw [hl2, hp, hu2]; rfl
                subst hzu
                have vX_8 := X.out.cell 8
                have vX_9 := X.out.cell 9
                simp only [List.getElem?_toArray, List.getElem?_cons_zero, List.getElem?_cons_succ] at vX_8 vX_9
                have vD_3 := D.out.cell 3
                simp only [List.getElem?_toArray, List.getElem?_cons_zero, List.getElem?_cons_succ] at vD_3
                have xf := X.out.frozen 8
                go_upto_region 16 with fail
                clear vX_8 vX_9 vD_3
                clear xf
                obtain ⟨V8, hV8⟩ : ∃ V8, V.setCell ⟨gx, 8, none⟩ (.int .u8 0) = V8 := ⟨_, rfl⟩
                have b8 : Below gx V V8 := by rw [← hV8]; exact (Below.refl gx V).setCell (p := ⟨gx, 8, none⟩) (Nat.le_refl _) _
                have X_ := Lib.hid (X.out.set 8 (.int .u8 0))
                have C_ := Lib.hid (C.out.below b8 HLs.out.1)
                have D_ := Lib.hid (D.out.below b8 HLs.out.2.1)
                have R_ := Lib.hid ((RG.out.below b8).more (Nat.le_trans (Nat.le_of_lt X.out.lt) b8.size))
                have RD_ := Lib.hid ((RDG.out.below b8).more (Nat.le_trans (Nat.le_of_lt X.out.lt) b8.size))
                have B_ := Lib.hid (B.out.trans (b8.mono (Nat.le_of_lt HLs.out.1)))
                have hz_ := Lib.hid (hz11.out.bel b8 HLs.out.2.2)
                rw [hV8] at X_ ⊢
                clear X C D R RD B hz11 RG RDG hV8 b8
                have X := X_
                have C := C_
                have D := D_
                have R := R_
                have RD := RD_
                have B := B_
                have hz11 := hz_
                clear X_ C_ D_ R_ RD_ B_ hz_
                have HC := Lib.hid (show (V8.drew.cell? ⟨g, 0, none⟩ = some (.slice (some ⟨bb2, off2, none⟩) n c') ∧ BxAt V8.drew bb2 (off2 + k * 11) { u with lb := 0 } ∧ BxAt V8.drew gx 0 { u with lb := 0 }) from ⟨D.out.cell 0, hz11.out.drew, (BoxIn.at_ (x := { u with lb := 0 }) X.out).drew⟩)
                refine wp_region_held_drew (S := fun V => V.cell? ⟨g, 0, none⟩ = some (.slice (some ⟨bb2, off2, none⟩) n c') ∧ BxAt V bb2 (off2 + k * 11) { u with lb := 0 } ∧ BxAt V gx 0 { u with lb := 0 }) (by kernel_rfl) HC.out (fun _ => ?_)
                refine takeH (i := 0) (v := ?_) rfl (by kernel_rfl) (by kernel_rfl) (by kernel_rfl) (fun _ _ _ h => h) (by rfl) ?_ HC.out ?_
                rotate_left
                · rintro V ⟨d0, ⟨b0, b1, b2, b3, b4, b5, b6, b7, b8, b9, b10⟩, k0, k1, k2, k3, k4, k5, k6, k7, k8, k9, k10⟩; go_simp <;> with_reducible rfl
                simp only [Act.put, List.setIfInBounds_toArray, List.set_cons_zero, List.set_cons_succ]
                refine takeH (i := 1) (v := ?_) rfl (by kernel_rfl) (by kernel_rfl) (by kernel_rfl) (fun _ _ _ h => h) (by rfl) ?_ HC.out ?_
                rotate_left
                · rintro V ⟨d0, ⟨b0, b1, b2, b3, b4, b5, b6, b7, b8, b9, b10⟩, k0, k1, k2, k3, k4, k5, k6, k7, k8, k9, k10⟩; go_simp <;> with_reducible rfl
                simp only [Act.put, List.setIfInBounds_toArray, List.set_cons_zero, List.set_cons_succ]
                refine takeH (i := 2) (v := ?_) rfl (by kernel_rfl) (by kernel_rfl) (by kernel_rfl) (fun _ _ _ h => h) (by rfl) ?_ HC.out ?_
                rotate_left
                · rintro V ⟨d0, ⟨b0, b1, b2, b3, b4, b5, b6, b7, b8, b9, b10⟩, k0, k1, k2, k3, k4, k5, k6, k7, k8, k9, k10⟩; go_simp <;> with_reducible rfl
                simp only [Act.put, List.setIfInBounds_toArray, List.set_cons_zero, List.set_cons_succ]
                refine takeH (i := 3) (v := ?_) rfl (by kernel_rfl) (by kernel_rfl) (by kernel_rfl) (fun _ _ _ h => h) (by rfl) ?_ HC.out ?_
                rotate_left
                · rintro V ⟨d0, ⟨b0, b1, b2, b3, b4, b5, b6, b7, b8, b9, b10⟩, k0, k1, k2, k3, k4, k5, k6, k7, k8, k9, k10⟩; go_simp <;> with_reducible rfl
                simp only [Act.put, List.setIfInBounds_toArray, List.set_cons_zero, List.set_cons_succ]
                refine takeH (i := 4) (v := ?_) rfl (by kernel_rfl) (by kernel_rfl) (by kernel_rfl) (fun _ _ _ h => h) (by rfl) ?_ HC.out ?_
                rotate_left
                · rintro V ⟨d0, ⟨b0, b1, b2, b3, b4, b5, b6, b7, b8, b9, b10⟩, k0, k1, k2, k3, k4, k5, k6, k7, k8, k9, k10⟩; go_simp <;> with_reducible rfl
                simp only [Act.put, List.setIfInBounds_toArray, List.set_cons_zero, List.set_cons_succ]
                refine takeH (i := 5) (v := ?_) rfl (by kernel_rfl) (by kernel_rfl) (by kernel_rfl) (fun _ _ _ h => h) (by rfl) ?_ HC.out ?_
                rotate_left
                · rintro V ⟨d0, ⟨b0, b1, b2, b3, b4, b5, b6, b7, b8, b9, b10⟩, k0, k1, k2, k3, k4, k5, k6, k7, k8, k9, k10⟩; go_simp <;> with_reducible rfl
                simp only [Act.put, List.setIfInBounds_toArray, List.set_cons_zero, List.set_cons_succ]
                refine takeH (i := 6) (v := .bool false) rfl (by kernel_rfl) (by kernel_rfl) (by kernel_rfl) (fun _ _ _ h => h) (by rfl) ?_ HC.out ?_
                · rintro V _; exact exec_neqBx { u with lb := 0 } { u with lb := 0 } false (by rfl) (by rfl) (by simp)
                simp only [Act.put, List.setIfInBounds_toArray, List.set_cons_zero, List.set_cons_succ]
                refine wpAnyH_done (by kernel_rfl) ?_ _
                clear HC
                go_wp2_with fail
                go_roundw
                case rel => exact ⟨k + 1, by go_num, HLt.out, C.out.under (Below.refl _ _).drew, D.out.under (Below.refl _ _).drew, R.out.up (Below.refl _ _).drew, RD.out.up (Below.refl _ _).drew, B.out.drew⟩
                case measure => have := HLt.out; simp [intOf]; omega
        ·
          subst hkn
          clear hk
          have vC_0 := C.out.cell 0
          simp only [List.getElem?_toArray, List.getElem?_cons_zero] at vC_0
          go_wp2_with fail
          refine (evWakes_any _).mono ?_
          rintro e y3 ⟨rfl, b⟩
          clear vC_0
          have C_ := Lib.hid (C.out.under b)
          have D_ := Lib.hid (D.out.under b)
          have R_ := Lib.hid (R.out.up b)
          have RD_ := Lib.hid (RD.out.up b)
          have B_ := Lib.hid (B.out.trans (b.mono B.out.size))
          clear C D R RD B
          have C := C_
          have D := D_
          have R := R_
          have RD := RD_
          have B := B_
          clear C_ D_ R_ RD_ B_
          clear b
          go_wp2_with fail
          go_ret
          exact ⟨rfl, B.out⟩

theorem ticks_any (x : Cw) (many : Int) (A : Option Addr) (n c : Nat) (w : World) (hr : RdX w w.heap.size A n x.l) :
    Calls Try.prog 5 #[.agg #[.slice A n c, .int .i64 x.fl, .int .i64 x.dr, .int .i64 x.nw, .bool x.tg], .int .i64 many] w (TruePost w) := by
  by_cases hm : many < 0
  · exact ticks_neg x many A n c w hr hm
  by_cases h4 : (40 : Int) < many
  · exact ticks_many x many A n c w hr hm h4
  cases h : right x with
  | false => exact ticks_wrong x many A n c w hr hm h4 h
  | true =>
    by_cases h5 : (1099511627676 : Int) < x.nw
    · exact ticks_late x many A n c w hr hm h4 h h5
    · obtain ⟨m, rfl⟩ := Int.eq_ofNat_of_zero_le (show 0 ≤ many by omega)
      exact ticks_on x m A n c w hr (by omega) h h5

end Go.Proofs.Ytoiegffnmjlkdaa
