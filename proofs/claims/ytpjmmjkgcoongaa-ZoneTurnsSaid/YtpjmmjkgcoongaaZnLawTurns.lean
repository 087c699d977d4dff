/-
  The walk of the statement 'ZoneTurns': it answers true, and nothing that was there turns. Conditions: none.
-/
import Derived.Test.YtpjmmjkgcoongaaZnWakes
namespace Go.Proofs.Ytpjmmjkgcoongaa
open Go.RowKit Go.Shelf

/-- Numbers that the statement speaks of. -/
def inTurns (n a b : Int) : Prop := -1000 ≤ a ∧ a ≤ 1000 ∧ -1000 ≤ b ∧ b ≤ 1000 ∧ n ≤ 1099511627776 ∧ -1099511627776 ≤ n
theorem zoneTurns_out (n a b : Int) (w : World) (h : ¬ inTurns n a b) :
    Calls Try.prog 3 #[.int .i64 n, .int .i64 a, .int .i64 b] w fun e w' => e = .returned (.bool true) ∧ Below w.heap.size w w' := by
  unfold inTurns at h
  have hc : a < -1000 ∨ (-1000 ≤ a ∧ 1000 < a) ∨ (-1000 ≤ a ∧ a ≤ 1000 ∧ b < -1000) ∨ (-1000 ≤ a ∧ a ≤ 1000 ∧ -1000 ≤ b ∧ 1000 < b) ∨ (-1000 ≤ a ∧ a ≤ 1000 ∧ -1000 ≤ b ∧ b ≤ 1000 ∧ 1099511627776 < n) ∨ (-1000 ≤ a ∧ a ≤ 1000 ∧ -1000 ≤ b ∧ b ≤ 1000 ∧ n ≤ 1099511627776 ∧ n < -1099511627776) := by omega
  clear h
  rcases hc with g1 | ⟨g1, g2⟩ | ⟨g1, g2, g3⟩ | ⟨g1, g2, g3, g4⟩ | ⟨g1, g2, g3, g4, g5⟩ | ⟨g1, g2, g3, g4, g5, g6⟩
  all_goals
    go_enter Try.func3, Try.ntmps3
    go_wp2_with fail
    refine (wakes_any _).mono ?_
    rintro e w1 ⟨rfl, hb⟩
    go_wp2_with fail
    go_ret
    exact ⟨rfl, hb⟩

/-- A number turned about so many times. -/
def tx (a b : Int) : Nat → Int × Int
  | 0 => (a, b)
  | k + 1 => (-(tx a b k).2, (tx a b k).1)
theorem tx_bd {a b : Int} (h0 : -1000 ≤ a) (h1 : a ≤ 1000) (h2 : -1000 ≤ b) (h3 : b ≤ 1000) (k : Nat) : -1000 ≤ (tx a b k).1 ∧ (tx a b k).1 ≤ 1000 ∧ -1000 ≤ (tx a b k).2 ∧ (tx a b k).2 ≤ 1000 := by
  induction k with
  | zero => exact ⟨h0, h1, h2, h3⟩
  | succ k ih => simp only [tx]; omega
theorem tx_sq (a b : Int) (k : Nat) : (tx a b k).1 * (tx a b k).1 + (tx a b k).2 * (tx a b k).2 = a * a + b * b := by
  induction k with
  | zero => rfl
  | succ k ih => simp only [tx, Int.neg_mul_neg]; omega
theorem tx_four (a b : Int) : tx a b 4 = (a, b) := by simp [tx]

def TurnsIn (a b : Int) (k : Nat) (v : Value) : Prop := ∃ x y, v = .complex .f64 x y ∧ IsW x (tx a b k).1 ∧ IsW y (tx a b k).2

set_option maxRecDepth 100000 in
set_option maxHeartbeats 1000000 in
theorem zoneTurns_in (n a b : Int) (w : World) (h : inTurns n a b) :
    Calls Try.prog 3 #[.int .i64 n, .int .i64 a, .int .i64 b] w fun e w' => e = .returned (.bool true) ∧ Below w.heap.size w w' := by
  obtain ⟨g1, g2, g3, g4, g5, g6⟩ := h
  have hfx := isW_of_int a (by omega)
  have hfy := isW_of_int b (by omega)
  obtain ⟨X, hX⟩ : ∃ X, floatOfInt .f64 a = X := ⟨_, rfl⟩
  obtain ⟨Y, hY⟩ : ∃ Y, floatOfInt .f64 b = Y := ⟨_, rfl⟩
  rw [hX] at hfx
  rw [hY] at hfy
  have HX := Lib.hid hfx
  have HY := Lib.hid hfy
  have HBd := Lib.hid (tx_bd g1 g2 g3 g4)
  obtain ⟨q1, q2⟩ := sq_bd (a := a) (by omega) (by omega)
  obtain ⟨q3, q4⟩ := sq_bd (a := b) (by omega) (by omega)
  have HSq := Lib.hid (tx_sq a b)
  obtain ⟨A2, hA2⟩ : ∃ A2, a * a = A2 := ⟨_, rfl⟩
  obtain ⟨B2, hB2⟩ : ∃ B2, b * b = B2 := ⟨_, rfl⟩
  rw [hA2, hB2] at HSq
  rw [hA2] at q1 q2
  rw [hB2] at q3 q4
  have e1 : IntKind.i64.wrap (a * a) = A2 := by rw [hA2, IntKind.wrap_i64]; omega
  have e2 : IntKind.i64.wrap (b * b) = B2 := by rw [hB2, IntKind.wrap_i64]; omega
  have e3 : IntKind.i64.wrap (A2 + B2) = A2 + B2 := by rw [IntKind.wrap_i64]; omega
  have d1 : decide (a < -1000) = false := by simp; omega
  have d2 : decide (1000 < a) = false := by simp; omega
  have d3 : decide (b < -1000) = false := by simp; omega
  have d4 : decide (1000 < b) = false := by simp; omega
  have d5 : decide (1099511627776 < n) = false := by simp; omega
  have d6 : decide (n < -1099511627776) = false := by simp; omega
  have f1 : IntKind.i64.wrap (n + 1) = n + 1 := by rw [IntKind.wrap_i64]; omega
  have f2 : IntKind.i64.wrap (n + 2) = n + 2 := by rw [IntKind.wrap_i64]; omega
  have f4 : IntKind.i64.wrap (n + 4) = n + 4 := by rw [IntKind.wrap_i64]; omega
  clear hfx hfy hA2 hB2 g1 g2 g3 g4 g5 g6 q1 q2 q3 q4
  go_enter Try.func3, Try.ntmps3
  go_wp2_with fail
  clear hX hY
  go_loop [8, 9] (fun v i => ∃ k : Nat, i = .int .i64 (k : Int) ∧ k ≤ 4 ∧ TurnsIn a b k v) (fun _ i => 4 - (intOf i).toNat)
  case atStart => exact ⟨0, rfl, by omega, X, Y, rfl, HX.out, HY.out⟩
  case round =>
    obtain ⟨k, rfl, hk, x, y, rfl, hx, hy⟩ := hrel
    have bd := HBd.out k
    by_cases h4 : k = 4
    · subst h4
      rw [tx_four] at hx hy
      have o1 := ord_eq hx HX.out rfl
      have o2 := ord_eq hy HY.out rfl
      have bn := px_bd n
      have bn' := py_bd n
      clear hx hy hk bd
      go_wp2_with fail
      refine (at_any n _).mono ?_
      rintro e w1 ⟨⟨x1, y1, rfl, hx1, hy1⟩, hb1⟩
      have HB1 := Lib.hid hb1
      have HX1 := Lib.hid hx1
      have HY1 := Lib.hid hy1
      clear hb1 hx1 hy1
      go_wp2_with fail
      refine (turn_yes HX1.out HY1.out (by omega) (by omega) (by omega) (by omega) _).mono ?_
      rintro e w2 ⟨⟨x2, y2, rfl, hx2, hy2⟩, rfl⟩
      have HX2 := Lib.hid hx2
      have HY2 := Lib.hid hy2
      clear hx2 hy2
      go_wp2_with fail
      refine (at_any (n + 1) _).mono ?_
      rintro e w2 ⟨⟨x3, y3, rfl, hx3, hy3⟩, hb2⟩
      have HB2 := Lib.hid (HB1.out.trans (hb2.mono HB1.out.size))
      have o3 := ord_eq HX2.out hx3 (px_next n).symm
      have o4 := ord_eq HY2.out hy3 (py_next n).symm
      clear hb2 hx3 hy3 HX2 HY2
      go_wp2_with fail
      clear o1 o2 o3 o4 f1
      refine (at_any n _).mono ?_
      rintro e w3 ⟨⟨x4, y4, rfl, hx4, hy4⟩, hb3⟩
      have HB3 := Lib.hid (HB2.out.trans (hb3.mono HB2.out.size))
      have HX4 := Lib.hid hx4
      have HY4 := Lib.hid hy4
      clear hb3 hx4 hy4
      go_wp2_with fail
      refine (at_any (n + 2) _).mono ?_
      rintro e w4 ⟨⟨x5, y5, rfl, hx5, hy5⟩, hb4⟩
      have HB4 := Lib.hid (HB3.out.trans (hb4.mono HB3.out.size))
      have p1 := px_opp n
      have p2 := py_opp n
      obtain ⟨r5, s5, ha5, hr5, hs5⟩ := run_caddW (P := Try.prog) w4 23 HX4.out HY4.out hx5 hy5 (by omega) (by omega)
      have o5 := ord_eq hr5 isW_0 (by omega)
      have o6 := ord_eq hs5 isW_0 (by omega)
      clear hb4 hx5 hy5 hr5 hs5 p1 p2 HX4 HY4
      go_wp2_with fail
      clear ha5 o5 o6 f2
      refine (at_any n _).mono ?_
      rintro e w5 ⟨⟨x6, y6, rfl, hx6, hy6⟩, hb5⟩
      have HB5 := Lib.hid (HB4.out.trans (hb5.mono HB4.out.size))
      have HZ := Lib.hid (size_yes hx6 hy6 (by omega) (by omega) (by omega) (by omega) w5)
      rw [pxy_one] at HZ
      clear hb5 hx6 hy6
      go_wp2_with fail
      refine HZ.out.mono ?_
      rintro e w6 ⟨rfl, rfl⟩
      clear HZ
      go_wp2_with fail
      refine (at_any (n + 4) _).mono ?_
      rintro e w6 ⟨⟨x7, y7, rfl, hx7, hy7⟩, hb6⟩
      rw [px_four] at hx7
      rw [py_four] at hy7
      have HB6 := Lib.hid (HB5.out.trans (hb6.mono HB5.out.size))
      have HX7 := Lib.hid hx7
      have HY7 := Lib.hid hy7
      clear hb6 hx7 hy7
      go_wp2_with fail
      refine (at_any n _).mono ?_
      rintro e w7 ⟨⟨x8, y8, rfl, hx8, hy8⟩, hb7⟩
      have HB7 := Lib.hid (HB6.out.trans (hb7.mono HB6.out.size))
      have o7 := ord_eq HX7.out hx8 rfl
      have o8 := ord_eq HY7.out hy8 rfl
      clear hb7 hx8 hy8
      go_wp2_with fail
      refine (wakes_any _).mono ?_
      rintro e w8 ⟨rfl, hb8⟩
      go_wp2_with fail
      go_ret
      exact ⟨rfl, HB7.out.trans (hb8.mono HB7.out.size)⟩
    · have hk3 : k < 4 := by omega
      have hki : (k : Int) < 4 := by omega
      have bd' := HBd.out (k + 1)
      have HT := Lib.hid (turn_yes hx hy bd.1 bd.2.1 bd.2.2.1 bd.2.2.2 w)
      clear hx hy bd h4
      go_wp2_with fail
      refine HT.out.mono ?_
      rintro e w1 ⟨⟨x1, y1, rfl, hx1, hy1⟩, rfl⟩
      have HX1 := Lib.hid (show IsW x1 (tx a b (k + 1)).1 from hx1)
      have HY1 := Lib.hid (show IsW y1 (tx a b (k + 1)).2 from hy1)
      have HZ := Lib.hid (size_yes HX1.out HY1.out bd'.1 bd'.2.1 bd'.2.2.1 bd'.2.2.2 w)
      rw [HSq.out (k + 1)] at HZ
      clear hx1 hy1 HT bd'
      go_wp2_with fail
      refine HZ.out.mono ?_
      rintro e w1 ⟨rfl, rfl⟩
      go_wp2_with fail
      go_round
      case rel => exact ⟨k + 1, by go_num, by omega, x1, y1, rfl, HX1.out, HY1.out⟩
      case measure => simp [intOf]; omega

theorem zoneTurns_walk (n a b : Int) (w : World) :
    Calls Try.prog 3 #[.int .i64 n, .int .i64 a, .int .i64 b] w fun e w' => e = .returned (.bool true) ∧ Below w.heap.size w w' := by
  by_cases h : inTurns n a b
  · exact zoneTurns_in n a b w h
  · exact zoneTurns_out n a b w h

end Go.Proofs.Ytpjmmjkgcoongaa
