/-
  What each statement over calls says at its end: the first call of epoch 2, and what may not be. Conditions: those that each theorem names.
-/
import Derived.Test.YtgajnmjifhemgaaClOpenF
import Derived.Test.YtgajnmjifhemgaaClSame
namespace Go.Proofs.Ytgajnmjifhemgaa
open Go.RowKit Go.Shelf

theorem great_any (c : Cs) (A : Option Addr) (n k : Nat) (w : World) : Calls Try.prog 8 #[.agg #[.int .i64 c.ep, .int .i64 c.nx, .slice A n k]] w fun e w' => e = .returned (.bool (decide ((60 : Int) < (n : Int)))) ∧ Below w.heap.size w w' := by
  have HB := Lib.hid ((Below.refl _ w).alloc (Nat.le_refl _) (.cells #[.int .i64 c.ep, .int .i64 c.nx, .slice A n k] 24))
  go_enter Try.func8, Try.ntmps8
  go_wp2_with fail
  go_ret
  exact ⟨rfl, HB.out⟩

theorem begin2 (w : World) : Calls Try.prog 14 #[.int .i64 2] w fun e w' => ∃ A k, e = .returned (.tuple #[.agg #[.int .i64 2, .int .i64 1, .slice A 0 k], .int .i64 0]) ∧ CallsAt w.heap.size w' (.slice A 0 k) [] ∧ Below w.heap.size w w' := begin_any 2 w
/-- The first call of epoch 2. -/
def w1 : Cl := ⟨2097153, 4, 5, 9⟩
theorem open2 (A : Option Addr) (k : Nat) (B : Nat) (w : World) (h : CallsAt B w (.slice A 0 k) []) : Calls Try.prog 10 #[.agg #[.int .i64 2, .int .i64 1, .slice A 0 k], .int .u8 4, .int .i64 5, .int .i64 9] w fun e w' => ∃ A k, e = .returned (.tuple #[.agg #[.int .i64 2, .int .i64 2, .slice A 1 k], .int .i64 2097153, .int .i64 0]) ∧ CallsAt w.heap.size w' (.slice A 1 k) [w1] ∧ Below w.heap.size w w' :=
  open_any ⟨2, 1, []⟩ A 0 k 4 5 9 w.heap.size w (CallsAt.read h) (Nat.le_refl _) (by omega)
theorem open3 (A : Option Addr) (k : Nat) (B : Nat) (w : World) (h : CallsAt B w (.slice A 1 k) [w1]) : Calls Try.prog 10 #[.agg #[.int .i64 2, .int .i64 2, .slice A 1 k], .int .u8 4, .int .i64 5, .int .i64 9] w fun e w' => ∃ A k, e = .returned (.tuple #[.agg #[.int .i64 2, .int .i64 2, .slice A 1 k], .int .i64 0, .int .i64 2]) ∧ CallsAt w.heap.size w' (.slice A 1 k) [w1] ∧ Below w.heap.size w w' :=
  open_any ⟨2, 2, [w1]⟩ A 1 k 4 5 9 w.heap.size w (CallsAt.read h) (Nat.le_refl _) (by omega)
theorem open0 (w : World) : Calls Try.prog 10 #[.agg #[.int .i64 0, .int .i64 0, .slice none 0 0], .int .u8 4, .int .i64 5, .int .i64 9] w fun e w' => ∃ A k, e = .returned (.tuple #[.agg #[.int .i64 0, .int .i64 0, .slice A 0 k], .int .i64 0, .int .i64 2]) ∧ CallsAt w.heap.size w' (.slice A 0 k) [] ∧ Below w.heap.size w w' :=
  open_any ⟨0, 0, []⟩ none 0 0 4 5 9 0 w (RdF.nil_ _ _ _) (Nat.zero_le _) (by omega)
theorem find3 (A : Option Addr) (k : Nat) (B : Nat) (w : World) (h : CallsAt B w (.slice A 1 k) [w1]) : Calls Try.prog 12 #[.agg #[.int .i64 2, .int .i64 2, .slice A 1 k], .int .i64 2097153] w fun e w' => e = .returned (.tuple #[.agg #[.int .i64 2097153, .int .u8 4, .int .i64 5, .int .i64 9], .bool true]) ∧ Below w.heap.size w w' :=
  find_any ⟨2, 2, [w1]⟩ A 1 k 2097153 w.heap.size w (CallsAt.read h) (Nat.le_refl _) (by omega)
theorem close3 (A : Option Addr) (k : Nat) (B : Nat) (w : World) (h : CallsAt B w (.slice A 1 k) [w1]) : Calls Try.prog 21 #[.agg #[.int .i64 2, .int .i64 2, .slice A 1 k], .int .i64 2097153] w fun e w' => ∃ A k, e = .returned (.agg #[.int .i64 2, .int .i64 2, .slice A 0 k]) ∧ CallsAt w.heap.size w' (.slice A 0 k) [] ∧ Below w.heap.size w w' :=
  close_any ⟨2, 2, [w1]⟩ A 1 k 2097153 w.heap.size w (CallsAt.read h) (Nat.le_refl _) (by omega)
theorem late3 (A : Option Addr) (k : Nat) (B : Nat) (w : World) (h : CallsAt B w (.slice A 1 k) [w1]) : Calls Try.prog 23 #[.agg #[.int .i64 2, .int .i64 2, .slice A 1 k], .int .i64 12, .int .i64 3] w fun e w' => ∃ A k, e = .returned (.agg #[.int .i64 2, .int .i64 2, .slice A 0 k]) ∧ CallsAt w.heap.size w' (.slice A 0 k) [] ∧ Below w.heap.size w w' :=
  late_any ⟨2, 2, [w1]⟩ A 1 k 12 3 w.heap.size w (CallsAt.read h) (Nat.le_refl _) (by omega)
theorem find0 (A : Option Addr) (k : Nat) (B : Nat) (w : World) (h : CallsAt B w (.slice A 0 k) []) : Calls Try.prog 12 #[.agg #[.int .i64 2, .int .i64 2, .slice A 0 k], .int .i64 2097153] w fun e w' => e = .returned (.tuple #[.agg #[.int .i64 0, .int .u8 0, .int .i64 0, .int .i64 0], .bool false]) ∧ Below w.heap.size w w' :=
  find_any ⟨2, 2, []⟩ A 0 k 2097153 w.heap.size w (CallsAt.read h) (Nat.le_refl _) (by omega)
theorem has3 (A : Option Addr) (k : Nat) (B : Nat) (w : World) (h : CallsAt B w (.slice A 1 k) [w1]) : Calls Try.prog 19 #[.agg #[.int .i64 2, .int .i64 2, .slice A 1 k], .int .u8 4, .int .i64 5] w fun e w' => e = .returned (.bool true) ∧ Below w.heap.size w w' :=
  has_any ⟨2, 2, [w1]⟩ A 1 k 4 5 w.heap.size w (CallsAt.read h) (Nat.le_refl _) (by omega)
theorem has0 (A : Option Addr) (k : Nat) (B : Nat) (w : World) (h : CallsAt B w (.slice A 0 k) []) : Calls Try.prog 19 #[.agg #[.int .i64 2, .int .i64 1, .slice A 0 k], .int .u8 4, .int .i64 5] w fun e w' => e = .returned (.bool false) ∧ Below w.heap.size w w' :=
  has_any ⟨2, 1, []⟩ A 0 k 4 5 w.heap.size w (CallsAt.read h) (Nat.le_refl _) (by omega)
theorem right3 (A : Option Addr) (k : Nat) (B : Nat) (w : World) (h : CallsAt B w (.slice A 1 k) [w1]) : Calls Try.prog 17 #[.agg #[.int .i64 2, .int .i64 2, .slice A 1 k]] w fun e w' => e = .returned (.bool true) ∧ Below w.heap.size w w' :=
  rightc_any ⟨2, 2, [w1]⟩ A 1 k w.heap.size w (CallsAt.read h) (Nat.le_refl _) (by omega)
theorem right0 (w : World) : Calls Try.prog 17 #[.agg #[.int .i64 0, .int .i64 0, .slice none 0 0]] w fun e w' => e = .returned (.bool false) ∧ Below w.heap.size w w' :=
  rightc_any ⟨0, 0, []⟩ none 0 0 0 w (RdF.nil_ _ _ _) (Nat.zero_le _) (by omega)

set_option maxRecDepth 100000 in
set_option maxHeartbeats 4000000 in
theorem wakes_any (w : World) : Calls Try.prog 9 #[] w (WakePost w) := by
  have B0 := Lib.hid (Below.refl w.heap.size w)
  go_enter Try.func9, Try.ntmps9
  go_wp2_with fail
  refine (begin2 w).mono ?_
  rintro e w1 ⟨A1, k1, rfl, o1, b1⟩
  have B0_ := Lib.hid (B0.out.trans (b1.mono B0.out.size))
  clear B0
  have B0 := B0_
  clear B0_
  have O1 := Lib.hid (o1)
  clear b1
  clear o1
  go_upto_region 2 with fail
  refine wp_at (fun V2 hV2 => ?_)
  have aV2 : Below w1.heap.size w1 V2 := by rw [← hV2]; exact (Below.refl _ _).alloc (Nat.le_refl _) _
  have xV2 : Whole V2 w1.heap.size 24 #[.int .i64 2, .int .i64 1, .slice A1 0 k1] := by rw [← hV2]; exact Whole.new _ _ _
  clear hV2
  have B0_ := Lib.hid (B0.out.trans (aV2.mono B0.out.size))
  have O1_ := Lib.hid (O1.out.under aV2)
  clear B0 O1
  have B0 := B0_
  have O1 := O1_
  clear B0_ O1_
  have X1 := Lib.hid xV2
  clear xV2
  clear aV2
  obtain ⟨c0, c1, c2⟩ := cells3 X1.out
  go_wp2_with fail
  refine (open2 A1 k1 _ V2 O1.out).mono ?_
  rintro e w3 ⟨A2, k2, rfl, o2, b2⟩
  clear c0 c1 c2
  have B0_ := Lib.hid (B0.out.trans (b2.mono B0.out.size))
  have O1_ := Lib.hid (O1.out.under b2)
  have X1_ := Lib.hid (X1.out.under b2)
  clear B0 O1 X1
  have B0 := B0_
  have O1 := O1_
  have X1 := X1_
  clear B0_ O1_ X1_
  have O2 := Lib.hid (o2)
  clear b2
  clear o2
  go_upto_region 3 with fail
  refine wp_at (fun V4 hV4 => ?_)
  have aV4 : Below w3.heap.size w3 V4 := by rw [← hV4]; exact (Below.refl _ _).alloc (Nat.le_refl _) _
  have xV4 : Whole V4 w3.heap.size 24 #[.int .i64 2, .int .i64 2, .slice A2 1 k2] := by rw [← hV4]; exact Whole.new _ _ _
  clear hV4
  have B0_ := Lib.hid (B0.out.trans (aV4.mono B0.out.size))
  have O1_ := Lib.hid (O1.out.under aV4)
  have X1_ := Lib.hid (X1.out.under aV4)
  have O2_ := Lib.hid (O2.out.under aV4)
  clear B0 O1 X1 O2
  have B0 := B0_
  have O1 := O1_
  have X1 := X1_
  have O2 := O2_
  clear B0_ O1_ X1_ O2_
  have X2 := Lib.hid xV4
  clear xV4
  clear aV4
  obtain ⟨d0, d1, d2⟩ := cells3 X2.out
  go_wp2_with fail
  refine (open3 A2 k2 _ V4 O2.out).mono ?_
  rintro e w5 ⟨A3, k3, rfl, o3, b3⟩
  clear d0 d1 d2
  have B0_ := Lib.hid (B0.out.trans (b3.mono B0.out.size))
  have O1_ := Lib.hid (O1.out.under b3)
  have X1_ := Lib.hid (X1.out.under b3)
  have O2_ := Lib.hid (O2.out.under b3)
  have X2_ := Lib.hid (X2.out.under b3)
  clear B0 O1 X1 O2 X2
  have B0 := B0_
  have O1 := O1_
  have X1 := X1_
  have O2 := O2_
  have X2 := X2_
  clear B0_ O1_ X1_ O2_ X2_
  clear b3
  clear o3
  go_upto_region 4 with fail
  refine wp_at (fun V6 hV6 => ?_)
  have aV6 : Below w5.heap.size w5 V6 := by rw [← hV6]; exact (Below.refl _ _).alloc (Nat.le_refl _) _
  clear hV6
  have B0_ := Lib.hid (B0.out.trans (aV6.mono B0.out.size))
  have O1_ := Lib.hid (O1.out.under aV6)
  have X1_ := Lib.hid (X1.out.under aV6)
  have O2_ := Lib.hid (O2.out.under aV6)
  have X2_ := Lib.hid (X2.out.under aV6)
  clear B0 O1 X1 O2 X2
  have B0 := B0_
  have O1 := O1_
  have X1 := X1_
  have O2 := O2_
  have X2 := X2_
  clear B0_ O1_ X1_ O2_ X2_
  clear aV6
  obtain ⟨d0, d1, d2⟩ := cells3 X2.out
  go_wp2_with fail
  refine (find3 A2 k2 _ V6 O2.out).mono ?_
  rintro e w7 ⟨rfl, b4⟩
  clear d0 d1 d2
  have B0_ := Lib.hid (B0.out.trans (b4.mono B0.out.size))
  have O1_ := Lib.hid (O1.out.under b4)
  have X1_ := Lib.hid (X1.out.under b4)
  have O2_ := Lib.hid (O2.out.under b4)
  have X2_ := Lib.hid (X2.out.under b4)
  clear B0 O1 X1 O2 X2
  have B0 := B0_
  have O1 := O1_
  have X1 := X1_
  have O2 := O2_
  have X2 := X2_
  clear B0_ O1_ X1_ O2_ X2_
  clear b4
  go_upto_region 5 with fail
  refine wp_at (fun V8 hV8 => ?_)
  have aV8 : Below w7.heap.size w7 V8 := by rw [← hV8]; exact (Below.refl _ _).alloc (Nat.le_refl _) _
  have xV8 : Whole V8 w7.heap.size 31 #[.int .i64 2097153, .int .u8 4, .int .i64 5, .int .i64 9] := by rw [← hV8]; exact Whole.new _ _ _
  clear hV8
  have B0_ := Lib.hid (B0.out.trans (aV8.mono B0.out.size))
  have O1_ := Lib.hid (O1.out.under aV8)
  have X1_ := Lib.hid (X1.out.under aV8)
  have O2_ := Lib.hid (O2.out.under aV8)
  have X2_ := Lib.hid (X2.out.under aV8)
  clear B0 O1 X1 O2 X2
  have B0 := B0_
  have O1 := O1_
  have X1 := X1_
  have O2 := O2_
  have X2 := X2_
  clear B0_ O1_ X1_ O2_ X2_
  have X4 := Lib.hid xV8
  clear xV8
  clear aV8
  obtain ⟨d0, d1, d2⟩ := cells3 X2.out
  go_wp2_with fail
  refine (close3 A2 k2 _ V8 O2.out).mono ?_
  rintro e w9 ⟨A5, k5, rfl, o5, b5⟩
  clear d0 d1 d2
  have B0_ := Lib.hid (B0.out.trans (b5.mono B0.out.size))
  have O1_ := Lib.hid (O1.out.under b5)
  have X1_ := Lib.hid (X1.out.under b5)
  have O2_ := Lib.hid (O2.out.under b5)
  have X2_ := Lib.hid (X2.out.under b5)
  have X4_ := Lib.hid (X4.out.under b5)
  clear B0 O1 X1 O2 X2 X4
  have B0 := B0_
  have O1 := O1_
  have X1 := X1_
  have O2 := O2_
  have X2 := X2_
  have X4 := X4_
  clear B0_ O1_ X1_ O2_ X2_ X4_
  have O5 := Lib.hid (o5)
  clear b5
  clear o5
  go_wp2_with fail
  refine (find0 A5 k5 _ w9 O5.out).mono ?_
  rintro e w10 ⟨rfl, b6⟩
  have B0_ := Lib.hid (B0.out.trans (b6.mono B0.out.size))
  have O1_ := Lib.hid (O1.out.under b6)
  have X1_ := Lib.hid (X1.out.under b6)
  have O2_ := Lib.hid (O2.out.under b6)
  have X2_ := Lib.hid (X2.out.under b6)
  have X4_ := Lib.hid (X4.out.under b6)
  have O5_ := Lib.hid (O5.out.under b6)
  clear B0 O1 X1 O2 X2 X4 O5
  have B0 := B0_
  have O1 := O1_
  have X1 := X1_
  have O2 := O2_
  have X2 := X2_
  have X4 := X4_
  have O5 := O5_
  clear B0_ O1_ X1_ O2_ X2_ X4_ O5_
  clear b6
  clear O5
  go_upto_region 6 with fail
  refine wp_at (fun V11 hV11 => ?_)
  have aV11 : Below w10.heap.size w10 V11 := by rw [← hV11]; exact (Below.refl _ _).alloc (Nat.le_refl _) _
  clear hV11
  have B0_ := Lib.hid (B0.out.trans (aV11.mono B0.out.size))
  have O1_ := Lib.hid (O1.out.under aV11)
  have X1_ := Lib.hid (X1.out.under aV11)
  have O2_ := Lib.hid (O2.out.under aV11)
  have X2_ := Lib.hid (X2.out.under aV11)
  have X4_ := Lib.hid (X4.out.under aV11)
  clear B0 O1 X1 O2 X2 X4
  have B0 := B0_
  have O1 := O1_
  have X1 := X1_
  have O2 := O2_
  have X2 := X2_
  have X4 := X4_
  clear B0_ O1_ X1_ O2_ X2_ X4_
  clear aV11
  obtain ⟨d0, d1, d2⟩ := cells3 X2.out
  go_wp2_with fail
  refine (late3 A2 k2 _ V11 O2.out).mono ?_
  rintro e w12 ⟨A7, k7, rfl, o7, b7⟩
  clear d0 d1 d2
  have B0_ := Lib.hid (B0.out.trans (b7.mono B0.out.size))
  have O1_ := Lib.hid (O1.out.under b7)
  have X1_ := Lib.hid (X1.out.under b7)
  have O2_ := Lib.hid (O2.out.under b7)
  have X2_ := Lib.hid (X2.out.under b7)
  have X4_ := Lib.hid (X4.out.under b7)
  clear B0 O1 X1 O2 X2 X4
  have B0 := B0_
  have O1 := O1_
  have X1 := X1_
  have O2 := O2_
  have X2 := X2_
  have X4 := X4_
  clear B0_ O1_ X1_ O2_ X2_ X4_
  have O7 := Lib.hid (o7)
  clear b7
  clear o7
  go_wp2_with fail
  refine (find0 A7 k7 _ w12 O7.out).mono ?_
  rintro e w13 ⟨rfl, b8⟩
  have B0_ := Lib.hid (B0.out.trans (b8.mono B0.out.size))
  have O1_ := Lib.hid (O1.out.under b8)
  have X1_ := Lib.hid (X1.out.under b8)
  have O2_ := Lib.hid (O2.out.under b8)
  have X2_ := Lib.hid (X2.out.under b8)
  have X4_ := Lib.hid (X4.out.under b8)
  have O7_ := Lib.hid (O7.out.under b8)
  clear B0 O1 X1 O2 X2 X4 O7
  have B0 := B0_
  have O1 := O1_
  have X1 := X1_
  have O2 := O2_
  have X2 := X2_
  have X4 := X4_
  have O7 := O7_
  clear B0_ O1_ X1_ O2_ X2_ X4_ O7_
  clear b8
  clear O7
  go_upto_region 7 with fail
  refine wp_at (fun V14 hV14 => ?_)
  have aV14 : Below w13.heap.size w13 V14 := by rw [← hV14]; exact (Below.refl _ _).alloc (Nat.le_refl _) _
  clear hV14
  have B0_ := Lib.hid (B0.out.trans (aV14.mono B0.out.size))
  have O1_ := Lib.hid (O1.out.under aV14)
  have X1_ := Lib.hid (X1.out.under aV14)
  have O2_ := Lib.hid (O2.out.under aV14)
  have X2_ := Lib.hid (X2.out.under aV14)
  have X4_ := Lib.hid (X4.out.under aV14)
  clear B0 O1 X1 O2 X2 X4
  have B0 := B0_
  have O1 := O1_
  have X1 := X1_
  have O2 := O2_
  have X2 := X2_
  have X4 := X4_
  clear B0_ O1_ X1_ O2_ X2_ X4_
  clear aV14
  go_wp2_with fail
  refine (open0 V14).mono ?_
  rintro e w15 ⟨A9, k9, rfl, o9, b9⟩
  have B0_ := Lib.hid (B0.out.trans (b9.mono B0.out.size))
  have O1_ := Lib.hid (O1.out.under b9)
  have X1_ := Lib.hid (X1.out.under b9)
  have O2_ := Lib.hid (O2.out.under b9)
  have X2_ := Lib.hid (X2.out.under b9)
  have X4_ := Lib.hid (X4.out.under b9)
  clear B0 O1 X1 O2 X2 X4
  have B0 := B0_
  have O1 := O1_
  have X1 := X1_
  have O2 := O2_
  have X2 := X2_
  have X4 := X4_
  clear B0_ O1_ X1_ O2_ X2_ X4_
  clear b9
  clear o9
  go_upto_region 8 with fail
  refine wp_at (fun V16 hV16 => ?_)
  have aV16 : Below w15.heap.size w15 V16 := by rw [← hV16]; exact (Below.refl _ _).alloc (Nat.le_refl _) _
  clear hV16
  have B0_ := Lib.hid (B0.out.trans (aV16.mono B0.out.size))
  have O1_ := Lib.hid (O1.out.under aV16)
  have X1_ := Lib.hid (X1.out.under aV16)
  have O2_ := Lib.hid (O2.out.under aV16)
  have X2_ := Lib.hid (X2.out.under aV16)
  have X4_ := Lib.hid (X4.out.under aV16)
  clear B0 O1 X1 O2 X2 X4
  have B0 := B0_
  have O1 := O1_
  have X1 := X1_
  have O2 := O2_
  have X2 := X2_
  have X4 := X4_
  clear B0_ O1_ X1_ O2_ X2_ X4_
  clear aV16
  obtain ⟨d0, d1, d2⟩ := cells3 X2.out
  obtain ⟨x0, x1, x2, x3⟩ := cells4 X4.out
  go_wp2_with fail
  refine (has3 A2 k2 _ V16 O2.out).mono ?_
  rintro e w17 ⟨rfl, b10⟩
  clear d0 d1 d2 x0 x1 x2 x3
  have B0_ := Lib.hid (B0.out.trans (b10.mono B0.out.size))
  have O1_ := Lib.hid (O1.out.under b10)
  have X1_ := Lib.hid (X1.out.under b10)
  have O2_ := Lib.hid (O2.out.under b10)
  have X2_ := Lib.hid (X2.out.under b10)
  have X4_ := Lib.hid (X4.out.under b10)
  clear B0 O1 X1 O2 X2 X4
  have B0 := B0_
  have O1 := O1_
  have X1 := X1_
  have O2 := O2_
  have X2 := X2_
  have X4 := X4_
  clear B0_ O1_ X1_ O2_ X2_ X4_
  clear b10
  obtain ⟨c0, c1, c2⟩ := cells3 X1.out
  go_wp2_with fail
  refine (has0 A1 k1 _ w17 O1.out).mono ?_
  rintro e w18 ⟨rfl, b11⟩
  clear c0 c1 c2
  have B0_ := Lib.hid (B0.out.trans (b11.mono B0.out.size))
  have O1_ := Lib.hid (O1.out.under b11)
  have X1_ := Lib.hid (X1.out.under b11)
  have O2_ := Lib.hid (O2.out.under b11)
  have X2_ := Lib.hid (X2.out.under b11)
  have X4_ := Lib.hid (X4.out.under b11)
  clear B0 O1 X1 O2 X2 X4
  have B0 := B0_
  have O1 := O1_
  have X1 := X1_
  have O2 := O2_
  have X2 := X2_
  have X4 := X4_
  clear B0_ O1_ X1_ O2_ X2_ X4_
  clear b11
  obtain ⟨d0, d1, d2⟩ := cells3 X2.out
  go_wp2_with fail
  refine (right3 A2 k2 _ w18 O2.out).mono ?_
  rintro e w19 ⟨rfl, b12⟩
  clear d0 d1 d2
  have B0_ := Lib.hid (B0.out.trans (b12.mono B0.out.size))
  have O1_ := Lib.hid (O1.out.under b12)
  have X1_ := Lib.hid (X1.out.under b12)
  have O2_ := Lib.hid (O2.out.under b12)
  have X2_ := Lib.hid (X2.out.under b12)
  have X4_ := Lib.hid (X4.out.under b12)
  clear B0 O1 X1 O2 X2 X4
  have B0 := B0_
  have O1 := O1_
  have X1 := X1_
  have O2 := O2_
  have X2 := X2_
  have X4 := X4_
  clear B0_ O1_ X1_ O2_ X2_ X4_
  clear b12
  go_wp2_with fail
  refine (right0 w19).mono ?_
  rintro e w20 ⟨rfl, b13⟩
  have B0_ := Lib.hid (B0.out.trans (b13.mono B0.out.size))
  have O1_ := Lib.hid (O1.out.under b13)
  have X1_ := Lib.hid (X1.out.under b13)
  have O2_ := Lib.hid (O2.out.under b13)
  have X2_ := Lib.hid (X2.out.under b13)
  have X4_ := Lib.hid (X4.out.under b13)
  clear B0 O1 X1 O2 X2 X4
  have B0 := B0_
  have O1 := O1_
  have X1 := X1_
  have O2 := O2_
  have X2 := X2_
  have X4 := X4_
  clear B0_ O1_ X1_ O2_ X2_ X4_
  clear b13
  go_wp2_with fail
  go_ret
  exact ⟨rfl, B0.out⟩

end Go.Proofs.Ytgajnmjifhemgaa
