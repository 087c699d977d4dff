/-
  The walk of the statement CallFull: at the last number nothing is opened any more. Conditions: those that each theorem names.
-/
import Derived.Test.YtgajnmjifhemgaaClWakes
namespace Go.Proofs.Ytgajnmjifhemgaa
open Go.RowKit Go.Shelf

set_option maxRecDepth 100000 in
set_option maxHeartbeats 4000000 in
theorem callFull_any (z : Int) (k : Nat) (key now : Int) (w : World) (hk : k < 256) : Calls Try.prog 6 #[.int .i64 z, .int .u8 (k : Int), .int .i64 key, .int .i64 now] w (TruePost w) := by
  have B0 := Lib.hid (Below.refl w.heap.size w)
  obtain ⟨c, hc⟩ : ∃ c, beginC z = c := ⟨_, rfl⟩
  obtain ⟨er, he⟩ : ∃ er, beginE z = er := ⟨_, rfl⟩
  have HBeg := begin_any z w
  rw [hc, he] at HBeg
  have HBg := Lib.hid HBeg
  clear HBeg
  cases hb : beginB z with
  | false =>
    obtain rfl : er = 2 := by rw [← he]; simp [beginE, hb]
    obtain rfl : c = ⟨0, 0, []⟩ := by rw [← hc]; simp [beginC, hb]
    clear hc he
    by_cases hneg : z < 0
    · have d1 : decide (z < 0) = true := decide_eq_true hneg
      clear hneg hb
      go_enter Try.func6, Try.ntmps6
      go_wp2_with fail
      refine (HBg.out).mono ?_
      rintro e w1 ⟨A1, k1, rfl, o1, b1⟩
      have B0_ := Lib.hid (B0.out.trans (b1.mono B0.out.size))
      clear B0
      have B0 := B0_
      clear B0_
      clear b1
      clear o1
      go_upto_region 2 with fail
      refine wp_at (fun V2 hV2 => ?_)
      have aV2 : Below w1.heap.size w1 V2 := by rw [← hV2]; exact (Below.refl _ _).alloc (Nat.le_refl _) _
      clear hV2
      have B0_ := Lib.hid (B0.out.trans (aV2.mono B0.out.size))
      clear B0
      have B0 := B0_
      clear B0_
      clear aV2
      go_wp2_with fail
      refine (wakes_any V2).mono ?_
      rintro e w3 ⟨rfl, b2⟩
      have B0_ := Lib.hid (B0.out.trans (b2.mono B0.out.size))
      clear B0
      have B0 := B0_
      clear B0_
      clear b2
      go_wp2_with fail
      go_ret
      exact ⟨rfl, B0.out⟩
    · have d1 : decide (z < 0) = false := decide_eq_false hneg
      have d2 : decide ((524288 : Int) < z) = true := by
        simp only [beginB, Bool.and_eq_false_iff, decide_eq_false_iff_not] at hb
        exact decide_eq_true (by omega)
      clear hneg hb
      go_enter Try.func6, Try.ntmps6
      go_wp2_with fail
      refine (HBg.out).mono ?_
      rintro e w1 ⟨A1, k1, rfl, o1, b1⟩
      have B0_ := Lib.hid (B0.out.trans (b1.mono B0.out.size))
      clear B0
      have B0 := B0_
      clear B0_
      clear b1
      clear o1
      go_upto_region 2 with fail
      refine wp_at (fun V2 hV2 => ?_)
      have aV2 : Below w1.heap.size w1 V2 := by rw [← hV2]; exact (Below.refl _ _).alloc (Nat.le_refl _) _
      clear hV2
      have B0_ := Lib.hid (B0.out.trans (aV2.mono B0.out.size))
      clear B0
      have B0 := B0_
      clear B0_
      clear aV2
      go_wp2_with fail
      refine (wakes_any V2).mono ?_
      rintro e w3 ⟨rfl, b2⟩
      have B0_ := Lib.hid (B0.out.trans (b2.mono B0.out.size))
      clear B0
      have B0 := B0_
      clear B0_
      clear b2
      go_wp2_with fail
      go_ret
      exact ⟨rfl, B0.out⟩
  | true =>
    obtain rfl : er = 0 := by rw [← he]; simp [beginE, hb]
    obtain rfl : c = ⟨z, 1, []⟩ := by rw [← hc]; simp [beginC, hb]
    have hzr : 0 ≤ z ∧ z ≤ 524288 := by simpa [beginB] using hb
    clear hc he hb
    obtain ⟨c2, hc2⟩ : ∃ c2 : Cs, (⟨z, 1048575, []⟩ : Cs) = c2 := ⟨_, rfl⟩
    cases hob : openB c2 (k : Int) key now with
    | false =>
      have e1 : openC c2 (k : Int) key now = c2 := by simp [openC, hob]
      have e2 : openI c2 (k : Int) key now = 0 := by simp [openI, hob]
      have e3 : openE c2 (k : Int) key now = 2 := by simp [openE, hob]
      have HOp := Lib.hid (fun A k1 W (h : RdC W W.heap.size A 0 []) => open_any c2 A 0 k1 (k : Int) key now W.heap.size W (by rw [← hc2]; exact h) (Nat.le_refl _) (by omega))
      rw [e1, e2, e3] at HOp
      clear e1 e2 e3 hob
      subst hc2
      go_enter Try.func6, Try.ntmps6
      go_wp2_with fail
      refine (HBg.out).mono ?_
      rintro e w1 ⟨A1, k1, rfl, o1, b1⟩
      have B0_ := Lib.hid (B0.out.trans (b1.mono B0.out.size))
      clear B0
      have B0 := B0_
      clear B0_
      have O1 := Lib.hid (o1)
      clear b1
      clear o1
      have B1w := Lib.hid (show w.heap.size ≤ w1.heap.size from B0.out.size)
      go_upto_region 2 with fail
      refine wp_at (fun V2 hV2 => ?_)
      have aV2 : Below w1.heap.size w1 V2 := by rw [← hV2]; exact (Below.refl _ _).alloc (Nat.le_refl _) _
      have xV2 : Whole V2 w1.heap.size 24 #[.int .i64 z, .int .i64 1, .slice A1 0 k1] := by rw [← hV2]; exact Whole.new _ _ _
      clear hV2
      have B0_ := Lib.hid (B0.out.trans (aV2.mono B0.out.size))
      have O1_ := Lib.hid (O1.out.under aV2)
      clear B0 O1
      have B0 := B0_
      have O1 := O1_
      clear B0_ O1_
      have X1 := Lib.hid xV2
      clear xV2
      clear aV2
      obtain ⟨c0, c1, c2⟩ := cells3 X1.out
      have y1 := X1.out.frozen 1
      go_upto_region 5 with fail
      clear c0 c1 c2
      refine wp_at (fun V3 hV3 => ?_)
      have e1 := X1.out.set 1 (.int .i64 1048575)
      simp only [List.setIfInBounds_toArray, List.set_cons_zero, List.set_cons_succ] at e1
      have k2 := Only.set V2 w1.heap.size 1 (.int .i64 1048575)
      rw [hV3] at e1 k2
      have O1_ := Lib.hid (O1.out.only k2 X1.out (by decide))
      have B0_ := Lib.hid (k2.bel B0.out B1w.out)
      clear hV3 y1 k2 X1 O1 B0
      have X1 := Lib.hid e1
      have O1 := O1_
      have B0 := B0_
      clear e1 O1_ B0_
      obtain ⟨c0, c1, c2⟩ := cells3 X1.out
      go_wp2_with fail
      refine (HOp.out A1 k1 V3 O1.out.read).mono ?_
      rintro e w4 ⟨A2, k2, rfl, o2, b2⟩
      clear c0 c1 c2
      have B0_ := Lib.hid (B0.out.trans (b2.mono B0.out.size))
      have O1_ := Lib.hid (O1.out.under b2)
      have X1_ := Lib.hid (X1.out.under b2)
      clear B0 O1 X1
      have B0 := B0_
      have O1 := O1_
      have X1 := X1_
      clear B0_ O1_ X1_
      clear b2
      clear o2
      go_upto_region 6 with fail
      refine wp_at (fun V5 hV5 => ?_)
      have aV5 : Below w4.heap.size w4 V5 := by rw [← hV5]; exact (Below.refl _ _).alloc (Nat.le_refl _) _
      clear hV5
      have B0_ := Lib.hid (B0.out.trans (aV5.mono B0.out.size))
      have O1_ := Lib.hid (O1.out.under aV5)
      have X1_ := Lib.hid (X1.out.under aV5)
      clear B0 O1 X1
      have B0 := B0_
      have O1 := O1_
      have X1 := X1_
      clear B0_ O1_ X1_
      clear aV5
      obtain ⟨c0, c1, c2⟩ := cells3 X1.out
      go_wp2_with fail
      refine (wakes_any V5).mono ?_
      rintro e w6 ⟨rfl, b3⟩
      clear c0 c1 c2
      have B0_ := Lib.hid (B0.out.trans (b3.mono B0.out.size))
      have O1_ := Lib.hid (O1.out.under b3)
      have X1_ := Lib.hid (X1.out.under b3)
      clear B0 O1 X1
      have B0 := B0_
      have O1 := O1_
      have X1 := X1_
      clear B0_ O1_ X1_
      clear b3
      go_wp2_with fail
      go_ret
      exact ⟨rfl, B0.out⟩
    | true =>
      obtain ⟨hr, ⟨⟨hk1, hk8⟩, hkey, hnow⟩, hh⟩ := openB_iff.1 hob
      have hnx : ¬ c2.nx = 1048576 := by rw [← hc2]; simp
      have e1 : openC c2 (k : Int) key now = moreC c2 (k : Int) key now := by simp [openC, hob, hnx]
      have e2 : openI c2 (k : Int) key now = z * 1048576 + 1048575 := by rw [← hc2] at hob ⊢; simp [openI, hob]
      have e3 : openE c2 (k : Int) key now = 0 := by simp [openE, hob, hnx]
      obtain ⟨d, hd⟩ : ∃ d, moreC c2 (k : Int) key now = d := ⟨_, rfl⟩
      have hrd : RightC 8 d := by rw [← hd]; exact hr.more (by rw [← hc2]; simp) hk1 hk8 hkey hnow hh
      have hdl : d.l = [⟨z * 1048576 + 1048575, (k : Int), key, now⟩] := by rw [← hd, ← hc2]; rfl
      have hdn : d.nx = 1048576 := by rw [← hd, ← hc2]; rfl
      have hde : d.ep = z := by rw [← hd, ← hc2]; rfl
      obtain ⟨kk, hkk⟩ : ∃ kk : Int, (k : Int) % 7 + 1 = kk := ⟨_, rfl⟩
      have hob2 : openB d kk key now = true := openB_iff.2 ⟨hrd, ⟨⟨by omega, by omega⟩, hkey, hnow⟩, by rw [hasC, hdl]; simp; omega⟩
      have g1 : openC d kk key now = d := by simp [openC, hob2, hdn]
      have g2 : openI d kk key now = 0 := by simp [openI, hob2, hdn]
      have g3 : openE d kk key now = 241 := by simp [openE, hob2, hdn]
      have HOp := Lib.hid (fun A k1 W (h : RdC W W.heap.size A 0 []) => open_any c2 A 0 k1 (k : Int) key now W.heap.size W (by rw [← hc2]; exact h) (Nat.le_refl _) (by omega))
      rw [e1, e2, e3, hd] at HOp
      have HOp2 := Lib.hid (fun A k1 W (h : RdC W W.heap.size A d.l.length d.l) => open_any d A d.l.length k1 kk key now W.heap.size W h (Nat.le_refl _) (by rw [hdl]; simp))
      rw [g1, g2, g3] at HOp2
      have HSm := Lib.hid (fun A k1 A' k1' W (h : RdC W W.heap.size A d.l.length d.l) (h' : RdC W W.heap.size A' d.l.length d.l) => same_any d d A d.l.length k1 A' d.l.length k1' W.heap.size W.heap.size W h h' (Nat.le_refl _) (Nat.le_refl _) (by rw [hdl]; simp))
      have q1 : ((z * 1048576 + 1048575 : Int) == z * 1048576 + 1048575) = true := by simp
      clear e1 e2 e3 g1 g2 g3 hob hob2 hr hk1 hkey hnow hh hnx hd hrd hdl hdn hde
      subst hc2
      go_enter Try.func6, Try.ntmps6
      go_wp2_with fail
      refine (HBg.out).mono ?_
      rintro e w1 ⟨A1, k1, rfl, o1, b1⟩
      have B0_ := Lib.hid (B0.out.trans (b1.mono B0.out.size))
      clear B0
      have B0 := B0_
      clear B0_
      have O1 := Lib.hid (o1)
      clear b1
      clear o1
      have B1w := Lib.hid (show w.heap.size ≤ w1.heap.size from B0.out.size)
      go_upto_region 2 with fail
      refine wp_at (fun V2 hV2 => ?_)
      have aV2 : Below w1.heap.size w1 V2 := by rw [← hV2]; exact (Below.refl _ _).alloc (Nat.le_refl _) _
      have xV2 : Whole V2 w1.heap.size 24 #[.int .i64 z, .int .i64 1, .slice A1 0 k1] := by rw [← hV2]; exact Whole.new _ _ _
      clear hV2
      have B0_ := Lib.hid (B0.out.trans (aV2.mono B0.out.size))
      have O1_ := Lib.hid (O1.out.under aV2)
      clear B0 O1
      have B0 := B0_
      have O1 := O1_
      clear B0_ O1_
      have X1 := Lib.hid xV2
      clear xV2
      clear aV2
      obtain ⟨c0, c1, c2⟩ := cells3 X1.out
      have y1 := X1.out.frozen 1
      go_upto_region 5 with fail
      clear c0 c1 c2
      refine wp_at (fun V3 hV3 => ?_)
      have e1 := X1.out.set 1 (.int .i64 1048575)
      simp only [List.setIfInBounds_toArray, List.set_cons_zero, List.set_cons_succ] at e1
      have k2 := Only.set V2 w1.heap.size 1 (.int .i64 1048575)
      rw [hV3] at e1 k2
      have O1_ := Lib.hid (O1.out.only k2 X1.out (by decide))
      have B0_ := Lib.hid (k2.bel B0.out B1w.out)
      clear hV3 y1 k2 X1 O1 B0
      have X1 := Lib.hid e1
      have O1 := O1_
      have B0 := B0_
      clear e1 O1_ B0_
      obtain ⟨c0, c1, c2⟩ := cells3 X1.out
      go_wp2_with fail
      refine (HOp.out A1 k1 V3 O1.out.read).mono ?_
      rintro e w4 ⟨A2, k2, rfl, o2, b2⟩
      clear c0 c1 c2
      have B0_ := Lib.hid (B0.out.trans (b2.mono B0.out.size))
      have O1_ := Lib.hid (O1.out.under b2)
      have X1_ := Lib.hid (X1.out.under b2)
      clear B0 O1 X1
      have B0 := B0_
      have O1 := O1_
      have X1 := X1_
      clear B0_ O1_ X1_
      have O2 := Lib.hid (o2)
      clear b2
      clear o2
      go_upto_region 6 with fail
      refine wp_at (fun V5 hV5 => ?_)
      have aV5 : Below w4.heap.size w4 V5 := by rw [← hV5]; exact (Below.refl _ _).alloc (Nat.le_refl _) _
      have xV5 : Whole V5 w4.heap.size 24 #[.int .i64 d.ep, .int .i64 d.nx, .slice A2 d.l.length k2] := by rw [← hV5]; exact Whole.new _ _ _
      clear hV5
      have B0_ := Lib.hid (B0.out.trans (aV5.mono B0.out.size))
      have O1_ := Lib.hid (O1.out.under aV5)
      have X1_ := Lib.hid (X1.out.under aV5)
      have O2_ := Lib.hid (O2.out.under aV5)
      clear B0 O1 X1 O2
      have B0 := B0_
      have O1 := O1_
      have X1 := X1_
      have O2 := O2_
      clear B0_ O1_ X1_ O2_
      have X2 := Lib.hid xV5
      clear xV5
      clear aV5
      obtain ⟨d0, d1, d2⟩ := cells3 X2.out
      go_wp2_with fail
      refine (HOp2.out A2 k2 V5 O2.out.read).mono ?_
      rintro e w6 ⟨A3, k3, rfl, o3, b3⟩
      clear d0 d1 d2
      have B0_ := Lib.hid (B0.out.trans (b3.mono B0.out.size))
      have O1_ := Lib.hid (O1.out.under b3)
      have X1_ := Lib.hid (X1.out.under b3)
      have O2_ := Lib.hid (O2.out.under b3)
      have X2_ := Lib.hid (X2.out.under b3)
      clear B0 O1 X1 O2 X2
      have B0 := B0_
      have O1 := O1_
      have X1 := X1_
      have O2 := O2_
      have X2 := X2_
      clear B0_ O1_ X1_ O2_ X2_
      have O3 := Lib.hid (o3)
      clear b3
      clear o3
      go_upto_region 10 with fail
      refine wp_at (fun V7 hV7 => ?_)
      have aV7 : Below w6.heap.size w6 V7 := by rw [← hV7]; exact (Below.refl _ _).alloc (Nat.le_refl _) _
      have xV7 : Whole V7 w6.heap.size 24 #[.int .i64 d.ep, .int .i64 d.nx, .slice A3 d.l.length k3] := by rw [← hV7]; exact Whole.new _ _ _
      clear hV7
      have B0_ := Lib.hid (B0.out.trans (aV7.mono B0.out.size))
      have O1_ := Lib.hid (O1.out.under aV7)
      have X1_ := Lib.hid (X1.out.under aV7)
      have O2_ := Lib.hid (O2.out.under aV7)
      have X2_ := Lib.hid (X2.out.under aV7)
      have O3_ := Lib.hid (O3.out.under aV7)
      clear B0 O1 X1 O2 X2 O3
      have B0 := B0_
      have O1 := O1_
      have X1 := X1_
      have O2 := O2_
      have X2 := X2_
      have O3 := O3_
      clear B0_ O1_ X1_ O2_ X2_ O3_
      have X3 := Lib.hid xV7
      clear xV7
      clear aV7
      obtain ⟨e0, e1, e2⟩ := cells3 X3.out
      obtain ⟨d0, d1, d2⟩ := cells3 X2.out
      go_wp2_with fail
      refine (HSm.out A3 k3 A2 k2 V7 O3.out.read O2.out.read).mono ?_
      rintro e w8 ⟨rfl, b4⟩
      clear e0 e1 e2 d0 d1 d2
      have B0_ := Lib.hid (B0.out.trans (b4.mono B0.out.size))
      have O1_ := Lib.hid (O1.out.under b4)
      have X1_ := Lib.hid (X1.out.under b4)
      have O2_ := Lib.hid (O2.out.under b4)
      have X2_ := Lib.hid (X2.out.under b4)
      have O3_ := Lib.hid (O3.out.under b4)
      have X3_ := Lib.hid (X3.out.under b4)
      clear B0 O1 X1 O2 X2 O3 X3
      have B0 := B0_
      have O1 := O1_
      have X1 := X1_
      have O2 := O2_
      have X2 := X2_
      have O3 := O3_
      have X3 := X3_
      clear B0_ O1_ X1_ O2_ X2_ O3_ X3_
      clear b4
      simp only [decide_true]
      obtain ⟨c0, c1, c2⟩ := cells3 X1.out
      go_wp2_with fail
      refine (wakes_any w8).mono ?_
      rintro e w9 ⟨rfl, b5⟩
      clear c0 c1 c2
      have B0_ := Lib.hid (B0.out.trans (b5.mono B0.out.size))
      have O1_ := Lib.hid (O1.out.under b5)
      have X1_ := Lib.hid (X1.out.under b5)
      have O2_ := Lib.hid (O2.out.under b5)
      have X2_ := Lib.hid (X2.out.under b5)
      have O3_ := Lib.hid (O3.out.under b5)
      have X3_ := Lib.hid (X3.out.under b5)
      clear B0 O1 X1 O2 X2 O3 X3
      have B0 := B0_
      have O1 := O1_
      have X1 := X1_
      have O2 := O2_
      have X2 := X2_
      have O3 := O3_
      have X3 := X3_
      clear B0_ O1_ X1_ O2_ X2_ O3_ X3_
      clear b5
      go_wp2_with fail
      go_ret
      exact ⟨rfl, B0.out⟩

end Go.Proofs.Ytgajnmjifhemgaa
