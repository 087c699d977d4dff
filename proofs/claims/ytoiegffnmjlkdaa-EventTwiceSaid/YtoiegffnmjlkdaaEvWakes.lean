/-
  The walk of 'wakes' of the statements over events. Conditions: none.
-/
import Derived.Test.YtoiegffnmjlkdaaEvKit
import Derived.Deep.DeepCutAuto
namespace Go.Proofs.Ytoiegffnmjlkdaa
open Go.RowKit Go.Shelf

theorem evW1 : evC ⟨[], 0, 0, 4, false⟩ ⟨5, 0, 0⟩ = ⟨[], 0, 0, 5, false⟩ := by rfl
theorem evW2 : evsC ⟨[], 0, 0, 5, false⟩ [⟨3, 7, 1⟩, ⟨1, 1, 0⟩] = ⟨[⟨1, 0, 7, 0, true, false, true, true, 0, 0, 0⟩], 0, 0, 5, false⟩ := by rfl

set_option maxRecDepth 100000 in
set_option maxHeartbeats 4000000 in
theorem evWakes_any (w : World) : Calls Try.prog 8 #[] w (WakePost w) := by
  have H1 := Lib.hid (evDoL (N := 0) (n := 0) evW1 rfl (by decide) (by omega) w none 0 (RdX.nil_ _ _ _))
  go_enter Try.func8, Try.ntmps8
  go_wp2_with fail
  refine H1.out.mono ?_
  rintro e w1 ⟨A1, c1, rfl, r1, b1⟩
  have HR1 := Lib.hid r1
  have HB1 := Lib.hid b1
  clear r1 b1 H1
  go_wp2_with fail
  obtain ⟨W2, hW2⟩ : ∃ W2, (w1.alloc (.cells #[.slice A1 0 c1, .int .i64 0, .int .i64 0, .int .i64 5, .bool false] 24)).alloc (.cells #[.int .u8 3, .int .i64 7, .int .i64 1, .int .u8 1, .int .i64 1, .int .i64 0] 26) = W2 := ⟨_, rfl⟩
  have hb2 : Below w1.heap.size w1 W2 := by rw [← hW2]; exact ((Below.refl _ _).alloc (Nat.le_refl _) _).alloc (by simp) _
  have hc2 : Whole W2 w1.heap.size 24 #[.slice A1 0 c1, .int .i64 0, .int .i64 0, .int .i64 5, .bool false] := by rw [← hW2]; exact (Whole.new _ _ _).alloc _
  have he2 : Whole W2 (w1.heap.size + 1) 26 ([(⟨3, 7, 1⟩ : Ev), ⟨1, 1, 0⟩].flatMap Ev.vs).toArray := by
    rw [← hW2]
    have := Whole.new (w1.alloc (.cells #[.slice A1 0 c1, .int .i64 0, .int .i64 0, .int .i64 5, .bool false] 24)) 26 #[.int .u8 3, .int .i64 7, .int .i64 1, .int .u8 1, .int .i64 1, .int .i64 0]
    rwa [World.size_alloc] at this
  rw [hW2]
  have H2 := Lib.hid (evAllL (m := 2) (N := 1) (n := 0) evW2 rfl (by intro e he; simp at he; rcases he with rfl | rfl <;> decide) (by omega) (by omega) W2 A1 c1 (some ⟨w1.heap.size + 1, 0, none⟩) 2 ((HR1.out.below hb2).more hb2.size) (rdE_whole he2))
  have HC2 := Lib.hid hc2
  have HB2 := Lib.hid (HB1.out.trans (hb2.mono HB1.out.size))
  clear hW2 hb2 hc2 he2 HR1 HB1
  refine H2.out.mono ?_
  rintro e W3 ⟨A3, c3, rfl, r3, b3⟩
  have HC3 := Lib.hid (HC2.out.under b3)
  have HB3 := Lib.hid (HB2.out.trans (b3.mono HB2.out.size))
  obtain ⟨b, off, rfl, hlt, hx⟩ := r3.2 (by omega)
  have hbx := hx 0 _ rfl
  clear H2 HC2 HB2 r3 b3 hx
  obtain ⟨W4, hW4⟩ : ∃ W4, W3.alloc (.cells #[.slice (some ⟨b, off, none⟩) 1 c3, .int .i64 0, .int .i64 0, .int .i64 5, .bool false] 24) = W4 := ⟨_, rfl⟩
  have hb4 : Below W3.heap.size W3 W4 := by rw [← hW4]; exact (Below.refl _ _).alloc (Nat.le_refl _) _
  have hn4 : Whole W4 W3.heap.size 24 #[.slice (some ⟨b, off, none⟩) 1 c3, .int .i64 0, .int .i64 0, .int .i64 5, .bool false] := by rw [← hW4]; exact Whole.new _ _ _
  have d3 := (HC3.out.under hb4).cell 3
  have k0 := hn4.cell 0
  have hb5 : BxAt W4 b (off + 0 * 11) ⟨1, 0, 7, 0, true, false, true, true, 0, 0, 0⟩ := bxAt_of fun i hi => (hb4.cell (p := ⟨b, off + 0 * 11 + i, none⟩) hlt).trans (hbx.all i hi)
  rw [Nat.zero_mul, Nat.add_zero] at hb5
  obtain ⟨b0, b1, b2, b3, b4, b5, b6, b7, b8, b9, b10⟩ := hb5
  simp only [List.getElem?_toArray, List.getElem?_cons_zero, List.getElem?_cons_succ] at d3 k0
  have HB4 := Lib.hid (HB3.out.trans (hb4.mono HB3.out.size))
  have HN4 := Lib.hid hn4
  have HHb := Lib.hid hb4
  have HW4 := Lib.hid hW4
  clear hbx hlt hb4 hn4 hW4
  go_upto_region 3 with fail
  rw [HW4.out]
  clear HW4
  go_wp2_with fail
  clear d3 k0 b0 b1 b2 b3 b4 b5 b6 b7 b8 b9 b10 HC3 HB3 HN4 HHb
  refine (fallsL (f := true) rfl _).mono ?_
  rintro e w5 ⟨rfl, q5⟩
  have HB5 := Lib.hid (HB4.out.trans (q5.mono HB4.out.size))
  clear q5 HB4
  go_wp2_with fail
  refine (fallsL (f := false) rfl _).mono ?_
  rintro e w6 ⟨rfl, q6⟩
  have HB6 := Lib.hid (HB5.out.trans (q6.mono HB5.out.size))
  clear q6 HB5
  go_wp2_with fail
  go_ret
  exact ⟨rfl, HB6.out⟩

end Go.Proofs.Ytoiegffnmjlkdaa
