/-
  The walk of what each statement over phases says at its end. Conditions: those that each theorem names.
-/
import Derived.Test.YtgjipbhhdiacmaaDoorPhLegal
import Derived.Test.YtgjipbhhdiacmaaDoorPhPath
import Derived.Test.YtgjipbhhdiacmaaDoorPhDue
import Derived.Test.YtgjipbhhdiacmaaDoorPhFind
namespace Go.Proofs.YtgjipbhhdiacmaaDoor
open Go.RowKit Go.Shelf

def cf14 : Cf := ⟨0, 0, 0, 0, 0, 0, 2, 0, 0, 0, 0, 0, 0, false, none, 0, 0, []⟩
def kp14 : Kp := ⟨0, 0, 0, 0, 2, 3, false, false⟩
theorem due14a : dueB kp14 cf14 2 5 = true := by kernel_rfl
theorem due14b : dueK kp14 cf14 2 5 = 3 := by kernel_rfl
theorem due14c : dueB kp14 cf14 2 4 = false := by kernel_rfl
theorem due14d : dueK kp14 cf14 2 4 = 0 := by kernel_rfl
theorem dueA14 (w : World) : Calls Tryd.prog 8 #[kp14.v, cf14.v, .int .i64 5] w fun e w' => e = .returned (.tuple #[.int .u8 3, .bool true]) ∧ Below w.heap.size w w' :=
  (due_any kp14 cf14 2 rfl 5 w).mono (by rintro e w' ⟨rfl, h⟩; exact ⟨by rw [due14a, due14b]; rfl, h⟩)
theorem dueB14 (w : World) : Calls Tryd.prog 8 #[kp14.v, cf14.v, .int .i64 4] w fun e w' => e = .returned (.tuple #[.int .u8 0, .bool false]) ∧ Below w.heap.size w w' :=
  (due_any kp14 cf14 2 rfl 4 w).mono (by rintro e w' ⟨rfl, h⟩; exact ⟨by rw [due14c, due14d]; rfl, h⟩)
theorem path14 (w : World) : Calls Tryd.prog 13 #[.int .u8 5] w fun e w' => ∃ b o c, e = .returned (.slice (some ⟨b, o, none⟩) 4 c) ∧ b < w'.heap.size ∧ w'.cell? ⟨b, o + 1, none⟩ = some (.int .u8 6) ∧ w'.cell? ⟨b, o + 3, none⟩ = some (.int .u8 8) ∧ Below w.heap.size w w' :=
  (path_any 5 (by decide) w).mono (by
    rintro e w' ⟨A, c, rfl, hr, hb⟩
    obtain ⟨b, o, rfl, hlt, hc⟩ := hr.2 (by decide)
    exact ⟨b, o, c, rfl, hlt, hc 1 (by decide), hc 3 (by decide), hb⟩)
theorem pathN14 (w : World) : Calls Tryd.prog 13 #[.int .u8 0] w fun e w' => ∃ A c, e = .returned (.slice A 0 c) ∧ Below w.heap.size w w' :=
  (path_any 0 (by decide) w).mono (by
    rintro e w' ⟨A, c, rfl, hr, hb⟩
    exact ⟨A, c, rfl, hb⟩)

theorem find14 (w : World) : Calls Tryd.prog 14 #[.slice (some ⟨w.heap.size, 0, none⟩) 1 1, .int .i64 3] (w.alloc (.cells #[.int .i64 3, .int .i64 0, .int .i64 0, .int .i64 0, .int .u8 0, .int .i64 0, .bool false, .bool false] 23)) fun e w' => e = .returned (.int .i64 0) ∧ Below w.heap.size w w' := by
  have hw := Whole.new w 23 (Kp.cells ⟨3, 0, 0, 0, 0, 0, false, false⟩)
  have hb : Below w.heap.size w (w.alloc (.cells (Kp.cells ⟨3, 0, 0, 0, 0, 0, false, false⟩) 23)) := (Below.refl _ _).alloc (Nat.le_refl _) _
  refine (find_any (some ⟨w.heap.size, 0, none⟩) 1 1 [⟨3, 0, 0, 0, 0, 0, false, false⟩] 3 (w.heap.size + 1) _ (rdK_whole hw) (by simp) (by decide)).mono ?_
  rintro e w' ⟨rfl, hb2⟩
  exact ⟨rfl, hb.trans (hb2.mono hb.size)⟩

set_option maxRecDepth 100000 in
set_option maxHeartbeats 4000000 in
theorem wakes_any (w : World) (hT : TabN w) : Calls Tryd.prog 7 #[] w (BoolPost true w) := by
  have HT := Lib.hid hT
  clear hT
  go_enter Tryd.func7, Tryd.ntmps7
  go_wp2_with fail
  refine (path14 w).mono ?_
  rintro e w1 ⟨b, o, c, rfl, hlt, c1, c3, hb1⟩
  have HB1 := Lib.hid hb1
  have HL := Lib.hid hlt
  have C1 := Lib.hid c1
  have C3 := Lib.hid c3
  clear hb1 hlt c1 c3
  go_wp2_with fail
  refine (dueA14 w1).mono ?_
  rintro e w2 ⟨rfl, hb2⟩
  have HB2 := Lib.hid hb2
  clear hb2
  go_wp2_with fail
  refine (dueB14 w2).mono ?_
  rintro e w3 ⟨rfl, hb3⟩
  have c1 : w3.cell? ⟨b, o + 1, none⟩ = some (.int .u8 6) := (hb3.cell (p := ⟨b, o + 1, none⟩) (Nat.lt_of_lt_of_le HL.out HB2.out.size)).trans ((HB2.out.cell (p := ⟨b, o + 1, none⟩) HL.out).trans C1.out)
  have c3 : w3.cell? ⟨b, o + 3, none⟩ = some (.int .u8 8) := (hb3.cell (p := ⟨b, o + 3, none⟩) (Nat.lt_of_lt_of_le HL.out HB2.out.size)).trans ((HB2.out.cell (p := ⟨b, o + 3, none⟩) HL.out).trans C3.out)
  have HB3 := Lib.hid (HB1.out.trans ((HB2.out.mono HB1.out.size).trans (hb3.mono (Nat.le_trans HB1.out.size HB2.out.size))))
  clear hb3 HB1 HB2 HL C1 C3
  go_wp2_with fail
  refine (legal_any 4 5 (by decide) w3).mono ?_
  rintro e w4 ⟨rfl, hb4⟩
  have HB4 := Lib.hid (HB3.out.trans (hb4.mono HB3.out.size))
  clear hb4 HB3 c1 c3
  rw [show legalP 4 5 = true from rfl]
  go_wp2_with fail
  refine (legal_any 8 4 (by decide) w4).mono ?_
  rintro e w5 ⟨rfl, hb5⟩
  have HB5 := Lib.hid (HB4.out.trans (hb5.mono HB4.out.size))
  clear hb5 HB4
  rw [show legalP 8 4 = false from rfl]
  go_wp2_with fail
  refine (stands_any 4 w5).mono ?_
  rintro e w6 ⟨rfl, rfl⟩
  rw [show standsP 4 = true from rfl]
  go_wp2_with fail
  refine (goes_any 6 w6).mono ?_
  rintro e w7 ⟨rfl, rfl⟩
  rw [show goesP 6 = true from rfl]
  go_wp2_with fail
  refine (name_any 4 w7 (HT.out.under HB5.out)).mono ?_
  rintro e w8 ⟨rfl, rfl⟩
  rw [show nmP 4 = [115, 101, 114, 118, 105, 110, 103] from rfl]
  go_wp2_with fail
  refine (find14 w8).mono ?_
  rintro e w9 ⟨rfl, hb9⟩
  have HB9 := Lib.hid (HB5.out.trans (hb9.mono HB5.out.size))
  clear hb9 HB5
  go_wp2_with fail
  refine (pathN14 w9).mono ?_
  rintro e w10 ⟨A, d, rfl, hb10⟩
  have HBX := Lib.hid (HB9.out.trans (hb10.mono HB9.out.size))
  clear hb10 HB9
  go_wp2_with fail
  go_ret
  exact ⟨rfl, HBX.out⟩

end Go.Proofs.YtgjipbhhdiacmaaDoor
