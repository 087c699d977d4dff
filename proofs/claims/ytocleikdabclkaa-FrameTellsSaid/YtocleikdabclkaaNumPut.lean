/-
  The walks of 'Put', 'Long' of package num. Conditions: those that each theorem names.
-/
import Derived.Test.YtocleikdabclkaaNumClone
namespace Go.Proofs.Ytocleikdabclkaa
open Go.RowKit Go.Shelf

set_option maxHeartbeats 400000 in
theorem put_yes (n : Nat) (hn : n ≤ 1099511627776) (base : Nat) (w : World) (hb : base ≤ w.heap.size) :
    Calls Try.prog 21 #[.int .i64 (n : Int)] w (TwoPost base (put n).length (bv (put n)) w) := by
  have hnum : isNum (n : Int) = true := isNum_yes (by omega) (by omega)
  have HA := Lib.hid (add_any n hn (.slice none 0 0) 0 [] base w (World.ownsRow_nil _ _ _ _) (by omega) hb)
  go_enter Try.func21, Try.ntmps21
  go_wp2_with (first | (go_at_call 31; refine (right_any _ _).mono ?_; rintro e w' ⟨rfl, rfl⟩) | (go_at_call 32; refine (HA.out).mono ?_; rintro e w' ⟨v', rfl, hI, _⟩))
  obtain ⟨A, c, rfl⟩ := hI.form
  go_ret2
  rw [Nat.zero_add, List.nil_append] at hI
  exact ⟨A, c, by rw [Nat.zero_add]; rfl, hI⟩

set_option maxHeartbeats 400000 in
theorem put_no (n : Int) (hn : isNum n = false) (w : World) :
    Calls Try.prog 21 #[.int .i64 n] w fun e w' => e = .returned (.tuple #[.slice none 0 0, .int .i64 2]) ∧ w = w' := by
  go_enter Try.func21, Try.ntmps21
  go_wp2_with (first | (go_at_call 31; refine (right_any _ _).mono ?_; rintro e w' ⟨rfl, rfl⟩))
  go_ret2
  exact ⟨rfl, rfl⟩

def LongPost (k : Nat) (w : World) (e : Ending) (w' : World) : Prop :=
  e = .returned (.int .i64 (k : Int)) ∧ Below w.heap.size w w' ∧ KeepsOthers w w'

set_option maxHeartbeats 400000 in
theorem long_yes (n : Nat) (hn : n ≤ 1099511627776) (w : World) :
    Calls Try.prog 30 #[.int .i64 (n : Int)] w (LongPost (put n).length w) := by
  have hnum : isNum (n : Int) = true := isNum_yes (by omega) (by omega)
  have HA := Lib.hid (add_any n hn (.slice none 0 0) 0 [] w.heap.size w (World.ownsRow_nil _ _ _ _) (by omega) (Nat.le_refl _))
  go_enter Try.func30, Try.ntmps30
  go_wp2_with (first | (go_at_call 31; refine (right_any _ _).mono ?_; rintro e w' ⟨rfl, rfl⟩) | (go_at_call 32; refine (HA.out).mono ?_; rintro e w' ⟨v', rfl, hI, _⟩; rw [Nat.zero_add, List.nil_append] at hI; obtain ⟨A, c, rfl⟩ := hI.form))
  go_ret
  exact ⟨rfl, hI.2.1, hI.2.2.1⟩

set_option maxHeartbeats 400000 in
theorem long_no (n : Int) (hn : isNum n = false) (w : World) :
    Calls Try.prog 30 #[.int .i64 n] w fun e w' => e = .returned (.int .i64 0) ∧ w = w' := by
  go_enter Try.func30, Try.ntmps30
  go_wp2_with (first | (go_at_call 31; refine (right_any _ _).mono ?_; rintro e w' ⟨rfl, rfl⟩))
  go_ret
  exact ⟨rfl, rfl⟩

end Go.Proofs.Ytocleikdabclkaa
