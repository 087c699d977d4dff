/-
  The walks of 'rest' and 'At' of package zone. Conditions: those that each theorem names.
-/
import Derived.Test.YtpjmmjkgcoongaaZnWhole
import Derived.Test.YtpjmmjkgcoongaaZnMath
namespace Go.Proofs.Ytpjmmjkgcoongaa
open Go.RowKit Go.Shelf

/-- A complex number stored in its cell. -/
theorem run_store_complex {P : Program} {w : World} {a : Addr} {m : Mode} (k : FloatKind) (x y : Nat) : (store a (.complex k x y) m).run P w = stored P w a (.complex k x y) m := run_store P w a _ m rfl
attribute [local go_sem] run_store_complex

theorem tmod4_bd (z : Int) : -3 ≤ z.tmod 4 ∧ z.tmod 4 ≤ 3 := by
  have h := Int.tmod_eq_emod (a := z) (b := 4)
  split at h <;> omega
theorem rest_any (z : Int) (w : World) : Calls Try.prog 16 #[.int .i64 z] w (IntIs (z % 4) w) := by
  obtain ⟨h0, h1⟩ := tmod4_bd z
  obtain ⟨m, hm⟩ : ∃ m, z.tmod 4 = m := ⟨_, rfl⟩
  have HM : Hid (((m + 4) % 4) = z % 4) := Lib.hid (by rw [← hm]; have h := Int.tmod_eq_emod (a := z) (b := 4); split at h <;> omega)
  go_enter Try.func16, Try.ntmps16
  go_wp2_with fail
  go_ret
  exact ⟨by rw [HM.out]; rfl, rfl⟩

def AtPost (z : Int) (w : World) (e : Ending) (w' : World) : Prop := (∃ x y, e = .returned (.complex .f64 x y) ∧ IsW x (px z) ∧ IsW y (py z)) ∧ Below w.heap.size w w'
theorem at_any (z : Int) (w : World) : Calls Try.prog 10 #[.int .i64 z] w (AtPost z w) := by
  have HR := Lib.hid (fun W => rest_any z W)
  obtain ⟨k, hk⟩ : ∃ k, z % 4 = k := ⟨_, rfl⟩
  have hp : px z = px k ∧ py z = py k := by unfold px py; rw [← hk, Int.emod_emod]; exact ⟨rfl, rfl⟩
  have HX := Lib.hid hp.1
  have HY := Lib.hid hp.2
  rw [hk] at HR
  have h4 : k = 0 ∨ k = 1 ∨ k = 2 ∨ k = 3 := by omega
  clear hp hk
  rcases h4 with rfl | rfl | rfl | rfl
  all_goals
    go_enter Try.func10, Try.ntmps10
    go_wp2_with fail
    refine (HR.out _).mono ?_
    rintro e w' ⟨rfl, rfl⟩
    go_wp2_with fail
    go_ret
    refine ⟨⟨_, _, rfl, ?_, ?_⟩, ((Below.refl _ w).alloc (Nat.le_refl _) _)⟩
    · rw [HX.out]; first | exact isW_1 | exact isW_0 | exact isW_1n
    · rw [HY.out]; first | exact isW_1 | exact isW_0 | exact isW_1n

end Go.Proofs.Ytpjmmjkgcoongaa
