/-
  How many numbers a record of each kind has, and which records may be: plain words, and the walks of 'many'. Conditions: those that each theorem names.
-/
import Derived.Test.YtcgfakpolfopnaaNumKit
namespace Go.Proofs.Ytcgfakpolfopnaa
open Go.RowKit Go.Shelf

/-- The fewest, and the most, numbers of a kind; of none: more than there may be. -/
def loL : List Nat := [1, 0, 14, 3, 3, 1, 3, 1, 5, 2, 1, 2, 0, 0, 1, 0, 0]
def hiL : List Nat := [0, 0, 18, 3, 3, 1, 3, 1, 5, 2, 1, 2, 0, 0, 1, 0, 0]
def lo (k : Nat) : Nat := loL.getD k 1
def hi (k : Nat) : Nat := hiL.getD k 0
theorem lo_out {k : Nat} (h : 17 ≤ k) : lo k = 1 := by simp [lo, loL, List.getD, h]
theorem hi_out {k : Nat} (h : 17 ≤ k) : hi k = 0 := by simp [hi, hiL, List.getD, h]
theorem kind_cases {k : Nat} (h : k < 17) : k = 0 ∨ k = 1 ∨ k = 2 ∨ k = 3 ∨ k = 4 ∨ k = 5 ∨ k = 6 ∨ k = 7 ∨ k = 8 ∨ k = 9 ∨ k = 10 ∨ k = 11 ∨ k = 12 ∨ k = 13 ∨ k = 14 ∨ k = 15 ∨ k = 16 := by omega
theorem hi_le (k : Nat) : hi k ≤ 18 ∧ lo k ≤ 14 := by
  rcases Nat.lt_or_ge k 17 with h | h
  · rcases kind_cases h with rfl | rfl | rfl | rfl | rfl | rfl | rfl | rfl | rfl | rfl | rfl | rfl | rfl | rfl | rfl | rfl | rfl <;> decide
  · rw [hi_out h, lo_out h]; omega

/-- Whether a record may be. -/
def mayB (k : Nat) (zs : List Int) : Bool := decide (lo k ≤ zs.length) && decide (zs.length ≤ hi k) && zs.all isNum

theorem mayB_yes {k : Nat} {zs : List Int} (h : mayB k zs = true) : lo k ≤ zs.length ∧ zs.length ≤ hi k ∧ zs.all isNum = true := by simpa [mayB, and_assoc] using h
theorem mayB_kind {k : Nat} {zs : List Int} (h : mayB k zs = true) : 0 < k ∧ k < 17 := by
  obtain ⟨h1, h2, _⟩ := mayB_yes h
  rcases Nat.lt_or_ge k 17 with h3 | h3
  · refine ⟨?_, h3⟩
    rcases Nat.eq_zero_or_pos k with rfl | h4
    · have e1 : lo 0 = 1 := rfl
      have e2 : hi 0 = 0 := rfl
      omega
    · exact h4
  · rw [lo_out h3] at h1; rw [hi_out h3] at h2; omega

theorem kind_ne {k : Int} (h : 17 ≤ k) (m : Int) (hm : m < 17) : (k == m) = false := by rw [beq_eq_false_iff_ne]; omega

set_option maxHeartbeats 4000000 in
theorem many_any (k : Nat) (w : World) :
    Calls Try.prog 31 #[.int .u8 (k : Int)] w fun e w' => e = .returned (.tuple #[.int .i64 (lo k : Int), .int .i64 (hi k : Int)]) ∧ w = w' := by
  rcases Nat.lt_or_ge k 17 with h | h
  · rcases kind_cases h with rfl | rfl | rfl | rfl | rfl | rfl | rfl | rfl | rfl | rfl | rfl | rfl | rfl | rfl | rfl | rfl | rfl
    all_goals
      clear h
      go_enter Try.func31, Try.ntmps31
      go_wp2
      go_ret2
      exact ⟨rfl, rfl⟩
  · rw [lo_out h, hi_out h]
    obtain ⟨z, hz⟩ : ∃ z : Int, (k : Int) = z := ⟨_, rfl⟩
    have h17 : 17 ≤ z := by omega
    rw [hz]
    clear hz h
    have e1 := kind_ne h17 1 (by omega)
    have e2 := kind_ne h17 2 (by omega)
    have e3 := kind_ne h17 3 (by omega)
    have e4 := kind_ne h17 4 (by omega)
    have e5 := kind_ne h17 5 (by omega)
    have e6 := kind_ne h17 6 (by omega)
    have e7 := kind_ne h17 7 (by omega)
    have e8 := kind_ne h17 8 (by omega)
    have e9 := kind_ne h17 9 (by omega)
    have e10 := kind_ne h17 10 (by omega)
    have e11 := kind_ne h17 11 (by omega)
    have e12 := kind_ne h17 12 (by omega)
    have e13 := kind_ne h17 13 (by omega)
    have e14 := kind_ne h17 14 (by omega)
    have e15 := kind_ne h17 15 (by omega)
    have e16 := kind_ne h17 16 (by omega)
    clear h17
    go_enter Try.func31, Try.ntmps31
    go_wp2
    go_ret2
    exact ⟨rfl, rfl⟩

end Go.Proofs.Ytcgfakpolfopnaa
