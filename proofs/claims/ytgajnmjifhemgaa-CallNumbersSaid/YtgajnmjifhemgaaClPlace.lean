/-
  A place in a row, as Go's remainders tell it. Conditions: those that each theorem names.
-/
import Derived.ProofKit
namespace Go.Proofs.Ytgajnmjifhemgaa

def placeN (at_ : Int) (n : Nat) : Nat := (at_ % (n : Int)).toNat
theorem placeN_lt {n : Nat} (h : 0 < n) (at_ : Int) : placeN at_ n < n := by
  have h1 := Int.emod_nonneg at_ (show (n : Int) ≠ 0 by omega)
  have h2 := Int.emod_lt_of_pos at_ (show (0 : Int) < n by omega)
  unfold placeN
  omega
theorem tmod_bounds {n : Nat} (h : 0 < n) (at_ : Int) : -(n : Int) < at_.tmod n ∧ at_.tmod n < n := by
  have h1 := Int.tmod_lt_of_pos at_ (show (0 : Int) < n by omega)
  have h2 := Int.tmod_lt_of_pos (-at_) (show (0 : Int) < n by omega)
  rw [Int.neg_tmod] at h2
  exact ⟨by omega, h1⟩
/-- As Go's remainders tell it: (at % n + n) % n. -/
theorem placeN_twice {n : Nat} (h : 0 < n) (at_ : Int) : (at_.tmod n + n).tmod n = (placeN at_ n : Int) := by
  obtain ⟨h1, h2⟩ := tmod_bounds h at_
  have hnn := Int.emod_nonneg at_ (show (n : Int) ≠ 0 by omega)
  rw [Int.tmod_eq_emod_of_nonneg (by omega)]
  have e : (at_.tmod n + n) % (n : Int) = at_ % (n : Int) := by
    rw [Int.add_emod_right]
    have := Int.tmod_add_mul_tdiv at_ n
    conv => rhs; rw [← this]
    rw [Int.add_mul_emod_self_left]
  rw [e, placeN]
  omega

end Go.Proofs.Ytgajnmjifhemgaa
