/-
  Whole numbers as floats, further: what is cut to an integer, and the words of small numbers (no program). Conditions: those that each theorem names.
-/
import Derived.Test.YtpjmmjkgcoongaaFloatWhole
namespace Go.Proofs.Ytpjmmjkgcoongaa
open Ieee

theorem isD_integral {d : Datum} {n : Int} (h : d.toInt .zero = some n) : ∃ s m, d.integral .zero = .number s m 0 ∧ sv s m = n := by
  cases d with
  | nan a b => simp [Datum.toInt, Datum.integral] at h
  | infinity a => simp [Datum.toInt, Datum.integral] at h
  | number s m i =>
    refine ⟨s, _, rfl, ?_⟩
    have h1 : signed s (Toward.zero.cut s (m <<< i.toNat) (-i).toNat) 0 = n := Option.some.inj h
    rw [signed_sv] at h1
    simpa using h1
/-- A whole number cut to an integer is itself. -/
theorem isW_integral {x : Nat} {n : Int} (hx : IsW x n) (hn : n.natAbs < 2 ^ 53) : IsW (double.write ((double.read x).integral .zero)) n := by
  obtain ⟨s, m, h1, h2⟩ := isD_integral (isW_toInt hx)
  rw [h1]
  exact isW_write (Int.le_refl 0) (by simpa using h2) hn
theorem isW_number {x : Nat} {n : Int} (hx : IsW x n) : ∃ s m i, double.read x = .number s m i := by
  obtain ⟨s, m, k, h, _⟩ := hx
  exact ⟨s, m, _, h⟩

/-- The words of small numbers. -/
theorem isW_0 : IsW 0 0 := ⟨false, 0, 1074, by decide, by rw [Int.zero_mul]; rfl⟩
theorem isW_0n : IsW 9223372036854775808 0 := ⟨true, 0, 1074, by decide, by rw [Int.zero_mul]; rfl⟩
theorem isW_1 : IsW 4607182418800017408 1 := ⟨false, 2 ^ 52, 52, by decide, by decide⟩
theorem isW_1n : IsW 13830554455654793216 (-1) := ⟨true, 2 ^ 52, 52, by decide, by decide⟩
theorem isW_2 : IsW 4611686018427387904 2 := ⟨false, 2 ^ 52, 51, by decide, by decide⟩
theorem isW_3 : IsW 4613937818241073152 3 := ⟨false, 3 * 2 ^ 51, 51, by decide, by decide⟩
theorem isW_3n : IsW 13837309855095848960 (-3) := ⟨true, 3 * 2 ^ 51, 51, by decide, by decide⟩
theorem isW_th : IsW 4652007308841189376 1000 := ⟨false, 1000 * 2 ^ 43, 43, by decide, by decide⟩
theorem isW_thn : IsW 13875379345695965184 (-1000) := ⟨true, 1000 * 2 ^ 43, 43, by decide, by decide⟩

/-- How they stand to each other, as the walk asks. -/
theorem ord_lt {x y : Nat} {a b : Int} (hx : IsW x a) (hy : IsW y b) (h : a < b) : FloatKind.f64.format.order x y = some .lt := by
  have h1 : double.order x y = some (compare a b) := isW_order hx hy
  refine h1.trans ?_
  simp [compare, compareOfLessAndEq, h]
theorem ord_eq {x y : Nat} {a b : Int} (hx : IsW x a) (hy : IsW y b) (h : a = b) : FloatKind.f64.format.order x y = some .eq := by
  have h1 : double.order x y = some (compare a b) := isW_order hx hy
  refine h1.trans ?_
  subst h
  simp [compare, compareOfLessAndEq]
theorem ord_leB {x y : Nat} {a b : Int} (hx : IsW x a) (hy : IsW y b) (h : a ≤ b) : (FloatKind.f64.format.order x y == some .lt || FloatKind.f64.format.order x y == some .eq) = true := by
  rcases Int.lt_or_eq_of_le h with h | h
  · rw [ord_lt hx hy h]; rfl
  · rw [ord_eq hx hy h]; rfl
theorem ord_eqB {x y : Nat} {a b : Int} (hx : IsW x a) (hy : IsW y b) (h : a = b) : (FloatKind.f64.format.order x y == some .eq) = true := by
  rw [ord_eq hx hy h]; rfl

end Go.Proofs.Ytpjmmjkgcoongaa
