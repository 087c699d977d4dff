/-
  Zones as plain numbers (no program): places, pulls, counts, which zone is next. Conditions: those that each theorem names.
-/
namespace Go.Proofs.Ytpjmmjkgcoongaa

/-- A zone's place. -/
def px (z : Int) : Int := if z % 4 = 0 then 1 else if z % 4 = 2 then -1 else 0
def py (z : Int) : Int := if z % 4 = 1 then 1 else if z % 4 = 3 then -1 else 0
/-- Zones' pull. -/
def sx : List Int → Int
  | [] => 0
  | z :: l => px z + sx l
def sy : List Int → Int
  | [] => 0
  | z :: l => py z + sy l
/-- How many there are of zone k. -/
def cn (k : Int) : List Int → Int
  | [] => 0
  | z :: l => (if z % 4 = k then 1 else 0) + cn k l

theorem px_bd (z : Int) : -1 ≤ px z ∧ px z ≤ 1 := by unfold px; split <;> (try split) <;> omega
theorem py_bd (z : Int) : -1 ≤ py z ∧ py z ≤ 1 := by unfold py; split <;> (try split) <;> omega
theorem sx_bd (l : List Int) : -(l.length : Int) ≤ sx l ∧ sx l ≤ l.length := by
  induction l with
  | nil => simp [sx]
  | cons z l ih => have := px_bd z; simp only [sx, List.length_cons]; omega
theorem sy_bd (l : List Int) : -(l.length : Int) ≤ sy l ∧ sy l ≤ l.length := by
  induction l with
  | nil => simp [sy]
  | cons z l ih => have := py_bd z; simp only [sy, List.length_cons]; omega
theorem cn_bd (k : Int) (l : List Int) : 0 ≤ cn k l ∧ cn k l ≤ l.length := by
  induction l with
  | nil => simp [cn]
  | cons z l ih => simp only [cn, List.length_cons]; split <;> omega
theorem sx_app (l m : List Int) : sx (l ++ m) = sx l + sx m := by
  induction l with
  | nil => simp [sx]
  | cons z l ih => simp only [List.cons_append, sx, ih]; omega
theorem sy_app (l m : List Int) : sy (l ++ m) = sy l + sy m := by
  induction l with
  | nil => simp [sy]
  | cons z l ih => simp only [List.cons_append, sy, ih]; omega
theorem cn_app (k : Int) (l m : List Int) : cn k (l ++ m) = cn k l + cn k m := by
  induction l with
  | nil => simp [cn]
  | cons z l ih => simp only [List.cons_append, cn, ih]; omega
theorem sx_snoc (l : List Int) (z : Int) : sx (l ++ [z]) = sx l + px z := by simp [sx_app, sx]
theorem sy_snoc (l : List Int) (z : Int) : sy (l ++ [z]) = sy l + py z := by simp [sy_app, sy]
theorem cn_snoc (k : Int) (l : List Int) (z : Int) : cn k (l ++ [z]) = cn k l + (if z % 4 = k then 1 else 0) := by simp [cn_app, cn]
theorem sx_rev (l : List Int) : sx l.reverse = sx l := by
  induction l with
  | nil => rfl
  | cons z l ih => rw [List.reverse_cons, sx_snoc, ih]; simp only [sx]; omega
theorem sy_rev (l : List Int) : sy l.reverse = sy l := by
  induction l with
  | nil => rfl
  | cons z l ih => rw [List.reverse_cons, sy_snoc, ih]; simp only [sy]; omega
theorem px_next (z : Int) : px (z + 1) = -py z := by unfold px py; split <;> split <;> (try split) <;> (try split) <;> omega
theorem py_next (z : Int) : py (z + 1) = px z := by unfold px py; split <;> split <;> (try split) <;> (try split) <;> omega
theorem px_opp (z : Int) : px (z + 2) = -px z := by unfold px; split <;> split <;> (try split) <;> (try split) <;> omega
theorem py_opp (z : Int) : py (z + 2) = -py z := by unfold py; split <;> split <;> (try split) <;> (try split) <;> omega
theorem px_four (z : Int) : px (z + 4) = px z := by unfold px; rw [Int.add_emod_right]
theorem py_four (z : Int) : py (z + 4) = py z := by unfold py; rw [Int.add_emod_right]
theorem pxy_one (z : Int) : px z * px z + py z * py z = 1 := by
  unfold px py
  have h : z % 4 = 0 ∨ z % 4 = 1 ∨ z % 4 = 2 ∨ z % 4 = 3 := by omega
  rcases h with h | h | h | h <;> simp [h]
theorem sx_on (l : List Int) : sx (l.map (· + 1)) = -sy l := by
  induction l with
  | nil => rfl
  | cons z l ih => simp only [List.map_cons, sx, sy, ih, px_next]; omega
theorem sy_on (l : List Int) : sy (l.map (· + 1)) = sx l := by
  induction l with
  | nil => rfl
  | cons z l ih => simp only [List.map_cons, sx, sy, ih, py_next]

/-- The size of a pull with a zone put to it. -/
def sq (a b : Int) (k : Int) : Int := (a + px k) * (a + px k) + (b + py k) * (b + py k)
/-- The first of the zones below k with which the size is least. -/
def nx (a b : Int) : Nat → Int
  | 0 => 0
  | k + 1 => if sq a b (k : Int) < sq a b (nx a b k) then (k : Int) else nx a b k
theorem nx_bd (a b : Int) (k : Nat) : 0 ≤ nx a b k ∧ (nx a b k < k ∨ nx a b k = 0) := by
  induction k with
  | zero => simp [nx]
  | succ k ih => simp only [nx]; split <;> omega
theorem nx_least (a b : Int) (k : Nat) : ∀ j : Nat, j < k → sq a b (nx a b k) ≤ sq a b j ∧ ((j : Int) < nx a b k → sq a b (nx a b k) < sq a b j) := by
  induction k with
  | zero => intro j hj; omega
  | succ k ih =>
    intro j hj
    have hb := nx_bd a b k
    have h0 : (0 : Int) = ((0 : Nat) : Int) := rfl
    simp only [nx]
    split
    · rename_i h
      rcases Nat.lt_or_eq_of_le (Nat.le_of_lt_succ hj) with h1 | h1
      · have := (ih j h1).1
        exact ⟨by omega, fun _ => by omega⟩
      · subst h1
        exact ⟨Int.le_refl _, fun h2 => absurd h2 (Int.lt_irrefl _)⟩
    · rename_i h
      rcases Nat.lt_or_eq_of_le (Nat.le_of_lt_succ hj) with h1 | h1
      · exact ih j h1
      · subst h1
        exact ⟨by omega, fun h2 => by omega⟩
theorem sq_bd0 (a b k : Int) : 0 ≤ sq a b k := by
  unfold sq
  have h1 : 0 ≤ (a + px k) * (a + px k) := by rcases Int.le_total 0 (a + px k) with h | h; exact Int.mul_nonneg h h; exact Int.mul_nonneg_of_nonpos_of_nonpos h h
  have h2 : 0 ≤ (b + py k) * (b + py k) := by rcases Int.le_total 0 (b + py k) with h | h; exact Int.mul_nonneg h h; exact Int.mul_nonneg_of_nonpos_of_nonpos h h
  omega
theorem nx_nil : nx 0 0 4 = 0 := by decide
theorem nx_one : nx 1 0 4 = 2 := by decide

end Go.Proofs.Ytpjmmjkgcoongaa
