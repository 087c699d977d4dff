/-
  Pages, one behind the other, as plain data: what all of them show; whether their ids rise. Conditions: those that each theorem names.
-/
import Derived.Test.YtoiegffnmjlkdaaPgMath
namespace Go.Proofs.Ytoiegffnmjlkdaa
open Go.RowKit Go.Shelf

/-- Whether the ids of a page rise, from the last one on. -/
def rises (last : Int) (first : Bool) : List Sn → Bool
  | [] => true
  | s :: p => (first || decide (last < s.id)) && rises s.id false p
def lastOf (last : Int) : List Sn → Int
  | [] => last
  | s :: p => lastOf s.id p
/-- Whether pages are whole, from there on. -/
def wholeGo (last : Int) (first : Bool) : List (List Sn) → Bool
  | [] => true
  | p :: ps => decide (p.length ≤ 3) && (!p.isEmpty || ps.isEmpty) && rises last first p && wholeGo (lastOf last p) (first && p.isEmpty) ps
def wholeP (P : List (List Sn)) : Bool := wholeGo 0 true P

set_option maxRecDepth 100000 in
theorem rises_of {p : List Sn} (h : Rising p) {last : Int} {first : Bool} (hl : first = true ∨ ∀ s ∈ p, last < s.id) : rises last first p = true := by
  induction p generalizing last first with
  | nil => rfl
  | cons s p ih =>
    have h2 := List.pairwise_cons.1 h
    have h1 : (first || decide (last < s.id)) = true := by
      rcases hl with hl | hl
      · simp [hl]
      · have := hl s (by simp); simp [this]
    simp only [rises, h1, Bool.true_and]
    exact ih h2.2 (.inr h2.1)
set_option maxRecDepth 100000 in
theorem lastOf_lt {p : List Sn} {last : Int} {t : Sn} (hp : p ≠ []) (h : ∀ s ∈ p, s.id < t.id) : lastOf last p < t.id := by
  induction p generalizing last with
  | nil => exact absurd rfl hp
  | cons s p ih =>
    cases p with
    | nil => exact h s (by simp)
    | cons s2 p => exact ih (last := s.id) (by simp) (fun u hu => h u (by simp only [List.mem_cons] at hu ⊢; exact .inr hu))
set_option maxRecDepth 100000 in
theorem whole_of {P : List (List Sn)} (hr : Rising P.flatten) (h3 : ∀ p ∈ P, p.length ≤ 3) (hne : ∀ (i : Nat) (p : List Sn), P[i]? = some p → i + 1 < P.length → p ≠ []) {last : Int} {first : Bool} (hl : first = true ∨ ∀ s ∈ P.flatten, last < s.id) : wholeGo last first P = true := by
  induction P generalizing last first with
  | nil => rfl
  | cons p ps ih =>
    rw [List.flatten_cons] at hr hl
    have ha := List.pairwise_append.1 hr
    have c1 : decide (p.length ≤ 3) = true := decide_eq_true (h3 p (by simp))
    have c2 : (!p.isEmpty || ps.isEmpty) = true := by
      cases ps with
      | nil => simp
      | cons q ps =>
        have := hne 0 p rfl (by simp)
        cases p with
        | nil => exact absurd rfl this
        | cons _ _ => rfl
    have c3 : rises last first p = true := rises_of ha.1 (hl.imp id fun h s hs => h s (List.mem_append_left _ hs))
    simp only [wholeGo, c1, c2, c3, Bool.true_and]
    refine ih ha.2.1 (fun q hq => h3 q (by simp [hq])) (fun i q hq hi => hne (i + 1) q (by simpa using hq) (by simpa using hi)) ?_
    cases p with
    | nil =>
      cases ps with
      | nil => exact .inr (by simp)
      | cons q ps => exact absurd rfl (hne 0 [] rfl (by simp))
    | cons s p => exact .inr fun t ht => lastOf_lt (by simp) fun u hu => ha.2.2 u hu t ht

set_option maxRecDepth 100000 in
/-- One page more. -/
theorem page_step {S all : List Sn} {b : Int} (hS : Rising S) (h : all ++ restOf S b = S) :
    (pageOf S b).length ≤ 3 ∧ (moreOf S b = true → (pageOf S b).length = 3) ∧ (all ++ pageOf S b) ++ restOf S (nextOf (pageOf S b) b) = S ∧ (moreOf S b = false → all ++ pageOf S b = S) := by
  have h1 := page_next hS b
  refine ⟨by unfold pageOf; rw [List.length_take]; omega, fun hm => ?_, ?_, fun hm => ?_⟩
  · unfold moreOf at hm
    rw [decide_eq_true_eq] at hm
    unfold pageOf
    rw [List.length_take]
    omega
  · rw [h1, List.append_assoc]
    unfold pageOf
    rw [List.take_append_drop, h]
  · unfold moreOf at hm
    rw [decide_eq_false_iff_not] at hm
    unfold pageOf
    rw [List.take_of_length_le (by omega), h]

end Go.Proofs.Ytoiegffnmjlkdaa
