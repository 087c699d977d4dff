/-
  Phases as plain data: which may follow, what one is due for, how they go on to Ending, their names. Plain: no walk.
-/
import Derived.Test.YtgjipbhhdiacmaaDoorKpMath
import Derived.Test.YtgjipbhhdiacmaaDoorCfMath
namespace Go.Proofs.YtgjipbhhdiacmaaDoor
open Go.RowKit Go.Shelf

/-- The phases that may follow the one of that number, in order; nought: none. -/
def nxA (k : Nat) : Nat := [0, 2, 3, 4, 5, 6, 7, 8, 0, 10, 1].getD k 0
def nxB (k : Nat) : Nat := [0, 8, 8, 0, 3, 4, 0, 0, 0, 8, 0].getD k 0
theorem ph_cases {k : Nat} (h : k < 11) : k = 0 ∨ k = 1 ∨ k = 2 ∨ k = 3 ∨ k = 4 ∨ k = 5 ∨ k = 6 ∨ k = 7 ∨ k = 8 ∨ k = 9 ∨ k = 10 := by omega
theorem nxA_out {k : Nat} (h : 11 ≤ k) : nxA k = 0 := by simp [nxA, List.getD, h]
theorem nxB_out {k : Nat} (h : 11 ≤ k) : nxB k = 0 := by simp [nxB, List.getD, h]
theorem nxA_lt (k : Nat) : nxA k < 11 := by
  rcases Nat.lt_or_ge k 11 with h | h
  · rcases ph_cases h with rfl | rfl | rfl | rfl | rfl | rfl | rfl | rfl | rfl | rfl | rfl <;> decide
  · rw [nxA_out h]; decide
theorem nxB_lt (k : Nat) : nxB k < 11 := by
  rcases Nat.lt_or_ge k 11 with h | h
  · rcases ph_cases h with rfl | rfl | rfl | rfl | rfl | rfl | rfl | rfl | rfl | rfl | rfl <;> decide
  · rw [nxB_out h]; decide
theorem nxB_of (k : Nat) (h : nxA k = 0) : nxB k = 0 := by
  rcases Nat.lt_or_ge k 11 with h1 | h1
  · rcases ph_cases h1 with rfl | rfl | rfl | rfl | rfl | rfl | rfl | rfl | rfl | rfl | rfl <;> first | rfl | (exact absurd h (by decide))
  · exact nxB_out h1
/-- Those that may follow, as a row. -/
def nxs (k : Nat) : List Nat := if nxA k = 0 then [] else if nxB k = 0 then [nxA k] else [nxA k, nxB k]
def legalP (a b : Nat) : Bool := (nxs a).contains b
def standsP (k : Nat) : Bool := decide (k = 1) || (decide (k = 2) || (decide (k = 3) || (decide (k = 4) || decide (k = 10))))
def goesP (k : Nat) : Bool := decide (k = 5) || (decide (k = 6) || (decide (k = 7) || decide (k = 8)))
/-- How one goes on, from itself to Ending. -/
def pathP (k : Nat) : List Nat := [[], [1, 2, 3, 4, 5, 6, 7, 8], [2, 3, 4, 5, 6, 7, 8], [3, 4, 5, 6, 7, 8], [4, 5, 6, 7, 8], [5, 6, 7, 8], [6, 7, 8], [7, 8], [8], [9, 10, 1, 2, 3, 4, 5, 6, 7, 8], [10, 1, 2, 3, 4, 5, 6, 7, 8]].getD k []
theorem pathP_out {k : Nat} (h : 11 ≤ k) : pathP k = [] := by simp [pathP, List.getD, h]
def isP (k : Nat) : Bool := decide (1 ≤ k) && decide (k < 11)
theorem pathP_no {k : Nat} (h : isP k = false) : pathP k = [] := by
  rcases Nat.lt_or_ge k 11 with h1 | h1
  · have : k = 0 := by simp [isP] at h; omega
    subst this; rfl
  · exact pathP_out h1
theorem pathP_yes {k : Nat} (h : isP k = true) : pathP k = k :: pathP (nxA k) := by
  simp only [isP, Bool.and_eq_true, decide_eq_true_eq] at h
  rcases ph_cases h.2 with rfl | rfl | rfl | rfl | rfl | rfl | rfl | rfl | rfl | rfl | rfl
  all_goals first | rfl | omega
theorem pathP_len (k : Nat) : (pathP k).length ≤ 10 := by
  rcases Nat.lt_or_ge k 11 with h | h
  · rcases ph_cases h with rfl | rfl | rfl | rfl | rfl | rfl | rfl | rfl | rfl | rfl | rfl <;> decide
  · rw [pathP_out h]; decide

def nmP (k : Nat) : List UInt8 := [[], [104, 101, 108, 100], [121, 111, 117, 110, 103], [106, 111, 105, 110, 105, 110, 103], [115, 101, 114, 118, 105, 110, 103], [108, 101, 97, 118, 105, 110, 103], [108, 101, 102, 116], [104, 101, 108, 100, 111, 117, 116], [101, 110, 100, 105, 110, 103], [119, 97, 114, 109, 101, 100], [119, 97, 107, 105, 110, 103]].getD k []
theorem nmP_out {k : Nat} (h : 11 ≤ k) : nmP k = [] := by simp [nmP, List.getD, h]

/-- For how long one waits in a phase, and what for; whether its hook is done. -/
def dueTo (k : Nat) : Nat := [0, 2, 3, 0, 0, 0, 7, 8].getD k 0
def dueWait (c : Cf) (k : Nat) : Int := if k = 1 then c.f4 else if k = 2 then c.f6 else if k = 6 then c.f7 else c.f5
def dueDone (x : Kp) (k : Nat) : Bool := if k = 1 ∨ k = 7 then x.done else false
def waitsP (k : Nat) : Bool := decide (k = 1) || (decide (k = 2) || (decide (k = 6) || decide (k = 7)))
/-- Whether one in a phase is due at a time: times as Go's ints count. -/
def dueB (x : Kp) (c : Cf) (k : Nat) (now : Int) : Bool := waitsP k && (dueDone x k || decide (dueWait c k ≤ wrap64 (now - x.since)))
def dueK (x : Kp) (c : Cf) (k : Nat) (now : Int) : Nat := if dueB x c k now = true then dueTo k else 0
/-- The place of the first one of that id; -1: there is none. -/
def findP (l : List Kp) (id : Int) : Int := match l.findIdx? (fun x => decide (x.id = id)) with | some i => i | none => -1
theorem findP_at {l : List Kp} {id : Int} {j : Nat} {x : Kp} (hx : l[j]? = some x) (h : x.id = id) (hp : ∀ y ∈ l.take j, ¬ y.id = id) : findP l id = (j : Int) := by
  have : l.findIdx? (fun x => decide (x.id = id)) = some j := by
    rw [List.findIdx?_eq_some_iff_getElem]
    obtain ⟨h1, h2⟩ := List.getElem?_eq_some_iff.1 hx
    refine ⟨h1, by rw [h2]; simpa using h, fun k hk => ?_⟩
    have hm : l[k] ∈ l.take j := by
      rw [List.mem_take_iff_getElem]
      exact ⟨k, by omega, rfl⟩
    simpa using hp _ hm
  simp [findP, this]
theorem findP_none {l : List Kp} {id : Int} (hp : ∀ y ∈ l, ¬ y.id = id) : findP l id = -1 := by
  have : l.findIdx? (fun x => decide (x.id = id)) = none := by
    rw [List.findIdx?_eq_none_iff]
    intro x hx
    simpa using hp x hx
  simp [findP, this]
/-- Where it is, or is not. -/
theorem findP_is (l : List Kp) (id : Int) : (findP l id = -1 ∧ ∀ y ∈ l, ¬ y.id = id) ∨ ∃ j x, l[j]? = some x ∧ x.id = id ∧ (∀ y ∈ l.take j, ¬ y.id = id) ∧ findP l id = (j : Int) := by
  cases h : l.findIdx? (fun x => decide (x.id = id)) with
  | none =>
    left
    refine ⟨by simp [findP, h], ?_⟩
    rw [List.findIdx?_eq_none_iff] at h
    intro y hy
    simpa using h y hy
  | some j =>
    right
    rw [List.findIdx?_eq_some_iff_getElem] at h
    obtain ⟨h1, h2, h3⟩ := h
    have hx : l[j]? = some l[j] := List.getElem?_eq_getElem h1
    have hp : ∀ y ∈ l.take j, ¬ y.id = id := by
      intro y hy
      rw [List.mem_take_iff_getElem] at hy
      obtain ⟨k, hk, rfl⟩ := hy
      simpa using h3 k (by omega)
    exact ⟨j, l[j], hx, by simpa using h2, hp, findP_at hx (by simpa using h2) hp⟩

end Go.Proofs.YtgjipbhhdiacmaaDoor
