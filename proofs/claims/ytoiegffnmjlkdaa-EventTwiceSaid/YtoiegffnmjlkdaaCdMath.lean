/-
  Boxes and clouds as plain data: which may be, who is counted, what is asked. Conditions: those that each theorem names.
-/
import Derived.Test.YtoiegffnmjlkdaaMem
namespace Go.Proofs.Ytoiegffnmjlkdaa
open Go.RowKit Go.Shelf

/-- A box. -/
structure Bx where
  id : Int
  tok : Int
  ver : Int
  zone : Int
  tag : Bool
  on : Bool
  gone : Bool
  well : Bool
  lb : Int
  unt : Int
  fen : Int
  deriving DecidableEq

/-- A box's values. -/
def Bx.vs (x : Bx) : List Value := [.int .i64 x.id, .int .i64 x.tok, .int .i64 x.ver, .int .i64 x.zone, .bool x.tag, .bool x.on, .bool x.gone, .bool x.well, .int .u8 x.lb, .int .i64 x.unt, .int .i64 x.fen]
set_option maxRecDepth 100000 in
theorem Bx.vs_length (x : Bx) : x.vs.length = 11 := rfl

/-- A cloud: its boxes, its floor, how long boxes drain, the time, whether it is tight. -/
structure Cw where
  l : List Bx
  fl : Int
  dr : Int
  nw : Int
  tg : Bool

/-- What is asked. -/
structure Ak where
  kind : Int
  call : Int
  a : Int
  b : Int
  c : Int
  d : Int

def cnt (x : Bx) : Bool := x.on && (x.well && (x.lb == 1))
def hN (l : List Bx) : Nat := (l.filter cnt).length
set_option maxRecDepth 100000 in
theorem hN_snoc (l : List Bx) (x : Bx) : hN (l ++ [x]) = hN l + if cnt x then 1 else 0 := by
  unfold hN
  by_cases h : cnt x <;> simp [List.filter_append, h]
set_option maxRecDepth 100000 in
theorem hN_le (l : List Bx) : hN l ≤ l.length := List.length_filter_le _ _

/-- Whether a box may be, whatever the others are. -/
def sound (x : Bx) : Bool := isNum x.tok && isNum x.ver && isNum x.zone && decide (x.lb ≤ 2) && (x.on || (x.lb == 0)) && !(x.on && x.gone)
/-- Whether the token of the box stands among those ahead of it. -/
def dup (l : List Bx) (x : Bx) : Bool := decide (0 < x.tok) && l.any fun y => y.tok == x.tok
/-- Whether the box at place j may be there. -/
def okAt (l : List Bx) (j : Nat) (x : Bx) : Bool := (x.id == (j : Int) + 1) && sound x && !dup (l.take j) x
/-- Whether the first k may be. -/
def okTo (l : List Bx) : Nat → Bool
  | 0 => true
  | k + 1 => okTo l k && (match l[k]? with | some x => okAt l k x | none => true)
def right (x : Cw) : Bool := decide (x.l.length ≤ 60) && (isNum x.fl && isNum x.dr && isNum x.nw) && okTo x.l x.l.length

set_option maxRecDepth 100000 in
theorem okTo_at {l : List Bx} {k : Nat} (h : okTo l k = true) {j : Nat} (hj : j < k) {x : Bx} (hx : l[j]? = some x) : okAt l j x = true := by
  induction k with
  | zero => omega
  | succ k ih =>
    simp only [okTo, Bool.and_eq_true] at h
    rcases Nat.lt_or_eq_of_le (Nat.le_of_lt_succ hj) with h1 | rfl
    · exact ih h.1 h1
    · have h2 := h.2
      rw [hx] at h2
      exact h2
set_option maxRecDepth 100000 in
theorem okTo_of {l : List Bx} {k : Nat} (h : ∀ j x, j < k → l[j]? = some x → okAt l j x = true) : okTo l k = true := by
  induction k with
  | zero => rfl
  | succ k ih =>
    simp only [okTo, Bool.and_eq_true]
    refine ⟨ih fun j x hj hx => h j x (by omega) hx, ?_⟩
    cases hx : l[k]? with
    | none => rfl
    | some x => exact h k x (Nat.lt_succ_self _) hx
set_option maxRecDepth 100000 in
theorem okTo_not {l : List Bx} {j : Nat} {x : Bx} (hx : l[j]? = some x) (h : okAt l j x = false) : okTo l l.length = false := by
  have hj : j < l.length := (List.getElem?_eq_some_iff.1 hx).1
  cases h2 : okTo l l.length with
  | false => rfl
  | true => rw [okTo_at h2 hj hx] at h; cases h
set_option maxRecDepth 100000 in
theorem okTo_step {l : List Bx} {j : Nat} {x : Bx} (hx : l[j]? = some x) (h0 : okTo l j = true) (h : okAt l j x = true) : okTo l (j + 1) = true := by
  simp only [okTo, hx, h0, h, Bool.and_self]

/-- The first place from k on that is as p says. -/
def firstAt (p : Bx → Bool) : List Bx → Option Nat
  | [] => none
  | x :: l => if p x then some 0 else (firstAt p l).map (· + 1)
/-- As the program tells it. -/
def placeI : Option Nat → Int
  | some j => (j : Int)
  | none => -1
set_option maxRecDepth 100000 in
theorem firstAt_none {p : Bx → Bool} {l : List Bx} : firstAt p l = none ↔ ∀ x ∈ l, p x = false := by
  induction l with
  | nil => simp [firstAt]
  | cons x l ih =>
    by_cases h : p x
    · simp [firstAt, h]
    · simp [firstAt, h, ih]
set_option maxRecDepth 100000 in
theorem firstAt_some {p : Bx → Bool} {l : List Bx} {j : Nat} (h : firstAt p l = some j) : ∃ x, l[j]? = some x ∧ p x = true ∧ ∀ i y, i < j → l[i]? = some y → p y = false := by
  induction l generalizing j with
  | nil => simp [firstAt] at h
  | cons x l ih =>
    by_cases hp : p x
    · simp [firstAt, hp] at h
      subst h
      exact ⟨x, rfl, hp, fun i y hi => by omega⟩
    · simp [firstAt, hp] at h
      obtain ⟨i, hi, rfl⟩ := h
      obtain ⟨y, h1, h2, h3⟩ := ih hi
      refine ⟨y, by simpa using h1, h2, fun k z hk hz => ?_⟩
      cases k with
      | zero => simp at hz; subst hz; simpa using hp
      | succ k => exact h3 k z (by omega) (by simpa using hz)
set_option maxRecDepth 100000 in
theorem firstAt_is {p : Bx → Bool} {l : List Bx} {j : Nat} {x : Bx} (hx : l[j]? = some x) (hp : p x = true) (h : ∀ i y, i < j → l[i]? = some y → p y = false) : firstAt p l = some j := by
  induction l generalizing j with
  | nil => simp at hx
  | cons y l ih =>
    cases j with
    | zero => simp at hx; subst hx; simp [firstAt, hp]
    | succ j =>
      have h0 := h 0 y (by omega) rfl
      simp [firstAt, h0, ih (j := j) (by simpa using hx) (fun i z hi hz => h (i + 1) z (by omega) (by simpa using hz))]

def findB (id : Int) (x : Bx) : Bool := (x.id == id) && !x.gone
def find (l : List Bx) (id : Int) : Option Nat := firstAt (findB id) l

/-- The box that a launch makes. -/
def madeB (id : Int) (q : Ak) : Bx := { id := id, tok := q.a, ver := q.b, zone := q.c, tag := true, on := q.d == 0, gone := false, well := true, lb := 0, unt := 0, fen := q.call }

/-- What a launch does: the boxes then, the code, the id. -/
def launchP (x : Cw) (q : Ak) : List Bx × Int × Int :=
  if decide (q.a < 1) || !(isNum q.a && isNum q.b && isNum q.c) || decide (q.d < 0) then (x.l, 3, 0)
  else match firstAt (fun y => y.tok == q.a) x.l with
    | some j => (x.l, 1, (match x.l[j]? with | some y => y.id | none => 0))
    | none => if x.tg || decide (60 ≤ x.l.length) then (x.l, 4, 0) else (x.l ++ [madeB ((x.l.length : Int) + 1) q], 1, (x.l.length : Int) + 1)

/-- What each of the others does to the box that is found, if nothing forbids it. -/
def touched (nw dr : Int) (kind : Int) (y : Bx) : Bx :=
  if kind = 2 then { y with on := true }
  else if kind = 3 then { y with on := false, lb := 0 }
  else if kind = 4 then { y with lb := 1 }
  else if kind = 5 then (if y.lb = 1 then { y with lb := 2, unt := nw + dr } else y)
  else { y with gone := true, on := false, lb := 0 }

/-- What is told, of the box that is found. -/
def codeOf (x : Cw) (q : Ak) (y : Bx) : Int :=
  if q.call < y.fen then 5
  else if (q.kind = 3 ∨ q.kind = 5 ∨ q.kind = 6) ∧ (cnt y = true ∧ (hN x.l : Int) - 1 < x.fl) then 3
  else if q.kind = 4 ∧ y.on = false then 2
  else 1

def oneP (x : Cw) (q : Ak) : List Bx × Int :=
  match find x.l q.a with
  | none => (x.l, if q.kind = 6 ∧ (x.l.any fun y => y.id == q.a) then 1 else 2)
  | some j => match x.l[j]? with
    | none => (x.l, 0)
    | some y => if codeOf x q y = 1 then (x.l.set j { touched x.nw x.dr q.kind y with fen := q.call }, 1) else (x.l, codeOf x q y)

/-- What is asked, done: the boxes then, the code, the id that is told. -/
def doP (x : Cw) (q : Ak) : List Bx × Int × Int :=
  if right x = true then
    (if q.kind = 1 then launchP x q
     else if q.kind = 2 ∨ q.kind = 3 ∨ q.kind = 4 ∨ q.kind = 5 ∨ q.kind = 6 then ((oneP x q).1, (oneP x q).2, q.a)
     else (x.l, 3, q.a))
  else (x.l, 3, if q.kind = 1 then 0 else q.a)

def doC (x : Cw) (q : Ak) : Cw := { x with l := (doP x q).1 }
def doK (x : Cw) (q : Ak) : Int := (doP x q).2.1
def doI (x : Cw) (q : Ak) : Int := (doP x q).2.2

end Go.Proofs.Ytoiegffnmjlkdaa
